/- texts that the claim stands on. -/
import Derived.Test.YtkpooenofjdpmaaGreatSlRfLawV53

set_option maxRecDepth 100000
set_option maxHeartbeats 4000000
namespace Go.Proofs.YtkpooenofjdpmaaGreat
open Go.Proofs.Tryz (prog)
open Go.RowKit
open Go.ChangeShapes Go.WideShapes Go.ChangeAt
theorem bJ:cI prog 39 4=some 4:=by kernel_rfl
theorem cG:cI prog 39 5=some 5:=by kernel_rfl
theorem iA:cI prog 39 6=some 6:=by kernel_rfl
theorem dk:cI prog 39 7=some 7:=by kernel_rfl
theorem cF:cI prog 39 10=some 10:=by kernel_rfl
theorem jl:aQ prog 139=true:=by kernel_rfl
theorem kT:cI prog 39 8=some 8:=by kernel_rfl
theorem fp:cI prog 39 12=some 12:=by kernel_rfl
theorem dC:cI prog 39 11=some 11:=by kernel_rfl
theorem dz:cI prog 39 9=some 9:=by kernel_rfl
def eL (lo hi:Int) (xs:List Int):Prop:=∀ x∈xs,lo≤x∧x≤hi
instance (lo hi:Int) (xs:List Int):Decidable (eL lo hi xs):=by unfold eL;exact inferInstance
theorem bE {lo hi:Int}:eL lo hi []↔True:=by simp [eL]
theorem bp {lo hi x:Int} {l:List Int}:eL lo hi (x::l)↔(lo≤x∧x≤hi)∧eL lo hi l:=by simp [eL]
theorem o7 {lo hi x:Int} {l:List Int}:eL lo hi (l++[x])↔eL lo hi l∧(lo≤x∧x≤hi):=by
 simp only [eL,List.mem_append,List.mem_singleton];exact ⟨fun h=>⟨fun y hy=>h y (.inl hy),h x (.inr rfl)⟩,fun h y hy=>hy.elim (h.1 y) (fun e=>e ▸ h.2)⟩
theorem zc (d:ByteArray):(d.toList==(⟨#[]⟩:ByteArray).toList)=decide (d.size=0):=by
 obtain ⟨⟨l⟩⟩:=d;rw [ByteArray.toList_eq,ByteArray.toList_eq];cases l with
 |nil=>rfl
 |cons a r=>rfl
theorem bz:(⟨#[]⟩:ByteArray).size=0:=rfl
def ExR (k ix lt cm rd:Int) (ok:Bool) (n:Nat) (a:Int) (d:ByteArray) (dn:Bool):Prop:=
 if k=1 then cm=0∧rd=0∧ok.toNat=0∧n=0∧a=0∧d.size=0∧dn.toNat=0
 else if k=2 then ix=0∧lt=0∧cm=0∧rd=0∧n=0∧a=0∧d.size=0∧dn.toNat=0
 else if k=3 then ok.toNat=0∧a=0∧d.size=0∧dn.toNat=0
 else if k=4 then lt=0∧cm=0∧n=0∧a=0∧d.size=0∧dn.toNat=0
 else if k=5 then cm=0∧ok.toNat=0∧n=0
 else if k=6 then lt=0∧cm=0∧ok.toNat=0∧n=0∧d.size=0∧dn.toNat=0
 else ix=0∧lt=0∧cm=0∧rd=0∧ok.toNat=0∧n=0∧a=0∧d.size=0∧dn.toNat=0
instance (k ix lt cm rd:Int) (ok:Bool) (n:Nat) (a:Int) (d:ByteArray) (dn:Bool):Decidable (ExR k ix lt cm rd ok n a d dn):=by unfold ExR;exact inferInstance
def ig (k f t tm ix lt cm rd a:Int):Prop:=(1≤k∧k≤6)∧(1≤f∧f≤7)∧(1≤t∧t≤7)∧(0≤tm∧tm≤1099511627775)∧(0≤ix∧ix≤1099511627775)∧(0≤lt∧lt≤1099511627775)∧(0≤cm∧cm≤1099511627775)∧(0≤rd∧rd≤1099511627775)∧(0≤a∧a≤1099511627775)
instance (k f t tm ix lt cm rd a:Int):Decidable (ig k f t tm ix lt cm rd a):=by unfold ig;exact inferInstance
def ri (k ix lt:Int) (es:List Ent):Prop:=k=3→es.length≤16∧eD es ix lt=true
instance (k ix lt:Int) (es:List Ent):Decidable (ri k ix lt es):=by unfold ri;exact inferInstance
def kf (k ix a:Int) (d:ByteArray):Prop:=k=5→(1≤ix∧ix≤1099511625728)∧a≤524288∧d.size≤1024
instance (k ix a:Int) (d:ByteArray):Decidable (kf k ix a d):=by unfold kf;exact inferInstance
def OkR (k f t tm ix lt cm rd:Int) (ok:Bool) (es:List Ent) (a:Int) (d:ByteArray) (dn:Bool):Prop:=
 ig k f t tm ix lt cm rd a∧ExR k ix lt cm rd ok es.length a d dn∧ri k ix lt es∧kf k ix a d
instance (k f t tm ix lt cm rd:Int) (ok:Bool) (es:List Ent) (a:Int) (d:ByteArray) (dn:Bool):Decidable (OkR k f t tm ix lt cm rd ok es a d dn):=by unfold OkR;exact inferInstance
theorem AD {xs:List Int} {k:Nat} (h:k<xs.length):(xs.map iV).toArray[k]? =some (iV xs[k]):=by simp [h]
theorem kx (lo hi:Int) (g m c:Nat) (xs:List Int) (w:World) (hm:m=xs.length) (hb:Blk w g 3 (xs.map iV).toArray) (hl:xs.length≤1000) :
 Rt prog 139 [.int .i64 lo,.int .i64 hi,.slice (some ⟨g,0,none⟩) m c] w (fun v w'=>v=.bool (decide (eL lo hi xs))∧w=w'):=by
 refine enter (n:=24) Tryz.func139 rfl rfl rfl (ao (ah (asb rfl (an (ai (ao (ao (ah (mvs rfl (ab (bU cy rfl) (mvi rfl (an (ai (bk (dr (G:=Nat) [6,8,12,13,14,15,16,17,18,19,20,21,22,23] (fun k=>[(11,.int .i64 (k:Nat))]) (fun k w'=>k≤xs.length∧eL lo hi (xs.take k)∧w=w') (fun k=>xs.length-k) (0) ⟨rfl,trivial⟩ ?_ ?_)))))))))))))))
 ·exact ⟨Nat.zero_le _,bE.2 trivial,rfl⟩
 rintro k ρ1 w1 ⟨hk,ha,rfl⟩;refine ao (ah (ab (ch rfl rfl) (an (ai (ao (AT rfl (fun Q2=>?_) (fun Q2=>?_)))))))
 ·have hkx:k<xs.length:=by omega
  refine aO (ai (ao (bk (ao (ah (ab (eu cX rfl rfl (by omega)) (ab (ar ak rfl (by exact hb.rd k (AD hkx))) ?_)))))));refine asi rfl (an (ai (ao (ah (mvi rfl (mvi rfl (ab (ch rfl rfl) (mvb rfl (Ap (t:=18) rfl (fun Q3=>?_) (fun Q3=>?_))))))))))
  ·refine bD rfl (an (ai (aZ rfl (ao (ah (asb rfl (an (ai (aE (bG (aG (aG (bG (aG (bA (v:=.bool _) rfl rfl (⟨congrArg Value.bool ?_,rfl⟩))))))))))))))));rw [eq_comm,decide_eq_false_iff_not];intro h;have:=h _ (List.getElem_mem hkx);omega
  refine ae rfl (mvi rfl (ae rfl (mvi rfl (ae rfl (ab (cq rfl rfl) (ab (ay (v:=.bool _) rfl rfl) (an (ai (AT rfl (fun Q4=>?_) (fun Q4=>?_))))))))))
  ·refine ao (ah (asb rfl (an (ai (aE (bG (aG (aG (bG (aG (bA (v:=.bool _) rfl rfl (⟨congrArg Value.bool ?_,rfl⟩))))))))))));rw [eq_comm,decide_eq_false_iff_not];intro h;have:=h _ (List.getElem_mem hkx);omega
  refine aO (bN (ai (ah (ab (dD (b:=1) rfl rfl (by omega)) (mvi rfl (an ?_))))));refine bL (k+1) ⟨(by first | rfl | (refine bT ?_;omega)),trivial⟩ (by (iterate 30 refine bd rfl ?_);exact br) ⟨?_,?_⟩
  ·exact ⟨by omega,by rw [List.take_succ_eq_append_getElem hkx];exact o7.2 ⟨ha,by omega⟩,rfl⟩
  ·omega
 obtain rfl:k=xs.length:=by omega
 rw [List.take_length] at ha;refine cL (bB (bB (cw (ai (ao (ah (asb rfl (an (ai (aE (bA (v:=.bool _) rfl rfl (⟨congrArg Value.bool (decide_eq_true ha).symm,rfl⟩))))))))))))
theorem y6 (k f t tm ix lt cm rd:Int) (ok:Bool) (E:Option Addr) (n c:Nat) (a:Int) (d:ByteArray) (dn:Bool) (w:World) :
 Rt prog 140 [.agg #[.int .i64 k,.int .i64 f,.int .i64 t,.int .i64 tm,.int .i64 ix,.int .i64 lt,.int .i64 cm,.int .i64 rd,.bool ok,.slice E n c,.int .i64 a,.string d,.bool dn]] w (fun v w'=>v=.bool (decide (ix=0∧lt=0∧cm=0∧rd=0∧a=0∧ok.toNat=0∧dn.toNat=0∧d.size=0∧n=0))∧ag w w'):=by
 refine enter (n:=36) Tryz.func140 rfl rfl rfl (ao (ah (bZ (v:=.agg _) rfl ?_)));intro b1 w1 E1 hb1 hk1;refine asb rfl (an (ai (ao (ah (ab (aa bJ rfl) (ab (ar ak rfl (by exact (hk1.from_ ag.rfl_).rd 4 rfl)) ?_))))));refine ab (aa cG rfl) (ab (ar ak rfl (by exact (hk1.from_ ag.rfl_).rd 5 rfl)) ?_);refine ab (aa iA rfl) (ab (ar ak rfl (by exact (hk1.from_ ag.rfl_).rd 6 rfl)) ?_);refine ab (aa dk rfl) (ab (ar ak rfl (by exact (hk1.from_ ag.rfl_).rd 7 rfl)) ?_);refine ab (aa cF rfl) (ab (ar ak rfl (by exact (hk1.from_ ag.rfl_).rd 10 rfl)) ?_);refine lV [.tmp 4,.tmp 6,.tmp 8,.tmp 10,.tmp 12] [.int _ _,.int _ _,.int _ _,.int _ _,.int _ _] bP rfl rfl rfl rfl (by simp [Value.cells]) ?_;intro b13 w2 E13 hb13 hk13;refine aC jl (kx 0 0 b13 5 5 [ix,lt,cm,rd,a] _ rfl hk13 (by simp)) ?_;rintro v14 w3 ⟨rfl,rfl⟩;refine mvb rfl (Ap (t:=15) rfl (fun Q4=>?_) (fun Q4=>?_))
 ·simp only [bp,bE,and_true] at Q4;refine ae rfl (ab (aa kT rfl) (ae rfl (ab (ar ft rfl (by exact (hk1.from_ (ag.rfl_.next E13)).rd 8 rfl)) ?_)));refine ae rfl (ab (cp rfl) (ab (aM (v:=.bool _) rfl rfl) (mvb rfl (An (t:=20) rfl (fun Q5=>?_) (fun Q5=>?_)))))
  ·have ho:ok.toNat=0:=by cases ok <;> simp_all
   refine ae rfl (ab (aa fp rfl) (ae rfl (ab (ar ft rfl (by exact (hk1.from_ (ag.rfl_.next E13)).rd 12 rfl)) ?_)));refine ae rfl (ab (cp rfl) (ab (aM (v:=.bool _) rfl rfl) (mvb rfl (An (t:=25) rfl (fun Q6=>?_) (fun Q6=>?_)))))
   ·have hd:dn.toNat=0:=by cases dn <;> simp_all
    refine ae rfl (ab (aa dC rfl) (ae rfl (ab (ar bF rfl (by exact (hk1.from_ (ag.rfl_.next E13)).rd 11 rfl)) ?_)));refine ae rfl (ab (iY (la rfl rfl) (congrArg Value.bool (zc d))) (ab (aM (v:=.bool _) rfl rfl) (mvb rfl (Ap (t:=30) rfl (fun Q7=>?_) (fun Q7=>?_)))))
    ·refine ae rfl (ab (aa dz rfl) (ae rfl (ab (ar bR rfl (by exact (hk1.from_ (ag.rfl_.next E13)).rd 9 rfl)) ?_)));refine ae rfl (ab (bU cT rfl) (ae rfl ?_));refine ab (iY (bf rfl rfl) (congrArg Value.bool (show (((n:Nat):Int)==0)=decide (n=0) by rw [Bool.eq_iff_iff,beq_iff_eq,decide_eq_true_eq];omega))) ?_;refine ab (aM (v:=.bool _) rfl rfl) (asb rfl (an (ai (aE (bA (v:=.bool _) rfl rfl (⟨congrArg Value.bool ?_,((ag.rfl_.next E1).next E13)⟩))))))
     first
      |(rw [eq_comm,decide_eq_false_iff_not];omega)
      |(rw [decide_eq_decide];omega)
      |(rw [eq_comm,decide_eq_true_eq];omega)
    refine aq rfl rfl (aq rfl rfl (aq rfl rfl (aq rfl rfl (ab (ay (v:=.bool _) rfl rfl) (asb rfl (an (ai (aE (bA (v:=.bool _) rfl rfl (⟨congrArg Value.bool ?_,((ag.rfl_.next E1).next E13)⟩))))))))))
    first
     |(rw [eq_comm,decide_eq_false_iff_not];omega)
     |(rw [decide_eq_decide];omega)
     |(rw [eq_comm,decide_eq_true_eq];omega)
   have hd:dn.toNat=1:=by cases dn <;> simp_all
   refine aq rfl rfl (aq rfl rfl (aq rfl rfl (ab (ay (v:=.bool _) rfl rfl) (mvb rfl (aq rfl rfl (aq rfl rfl (aq rfl rfl (aq rfl rfl ?_))))))));refine ab (ay (v:=.bool _) rfl rfl) (asb rfl (an (ai (aE (bA (v:=.bool _) rfl rfl (⟨congrArg Value.bool ?_,((ag.rfl_.next E1).next E13)⟩))))))
   first
    |(rw [eq_comm,decide_eq_false_iff_not];omega)
    |(rw [decide_eq_decide];omega)
    |(rw [eq_comm,decide_eq_true_eq];omega)
  have ho:ok.toNat=1:=by cases ok <;> simp_all
  refine aq rfl rfl (aq rfl rfl (aq rfl rfl (ab (ay (v:=.bool _) rfl rfl) (mvb rfl (aq rfl rfl (aq rfl rfl (aq rfl rfl (ab (ay (v:=.bool _) rfl rfl) ?_))))))));refine mvb rfl (aq rfl rfl (aq rfl rfl (aq rfl rfl (aq rfl rfl (ab (ay (v:=.bool _) rfl rfl) (asb rfl (an (ai (aE (bA (v:=.bool _) rfl rfl ?_))))))))));refine ⟨congrArg Value.bool ?_,((ag.rfl_.next E1).next E13)⟩
  first
   |(rw [eq_comm,decide_eq_false_iff_not];omega)
   |(rw [decide_eq_decide];omega)
   |(rw [eq_comm,decide_eq_true_eq];omega)
 simp only [bp,bE,and_true] at Q4;refine aq rfl rfl (aq rfl rfl (aq rfl rfl (ab (ay (v:=.bool _) rfl rfl) (mvb rfl (aq rfl rfl (aq rfl rfl (aq rfl rfl (ab (ay (v:=.bool _) rfl rfl) ?_))))))));refine mvb rfl (aq rfl rfl (aq rfl rfl (aq rfl rfl (ab (ay (v:=.bool _) rfl rfl) (mvb rfl (aq rfl rfl (aq rfl rfl (aq rfl rfl ?_))))))));refine aq rfl rfl (ab (ay (v:=.bool _) rfl rfl) (asb rfl (an (ai (aE (bA (v:=.bool _) rfl rfl (⟨congrArg Value.bool ?_,((ag.rfl_.next E1).next E13)⟩)))))))
 first
  |(rw [eq_comm,decide_eq_false_iff_not];omega)
  |(rw [decide_eq_decide];omega)
  |(rw [eq_comm,decide_eq_true_eq];omega)
theorem iC:js prog 54=some true:=by kernel_rfl
theorem fE:ea prog 54=some 4:=by kernel_rfl
theorem jo:cI prog 54 0=some 0:=by kernel_rfl
theorem jn:cI prog 54 1=some 1:=by kernel_rfl
theorem jm:cI prog 54 2=some 2:=by kernel_rfl
theorem fx:cI prog 54 3=some 3:=by kernel_rfl
theorem kW:aQ prog 92=true:=by kernel_rfl
theorem fq:(gT prog 27).isSome=true:=by kernel_rfl
theorem gx:gT prog 27=some (54,4):=by kernel_rfl
theorem yc:aQ prog 87=true:=by kernel_rfl
theorem yb:aQ prog 91=true:=by kernel_rfl
theorem ed:js prog 27=some false:=by kernel_rfl
theorem yd:aQ prog 42=true:=by kernel_rfl
theorem AK (A B:Option Addr) (ca cb:Nat) (a b:List Int) (w:World) (ha:et iV w A a) (hb:et iV w B b) (hla:a.length*8≤140737488351232) :
 Rt prog 92 [.slice A a.length ca,.slice B b.length cb] w (fun v w'=>v=.bool (decide (a=b))∧ag w w'):=by
 refine enter (n:=26) Tryz.func92 rfl rfl rfl (ao (ah (asb rfl (an (ai (ao (ao (ah (mvs rfl (ab (bU cy rfl) (mvs rfl (ab (bU cy rfl) (ab (dm rfl rfl) ?_)))))))))))));refine an (ai (aS rfl (fun Q1=>?_) (fun Q1=>?_)))
 ·replace Q1:=dK Q1;replace Q1:=ec Q1;refine ao (ah (asb rfl (an (ai (aE (aG (bA (v:=.bool _) rfl rfl ?_)))))));exact ⟨by rw [decide_eq_false];rintro rfl;omega,ag.rfl_⟩
 replace Q1:=dL Q1;replace Q1:=eb Q1;refine aO (ai (ao (ao (ah (asi rfl (an (ai (bk (dr (G:=Nat) [4,11,12,13,14,15,16,17,18,19,20,21,22,23,24,25] (fun k=>[(5,.int .i64 (k:Nat))]) (fun k w'=>k≤a.length∧a.take k=b.take k∧ag w w') (fun k=>a.length-k) (0) ⟨rfl,trivial⟩ ?_ ?_)))))))))
 ·exact ⟨Nat.zero_le _,rfl,ag.rfl_⟩
 rintro k ρ2 w2 ⟨hk,ht,hB⟩;refine ao (ao (ah (mvi rfl (mvs rfl (ab (bU cy rfl) (ab (ch rfl rfl) (an (ai (AT rfl (fun Q3=>?_) (fun Q3=>?_))))))))))
 ·obtain ⟨ba,oa,rfl,ca⟩:=ha (by omega);obtain ⟨bb,ob,rfl,cb⟩:=hb (by omega);refine aO (ai (ao (bk (ao ?_))));apply sm 9 [(17,eqp _),(18,eqp _),(19,eqp _),(20,eqp _),(21,eqp _),(22,eqp _),(23,eqp _),(24,eqp _),(25,eqp _)] (by kernel_rfl) (by kernel_rfl) ⟨aj _,aj _,aj _,aj _,aj _,aj _,aj _,aj _,aj _,trivial⟩
  case hop=>
   constructor
   ·intro w5 D5;exact au (aF (v:=.slice _ _ _) rfl) rfl
   constructor
   ·intro w6 D6;exact au (aF (v:=.int _ _) rfl) rfl
   constructor
   ·intro w7 D7;rintro _ rfl _ rfl;exact au (db cX rfl rfl (by omega)) rfl
   constructor
   ·intro w8 D8;rintro _ rfl;exact au (ar ak rfl (by first | (exact fy (hB.next D8) (ca k (by omega))) | (exact fy (hB.next D8) (cb k (by omega))))) rfl
   constructor
   ·intro w9 D9;exact au (aF (v:=.slice _ _ _) rfl) rfl
   constructor
   ·intro w10 D10;exact au (aF (v:=.int _ _) rfl) rfl
   constructor
   ·intro w11 D11;rintro _ rfl _ rfl;exact au (db cX rfl rfl (by omega)) rfl
   constructor
   ·intro w12 D12;rintro _ rfl;exact au (ar ak rfl (by first | (exact fy (hB.next D12) (ca k (by omega))) | (exact fy (hB.next D12) (cb k (by omega))))) rfl
   constructor
   ·intro w13 D13;rintro _ rfl _ rfl;exact au (dm rfl rfl) rfl
   exact trivial
  case hend=>
   intro w14 D14;rintro _ rfl _ rfl _ rfl _ rfl _ rfl _ rfl _ rfl _ rfl _ rfl;show St ..;refine an (ai (aS rfl (fun Q15=>?_) (fun Q15=>?_)))
   ·replace Q15:=dK Q15;replace Q15:=ec Q15;refine ao (ah (asb rfl (an (ai (aE (bG (aG (aG (bG (aG (bA (v:=.bool _) rfl rfl ?_)))))))))));exact ⟨by rw [decide_eq_false];rintro rfl;exact absurd rfl (by assumption),(hB.next D14)⟩
   replace Q15:=dL Q15;replace Q15:=eb Q15;refine aO (bN (ai (ah (mvi rfl (ab (cn rfl rfl (by omega)) (asi rfl (an ?_)))))));refine bL (k+1) ⟨(by first | rfl | (refine bT ?_;omega)),trivial⟩ (by (iterate 33 refine bd rfl ?_);exact br) ⟨?_,?_⟩
   ·exact ⟨by omega,ux (by omega) (by omega) ht (by omega),(hB.next D14)⟩
   ·omega
 refine cL (bB (bB (cw (ai (ao (ah (asb rfl (an (ai (aE (bA (v:=.bool _) rfl rfl (⟨by rw [decide_eq_true (zu (by omega) (by omega) ht)],hB⟩))))))))))))
theorem oW (A B:Option Addr) (ca cb:Nat) (l:List Int) (w:World) (ha:et iV w A l) (hb:et iV w B l) (hl:l.length≤1000000):Rt prog 92 [.slice A l.length ca,.slice B l.length cb] w fun v w'=>v=.bool true∧ag w w':=
 (AK A B ca cb l l w ha hb (by omega)).mono fun v w' h=>⟨by rw [h.1,decide_eq_true rfl],h.2⟩
theorem zZ (B T:Int) (A A':Option Addr) (n n' c c':Nat) (xs:List Ent) (w:World) (h1:cC w (.slice A n c) xs) (h2:cC w (.slice A' n' c') xs) (hl:xs.length≤1000000):Rt prog 91 [.agg #[.int .i64 B,.int .i64 T,.slice A n c],.agg #[.int .i64 B,.int .i64 T,.slice A' n' c']] w fun v w'=>v=.bool true∧ag w w':=Rt.of (tE B T _ _ xs w h1 h2 (by omega))
theorem vC (q:Rd) (A B:Option Addr) (ca cb:Nat) (w:World) (ha:et iV w A q.acks) (hb:et iV w B q.acks) (hl:q.acks.length≤1000000) :
 Rt prog 87 [.agg (rdV (q,A,ca)).toArray,.agg (rdV (q,B,cb)).toArray] w (fun v w'=>v=.bool true∧ag w w'):=by
 refine enter (n:=31) Tryz.func87 rfl rfl rfl (ao (ah (bZ (v:=.agg _) rfl ?_)));intro b2 w1 E2 hb2 hk2;refine bZ (v:=.agg _) rfl ?_;intro b3 w2 E3 hb3 hk3;replace hk2:=hk2.from_ E3;refine asb rfl (an (ai (ao (ah (ab (aa jo rfl) (ab (ar ak rfl (by exact (show _=some (Value.int .i64 q.id) from (hk2.from_ ag.rfl_).rd 0 rfl))) ?_))))));refine ab (aa jo rfl) (ab (ar ak rfl (by exact (show _=some (Value.int .i64 q.id) from (hk3.from_ ag.rfl_).rd 0 rfl))) ?_);refine ab (c6 (bf rfl rfl) (beq_self_eq_true _)) (mvb rfl (ae rfl (ab (aa jn rfl) (ae rfl (ab (ar ak rfl (by exact (show _=some (Value.int .i64 q.ix) from (hk2.from_ ag.rfl_).rd 1 rfl))) ?_)))));refine ae rfl (ab (aa jn rfl) (ae rfl (ab (ar ak rfl (by exact (show _=some (Value.int .i64 q.ix) from (hk3.from_ ag.rfl_).rd 1 rfl))) ?_)));refine ae rfl (ab (c6 (bf rfl rfl) (beq_self_eq_true _)) (ab (aM (v:=.bool _) rfl rfl) (mvb rfl (ae rfl (ab (aa jm rfl) (ae rfl (ab (ar ak rfl (by exact (show _=some (Value.int .i64 q.rn) from (hk2.from_ ag.rfl_).rd 2 rfl))) ?_)))))));refine ae rfl (ab (aa jm rfl) (ae rfl (ab (ar ak rfl (by exact (show _=some (Value.int .i64 q.rn) from (hk3.from_ ag.rfl_).rd 2 rfl))) ?_)));refine ae rfl (ab (c6 (bf rfl rfl) (beq_self_eq_true _)) (ab (aM (v:=.bool _) rfl rfl) (mvb rfl (ae rfl (ab (aa fx rfl) (ae rfl (ab (ar bt rfl (by exact (show _=some (Value.slice A q.acks.length ca) from (hk2.from_ ag.rfl_).rd 3 rfl))) ?_)))))));refine ae rfl (ab (aa fx rfl) (ae rfl (ab (ar bt rfl (by exact (show _=some (Value.slice B q.acks.length cb) from (hk3.from_ ag.rfl_).rd 3 rfl))) ?_)));refine ae rfl (aC kW (oW A B ca cb q.acks _ (ha.from_ ((ag.rfl_.next E2).next E3)) (hb.from_ ((ag.rfl_.next E2).next E3)) hl) ?_);rintro v29 w3 ⟨rfl,E29⟩;refine ab (aM (v:=.bool _) rfl rfl) (asb rfl (an (ai (aE (bA (v:=.bool _) rfl rfl (⟨rfl,(((ag.rfl_.next E2).next E3).next E29)⟩))))))
theorem tD (x y:Rd×Option Addr×Nat) (w:World) (h:x.1=y.1) (ha:et iV w x.2.1 x.1.acks) (hb:et iV w y.2.1 y.1.acks) (hl:x.1.acks.length≤1000000):Rt prog 87 [.agg (rdV x).toArray,.agg (rdV y).toArray] w fun v w'=>v=.bool true∧ag w w':=by
 obtain ⟨q,A,ca⟩:=x;obtain ⟨q2,B,cb⟩:=y;obtain rfl:q=q2:=h;exact vC q A B ca cb w ha hb hl
theorem tB (A B:Option Addr) (ca cb n:Nat) (X Y:List (Rd×Option Addr×Nat)) (w:World) (hr:iu 4 rdV w A X) (hr2:iu 4 rdV w B Y) (hX:X.length=n) (hY:Y.length=n) (hp:X.map (fun q=>q.1)=Y.map (fun q=>q.1)) (hE:∀ x∈X,IR w x.2.1 x.2.2 x.1.acks) (hE2:∀ x∈Y,IR w x.2.1 x.2.2 x.1.acks) (hle:∀ x∈X,x.1.acks.length≤1000000) (hn:n≤1000000) :
 Rt prog 42 [.slice A n ca,.slice B n cb] w (fun v w'=>v=.bool true∧ag w w'):=by
 refine enter (n:=27) Tryz.func42 rfl rfl rfl (ao (ah (asb rfl (an (ai (ao (ao (ah (mvs rfl (ab (bU fq rfl) (mvs rfl (ab (bU fq rfl) (ab (cu (dm rfl rfl) (bne_self_eq_false _)) ?_)))))))))))));refine an (ai (bg rfl (aO (ai (ao (ao (ah (asi rfl (an (ai (bk (dr (G:=Nat) [4,11,12,13,14,15,16,17,18,19,20,21,22,23,24,25,26] (fun k=>[(5,.int .i64 (k:Nat))]) (fun k w'=>k≤n∧ag w w') (fun k=>n-k) (0) ⟨rfl,trivial⟩ ?_ ?_))))))))))))
 ·exact ⟨Nat.zero_le _,ag.rfl_⟩
 rintro k ρ1 w1 ⟨hk,hB⟩;refine ao (ao (ah (mvi rfl (mvs rfl (ab (bU fq rfl) (ab (ch rfl rfl) (an (ai (AT rfl (fun Q2=>?_) (fun Q2=>?_))))))))))
 ·have hkX:k<X.length:=by omega
  have hkY:k<Y.length:=by omega
  obtain ⟨ba,oa,rfl,hca⟩:=hr (by omega);obtain ⟨bb,ob,rfl,hcb⟩:=hr2 (by omega);have hxk:=hE _ (List.getElem_mem hkX);have hyk:=hE2 _ (List.getElem_mem hkY);have hlk:=hle _ (List.getElem_mem hkX)
  have hpk:X[k].1=Y[k].1:=by
   have h9:(X.map (fun q=>q.1))[k]? =(Y.map (fun q=>q.1))[k]? :=by rw [hp]
   rw [List.getElem?_map,List.getElem?_map,List.getElem?_eq_getElem hkX,List.getElem?_eq_getElem hkY] at h9;exact Option.some.inj h9
  refine aO (ai (ao (bk (ao ?_))));apply bK 10 [(17,eqp _),(18,eqp _),(19,eqp _),(20,eqp (.agg (rdV X[k]).toArray)),(21,eqp _),(22,eqp _),(23,eqp _),(24,eqp (.agg (rdV Y[k]).toArray)),(25,eqp _),(26,eqp _)] (by repeat first | exact ct | refine cr ?_ | refine bX ?_) (by kernel_rfl) (by kernel_rfl) ⟨aj _,aj _,aj _,aj _,aj _,aj _,aj _,aj _,aj _,aj _,trivial⟩
  case hop=>
   constructor
   ·rintro-w4 D4;exact au (aF (v:=.slice _ _ _) rfl) rfl
   constructor
   ·rintro-w5 D5;exact au (aF (v:=.int _ _) rfl) rfl
   constructor
   ·rintro-w6 D6;rintro _ rfl _ rfl;exact au (b_ gx rfl rfl (by omega)) rfl
   constructor
   ·rintro-w7 D7;rintro _ rfl;exact au (aH (cs:=rdV X[k]) iC fE rfl (fB (hB.next D7) (hca k hkX))) rfl
   constructor
   ·rintro-w8 D8;exact au (aF (v:=.slice _ _ _) rfl) rfl
   constructor
   ·rintro-w9 D9;exact au (aF (v:=.int _ _) rfl) rfl
   constructor
   ·rintro-w10 D10;rintro _ rfl _ rfl;exact au (b_ gx rfl rfl (by omega)) rfl
   constructor
   ·rintro-w11 D11;rintro _ rfl;exact au (aH (cs:=rdV Y[k]) iC fE rfl (fB (hB.next D11) (hcb k hkY))) rfl
   constructor
   ·rintro-w12 D12;rintro v12_20 rfl v12_24 rfl;refine fL yc ((tD X[k] Y[k] _ hpk (hxk.1.from_ (hB.next D12)) (hyk.1.from_ (hB.next D12)) hlk).mono ?_);rintro v _ ⟨rfl,E12'⟩;exact ⟨E12',rfl⟩
   constructor
   ·rintro-w13 D13;rintro _ rfl;exact au (cp rfl) rfl
   exact trivial
  case hend=>
   intro w14 D14;rintro _ rfl _ rfl _ rfl v20 rfl _ rfl _ rfl _ rfl v24 rfl _ rfl _ rfl;show St ..;refine an (ai (AR rfl (fun Q15=>?_) (fun Q15=>?_)))
   ·exfalso;contradiction
   refine aO (bN (ai (ah (mvi rfl (ab (dD (b:=1) rfl rfl (by omega)) (asi rfl (an ?_)))))));refine bL (k+1) ⟨(by first | rfl | (refine bT ?_;omega)),trivial⟩ (by (iterate 35 refine bd rfl ?_);exact br) ⟨?_,?_⟩
   ·exact ⟨by omega,(hB.next D14)⟩
   ·omega
 refine cL (bB (bB (cw (ai (ao (ah (asb rfl (an (ai (aE (bA (v:=.bool _) rfl rfl (⟨rfl,hB⟩))))))))))))
theorem uG {s:Rf} {a:Ra} {w:World} {b T:Nat} (hb:Blk w b T (rfV s a).toArray):w.rangeAt b 6 [.int .i64 s.b,.int .i64 s.t,.slice a.E s.es.length a.Ec]:=hb.range 6 _ (fun j v hj=>by
 match j,hj with
 |0,hj=>exact hj
 |1,hj=>exact hj
 |2,hj=>exact hj
 |j+3,hj=>simp at hj)
theorem gm (s:Rf) (a b:Ra) (w:World) (ha:eX w s a) (hb:eX w s b) (hl:s.es.length≤1000000∧s.votes.length≤1000000∧s.next.length≤1000000∧s.mtch.length≤1000000∧s.sent.length≤1000000∧s.reads.length≤1000000∧∀ q∈s.reads,q.acks.length≤1000000) :
 Rt prog 49 [.agg (rfV s a).toArray,.agg (rfV s b).toArray] w (fun v w'=>v=.bool true∧ag w w'):=by
 obtain ⟨hl0,hl1,hl2,hl3,hl4,hl5,hl6⟩:=hl;have hla:a.L.length=s.reads.length:=by rw [←ha.r,List.length_map]
 have hlb:a.L.length=b.L.length:=by rw [hla,←hb.r,List.length_map]
 refine enter (n:=143) Tryz.func49 rfl rfl rfl (ao (ah (bZ (v:=.agg _) rfl ?_)));intro b2 w1 E2 hb2 hk2;refine bZ (v:=.agg _) rfl ?_;intro b3 w2 E3 hb3 hk3;replace hk2:=hk2.from_ E3;refine asb rfl (an (ai (ao (ah (ab (aa cB rfl) (ab (ar ak rfl (by exact (show _=some (Value.int .i64 s.id) from (hk2.from_ ag.rfl_).rd 0 rfl))) ?_))))));refine ab (aa cB rfl) (ab (ar ak rfl (by exact (show _=some (Value.int .i64 s.id) from (hk3.from_ ag.rfl_).rd 0 rfl))) ?_);refine ab (c6 (bf rfl rfl) (beq_self_eq_true _)) (mvb rfl (ae rfl (ab (aa cd rfl) (ae rfl (ab (ar ak rfl (by exact (show _=some (Value.int .i64 s.nodes) from (hk2.from_ ag.rfl_).rd 1 rfl))) ?_)))));refine ae rfl (ab (aa cd rfl) (ae rfl (ab (ar ak rfl (by exact (show _=some (Value.int .i64 s.nodes) from (hk3.from_ ag.rfl_).rd 1 rfl))) ?_)));refine ae rfl (ab (c6 (bf rfl rfl) (beq_self_eq_true _)) (ab (aM (v:=.bool _) rfl rfl) (mvb rfl (ae rfl (ab (aa cW rfl) (ae rfl (ab (ar ak rfl (by exact (show _=some (Value.int .i64 s.role) from (hk2.from_ ag.rfl_).rd 2 rfl))) ?_)))))));refine ae rfl (ab (aa cW rfl) (ae rfl (ab (ar ak rfl (by exact (show _=some (Value.int .i64 s.role) from (hk3.from_ ag.rfl_).rd 2 rfl))) ?_)));refine ae rfl (ab (c6 (bf rfl rfl) (beq_self_eq_true _)) (ab (aM (v:=.bool _) rfl rfl) (mvb rfl (ae rfl (ab (aa bH rfl) (ae rfl (ab (ar ak rfl (by exact (show _=some (Value.int .i64 s.term) from (hk2.from_ ag.rfl_).rd 3 rfl))) ?_)))))));refine ae rfl (ab (aa bH rfl) (ae rfl (ab (ar ak rfl (by exact (show _=some (Value.int .i64 s.term) from (hk3.from_ ag.rfl_).rd 3 rfl))) ?_)));refine ae rfl (ab (c6 (bf rfl rfl) (beq_self_eq_true _)) (ab (aM (v:=.bool _) rfl rfl) (mvb rfl (ae rfl (ab (aa fm rfl) (ae rfl (ab (ar ak rfl (by exact (show _=some (Value.int .i64 s.vote) from (hk2.from_ ag.rfl_).rd 4 rfl))) ?_)))))));refine ae rfl (ab (aa fm rfl) (ae rfl (ab (ar ak rfl (by exact (show _=some (Value.int .i64 s.vote) from (hk3.from_ ag.rfl_).rd 4 rfl))) ?_)));refine ae rfl (ab (c6 (bf rfl rfl) (beq_self_eq_true _)) (ab (aM (v:=.bool _) rfl rfl) (mvb rfl (ae rfl (ab (aa d_ rfl) (ae rfl (ab (ar ak rfl (by exact (show _=some (Value.int .i64 s.leader) from (hk2.from_ ag.rfl_).rd 5 rfl))) ?_)))))));refine ae rfl (ab (aa d_ rfl) (ae rfl (ab (ar ak rfl (by exact (show _=some (Value.int .i64 s.leader) from (hk3.from_ ag.rfl_).rd 5 rfl))) ?_)));refine ae rfl (ab (c6 (bf rfl rfl) (beq_self_eq_true _)) (ab (aM (v:=.bool _) rfl rfl) (mvb rfl (ae rfl (ab (aa bn rfl) (ae rfl (ab (aH (cs:=[.int .i64 s.b,.int .i64 s.t,.slice a.E s.es.length a.Ec]) bQ bh rfl (uG (hk2.from_ ag.rfl_))) (ae rfl ?_))))))));refine ab (aa bn rfl) (ae rfl (ab (aH (cs:=[.int .i64 s.b,.int .i64 s.t,.slice b.E s.es.length b.Ec]) bQ bh rfl (uG (hk3.from_ ag.rfl_))) (ae rfl (aC yb (zZ s.b s.t a.E b.E s.es.length s.es.length a.Ec b.Ec s.es _ (ha.e.from_ ((ag.rfl_.next E2).next E3)) (hb.e.from_ ((ag.rfl_.next E2).next E3)) hl0) ?_))));rintro v50 w3 ⟨rfl,E50⟩;refine ab (aM (v:=.bool _) rfl rfl) (mvb rfl (ae rfl (ab (aa dB rfl) (ae rfl (ab (ar bF rfl (by exact (show _=some (Value.string s.snap) from (hk2.from_ (ag.rfl_.next E50)).rd 9 rfl))) ?_)))));refine ae rfl (ab (aa dB rfl) (ae rfl (ab (ar bF rfl (by exact (show _=some (Value.string s.snap) from (hk3.from_ (ag.rfl_.next E50)).rd 9 rfl))) ?_)));refine ae rfl (ab (c6 (la rfl rfl) (beq_self_eq_true _)) (ab (aM (v:=.bool _) rfl rfl) (mvb rfl (ae rfl (ab (aa bW rfl) (ae rfl (ab (ar ak rfl (by exact (show _=some (Value.int .i64 s.commit) from (hk2.from_ (ag.rfl_.next E50)).rd 10 rfl))) ?_)))))));refine ae rfl (ab (aa bW rfl) (ae rfl (ab (ar ak rfl (by exact (show _=some (Value.int .i64 s.commit) from (hk3.from_ (ag.rfl_.next E50)).rd 10 rfl))) ?_)));refine ae rfl (ab (c6 (bf rfl rfl) (beq_self_eq_true _)) (ab (aM (v:=.bool _) rfl rfl) (mvb rfl (ae rfl (ab (aa dp rfl) (ae rfl (ab (ar ak rfl (by exact (show _=some (Value.int .i64 s.elapsed) from (hk2.from_ (ag.rfl_.next E50)).rd 11 rfl))) ?_)))))));refine ae rfl (ab (aa dp rfl) (ae rfl (ab (ar ak rfl (by exact (show _=some (Value.int .i64 s.elapsed) from (hk3.from_ (ag.rfl_.next E50)).rd 11 rfl))) ?_)));refine ae rfl (ab (c6 (bf rfl rfl) (beq_self_eq_true _)) (ab (aM (v:=.bool _) rfl rfl) (mvb rfl (ae rfl (ab (aa eY rfl) (ae rfl (ab (ar ak rfl (by exact (show _=some (Value.int .i64 s.timeout) from (hk2.from_ (ag.rfl_.next E50)).rd 12 rfl))) ?_)))))));refine ae rfl (ab (aa eY rfl) (ae rfl (ab (ar ak rfl (by exact (show _=some (Value.int .i64 s.timeout) from (hk3.from_ (ag.rfl_.next E50)).rd 12 rfl))) ?_)));refine ae rfl (ab (c6 (bf rfl rfl) (beq_self_eq_true _)) (ab (aM (v:=.bool _) rfl rfl) (mvb rfl (ae rfl (ab (aa gL rfl) (ae rfl (ab (ar kU rfl (by exact (show _=some (Value.int .u64 s.seed) from (hk2.from_ (ag.rfl_.next E50)).rd 13 rfl))) ?_)))))));refine ae rfl (ab (aa gL rfl) (ae rfl (ab (ar kU rfl (by exact (show _=some (Value.int .u64 s.seed) from (hk3.from_ (ag.rfl_.next E50)).rd 13 rfl))) ?_)));refine ae rfl (ab (c6 (bf rfl rfl) (beq_self_eq_true _)) (ab (aM (v:=.bool _) rfl rfl) (mvb rfl (ae rfl (ab (aa dc rfl) (ae rfl (ab (ar bt rfl (by exact (show _=some (Value.slice a.V s.votes.length a.Vc) from (hk2.from_ (ag.rfl_.next E50)).rd 14 rfl))) ?_)))))));refine ae rfl (ab (aa dc rfl) (ae rfl (ab (ar bt rfl (by exact (show _=some (Value.slice b.V s.votes.length b.Vc) from (hk3.from_ (ag.rfl_.next E50)).rd 14 rfl))) ?_)));refine ae rfl (aC kW (oW a.V b.V a.Vc b.Vc s.votes _ (ha.v.1.from_ (((ag.rfl_.next E2).next E3).next E50)) (hb.v.1.from_ (((ag.rfl_.next E2).next E3).next E50)) hl1) ?_);rintro v92 w4 ⟨rfl,E92⟩;refine ab (aM (v:=.bool _) rfl rfl) (mvb rfl (ae rfl (ab (aa cQ rfl) (ae rfl (ab (ar bt rfl (by exact (show _=some (Value.slice a.X s.next.length a.Xc) from (hk2.from_ ((ag.rfl_.next E50).next E92)).rd 15 rfl))) ?_)))));refine ae rfl (ab (aa cQ rfl) (ae rfl (ab (ar bt rfl (by exact (show _=some (Value.slice b.X s.next.length b.Xc) from (hk3.from_ ((ag.rfl_.next E50).next E92)).rd 15 rfl))) ?_)));refine ae rfl (aC kW (oW a.X b.X a.Xc b.Xc s.next _ (ha.x.1.from_ ((((ag.rfl_.next E2).next E3).next E50).next E92)) (hb.x.1.from_ ((((ag.rfl_.next E2).next E3).next E50).next E92)) hl2) ?_);rintro v99 w5 ⟨rfl,E99⟩;refine ab (aM (v:=.bool _) rfl rfl) (mvb rfl (ae rfl (ab (aa cY rfl) (ae rfl (ab (ar bt rfl (by exact (show _=some (Value.slice a.M s.mtch.length a.Mc) from (hk2.from_ (((ag.rfl_.next E50).next E92).next E99)).rd 16 rfl))) ?_)))));refine ae rfl (ab (aa cY rfl) (ae rfl (ab (ar bt rfl (by exact (show _=some (Value.slice b.M s.mtch.length b.Mc) from (hk3.from_ (((ag.rfl_.next E50).next E92).next E99)).rd 16 rfl))) ?_)));refine ae rfl (aC kW (oW a.M b.M a.Mc b.Mc s.mtch _ (ha.m.1.from_ (((((ag.rfl_.next E2).next E3).next E50).next E92).next E99)) (hb.m.1.from_ (((((ag.rfl_.next E2).next E3).next E50).next E92).next E99)) hl3) ?_);rintro v106 w6 ⟨rfl,E106⟩;refine ab (aM (v:=.bool _) rfl rfl) (mvb rfl (ae rfl (ab (aa dd rfl) (ae rfl (ab (ar bt rfl (by exact (show _=some (Value.slice a.S s.sent.length a.Sc) from (hk2.from_ ((((ag.rfl_.next E50).next E92).next E99).next E106)).rd 17 rfl))) ?_)))));refine ae rfl (ab (aa dd rfl) (ae rfl (ab (ar bt rfl (by exact (show _=some (Value.slice b.S s.sent.length b.Sc) from (hk3.from_ ((((ag.rfl_.next E50).next E92).next E99).next E106)).rd 17 rfl))) ?_)));refine ae rfl (aC kW (oW a.S b.S a.Sc b.Sc s.sent _ (ha.n.1.from_ ((((((ag.rfl_.next E2).next E3).next E50).next E92).next E99).next E106)) (hb.n.1.from_ ((((((ag.rfl_.next E2).next E3).next E50).next E92).next E99).next E106)) hl4) ?_);rintro v113 w7 ⟨rfl,E113⟩;refine ab (aM (v:=.bool _) rfl rfl) (mvb rfl (ae rfl (ab (aa dZ rfl) (ae rfl (ab (ar ak rfl (by exact (show _=some (Value.int .i64 s.round) from (hk2.from_ (((((ag.rfl_.next E50).next E92).next E99).next E106).next E113)).rd 18 rfl))) ?_)))));refine ae rfl (ab (aa dZ rfl) (ae rfl (ab (ar ak rfl (by exact (show _=some (Value.int .i64 s.round) from (hk3.from_ (((((ag.rfl_.next E50).next E92).next E99).next E106).next E113)).rd 18 rfl))) ?_)));refine ae rfl (ab (c6 (bf rfl rfl) (beq_self_eq_true _)) (ab (aM (v:=.bool _) rfl rfl) (mvb rfl (ae rfl (ab (aa cf rfl) (ae rfl (ab (ar ed rfl (by exact (show _=some (Value.slice a.Q a.L.length a.Qc) from (hk2.from_ (((((ag.rfl_.next E50).next E92).next E99).next E106).next E113)).rd 19 rfl))) ?_)))))));refine ae rfl (ab (aa cf rfl) (ae rfl ?_));refine ab (ar ed rfl (by have h9:=(hk3.from_ (((((ag.rfl_.next E50).next E92).next E99).next E106).next E113)).rd 19 rfl;exact (show _=some (Value.slice b.Q a.L.length b.Qc) from by rw [hlb];exact h9))) ?_;refine ae rfl (aC yd (tB a.Q b.Q a.Qc b.Qc a.L.length a.L b.L _ (ha.q.from_ (((((((ag.rfl_.next E2).next E3).next E50).next E92).next E99).next E106).next E113)) (hb.q.from_ (((((((ag.rfl_.next E2).next E3).next E50).next E92).next E99).next E106).next E113)) rfl hlb.symm (ha.r.trans hb.r.symm) (fun x hx=>(ha.k x hx).from_ (((((((ag.rfl_.next E2).next E3).next E50).next E92).next E99).next E106).next E113)) (fun x hx=>(hb.k x hx).from_ (((((((ag.rfl_.next E2).next E3).next E50).next E92).next E99).next E106).next E113)) (fun x hx=>hl6 _ (by rw [←ha.r];exact List.mem_map_of_mem hx)) (by omega)) ?_);rintro v127 w8 ⟨rfl,E127⟩;refine ab (aM (v:=.bool _) rfl rfl) (mvb rfl (ae rfl (ab (aa bw rfl) (ae rfl (ab (ar bF rfl (by exact (show _=some (Value.string s.part) from (hk2.from_ ((((((ag.rfl_.next E50).next E92).next E99).next E106).next E113).next E127)).rd 20 rfl))) ?_)))));refine ae rfl (ab (aa bw rfl) (ae rfl (ab (ar bF rfl (by exact (show _=some (Value.string s.part) from (hk3.from_ ((((((ag.rfl_.next E50).next E92).next E99).next E106).next E113).next E127)).rd 20 rfl))) ?_)));refine ae rfl (ab (c6 (la rfl rfl) (beq_self_eq_true _)) (ab (aM (v:=.bool _) rfl rfl) (mvb rfl (ae rfl (ab (aa cA rfl) (ae rfl (ab (ar ak rfl (by exact (show _=some (Value.int .i64 s.partOf) from (hk2.from_ ((((((ag.rfl_.next E50).next E92).next E99).next E106).next E113).next E127)).rd 21 rfl))) ?_)))))));refine ae rfl (ab (aa cA rfl) (ae rfl (ab (ar ak rfl (by exact (show _=some (Value.int .i64 s.partOf) from (hk3.from_ ((((((ag.rfl_.next E50).next E92).next E99).next E106).next E113).next E127)).rd 21 rfl))) ?_)));refine ae rfl (ab (c6 (bf rfl rfl) (beq_self_eq_true _)) (ab (aM (v:=.bool _) rfl rfl) (asb rfl (an (ai (aE (bA (v:=.bool _) rfl rfl (⟨rfl,((((((((ag.rfl_.next E2).next E3).next E50).next E92).next E99).next E106).next E113).next E127)⟩))))))))
theorem jX:js prog 99=some true:=by kernel_rfl
theorem gG:ea prog 99=some 3:=by kernel_rfl
theorem cH:cI prog 39 0=some 0:=by kernel_rfl
theorem vO:aQ prog 90=true:=by kernel_rfl
theorem ln:(gT prog 48).isSome=true:=by kernel_rfl
theorem lp:gT prog 48=some (39,13):=by kernel_rfl
theorem jW:aQ prog 48=true:=by kernel_rfl
theorem n_ {a b:ByteArray}:a.toList=b.toList↔a=b:=by
 refine ⟨fun hh=>?_,fun h=>by rw [h]⟩;rw [ByteArray.toList_eq,ByteArray.toList_eq] at hh;obtain ⟨⟨x⟩⟩:=a;obtain ⟨⟨y⟩⟩:=b
 simp_all
instance:DecidableEq Ent:=fun x y=>decidable_of_iff (x.i=y.i∧x.t=y.t∧x.d=y.d) ⟨fun h=>by cases x;cases y;simp_all,fun h=>by rw [h];exact ⟨rfl,rfl,rfl⟩⟩
theorem AL (a b:Ent) (w:World):(Op.equalIn 10000 99 (.agg #[.int .i64 a.i,.int .i64 a.t,.string a.d]) (.agg #[.int .i64 b.i,.int .i64 b.t,.string b.d])).run prog w=.ok (decide (a=b)) w:=by
 have u3:=Tryz.underlying3;have a3:=Tryz.isAgg3;have z3:=Tryz.sizeOf3;have u9:=Tryz.underlying9;have a9:=Tryz.isAgg9;have z9:=Tryz.sizeOf9;have hS:prog.underlying 99=some (.struct (prog.fieldsOf 99)):=by kernel_rfl
 have hp:prog.stoodInHeld 99=false:=by kernel_rfl
 obtain ⟨i1,t1,d1⟩:=a;obtain ⟨i2,t2,d2⟩:=b;rw [show (10000:Nat)=9999+1 from rfl,run_equalIn_agg w 9999 99 _ _ hS hp];simp only [Program.fieldsOf,Tryz.underlying99 ]
 go_simp
 simp only [n_];by_cases h1:i1=i2 <;> by_cases h2:t1=t2 <;> by_cases h3:d1=d2 <;> simp [h1,h2,h3]
theorem vk {ρ:Operand→Value} {w:World} {yt:TypeId} {x y:Operand} {a b:Ent} (hx:ρ x=.agg #[.int .i64 a.i,.int .i64 a.t,.string a.d]) (hy:ρ y=.agg #[.int .i64 b.i,.int .i64 b.t,.string b.d]):RO prog ρ (.binOp .neq 99 x y yt) w (.bool (!decide (a=b))) w:=by
 refine lI hx hy (run_eqGuard_agg w _ _ _ _ _ _ (by kernel_rfl)) ?_;rw [run_neq_struct,AL];rfl
theorem lh {w:World} {A:Option Addr} {n c:Nat} {es:List Ent} (h:cC w (.slice A n c) es) (hn:0<es.length):∃ b o,A=some ⟨b,o,none⟩∧∀ i (hi:i<es.length),w.rangeAt b (o+i*3) [.int .i64 es[i].i,.int .i64 es[i].t,.string es[i].d]:=by
 obtain ⟨A',c',hv,_,_,_,hp⟩:=h;simp only [Value.slice.injEq] at hv;obtain ⟨rfl,_,_⟩:=hv;obtain ⟨b,o,hA,_,hc⟩:=hp hn;exact ⟨b,o,hA,fun i hi=>zK (hc i hi).1 (hc i hi).2.1 (hc i hi).2.2⟩
theorem Bj (a b:ByteArray):(a.toList==b.toList)=decide (a=b):=by
 rw [Bool.eq_iff_iff,beq_iff_eq,decide_eq_true_eq,n_]
theorem AV (a b:Bool):(a==b)=decide (a=b):=by cases a <;> cases b <;> rfl
theorem yK {es:List Ent}:[]=es↔es.length=0:=by cases es <;> simp
theorem Ad {b:Bool}:false=b↔b.toNat=0:=by cases b <;> simp
theorem xL (A B:Option Addr) (ca cb n m:Nat) (xs ys:List Ent) (w:World) (hn:n=xs.length) (hm:m=ys.length) (h1:cC w (.slice A n ca) xs) (h2:cC w (.slice B m cb) ys) (hl:xs.length≤400000000000) :
 Rt prog 90 [.slice A n ca,.slice B m cb] w (fun v w'=>v=.bool (decide (xs=ys))∧ag w w'):=by
 subst hn hm;refine enter (n:=26) Tryz.func90 rfl rfl rfl (ao (ah (asb rfl (an (ai (ao (ao (ah (mvs rfl (ab (bU cT rfl) (mvs rfl (ab (bU cT rfl) (ab (dm rfl rfl) ?_)))))))))))));refine an (ai (aS rfl (fun Q1=>?_) (fun Q1=>?_)))
 ·replace Q1:=dK Q1;replace Q1:=ec Q1;refine ao (ah (asb rfl (an (ai (aE (aG (bA (v:=.bool _) rfl rfl (⟨congrArg Value.bool (decide_eq_false (fun e=>absurd (congrArg List.length e) (by omega))).symm,ag.rfl_⟩))))))))
 replace Q1:=dL Q1;replace Q1:=eb Q1;have hlen:xs.length=ys.length:=by omega
 refine aO (ai (ao (ao (ah (asi rfl (an (ai (bk (dr (G:=Nat) [4,11,12,13,14,15,16,17,18,19,20,21,22,23,24,25] (fun k=>[(5,.int .i64 (k:Nat))]) (fun k w'=>k≤xs.length∧xs.take k=ys.take k∧ag w w') (fun k=>xs.length-k) (0) ⟨rfl,trivial⟩ ?_ ?_)))))))))
 ·exact ⟨Nat.zero_le _,rfl,ag.rfl_⟩
 rintro k ρ2 w2 ⟨hk,ht,hB⟩;refine ao (ao (ah (mvi rfl (mvs rfl (ab (bU cT rfl) (ab (ch rfl rfl) (an (ai (AT rfl (fun Q3=>?_) (fun Q3=>?_))))))))))
 ·have hkx:k<xs.length:=by omega
  have hky:k<ys.length:=by omega
  obtain ⟨ba,oa,rfl,hca⟩:=lh h1 (by omega);obtain ⟨bb,ob,rfl,hcb⟩:=lh h2 (by omega);refine aO (ai (ao (bk (ao ?_))));apply bK 9 [(17,eqp _),(18,eqp _),(19,eqp _),(20,eqp (.agg #[.int .i64 (xs[k]'hkx).i,.int .i64 (xs[k]'hkx).t,.string (xs[k]'hkx).d])),(21,eqp _),(22,eqp _),(23,eqp _),(24,eqp (.agg #[.int .i64 (ys[k]'hky).i,.int .i64 (ys[k]'hky).t,.string (ys[k]'hky).d])),(25,eqp (.bool (!decide (xs[k]'hkx=ys[k]'hky))))] (by repeat first | exact ct | refine cr ?_ | refine bX ?_) (by kernel_rfl) (by kernel_rfl) ⟨aj _,aj _,aj _,aj _,aj _,aj _,aj _,aj _,aj _,trivial⟩
  case hop=>
   constructor
   ·rintro-w5 D5;exact au (aF (v:=.slice _ _ _) rfl) rfl
   constructor
   ·rintro-w6 D6;exact au (aF (v:=.int _ _) rfl) rfl
   constructor
   ·rintro-w7 D7;rintro _ rfl _ rfl;exact au (b_ dP rfl rfl (by omega)) rfl
   constructor
   ·rintro-w8 D8;rintro _ rfl;exact au (aH (cs:=[.int .i64 xs[k].i,.int .i64 xs[k].t,.string xs[k].d]) jX gG rfl (fB (hB.next D8) (hca k hkx))) rfl
   constructor
   ·rintro-w9 D9;exact au (aF (v:=.slice _ _ _) rfl) rfl
   constructor
   ·rintro-w10 D10;exact au (aF (v:=.int _ _) rfl) rfl
   constructor
   ·rintro-w11 D11;rintro _ rfl _ rfl;exact au (b_ dP rfl rfl (by omega)) rfl
   constructor
   ·rintro-w12 D12;rintro _ rfl;exact au (aH (cs:=[.int .i64 ys[k].i,.int .i64 ys[k].t,.string ys[k].d]) jX gG rfl (fB (hB.next D12) (hcb k hky))) rfl
   constructor
   ·rintro-w13 D13;rintro v13_20 rfl v13_24 rfl;exact au (vk (a:=xs[k]) (b:=ys[k]) rfl rfl) rfl
   exact trivial
  case hend=>
   intro w14 D14;rintro _ rfl _ rfl _ rfl v20 rfl _ rfl _ rfl _ rfl v24 rfl v25 rfl;show St ..;refine an (ai (aS rfl (fun Q15=>?_) (fun Q15=>?_)))
   ·replace Q15:=dK Q15;replace Q15:=dF_ Q15;have hne:¬ xs[k]=ys[k]:=by simpa using Q15
    refine ao (ah (asb rfl (an (ai (aE (bG (aG (aG (bG (aG (bA (v:=.bool _) rfl rfl (⟨congrArg Value.bool (decide_eq_false (fun e=>by subst e;exact hne rfl)).symm,(hB.next D14)⟩))))))))))))
   replace Q15:=dL Q15;replace Q15:=dT_ Q15;have heq:xs[k]=ys[k]:=by simpa using Q15
   refine aO (bN (ai (ah (mvi rfl (ab (dD (b:=1) rfl rfl (by omega)) (asi rfl (an ?_)))))));refine bL (k+1) ⟨(by first | rfl | (refine bT ?_;omega)),trivial⟩ (by (iterate 33 refine bd rfl ?_);exact br) ⟨?_,?_⟩
   ·exact ⟨by omega,ux hkx hky ht heq,(hB.next D14)⟩
   ·omega
 refine cL (bB (bB (cw (ai (ao (ah (asb rfl (an (ai (aE (bA (v:=.bool _) rfl rfl (⟨congrArg Value.bool (decide_eq_true (zu hlen (by omega) ht)).symm,hB⟩))))))))))))
theorem uT (k f t tm ix lt cm rd:Int) (ok:Bool) (E:Option Addr) (n c:Nat) (a:Int) (d:ByteArray) (dn:Bool) (k2 f2 t2 tm2 ix2 lt2 cm2 rd2:Int) (ok2:Bool) (Eb:Option Addr) (n2 c2:Nat) (a2:Int) (d2:ByteArray) (dn2:Bool) (w:World) (es es2:List Ent) (hn:n=es.length) (hn2:n2=es2.length) (he:cC w (.slice E n c) es) (he2:cC w (.slice Eb n2 c2) es2) (hl:es.length≤400000000000) :
 Rt prog 48 [.agg #[.int .i64 k,.int .i64 f,.int .i64 t,.int .i64 tm,.int .i64 ix,.int .i64 lt,.int .i64 cm,.int .i64 rd,.bool ok,.slice E n c,.int .i64 a,.string d,.bool dn],.agg #[.int .i64 k2,.int .i64 f2,.int .i64 t2,.int .i64 tm2,.int .i64 ix2,.int .i64 lt2,.int .i64 cm2,.int .i64 rd2,.bool ok2,.slice Eb n2 c2,.int .i64 a2,.string d2,.bool dn2]] w (fun v w'=>v=.bool (decide (k=k2∧f=f2∧t=t2∧tm=tm2∧ix=ix2∧lt=lt2∧cm=cm2∧rd=rd2∧ok=ok2∧es=es2∧a=a2∧d=d2∧dn=dn2))∧ag w w'):=by
 refine enter (n:=94) Tryz.func48 rfl rfl rfl (ao (ah (bZ (v:=.agg _) rfl ?_)));intro b2 w1 E2 hb2 hk2;refine bZ (v:=.agg _) rfl ?_;intro b3 w2 E3 hb3 hk3;replace hk2:=hk2.from_ E3;refine asb rfl (an (ai (ao (ah (ab (aa cH rfl) (ab (ar ak rfl (by exact (hk2.from_ ag.rfl_).rd 0 rfl)) ?_))))));refine ab (aa cH rfl) (ab (ar ak rfl (by exact (hk3.from_ ag.rfl_).rd 0 rfl)) ?_);refine ab (bf rfl rfl) (mvb rfl (Ao (t:=10) rfl (fun Q3=>?_) (fun Q3=>?_)))
 ·have q0:=Q3;refine ae rfl (ab (aa bY rfl) (ae rfl (ab (ar ak rfl (by exact (hk2.from_ ag.rfl_).rd 1 rfl)) ?_)));refine ae rfl (ab (aa bY rfl) (ae rfl (ab (ar ak rfl (by exact (hk3.from_ ag.rfl_).rd 1 rfl)) ?_)));refine ae rfl (ab (bf rfl rfl) (ab (aM (v:=.bool _) rfl rfl) (mvb rfl (Ao (t:=17) rfl (fun Q4=>?_) (fun Q4=>?_)))))
  ·have q1:=Q4;refine ae rfl (ab (aa ew rfl) (ae rfl (ab (ar ak rfl (by exact (hk2.from_ ag.rfl_).rd 2 rfl)) ?_)));refine ae rfl (ab (aa ew rfl) (ae rfl (ab (ar ak rfl (by exact (hk3.from_ ag.rfl_).rd 2 rfl)) ?_)));refine ae rfl (ab (bf rfl rfl) (ab (aM (v:=.bool _) rfl rfl) (mvb rfl (Ao (t:=24) rfl (fun Q5=>?_) (fun Q5=>?_)))))
   ·have q2:=Q5;refine ae rfl (ab (aa bI rfl) (ae rfl (ab (ar ak rfl (by exact (hk2.from_ ag.rfl_).rd 3 rfl)) ?_)));refine ae rfl (ab (aa bI rfl) (ae rfl (ab (ar ak rfl (by exact (hk3.from_ ag.rfl_).rd 3 rfl)) ?_)));refine ae rfl (ab (bf rfl rfl) (ab (aM (v:=.bool _) rfl rfl) (mvb rfl (Ao (t:=31) rfl (fun Q6=>?_) (fun Q6=>?_)))))
    ·have q3:=Q6;refine ae rfl (ab (aa bJ rfl) (ae rfl (ab (ar ak rfl (by exact (hk2.from_ ag.rfl_).rd 4 rfl)) ?_)));refine ae rfl (ab (aa bJ rfl) (ae rfl (ab (ar ak rfl (by exact (hk3.from_ ag.rfl_).rd 4 rfl)) ?_)));refine ae rfl (ab (bf rfl rfl) (ab (aM (v:=.bool _) rfl rfl) (mvb rfl (Ao (t:=38) rfl (fun Q7=>?_) (fun Q7=>?_)))))
     ·have q4:=Q7;refine ae rfl (ab (aa cG rfl) (ae rfl (ab (ar ak rfl (by exact (hk2.from_ ag.rfl_).rd 5 rfl)) ?_)));refine ae rfl (ab (aa cG rfl) (ae rfl (ab (ar ak rfl (by exact (hk3.from_ ag.rfl_).rd 5 rfl)) ?_)));refine ae rfl (ab (bf rfl rfl) (ab (aM (v:=.bool _) rfl rfl) (mvb rfl (Ao (t:=45) rfl (fun Q8=>?_) (fun Q8=>?_)))))
      ·have q5:=Q8;refine ae rfl (ab (aa iA rfl) (ae rfl (ab (ar ak rfl (by exact (hk2.from_ ag.rfl_).rd 6 rfl)) ?_)));refine ae rfl (ab (aa iA rfl) (ae rfl (ab (ar ak rfl (by exact (hk3.from_ ag.rfl_).rd 6 rfl)) ?_)));refine ae rfl (ab (bf rfl rfl) (ab (aM (v:=.bool _) rfl rfl) (mvb rfl (Ao (t:=52) rfl (fun Q9=>?_) (fun Q9=>?_)))))
       ·have q6:=Q9;refine ae rfl (ab (aa dk rfl) (ae rfl (ab (ar ak rfl (by exact (hk2.from_ ag.rfl_).rd 7 rfl)) ?_)));refine ae rfl (ab (aa dk rfl) (ae rfl (ab (ar ak rfl (by exact (hk3.from_ ag.rfl_).rd 7 rfl)) ?_)));refine ae rfl (ab (bf rfl rfl) (ab (aM (v:=.bool _) rfl rfl) (mvb rfl (Ao (t:=59) rfl (fun Q10=>?_) (fun Q10=>?_)))))
        ·have q7:=Q10;refine ae rfl (ab (aa kT rfl) (ae rfl (ab (ar ft rfl (by exact (hk2.from_ ag.rfl_).rd 8 rfl)) ?_)));refine ae rfl (ab (aa kT rfl) (ae rfl (ab (ar ft rfl (by exact (hk3.from_ ag.rfl_).rd 8 rfl)) ?_)));refine ae rfl (ab (iY (uD (by kernel_rfl) rfl rfl) (congrArg Value.bool (AV ok ok2))) (ab (aM (v:=.bool _) rfl rfl) (mvb rfl (Ap (t:=66) rfl (fun Q11=>?_) (fun Q11=>?_)))))
         ·have q8:=Q11;refine ae rfl (ab (aa dz rfl) (ae rfl (ab (ar bR rfl (by exact (hk2.from_ ag.rfl_).rd 9 rfl)) ?_)));refine ae rfl (ab (aa dz rfl) (ae rfl (ab (ar bR rfl (by exact (hk3.from_ ag.rfl_).rd 9 rfl)) ?_)));refine ae rfl (aC vO (xL E Eb c c2 n n2 es es2 _ hn hn2 (he.from_ ((ag.rfl_.next E2).next E3)) (he2.from_ ((ag.rfl_.next E2).next E3)) hl) ?_);rintro v71 w12 ⟨rfl,E71⟩;refine ab (aM (v:=.bool _) rfl rfl) (mvb rfl (Ap (t:=73) rfl (fun Q13=>?_) (fun Q13=>?_)))
          ·have q9:=Q13;refine ae rfl (ab (aa cF rfl) (ae rfl (ab (ar ak rfl (by exact (hk2.from_ (ag.rfl_.next E71)).rd 10 rfl)) ?_)));refine ae rfl (ab (aa cF rfl) (ae rfl (ab (ar ak rfl (by exact (hk3.from_ (ag.rfl_.next E71)).rd 10 rfl)) ?_)));refine ae rfl (ab (bf rfl rfl) (ab (aM (v:=.bool _) rfl rfl) (mvb rfl (Ao (t:=80) rfl (fun Q14=>?_) (fun Q14=>?_)))))
           ·have q10:=Q14;refine ae rfl (ab (aa dC rfl) (ae rfl (ab (ar bF rfl (by exact (hk2.from_ (ag.rfl_.next E71)).rd 11 rfl)) ?_)));refine ae rfl (ab (aa dC rfl) (ae rfl (ab (ar bF rfl (by exact (hk3.from_ (ag.rfl_.next E71)).rd 11 rfl)) ?_)));refine ae rfl (ab (iY (la rfl rfl) (congrArg Value.bool (Bj d d2))) (ab (aM (v:=.bool _) rfl rfl) (mvb rfl (Ap (t:=87) rfl (fun Q15=>?_) (fun Q15=>?_)))))
            ·have q11:=Q15;refine ae rfl (ab (aa fp rfl) (ae rfl (ab (ar ft rfl (by exact (hk2.from_ (ag.rfl_.next E71)).rd 12 rfl)) ?_)));refine ae rfl (ab (aa fp rfl) (ae rfl (ab (ar ft rfl (by exact (hk3.from_ (ag.rfl_.next E71)).rd 12 rfl)) ?_)));refine ae rfl (ab (iY (uD (by kernel_rfl) rfl rfl) (congrArg Value.bool (AV dn dn2))) (ab (aM (v:=.bool _) rfl rfl) (asb rfl (an (ai (aE (bA (v:=.bool _) rfl rfl (⟨congrArg Value.bool ?_,(((ag.rfl_.next E2).next E3).next E71)⟩))))))))
             first
              |exact (decide_eq_false hno).symm
              |(rw [decide_eq_decide];exact ⟨fun h=>⟨q0,q1,q2,q3,q4,q5,q6,q7,q8,q9,q10,q11,h⟩,fun h=>h.2.2.2.2.2.2.2.2.2.2.2.2⟩)
            have hno:¬ (k=k2∧f=f2∧t=t2∧tm=tm2∧ix=ix2∧lt=lt2∧cm=cm2∧rd=rd2∧ok=ok2∧es=es2∧a=a2∧d=d2∧dn=dn2):=fun e=>Q15 e.2.2.2.2.2.2.2.2.2.2.2.1
            refine aq rfl rfl (aq rfl rfl (aq rfl rfl (aq rfl rfl (aq rfl rfl (ab (ay (v:=.bool _) rfl rfl) (asb rfl (an (ai (aE (bA (v:=.bool _) rfl rfl ?_))))))))));refine ⟨congrArg Value.bool ?_,(((ag.rfl_.next E2).next E3).next E71)⟩
            first
             |exact (decide_eq_false hno).symm
             |(rw [decide_eq_decide];exact ⟨fun h=>⟨q0,q1,q2,q3,q4,q5,q6,q7,q8,q9,q10,q11,h⟩,fun h=>h.2.2.2.2.2.2.2.2.2.2.2.2⟩)
           have hno:¬ (k=k2∧f=f2∧t=t2∧tm=tm2∧ix=ix2∧lt=lt2∧cm=cm2∧rd=rd2∧ok=ok2∧es=es2∧a=a2∧d=d2∧dn=dn2):=fun e=>Q14 e.2.2.2.2.2.2.2.2.2.2.1
           refine aq rfl rfl (aq rfl rfl (aq rfl rfl (aq rfl rfl (aq rfl rfl (ab (ay (v:=.bool _) rfl rfl) (mvb rfl (aq rfl rfl (aq rfl rfl ?_))))))));refine aq rfl rfl (aq rfl rfl (aq rfl rfl (ab (ay (v:=.bool _) rfl rfl) (asb rfl (an (ai (aE (bA (v:=.bool _) rfl rfl (⟨congrArg Value.bool ?_,(((ag.rfl_.next E2).next E3).next E71)⟩)))))))))
           first
            |exact (decide_eq_false hno).symm
            |(rw [decide_eq_decide];exact ⟨fun h=>⟨q0,q1,q2,q3,q4,q5,q6,q7,q8,q9,q10,q11,h⟩,fun h=>h.2.2.2.2.2.2.2.2.2.2.2.2⟩)
          have hno:¬ (k=k2∧f=f2∧t=t2∧tm=tm2∧ix=ix2∧lt=lt2∧cm=cm2∧rd=rd2∧ok=ok2∧es=es2∧a=a2∧d=d2∧dn=dn2):=fun e=>Q13 e.2.2.2.2.2.2.2.2.2.1
          refine aq rfl rfl (aq rfl rfl (aq rfl rfl (aq rfl rfl (aq rfl rfl (ab (ay (v:=.bool _) rfl rfl) (mvb rfl (aq rfl rfl (aq rfl rfl ?_))))))));refine aq rfl rfl (aq rfl rfl (aq rfl rfl (ab (ay (v:=.bool _) rfl rfl) (mvb rfl (aq rfl rfl (aq rfl rfl (aq rfl rfl (aq rfl rfl ?_))))))));refine aq rfl rfl (ab (ay (v:=.bool _) rfl rfl) (asb rfl (an (ai (aE (bA (v:=.bool _) rfl rfl (⟨congrArg Value.bool ?_,(((ag.rfl_.next E2).next E3).next E71)⟩)))))))
          first
           |exact (decide_eq_false hno).symm
           |(rw [decide_eq_decide];exact ⟨fun h=>⟨q0,q1,q2,q3,q4,q5,q6,q7,q8,q9,q10,q11,h⟩,fun h=>h.2.2.2.2.2.2.2.2.2.2.2.2⟩)
         have hno:¬ (k=k2∧f=f2∧t=t2∧tm=tm2∧ix=ix2∧lt=lt2∧cm=cm2∧rd=rd2∧ok=ok2∧es=es2∧a=a2∧d=d2∧dn=dn2):=fun e=>Q11 e.2.2.2.2.2.2.2.2.1
         refine aq rfl rfl (aq rfl rfl (aq rfl rfl (aq rfl rfl (aq rfl rfl (ab (ay (v:=.bool _) rfl rfl) (mvb rfl (aq rfl rfl (aq rfl rfl ?_))))))));refine aq rfl rfl (aq rfl rfl (aq rfl rfl (ab (ay (v:=.bool _) rfl rfl) (mvb rfl (aq rfl rfl (aq rfl rfl (aq rfl rfl (aq rfl rfl ?_))))))));refine aq rfl rfl (ab (ay (v:=.bool _) rfl rfl) (mvb rfl (aq rfl rfl (aq rfl rfl (aq rfl rfl (aq rfl rfl (aq rfl rfl (ab (ay (v:=.bool _) rfl rfl) ?_))))))));refine asb rfl (an (ai (aE (bA (v:=.bool _) rfl rfl (⟨congrArg Value.bool ?_,((ag.rfl_.next E2).next E3)⟩)))))
         first
          |exact (decide_eq_false hno).symm
          |(rw [decide_eq_decide];exact ⟨fun h=>⟨q0,q1,q2,q3,q4,q5,q6,q7,q8,q9,q10,q11,h⟩,fun h=>h.2.2.2.2.2.2.2.2.2.2.2.2⟩)
        have hno:¬ (k=k2∧f=f2∧t=t2∧tm=tm2∧ix=ix2∧lt=lt2∧cm=cm2∧rd=rd2∧ok=ok2∧es=es2∧a=a2∧d=d2∧dn=dn2):=fun e=>Q10 e.2.2.2.2.2.2.2.1
        refine aq rfl rfl (aq rfl rfl (aq rfl rfl (aq rfl rfl (aq rfl rfl (ab (ay (v:=.bool _) rfl rfl) (mvb rfl (aq rfl rfl (aq rfl rfl ?_))))))));refine aq rfl rfl (aq rfl rfl (aq rfl rfl (ab (ay (v:=.bool _) rfl rfl) (mvb rfl (aq rfl rfl (aq rfl rfl (aq rfl rfl (aq rfl rfl ?_))))))));refine aq rfl rfl (ab (ay (v:=.bool _) rfl rfl) (mvb rfl (aq rfl rfl (aq rfl rfl (aq rfl rfl (aq rfl rfl (aq rfl rfl (ab (ay (v:=.bool _) rfl rfl) ?_))))))));refine mvb rfl (aq rfl rfl (aq rfl rfl (aq rfl rfl (aq rfl rfl (aq rfl rfl (ab (ay (v:=.bool _) rfl rfl) (asb rfl (an (ai (aE ?_))))))))));refine bA (v:=.bool _) rfl rfl (⟨congrArg Value.bool ?_,((ag.rfl_.next E2).next E3)⟩)
        first
         |exact (decide_eq_false hno).symm
         |(rw [decide_eq_decide];exact ⟨fun h=>⟨q0,q1,q2,q3,q4,q5,q6,q7,q8,q9,q10,q11,h⟩,fun h=>h.2.2.2.2.2.2.2.2.2.2.2.2⟩)
       have hno:¬ (k=k2∧f=f2∧t=t2∧tm=tm2∧ix=ix2∧lt=lt2∧cm=cm2∧rd=rd2∧ok=ok2∧es=es2∧a=a2∧d=d2∧dn=dn2):=fun e=>Q9 e.2.2.2.2.2.2.1
       refine aq rfl rfl (aq rfl rfl (aq rfl rfl (aq rfl rfl (aq rfl rfl (ab (ay (v:=.bool _) rfl rfl) (mvb rfl (aq rfl rfl (aq rfl rfl ?_))))))));refine aq rfl rfl (aq rfl rfl (aq rfl rfl (ab (ay (v:=.bool _) rfl rfl) (mvb rfl (aq rfl rfl (aq rfl rfl (aq rfl rfl (aq rfl rfl ?_))))))));refine aq rfl rfl (ab (ay (v:=.bool _) rfl rfl) (mvb rfl (aq rfl rfl (aq rfl rfl (aq rfl rfl (aq rfl rfl (aq rfl rfl (ab (ay (v:=.bool _) rfl rfl) ?_))))))));refine mvb rfl (aq rfl rfl (aq rfl rfl (aq rfl rfl (aq rfl rfl (aq rfl rfl (ab (ay (v:=.bool _) rfl rfl) (mvb rfl (aq rfl rfl ?_))))))));refine aq rfl rfl (aq rfl rfl (aq rfl rfl (aq rfl rfl (ab (ay (v:=.bool _) rfl rfl) (asb rfl (an (ai (aE (bA (v:=.bool _) rfl rfl (⟨congrArg Value.bool ?_,((ag.rfl_.next E2).next E3)⟩))))))))))
       first
        |exact (decide_eq_false hno).symm
        |(rw [decide_eq_decide];exact ⟨fun h=>⟨q0,q1,q2,q3,q4,q5,q6,q7,q8,q9,q10,q11,h⟩,fun h=>h.2.2.2.2.2.2.2.2.2.2.2.2⟩)
      have hno:¬ (k=k2∧f=f2∧t=t2∧tm=tm2∧ix=ix2∧lt=lt2∧cm=cm2∧rd=rd2∧ok=ok2∧es=es2∧a=a2∧d=d2∧dn=dn2):=fun e=>Q8 e.2.2.2.2.2.1
      refine aq rfl rfl (aq rfl rfl (aq rfl rfl (aq rfl rfl (aq rfl rfl (ab (ay (v:=.bool _) rfl rfl) (mvb rfl (aq rfl rfl (aq rfl rfl ?_))))))));refine aq rfl rfl (aq rfl rfl (aq rfl rfl (ab (ay (v:=.bool _) rfl rfl) (mvb rfl (aq rfl rfl (aq rfl rfl (aq rfl rfl (aq rfl rfl ?_))))))));refine aq rfl rfl (ab (ay (v:=.bool _) rfl rfl) (mvb rfl (aq rfl rfl (aq rfl rfl (aq rfl rfl (aq rfl rfl (aq rfl rfl (ab (ay (v:=.bool _) rfl rfl) ?_))))))));refine mvb rfl (aq rfl rfl (aq rfl rfl (aq rfl rfl (aq rfl rfl (aq rfl rfl (ab (ay (v:=.bool _) rfl rfl) (mvb rfl (aq rfl rfl ?_))))))));refine aq rfl rfl (aq rfl rfl (aq rfl rfl (aq rfl rfl (ab (ay (v:=.bool _) rfl rfl) (mvb rfl (aq rfl rfl (aq rfl rfl (aq rfl rfl ?_))))))));refine aq rfl rfl (aq rfl rfl (ab (ay (v:=.bool _) rfl rfl) (asb rfl (an (ai (aE (bA (v:=.bool _) rfl rfl (⟨congrArg Value.bool ?_,((ag.rfl_.next E2).next E3)⟩))))))))
      first
       |exact (decide_eq_false hno).symm
       |(rw [decide_eq_decide];exact ⟨fun h=>⟨q0,q1,q2,q3,q4,q5,q6,q7,q8,q9,q10,q11,h⟩,fun h=>h.2.2.2.2.2.2.2.2.2.2.2.2⟩)
     have hno:¬ (k=k2∧f=f2∧t=t2∧tm=tm2∧ix=ix2∧lt=lt2∧cm=cm2∧rd=rd2∧ok=ok2∧es=es2∧a=a2∧d=d2∧dn=dn2):=fun e=>Q7 e.2.2.2.2.1
     refine aq rfl rfl (aq rfl rfl (aq rfl rfl (aq rfl rfl (aq rfl rfl (ab (ay (v:=.bool _) rfl rfl) (mvb rfl (aq rfl rfl (aq rfl rfl ?_))))))));refine aq rfl rfl (aq rfl rfl (aq rfl rfl (ab (ay (v:=.bool _) rfl rfl) (mvb rfl (aq rfl rfl (aq rfl rfl (aq rfl rfl (aq rfl rfl ?_))))))));refine aq rfl rfl (ab (ay (v:=.bool _) rfl rfl) (mvb rfl (aq rfl rfl (aq rfl rfl (aq rfl rfl (aq rfl rfl (aq rfl rfl (ab (ay (v:=.bool _) rfl rfl) ?_))))))));refine mvb rfl (aq rfl rfl (aq rfl rfl (aq rfl rfl (aq rfl rfl (aq rfl rfl (ab (ay (v:=.bool _) rfl rfl) (mvb rfl (aq rfl rfl ?_))))))));refine aq rfl rfl (aq rfl rfl (aq rfl rfl (aq rfl rfl (ab (ay (v:=.bool _) rfl rfl) (mvb rfl (aq rfl rfl (aq rfl rfl (aq rfl rfl ?_))))))));refine aq rfl rfl (aq rfl rfl (ab (ay (v:=.bool _) rfl rfl) (mvb rfl (aq rfl rfl (aq rfl rfl (aq rfl rfl (aq rfl rfl (aq rfl rfl ?_))))))));refine ab (ay (v:=.bool _) rfl rfl) (asb rfl (an (ai (aE (bA (v:=.bool _) rfl rfl (⟨congrArg Value.bool ?_,((ag.rfl_.next E2).next E3)⟩))))))
     first
      |exact (decide_eq_false hno).symm
      |(rw [decide_eq_decide];exact ⟨fun h=>⟨q0,q1,q2,q3,q4,q5,q6,q7,q8,q9,q10,q11,h⟩,fun h=>h.2.2.2.2.2.2.2.2.2.2.2.2⟩)
    have hno:¬ (k=k2∧f=f2∧t=t2∧tm=tm2∧ix=ix2∧lt=lt2∧cm=cm2∧rd=rd2∧ok=ok2∧es=es2∧a=a2∧d=d2∧dn=dn2):=fun e=>Q6 e.2.2.2.1
    refine aq rfl rfl (aq rfl rfl (aq rfl rfl (aq rfl rfl (aq rfl rfl (ab (ay (v:=.bool _) rfl rfl) (mvb rfl (aq rfl rfl (aq rfl rfl ?_))))))));refine aq rfl rfl (aq rfl rfl (aq rfl rfl (ab (ay (v:=.bool _) rfl rfl) (mvb rfl (aq rfl rfl (aq rfl rfl (aq rfl rfl (aq rfl rfl ?_))))))));refine aq rfl rfl (ab (ay (v:=.bool _) rfl rfl) (mvb rfl (aq rfl rfl (aq rfl rfl (aq rfl rfl (aq rfl rfl (aq rfl rfl (ab (ay (v:=.bool _) rfl rfl) ?_))))))));refine mvb rfl (aq rfl rfl (aq rfl rfl (aq rfl rfl (aq rfl rfl (aq rfl rfl (ab (ay (v:=.bool _) rfl rfl) (mvb rfl (aq rfl rfl ?_))))))));refine aq rfl rfl (aq rfl rfl (aq rfl rfl (aq rfl rfl (ab (ay (v:=.bool _) rfl rfl) (mvb rfl (aq rfl rfl (aq rfl rfl (aq rfl rfl ?_))))))));refine aq rfl rfl (aq rfl rfl (ab (ay (v:=.bool _) rfl rfl) (mvb rfl (aq rfl rfl (aq rfl rfl (aq rfl rfl (aq rfl rfl (aq rfl rfl ?_))))))));refine ab (ay (v:=.bool _) rfl rfl) (mvb rfl (aq rfl rfl (aq rfl rfl (aq rfl rfl (aq rfl rfl (aq rfl rfl (ab (ay (v:=.bool _) rfl rfl) (asb rfl ?_))))))));refine an (ai (aE (bA (v:=.bool _) rfl rfl (⟨congrArg Value.bool ?_,((ag.rfl_.next E2).next E3)⟩))))
    first
     |exact (decide_eq_false hno).symm
     |(rw [decide_eq_decide];exact ⟨fun h=>⟨q0,q1,q2,q3,q4,q5,q6,q7,q8,q9,q10,q11,h⟩,fun h=>h.2.2.2.2.2.2.2.2.2.2.2.2⟩)
   have hno:¬ (k=k2∧f=f2∧t=t2∧tm=tm2∧ix=ix2∧lt=lt2∧cm=cm2∧rd=rd2∧ok=ok2∧es=es2∧a=a2∧d=d2∧dn=dn2):=fun e=>Q5 e.2.2.1
   refine aq rfl rfl (aq rfl rfl (aq rfl rfl (aq rfl rfl (aq rfl rfl (ab (ay (v:=.bool _) rfl rfl) (mvb rfl (aq rfl rfl (aq rfl rfl ?_))))))));refine aq rfl rfl (aq rfl rfl (aq rfl rfl (ab (ay (v:=.bool _) rfl rfl) (mvb rfl (aq rfl rfl (aq rfl rfl (aq rfl rfl (aq rfl rfl ?_))))))));refine aq rfl rfl (ab (ay (v:=.bool _) rfl rfl) (mvb rfl (aq rfl rfl (aq rfl rfl (aq rfl rfl (aq rfl rfl (aq rfl rfl (ab (ay (v:=.bool _) rfl rfl) ?_))))))));refine mvb rfl (aq rfl rfl (aq rfl rfl (aq rfl rfl (aq rfl rfl (aq rfl rfl (ab (ay (v:=.bool _) rfl rfl) (mvb rfl (aq rfl rfl ?_))))))));refine aq rfl rfl (aq rfl rfl (aq rfl rfl (aq rfl rfl (ab (ay (v:=.bool _) rfl rfl) (mvb rfl (aq rfl rfl (aq rfl rfl (aq rfl rfl ?_))))))));refine aq rfl rfl (aq rfl rfl (ab (ay (v:=.bool _) rfl rfl) (mvb rfl (aq rfl rfl (aq rfl rfl (aq rfl rfl (aq rfl rfl (aq rfl rfl ?_))))))));refine ab (ay (v:=.bool _) rfl rfl) (mvb rfl (aq rfl rfl (aq rfl rfl (aq rfl rfl (aq rfl rfl (aq rfl rfl (ab (ay (v:=.bool _) rfl rfl) (mvb rfl ?_))))))));refine aq rfl rfl (aq rfl rfl (aq rfl rfl (aq rfl rfl (aq rfl rfl (ab (ay (v:=.bool _) rfl rfl) (asb rfl (an (ai (aE (bA (v:=.bool _) rfl rfl ?_))))))))));refine ⟨congrArg Value.bool ?_,((ag.rfl_.next E2).next E3)⟩
   first
    |exact (decide_eq_false hno).symm
    |(rw [decide_eq_decide];exact ⟨fun h=>⟨q0,q1,q2,q3,q4,q5,q6,q7,q8,q9,q10,q11,h⟩,fun h=>h.2.2.2.2.2.2.2.2.2.2.2.2⟩)
  have hno:¬ (k=k2∧f=f2∧t=t2∧tm=tm2∧ix=ix2∧lt=lt2∧cm=cm2∧rd=rd2∧ok=ok2∧es=es2∧a=a2∧d=d2∧dn=dn2):=fun e=>Q4 e.2.1
  refine aq rfl rfl (aq rfl rfl (aq rfl rfl (aq rfl rfl (aq rfl rfl (ab (ay (v:=.bool _) rfl rfl) (mvb rfl (aq rfl rfl (aq rfl rfl ?_))))))));refine aq rfl rfl (aq rfl rfl (aq rfl rfl (ab (ay (v:=.bool _) rfl rfl) (mvb rfl (aq rfl rfl (aq rfl rfl (aq rfl rfl (aq rfl rfl ?_))))))));refine aq rfl rfl (ab (ay (v:=.bool _) rfl rfl) (mvb rfl (aq rfl rfl (aq rfl rfl (aq rfl rfl (aq rfl rfl (aq rfl rfl (ab (ay (v:=.bool _) rfl rfl) ?_))))))));refine mvb rfl (aq rfl rfl (aq rfl rfl (aq rfl rfl (aq rfl rfl (aq rfl rfl (ab (ay (v:=.bool _) rfl rfl) (mvb rfl (aq rfl rfl ?_))))))));refine aq rfl rfl (aq rfl rfl (aq rfl rfl (aq rfl rfl (ab (ay (v:=.bool _) rfl rfl) (mvb rfl (aq rfl rfl (aq rfl rfl (aq rfl rfl ?_))))))));refine aq rfl rfl (aq rfl rfl (ab (ay (v:=.bool _) rfl rfl) (mvb rfl (aq rfl rfl (aq rfl rfl (aq rfl rfl (aq rfl rfl (aq rfl rfl ?_))))))));refine ab (ay (v:=.bool _) rfl rfl) (mvb rfl (aq rfl rfl (aq rfl rfl (aq rfl rfl (aq rfl rfl (aq rfl rfl (ab (ay (v:=.bool _) rfl rfl) (mvb rfl ?_))))))));refine aq rfl rfl (aq rfl rfl (aq rfl rfl (aq rfl rfl (aq rfl rfl (ab (ay (v:=.bool _) rfl rfl) (mvb rfl (aq rfl rfl (aq rfl rfl ?_))))))));refine aq rfl rfl (aq rfl rfl (aq rfl rfl (ab (ay (v:=.bool _) rfl rfl) (asb rfl (an (ai (aE (bA (v:=.bool _) rfl rfl (⟨congrArg Value.bool ?_,((ag.rfl_.next E2).next E3)⟩)))))))))
  first
   |exact (decide_eq_false hno).symm
   |(rw [decide_eq_decide];exact ⟨fun h=>⟨q0,q1,q2,q3,q4,q5,q6,q7,q8,q9,q10,q11,h⟩,fun h=>h.2.2.2.2.2.2.2.2.2.2.2.2⟩)
 have hno:¬ (k=k2∧f=f2∧t=t2∧tm=tm2∧ix=ix2∧lt=lt2∧cm=cm2∧rd=rd2∧ok=ok2∧es=es2∧a=a2∧d=d2∧dn=dn2):=fun e=>Q3 e.1
 refine aq rfl rfl (aq rfl rfl (aq rfl rfl (aq rfl rfl (aq rfl rfl (ab (ay (v:=.bool _) rfl rfl) (mvb rfl (aq rfl rfl (aq rfl rfl ?_))))))));refine aq rfl rfl (aq rfl rfl (aq rfl rfl (ab (ay (v:=.bool _) rfl rfl) (mvb rfl (aq rfl rfl (aq rfl rfl (aq rfl rfl (aq rfl rfl ?_))))))));refine aq rfl rfl (ab (ay (v:=.bool _) rfl rfl) (mvb rfl (aq rfl rfl (aq rfl rfl (aq rfl rfl (aq rfl rfl (aq rfl rfl (ab (ay (v:=.bool _) rfl rfl) ?_))))))));refine mvb rfl (aq rfl rfl (aq rfl rfl (aq rfl rfl (aq rfl rfl (aq rfl rfl (ab (ay (v:=.bool _) rfl rfl) (mvb rfl (aq rfl rfl ?_))))))));refine aq rfl rfl (aq rfl rfl (aq rfl rfl (aq rfl rfl (ab (ay (v:=.bool _) rfl rfl) (mvb rfl (aq rfl rfl (aq rfl rfl (aq rfl rfl ?_))))))));refine aq rfl rfl (aq rfl rfl (ab (ay (v:=.bool _) rfl rfl) (mvb rfl (aq rfl rfl (aq rfl rfl (aq rfl rfl (aq rfl rfl (aq rfl rfl ?_))))))));refine ab (ay (v:=.bool _) rfl rfl) (mvb rfl (aq rfl rfl (aq rfl rfl (aq rfl rfl (aq rfl rfl (aq rfl rfl (ab (ay (v:=.bool _) rfl rfl) (mvb rfl ?_))))))));refine aq rfl rfl (aq rfl rfl (aq rfl rfl (aq rfl rfl (aq rfl rfl (ab (ay (v:=.bool _) rfl rfl) (mvb rfl (aq rfl rfl (aq rfl rfl ?_))))))));refine aq rfl rfl (aq rfl rfl (aq rfl rfl (ab (ay (v:=.bool _) rfl rfl) (mvb rfl (aq rfl rfl (aq rfl rfl (aq rfl rfl (aq rfl rfl ?_))))))));refine aq rfl rfl (ab (ay (v:=.bool _) rfl rfl) (asb rfl (an (ai (aE (bA (v:=.bool _) rfl rfl (⟨congrArg Value.bool ?_,((ag.rfl_.next E2).next E3)⟩)))))))
 first
  |exact (decide_eq_false hno).symm
  |(rw [decide_eq_decide];exact ⟨fun h=>⟨q0,q1,q2,q3,q4,q5,q6,q7,q8,q9,q10,q11,h⟩,fun h=>h.2.2.2.2.2.2.2.2.2.2.2.2⟩)
theorem nV (x y:Msg) (w:World) (h:pl x=pl y) (hx:cC w (.slice x.E x.es.length x.c) x.es) (hy:cC w (.slice y.E y.es.length y.c) y.es) (hl:x.es.length≤1000000) :
 Rt prog 48 [.agg (bC x).toArray,.agg (bC y).toArray] w fun v w'=>v=.bool true∧ag w w':=
 (uT x.k x.f x.t x.tm x.ix x.lt x.cm x.rd x.ok x.E x.es.length x.c x.a x.d x.dn y.k y.f y.t y.tm y.ix y.lt y.cm y.rd y.ok y.E y.es.length y.c y.a y.d y.dn w x.es y.es rfl rfl hx hy (by omega)).mono fun v w' hv=>⟨by
  rw [hv.1];exact congrArg Value.bool (decide_eq_true ⟨(show (pl x).k=(pl y).k from congrArg Msg.k h),(show (pl x).f=(pl y).f from congrArg Msg.f h),(show (pl x).t=(pl y).t from congrArg Msg.t h),(show (pl x).tm=(pl y).tm from congrArg Msg.tm h),(show (pl x).ix=(pl y).ix from congrArg Msg.ix h),(show (pl x).lt=(pl y).lt from congrArg Msg.lt h),(show (pl x).cm=(pl y).cm from congrArg Msg.cm h),(show (pl x).rd=(pl y).rd from congrArg Msg.rd h),(show (pl x).ok=(pl y).ok from congrArg Msg.ok h),(show (pl x).es=(pl y).es from congrArg Msg.es h),(show (pl x).a=(pl y).a from congrArg Msg.a h),(show (pl x).d=(pl y).d from congrArg Msg.d h),(show (pl x).dn=(pl y).dn from congrArg Msg.dn h)⟩),hv.2⟩
theorem Az {X Y:List Msg} (h:X.map pl=Y.map pl) {k:Nat} (hx:k<X.length) (hy:k<Y.length):pl X[k]=pl Y[k]:=by
 have:(X.map pl)[k]'(by simpa using hx)=(Y.map pl)[k]'(by simpa using hy):=by simp only [h]
 simpa using this
theorem r_ (A B:Option Addr) (c c2 n:Nat) (X Y:List Msg) (w:World) (hr:iu 13 bC w A X) (hr2:iu 13 bC w B Y) (hX:X.length=n) (hY:Y.length=n) (hp:X.map pl=Y.map pl) (hE:∀ x∈X,cC w (.slice x.E x.es.length x.c) x.es) (hE2:∀ x∈Y,cC w (.slice x.E x.es.length x.c) x.es) (hle:∀ x∈X,x.es.length≤1000000) (hn:n≤100000) :
 Rt prog 50 [.slice A n c,.slice B n c2] w (fun v w'=>v=.bool true∧ag w w'):=by
 refine enter (n:=27) Tryz.func50 rfl rfl rfl (ao (ah (asb rfl (an (ai (ao (ao (ah (mvs rfl (ab (bU ln rfl) (mvs rfl (ab (bU ln rfl) (ab (cu (dm rfl rfl) (bne_self_eq_false _)) ?_)))))))))))));refine an (ai (bg rfl (aO (ai (ao (ao (ah (asi rfl (an (ai (bk (dr (G:=Nat) [4,11,12,13,14,15,16,17,18,19,20,21,22,23,24,25,26] (fun k=>[(5,.int .i64 (k:Nat))]) (fun k w'=>k≤n∧ag w w') (fun k=>n-k) (0) ⟨rfl,trivial⟩ ?_ ?_))))))))))))
 ·exact ⟨Nat.zero_le _,ag.rfl_⟩
 rintro k ρ1 w1 ⟨hk,hB⟩;refine ao (ao (ah (mvi rfl (mvs rfl (ab (bU ln rfl) (ab (ch rfl rfl) (an (ai (AT rfl (fun Q2=>?_) (fun Q2=>?_))))))))))
 ·have hkX:k<X.length:=by omega
  have hkY:k<Y.length:=by omega
  obtain ⟨ba,oa,rfl,hca⟩:=hr (by omega);obtain ⟨bb,ob,rfl,hcb⟩:=hr2 (by omega);have hxk:=hE _ (List.getElem_mem hkX);have hyk:=hE2 _ (List.getElem_mem hkY);have hlk:=hle _ (List.getElem_mem hkX);refine aO (ai (ao (bk (ao ?_))));apply bK 10 [(17,eqp _),(18,eqp _),(19,eqp _),(20,eqp (.agg (bC (X[k]'hkX)).toArray)),(21,eqp _),(22,eqp _),(23,eqp _),(24,eqp (.agg (bC (Y[k]'hkY)).toArray)),(25,eqp _),(26,eqp _)] (by repeat first | exact ct | refine cr ?_ | refine bX ?_) (by kernel_rfl) (by kernel_rfl) ⟨aj _,aj _,aj _,aj _,aj _,aj _,aj _,aj _,aj _,aj _,trivial⟩
  case hop=>
   constructor
   ·rintro-w4 D4;exact au (aF (v:=.slice _ _ _) rfl) rfl
   constructor
   ·rintro-w5 D5;exact au (aF (v:=.int _ _) rfl) rfl
   constructor
   ·rintro-w6 D6;rintro _ rfl _ rfl;exact au (b_ lp rfl rfl (by omega)) rfl
   constructor
   ·rintro-w7 D7;rintro _ rfl;exact au (aH (cs:=bC (X[k]'hkX)) bj aY rfl (fB (hB.next D7) (hca k hkX))) rfl
   constructor
   ·rintro-w8 D8;exact au (aF (v:=.slice _ _ _) rfl) rfl
   constructor
   ·rintro-w9 D9;exact au (aF (v:=.int _ _) rfl) rfl
   constructor
   ·rintro-w10 D10;rintro _ rfl _ rfl;exact au (b_ lp rfl rfl (by omega)) rfl
   constructor
   ·rintro-w11 D11;rintro _ rfl;exact au (aH (cs:=bC (Y[k]'hkY)) bj aY rfl (fB (hB.next D11) (hcb k hkY))) rfl
   constructor
   ·rintro-w12 D12;rintro v12_20 rfl v12_24 rfl;refine fL jW ((nV (X[k]'hkX) (Y[k]'hkY) _ (Az hp hkX hkY) (hxk.from_ (hB.next D12)) (hyk.from_ (hB.next D12)) hlk).mono ?_);rintro v _ ⟨rfl,E12'⟩;exact ⟨E12',rfl⟩
   constructor
   ·rintro-w13 D13;rintro _ rfl;exact au (cp rfl) rfl
   exact trivial
  case hend=>
   intro w14 D14;rintro _ rfl _ rfl _ rfl v20 rfl _ rfl _ rfl _ rfl v24 rfl _ rfl _ rfl;show St ..;refine an (ai (AR rfl (fun Q15=>?_) (fun Q15=>?_)))
   ·exfalso;contradiction
   refine aO (bN (ai (ah (mvi rfl (ab (dD (b:=1) rfl rfl (by omega)) (asi rfl (an ?_)))))));refine bL (k+1) ⟨(by first | rfl | (refine bT ?_;omega)),trivial⟩ (by (iterate 35 refine bd rfl ?_);exact br) ⟨?_,?_⟩
   ·exact ⟨by omega,(hB.next D14)⟩
   ·omega
 refine cL (bB (bB (cw (ai (ao (ah (asb rfl (an (ai (aE (bA (v:=.bool _) rfl rfl (⟨rfl,hB⟩))))))))))))
theorem dF:aQ prog 53=true:=by kernel_rfl
theorem jE:kj prog 54=some (.agg #[.int .i64 0,.int .i64 0,.int .i64 0,.slice none 0 0]):=by kernel_rfl
theorem mr:aQ prog 133=true:=by kernel_rfl
theorem aP:js prog 29=some true:=by kernel_rfl
theorem aJ:ea prog 29=some 22:=by kernel_rfl
theorem rb:aQ prog 131=true:=by kernel_rfl
theorem ra:aQ prog 132=true:=by kernel_rfl
theorem q_:aQ prog 134=true:=by kernel_rfl
theorem qY:aQ prog 135=true:=by kernel_rfl
def iQ (s:Rf):Prop:=(1≤s.nodes∧s.nodes≤7)∧(1≤s.id∧s.id≤s.nodes)∧(0≤s.role∧s.role≤2)∧((0≤s.vote∧s.vote≤s.nodes)∧(0≤s.leader∧s.leader≤s.nodes))∧(0≤s.term∧s.term≤1099511627775)∧(0≤s.elapsed∧s.elapsed≤1099511627775)∧(0≤s.timeout∧s.timeout≤1099511627775)∧(0≤s.round∧s.round≤1099511627775)
instance (s:Rf):Decidable (iQ s):=by unfold iQ;exact inferInstance
def gA (s:Rf):Prop:=cj s.b s.t s.es=true∧cV s.t s.es≤s.term∧(s.b≤s.commit∧s.commit≤bm s)∧s.snap.size≤524288∧(0<s.b∨s.snap.size=0)
instance (s:Rf):Decidable (gA s):=by unfold gA;exact inferInstance
def gU (s:Rf):Prop:=s.part.size≤524288∧(0≤s.partOf∧s.partOf≤1099511625728)∧(0<s.partOf∨s.part.size=0)
instance (s:Rf):Decidable (gU s):=by unfold gU;exact inferInstance
def lD (s:Rf):Prop:=if s.role=2 then ((s.next.length:Int)=s.nodes∧(s.mtch.length:Int)=s.nodes∧(s.sent.length:Int)=s.nodes∧s.reads.length≤32)∧(eL 1 (bm s+1) s.next∧eL 0 (bm s) s.mtch∧eL 0 s.snap.size s.sent)∧(∀ q∈s.reads,gQ s q=true) else s.next.length+s.mtch.length+s.sent.length+s.reads.length=0
instance (s:Rf):Decidable (lD s):=by unfold lD;exact inferInstance
theorem AI (s:Rf) (E:Option Addr) (n c:Nat) (w:World) (h:cC w (.slice E n c) s.es):Rt prog 152 [.agg #[.int .i64 s.b,.int .i64 s.t,.slice E n c]] w fun v w'=>(∃ X Y Z:Int,v=.tuple #[.int .i64 X,.int .i64 Y,.int .i64 Z]∧((cj s.b s.t s.es=true∧Z=0∧X=bm s∧Y=cV s.t s.es)∨(cj s.b s.t s.es=false∧Z=1)))∧ag w w':=
 (Rt.of (r3 s.b s.t _ s.es w h)).mono fun v w' h=>by
  refine ⟨?_,h.2⟩;rw [h.1];unfold uN;cases hm:cj s.b s.t s.es with
  |true=>rw [if_pos rfl];exact ⟨_,_,_,rfl,.inl ⟨rfl,rfl,rfl,rfl⟩⟩
  |false=>rw [if_neg (by decide)];exact ⟨_,_,_,rfl,.inr ⟨rfl,rfl⟩⟩
theorem iZ:∀ (l:List Int),gu l=true↔∀ j (h:j+1<l.length),l[j]<l[j+1]
 |[]=>⟨fun _ j h=>absurd h (by simp),fun _=>rfl⟩
 |[a]=>⟨fun _ j h=>absurd h (by simp),fun _=>rfl⟩
 |a::b::r=>by
  have ih:=iZ (b::r);show (decide (a<b)&&gu (b::r))=true↔_;rw [Bool.and_eq_true,decide_eq_true_eq,ih];constructor
  ·rintro ⟨h1,h2⟩ j h;cases j with
   |zero=>exact h1
   |succ j=>exact h2 j (by simpa using h)
  ·intro h;exact ⟨h 0 (by simp),fun j hj=>h (j+1) (by simpa using hj)⟩
theorem gY {l:List Int} {n:Int}:fC l n=true↔eL 1 n l∧∀ j (h:j+1<l.length),l[j]<l[j+1]:=by
 unfold fC eL;rw [Bool.and_eq_true,iZ,List.all_eq_true];simp only [Bool.and_eq_true,decide_eq_true_eq]
theorem eI (lo hi:Int) (A:Option Addr) (c:Nat) (xs:List Int) (w:World) (hr:et iV w A xs) (hl:xs.length≤1000000) :
 Rt prog 53 [.int .i64 lo,.int .i64 hi,.slice A xs.length c] w (fun v w'=>v=.bool (decide (eL lo hi xs))∧w=w'):=by
 refine enter (n:=24) Tryz.func53 rfl rfl rfl (ao (ah (asb rfl (an (ai (ao (ao (ah (mvs rfl (ab (bU cy rfl) (mvi rfl (an (ai (bk (dr (G:=Nat) [6,8,12,13,14,15,16,17,18,19,20,21,22,23] (fun k=>[(11,.int .i64 (k:Nat))]) (fun k w'=>k≤xs.length∧eL lo hi (xs.take k)∧w=w') (fun k=>xs.length-k) (0) ⟨rfl,trivial⟩ ?_ ?_)))))))))))))))
 ·exact ⟨Nat.zero_le _,bE.2 trivial,rfl⟩
 rintro k ρ1 w1 ⟨hk,ha,rfl⟩;refine ao (ah (ab (ch rfl rfl) (an (ai (ao (AT rfl (fun Q2=>?_) (fun Q2=>?_)))))))
 ·have hkx:k<xs.length:=by omega
  obtain ⟨ba,oa,rfl,hca⟩:=hr (by omega);refine aO (ai (ao (bk (ao (ah (ab (db cX rfl rfl (by omega)) (ab (ar ak rfl (by exact hca k hkx)) ?_)))))));refine asi rfl (an (ai (ao (ah (mvi rfl (mvi rfl (ab (ch rfl rfl) (mvb rfl (Ap (t:=18) rfl (fun Q3=>?_) (fun Q3=>?_))))))))))
  ·refine bD rfl (an (ai (aZ rfl (ao (ah (asb rfl (an (ai (aE (bG (aG (aG (bG (aG (bA (v:=.bool _) rfl rfl (⟨congrArg Value.bool ?_,rfl⟩))))))))))))))));rw [eq_comm,decide_eq_false_iff_not];intro h;have:=h _ (List.getElem_mem hkx);omega
  refine ae rfl (mvi rfl (ae rfl (mvi rfl (ae rfl (ab (cq rfl rfl) (ab (ay (v:=.bool _) rfl rfl) (an (ai (AT rfl (fun Q4=>?_) (fun Q4=>?_))))))))))
  ·refine ao (ah (asb rfl (an (ai (aE (bG (aG (aG (bG (aG (bA (v:=.bool _) rfl rfl (⟨congrArg Value.bool ?_,rfl⟩))))))))))));rw [eq_comm,decide_eq_false_iff_not];intro h;have:=h _ (List.getElem_mem hkx);omega
  refine aO (bN (ai (ah (ab (dD (b:=1) rfl rfl (by omega)) (mvi rfl (an ?_))))));refine bL (k+1) ⟨(by first | rfl | (refine bT ?_;omega)),trivial⟩ (by (iterate 30 refine bd rfl ?_);exact br) ⟨?_,?_⟩
  ·exact ⟨by omega,by rw [List.take_succ_eq_append_getElem hkx];exact o7.2 ⟨ha,by omega⟩,rfl⟩
  ·omega
 obtain rfl:k=xs.length:=by omega
 rw [List.take_length] at ha;refine cL (bB (bB (cw (ai (ao (ah (asb rfl (an (ai (aE (bA (v:=.bool _) rfl rfl (⟨congrArg Value.bool (decide_eq_true ha).symm,rfl⟩))))))))))))
theorem gi {w:World} {b:Nat} {xs:List Int} (h:Blk w b 3 (xs.map iV).toArray):et iV w (some ⟨b,0,none⟩) xs:=et.blk h fun i hi=>by simp [hi]
theorem nI (s:Rf) (a:Ra) (w:World) :
 Rt prog 131 [.agg (rfV s a).toArray] w (fun v w'=>v=.bool (decide (iQ s))∧ag w w'):=by
 refine enter (n:=43) Tryz.func131 rfl rfl rfl (ao (ah (bZ (v:=.agg _) rfl ?_)));intro b1 w1 E1 hb1 hk1;refine asb rfl (an (ai (ao (ah (ab (aa cd rfl) (ab (ar ak rfl (by exact (hk1.from_ ag.rfl_).rd 1 rfl)) ?_))))));refine fj (v:=.int _ _) bP rfl rfl rfl ?_;intro b5 w2 E5 hb5 hk5;refine aC dF (eI 1 7 (some ⟨b5,0,none⟩) 1 [s.nodes] _ (gi hk5) (by simp)) ?_;rintro v6 w3 ⟨rfl,rfl⟩;refine mvb rfl (Ap (t:=7) rfl (fun Q4=>?_) (fun Q4=>?_))
 ·(try simp only [bp,bE,and_true] at Q4)
  refine ae rfl (ab (aa cd rfl) (ae rfl (ab (ar ak rfl (by exact (hk1.from_ (ag.rfl_.next E5)).rd 1 rfl)) ?_)));refine ae rfl (ab (aa cB rfl) (ae rfl (ab (ar ak rfl (by exact (hk1.from_ (ag.rfl_.next E5)).rd 0 rfl)) ?_)));refine ae rfl (fj (v:=.int _ _) bP rfl rfl rfl ?_);intro b12 w5 E12 hb12 hk12;refine ae rfl (aC dF (eI 1 s.nodes (some ⟨b12,0,none⟩) 1 [s.id] _ (gi hk12) (by simp)) ?_);rintro v13 w6 ⟨rfl,rfl⟩;refine ab (aM (v:=.bool _) rfl rfl) (mvb rfl (Ap (t:=15) rfl (fun Q7=>?_) (fun Q7=>?_)))
  ·(try simp only [bp,bE,and_true] at Q7)
   refine ae rfl (ab (aa cW rfl) (ae rfl (ab (ar ak rfl (by exact (hk1.from_ ((ag.rfl_.next E5).next E12)).rd 2 rfl)) ?_)));refine ae rfl (fj (v:=.int _ _) bP rfl rfl rfl ?_);intro b18 w8 E18 hb18 hk18;refine ae rfl (aC dF (eI 0 2 (some ⟨b18,0,none⟩) 1 [s.role] _ (gi hk18) (by simp)) ?_);rintro v19 w9 ⟨rfl,rfl⟩;refine ab (aM (v:=.bool _) rfl rfl) (mvb rfl (Ap (t:=21) rfl (fun Q10=>?_) (fun Q10=>?_)))
   ·(try simp only [bp,bE,and_true] at Q10)
    refine ae rfl (ab (aa cd rfl) (ae rfl (ab (ar ak rfl (by exact (hk1.from_ (((ag.rfl_.next E5).next E12).next E18)).rd 1 rfl)) ?_)));refine ae rfl (ab (aa fm rfl) (ae rfl (ab (ar ak rfl (by exact (hk1.from_ (((ag.rfl_.next E5).next E12).next E18)).rd 4 rfl)) ?_)));refine ae rfl (ab (aa d_ rfl) (ae rfl (ab (ar ak rfl (by exact (hk1.from_ (((ag.rfl_.next E5).next E12).next E18)).rd 5 rfl)) ?_)));refine ae rfl (lV [.tmp 25,.tmp 27] [.int _ _,.int _ _] bP rfl rfl rfl rfl (by simp [Value.cells]) ?_);intro b28 w11 E28 hb28 hk28;refine ae rfl (aC dF (eI 0 s.nodes (some ⟨b28,0,none⟩) 2 [s.vote,s.leader] _ (gi hk28) (by simp)) ?_);rintro v29 w12 ⟨rfl,rfl⟩;refine ab (aM (v:=.bool _) rfl rfl) (mvb rfl (Ap (t:=31) rfl (fun Q13=>?_) (fun Q13=>?_)))
    ·(try simp only [bp,bE,and_true] at Q13)
     refine ae rfl (ab (aa bH rfl) (ae rfl (ab (ar ak rfl (by exact (hk1.from_ ((((ag.rfl_.next E5).next E12).next E18).next E28)).rd 3 rfl)) ?_)));refine ae rfl (ab (aa dp rfl) (ae rfl (ab (ar ak rfl (by exact (hk1.from_ ((((ag.rfl_.next E5).next E12).next E18).next E28)).rd 11 rfl)) ?_)));refine ae rfl (ab (aa eY rfl) (ae rfl (ab (ar ak rfl (by exact (hk1.from_ ((((ag.rfl_.next E5).next E12).next E18).next E28)).rd 12 rfl)) ?_)));refine ae rfl (ab (aa dZ rfl) (ae rfl (ab (ar ak rfl (by exact (hk1.from_ ((((ag.rfl_.next E5).next E12).next E18).next E28)).rd 18 rfl)) ?_)));refine ae rfl (lV [.tmp 33,.tmp 35,.tmp 37,.tmp 39] [.int _ _,.int _ _,.int _ _,.int _ _] bP rfl rfl rfl rfl (by simp [Value.cells]) ?_);intro b40 w14 E40 hb40 hk40;refine ae rfl (aC dF (eI 0 1099511627775 (some ⟨b40,0,none⟩) 4 [s.term,s.elapsed,s.timeout,s.round] _ (gi hk40) (by simp)) ?_);rintro v41 w15 ⟨rfl,rfl⟩;refine ab (aM (v:=.bool _) rfl rfl) (asb rfl (an (ai (aE (bA (v:=.bool _) rfl rfl (⟨congrArg Value.bool ?_,((((((ag.rfl_.next E1).next E5).next E12).next E18).next E28).next E40)⟩))))))
     (try simp only [bp,bE,and_true])
     first
      |(rw [eq_comm,decide_eq_false_iff_not];unfold iQ;omega)
      |(rw [decide_eq_decide];unfold iQ;omega)
      |(rw [eq_comm,decide_eq_true_eq];unfold iQ;omega)
    (try simp only [bp,bE,and_true] at Q13)
    refine aq rfl rfl (aq rfl rfl (aq rfl rfl (aq rfl rfl (aq rfl rfl (aq rfl rfl (aq rfl rfl (aq rfl rfl (aq rfl rfl ?_))))))));refine aq rfl rfl (ab (ay (v:=.bool _) rfl rfl) (asb rfl (an (ai (aE (bA (v:=.bool _) rfl rfl (⟨congrArg Value.bool ?_,(((((ag.rfl_.next E1).next E5).next E12).next E18).next E28)⟩)))))))
    (try simp only [bp,bE,and_true])
    first
     |(rw [eq_comm,decide_eq_false_iff_not];unfold iQ;omega)
     |(rw [decide_eq_decide];unfold iQ;omega)
     |(rw [eq_comm,decide_eq_true_eq];unfold iQ;omega)
   (try simp only [bp,bE,and_true] at Q10)
   refine aq rfl rfl (aq rfl rfl (aq rfl rfl (aq rfl rfl (aq rfl rfl (aq rfl rfl (aq rfl rfl (aq rfl rfl (ab (ay (v:=.bool _) rfl rfl) ?_))))))));refine mvb rfl (aq rfl rfl (aq rfl rfl (aq rfl rfl (aq rfl rfl (aq rfl rfl (aq rfl rfl (aq rfl rfl (aq rfl rfl ?_))))))));refine aq rfl rfl (aq rfl rfl (ab (ay (v:=.bool _) rfl rfl) (asb rfl (an (ai (aE (bA (v:=.bool _) rfl rfl (⟨congrArg Value.bool ?_,((((ag.rfl_.next E1).next E5).next E12).next E18)⟩))))))))
   (try simp only [bp,bE,and_true])
   first
    |(rw [eq_comm,decide_eq_false_iff_not];unfold iQ;omega)
    |(rw [decide_eq_decide];unfold iQ;omega)
    |(rw [eq_comm,decide_eq_true_eq];unfold iQ;omega)
  (try simp only [bp,bE,and_true] at Q7)
  refine aq rfl rfl (aq rfl rfl (aq rfl rfl (aq rfl rfl (ab (ay (v:=.bool _) rfl rfl) (mvb rfl (aq rfl rfl (aq rfl rfl (aq rfl rfl ?_))))))));refine aq rfl rfl (aq rfl rfl (aq rfl rfl (aq rfl rfl (aq rfl rfl (ab (ay (v:=.bool _) rfl rfl) (mvb rfl (aq rfl rfl (aq rfl rfl ?_))))))));refine aq rfl rfl (aq rfl rfl (aq rfl rfl (aq rfl rfl (aq rfl rfl (aq rfl rfl (aq rfl rfl (aq rfl rfl (ab (ay (v:=.bool _) rfl rfl) ?_))))))));refine asb rfl (an (ai (aE (bA (v:=.bool _) rfl rfl (⟨congrArg Value.bool ?_,(((ag.rfl_.next E1).next E5).next E12)⟩)))))
  (try simp only [bp,bE,and_true])
  first
   |(rw [eq_comm,decide_eq_false_iff_not];unfold iQ;omega)
   |(rw [decide_eq_decide];unfold iQ;omega)
   |(rw [eq_comm,decide_eq_true_eq];unfold iQ;omega)
 (try simp only [bp,bE,and_true] at Q4)
 refine aq rfl rfl (aq rfl rfl (aq rfl rfl (aq rfl rfl (aq rfl rfl (aq rfl rfl (ab (ay (v:=.bool _) rfl rfl) (mvb rfl (aq rfl rfl ?_))))))));refine aq rfl rfl (aq rfl rfl (aq rfl rfl (ab (ay (v:=.bool _) rfl rfl) (mvb rfl (aq rfl rfl (aq rfl rfl (aq rfl rfl (aq rfl rfl ?_))))))));refine aq rfl rfl (aq rfl rfl (aq rfl rfl (aq rfl rfl (ab (ay (v:=.bool _) rfl rfl) (mvb rfl (aq rfl rfl (aq rfl rfl (aq rfl rfl ?_))))))));refine aq rfl rfl (aq rfl rfl (aq rfl rfl (aq rfl rfl (aq rfl rfl (aq rfl rfl (aq rfl rfl (ab (ay (v:=.bool _) rfl rfl) (asb rfl ?_))))))));refine an (ai (aE (bA (v:=.bool _) rfl rfl (⟨congrArg Value.bool ?_,((ag.rfl_.next E1).next E5)⟩))))
 (try simp only [bp,bE,and_true])
 first
  |(rw [eq_comm,decide_eq_false_iff_not];unfold iQ;omega)
  |(rw [decide_eq_decide];unfold iQ;omega)
  |(rw [eq_comm,decide_eq_true_eq];unfold iQ;omega)
theorem qv {s:Rf} {a:Ra} {w:World} {b T:Nat} (hb:Blk w b T (rfV s a).toArray):w.rangeAt b 6 [.int .i64 s.b,.int .i64 s.t,.slice a.E s.es.length a.Ec]:=hb.range 6 _ (fun j v hj=>by
 match j,hj with
 |0,hj=>exact hj
 |1,hj=>exact hj
 |2,hj=>exact hj
 |j+3,hj=>simp at hj)
theorem rr (s:Rf) (a:Ra) (w:World) (he:cC w (.slice a.E s.es.length a.Ec) s.es) :
 Rt prog 132 [.agg (rfV s a).toArray] w (fun v w'=>v=.bool (decide (gA s))∧ag w w'):=by
 refine enter (n:=48) Tryz.func132 rfl rfl rfl (ao (ah (bZ (v:=.agg _) rfl ?_)));intro b1 w1 E1 hb1 hk1;refine asb rfl (an (ai (ao (ah (ab (aa bn rfl) (ab (aH (cs:=[.int .i64 s.b,.int .i64 s.t,.slice a.E s.es.length a.Ec]) bQ bh rfl (qv (hk1.from_ ag.rfl_))) (aC mo (AI s a.E s.es.length a.Ec _ (he.from_ (ag.rfl_.next E1))) ?_)))))));rintro v9 w2 ⟨⟨X,Y,Z,rfl,hXYZ⟩,E9⟩;refine mvt rfl (ab (a_ rfl rfl) (ab (a_ rfl rfl) (ab (a_ rfl rfl) (asi rfl (asi rfl (asi rfl (an (ai (ao (ah (mvi rfl ?_)))))))))));refine ab (bf rfl rfl) (mvb rfl (Ao (t:=15) rfl (fun Q3=>?_) (fun Q3=>?_)))
 ·refine ae rfl (mvi rfl (ae rfl (ab (aa bH rfl) (ae rfl (ab (ar ak rfl (by exact (hk1.from_ (ag.rfl_.next E9)).rd 3 rfl)) ?_)))));refine ae rfl (ab (eT rfl rfl) (ab (aM (v:=.bool _) rfl rfl) (mvb rfl (Ap (t:=21) rfl (fun Q4=>?_) (fun Q4=>?_)))))
  ·(try simp only [bp,bE,and_true] at Q4)
   refine ae rfl (ab (aa bn rfl) (ae rfl (ab (aa dE rfl) (ae rfl (ab (ar ak rfl (by exact (hk1.from_ (ag.rfl_.next E9)).rd 6 rfl)) ?_)))));refine ae rfl (mvi rfl (ae rfl (ab (aa bW rfl) (ae rfl (ab (ar ak rfl (by exact (hk1.from_ (ag.rfl_.next E9)).rd 10 rfl)) ?_)))));refine ae rfl (fj (v:=.int _ _) bP rfl rfl rfl ?_);intro b28 w5 E28 hb28 hk28;refine ae rfl (aC dF (eI s.b X (some ⟨b28,0,none⟩) 1 [s.commit] _ (gi hk28) (by simp)) ?_);rintro v29 w6 ⟨rfl,rfl⟩;refine ab (aM (v:=.bool _) rfl rfl) (mvb rfl (Ap (t:=31) rfl (fun Q7=>?_) (fun Q7=>?_)))
   ·(try simp only [bp,bE,and_true] at Q7)
    refine ae rfl (ab (aa dB rfl) (ae rfl (ab (ar bF rfl (by exact (hk1.from_ ((ag.rfl_.next E9).next E28)).rd 9 rfl)) ?_)));refine ae rfl (ab (df (by kernel_rfl) rfl) (ae rfl (ab (eT rfl rfl) (ab (aM (v:=.bool _) rfl rfl) (mvb rfl (Ap (t:=37) rfl (fun Q8=>?_) (fun Q8=>?_)))))))
    ·refine ae rfl (ab (aa bn rfl) (ae rfl (ab (aa dE rfl) (ae rfl (ab (ar ak rfl (by exact (hk1.from_ ((ag.rfl_.next E9).next E28)).rd 6 rfl)) ?_)))));refine ae rfl (ab (cq rfl rfl) (ae rfl (mvb rfl (Ap (t:=42) rfl (fun Q9=>?_) (fun Q9=>?_)))))
     ·refine aq rfl rfl (aq rfl rfl (aq rfl rfl (ae rfl (ab (aM (v:=.bool _) rfl rfl) (ab (aM (v:=.bool _) rfl rfl) (asb rfl (an (ai (aE (bA (v:=.bool _) rfl rfl ?_))))))))));refine ⟨congrArg Value.bool ?_,(((ag.rfl_.next E1).next E9).next E28)⟩
      (try simp only [bp,bE,and_true])
      rcases hXYZ with ⟨hm,hz,hx,hy⟩ | ⟨hm,hz⟩
      ·first
        |(rw [eq_comm,decide_eq_false_iff_not];unfold gA;simp only [hm,true_and];omega)
        |(rw [decide_eq_decide];unfold gA;simp only [hm,true_and];omega)
        |(rw [eq_comm,decide_eq_true_eq];unfold gA;simp only [hm,true_and];omega)
      ·first
        |(exfalso;omega)
        |(rw [eq_comm,decide_eq_false_iff_not];unfold gA;rw [hm];exact fun h=>Bool.noConfusion h.1)
     refine ae rfl (ab (aa dB rfl) (ae rfl (ab (ar bF rfl (by exact (hk1.from_ ((ag.rfl_.next E9).next E28)).rd 9 rfl)) ?_)));refine ae rfl (ab (iY (la rfl rfl) (congrArg Value.bool (zc s.snap))) (ae rfl (ab (ay (v:=.bool _) rfl rfl) (ab (aM (v:=.bool _) rfl rfl) (asb rfl (an (ai (aE (bA (v:=.bool _) rfl rfl (⟨congrArg Value.bool ?_,(((ag.rfl_.next E1).next E9).next E28)⟩))))))))))
     (try simp only [bp,bE,and_true])
     rcases hXYZ with ⟨hm,hz,hx,hy⟩ | ⟨hm,hz⟩
     ·first
       |(rw [eq_comm,decide_eq_false_iff_not];unfold gA;simp only [hm,true_and];omega)
       |(rw [decide_eq_decide];unfold gA;simp only [hm,true_and];omega)
       |(rw [eq_comm,decide_eq_true_eq];unfold gA;simp only [hm,true_and];omega)
     ·first
       |(exfalso;omega)
       |(rw [eq_comm,decide_eq_false_iff_not];unfold gA;rw [hm];exact fun h=>Bool.noConfusion h.1)
    refine aq rfl rfl (aq rfl rfl (aq rfl rfl (aq rfl rfl (aq rfl rfl (eN rfl (eN rfl (eN rfl (aq rfl rfl ?_))))))));refine ab (ay (v:=.bool _) rfl rfl) (asb rfl (an (ai (aE (bA (v:=.bool _) rfl rfl (⟨congrArg Value.bool ?_,(((ag.rfl_.next E1).next E9).next E28)⟩))))))
    (try simp only [bp,bE,and_true])
    rcases hXYZ with ⟨hm,hz,hx,hy⟩ | ⟨hm,hz⟩
    ·first
      |(rw [eq_comm,decide_eq_false_iff_not];unfold gA;simp only [hm,true_and];omega)
      |(rw [decide_eq_decide];unfold gA;simp only [hm,true_and];omega)
      |(rw [eq_comm,decide_eq_true_eq];unfold gA;simp only [hm,true_and];omega)
    ·first
      |(exfalso;omega)
      |(rw [eq_comm,decide_eq_false_iff_not];unfold gA;rw [hm];exact fun h=>Bool.noConfusion h.1)
   (try simp only [bp,bE,and_true] at Q7)
   refine aq rfl rfl (aq rfl rfl (aq rfl rfl (aq rfl rfl (ab (ay (v:=.bool _) rfl rfl) (mvb rfl (aq rfl rfl (aq rfl rfl (aq rfl rfl ?_))))))));refine aq rfl rfl (aq rfl rfl (eN rfl (eN rfl (eN rfl (aq rfl rfl (ab (ay (v:=.bool _) rfl rfl) (asb rfl (an (ai (aE ?_))))))))));refine bA (v:=.bool _) rfl rfl (⟨congrArg Value.bool ?_,(((ag.rfl_.next E1).next E9).next E28)⟩)
   (try simp only [bp,bE,and_true])
   rcases hXYZ with ⟨hm,hz,hx,hy⟩ | ⟨hm,hz⟩
   ·first
     |(rw [eq_comm,decide_eq_false_iff_not];unfold gA;simp only [hm,true_and];omega)
     |(rw [decide_eq_decide];unfold gA;simp only [hm,true_and];omega)
     |(rw [eq_comm,decide_eq_true_eq];unfold gA;simp only [hm,true_and];omega)
   ·first
     |(exfalso;omega)
     |(rw [eq_comm,decide_eq_false_iff_not];unfold gA;rw [hm];exact fun h=>Bool.noConfusion h.1)
  (try simp only [bp,bE,and_true] at Q4)
  refine aq rfl rfl (aq rfl rfl (aq rfl rfl (aq rfl rfl (aq rfl rfl (aq rfl rfl (aq rfl rfl (aq rfl rfl (ab (ay (v:=.bool _) rfl rfl) ?_))))))));refine mvb rfl (aq rfl rfl (aq rfl rfl (aq rfl rfl (aq rfl rfl (ab (ay (v:=.bool _) rfl rfl) (mvb rfl (aq rfl rfl (aq rfl rfl ?_))))))));refine aq rfl rfl (aq rfl rfl (aq rfl rfl (eN rfl (eN rfl (eN rfl (aq rfl rfl (ab (ay (v:=.bool _) rfl rfl) (asb rfl ?_))))))));refine an (ai (aE (bA (v:=.bool _) rfl rfl (⟨congrArg Value.bool ?_,((ag.rfl_.next E1).next E9)⟩))))
  (try simp only [bp,bE,and_true])
  rcases hXYZ with ⟨hm,hz,hx,hy⟩ | ⟨hm,hz⟩
  ·first
    |(rw [eq_comm,decide_eq_false_iff_not];unfold gA;simp only [hm,true_and];omega)
    |(rw [decide_eq_decide];unfold gA;simp only [hm,true_and];omega)
    |(rw [eq_comm,decide_eq_true_eq];unfold gA;simp only [hm,true_and];omega)
  ·first
    |(exfalso;omega)
    |(rw [eq_comm,decide_eq_false_iff_not];unfold gA;rw [hm];exact fun h=>Bool.noConfusion h.1)
 refine aq rfl rfl (aq rfl rfl (aq rfl rfl (aq rfl rfl (ab (ay (v:=.bool _) rfl rfl) (mvb rfl (aq rfl rfl (aq rfl rfl (aq rfl rfl ?_))))))));refine aq rfl rfl (aq rfl rfl (aq rfl rfl (aq rfl rfl (aq rfl rfl (ab (ay (v:=.bool _) rfl rfl) (mvb rfl (aq rfl rfl (aq rfl rfl ?_))))))));refine aq rfl rfl (aq rfl rfl (ab (ay (v:=.bool _) rfl rfl) (mvb rfl (aq rfl rfl (aq rfl rfl (aq rfl rfl (aq rfl rfl (aq rfl rfl ?_))))))));refine eN rfl (eN rfl (eN rfl (aq rfl rfl (ab (ay (v:=.bool _) rfl rfl) (asb rfl (an (ai (aE (bA (v:=.bool _) rfl rfl (⟨congrArg Value.bool ?_,((ag.rfl_.next E1).next E9)⟩))))))))))
 (try simp only [bp,bE,and_true])
 rcases hXYZ with ⟨hm,hz,hx,hy⟩ | ⟨hm,hz⟩
 ·first
   |(rw [eq_comm,decide_eq_false_iff_not];unfold gA;simp only [hm,true_and];omega)
   |(rw [decide_eq_decide];unfold gA;simp only [hm,true_and];omega)
   |(rw [eq_comm,decide_eq_true_eq];unfold gA;simp only [hm,true_and];omega)
 ·first
   |(exfalso;omega)
   |(rw [eq_comm,decide_eq_false_iff_not];unfold gA;rw [hm];exact fun h=>Bool.noConfusion h.1)
theorem qm (s:Rf) (a:Ra) (w:World) :
 Rt prog 135 [.agg (rfV s a).toArray] w (fun v w'=>v=.bool (decide (gU s))∧ag w w'):=by
 refine enter (n:=23) Tryz.func135 rfl rfl rfl (ao (ah (bZ (v:=.agg _) rfl ?_)));intro b1 w1 E1 hb1 hk1;refine asb rfl (an (ai (ao (ah (ab (aa bw rfl) (ab (ar bF rfl (by exact (hk1.from_ ag.rfl_).rd 20 rfl)) ?_))))));refine ab (df (by kernel_rfl) rfl) (ab (eT rfl rfl) (mvb rfl (Ap (t:=7) rfl (fun Q2=>?_) (fun Q2=>?_))))
 ·refine ae rfl (ab (aa cA rfl) (ae rfl (ab (ar ak rfl (by exact (hk1.from_ ag.rfl_).rd 21 rfl)) ?_)));refine ae rfl (fj (v:=.int _ _) bP rfl rfl rfl ?_);intro b10 w3 E10 hb10 hk10;refine ae rfl (aC dF (eI 0 1099511625728 (some ⟨b10,0,none⟩) 1 [s.partOf] _ (gi hk10) (by simp)) ?_);rintro v11 w4 ⟨rfl,rfl⟩;refine ab (aM (v:=.bool _) rfl rfl) (mvb rfl (Ap (t:=13) rfl (fun Q5=>?_) (fun Q5=>?_)))
  ·(try simp only [bp,bE,and_true] at Q5)
   refine ae rfl (ab (aa cA rfl) (ae rfl (ab (ar ak rfl (by exact (hk1.from_ (ag.rfl_.next E10)).rd 21 rfl)) ?_)));refine ae rfl (ab (cq rfl rfl) (ae rfl (mvb rfl (Ap (t:=17) rfl (fun Q6=>?_) (fun Q6=>?_)))))
   ·refine aq rfl rfl (aq rfl rfl (aq rfl rfl (ae rfl (ab (aM (v:=.bool _) rfl rfl) (ab (aM (v:=.bool _) rfl rfl) (asb rfl (an (ai (aE (bA (v:=.bool _) rfl rfl ?_))))))))));refine ⟨congrArg Value.bool ?_,((ag.rfl_.next E1).next E10)⟩
    (try simp only [bp,bE,and_true])
    first
     |(rw [eq_comm,decide_eq_false_iff_not];unfold gU;omega)
     |(rw [decide_eq_decide];unfold gU;omega)
     |(rw [eq_comm,decide_eq_true_eq];unfold gU;omega)
   refine ae rfl (ab (aa bw rfl) (ae rfl (ab (ar bF rfl (by exact (hk1.from_ (ag.rfl_.next E10)).rd 20 rfl)) ?_)));refine ae rfl (ab (iY (la rfl rfl) (congrArg Value.bool (zc s.part))) (ae rfl (ab (ay (v:=.bool _) rfl rfl) (ab (aM (v:=.bool _) rfl rfl) (asb rfl (an (ai (aE (bA (v:=.bool _) rfl rfl (⟨congrArg Value.bool ?_,((ag.rfl_.next E1).next E10)⟩))))))))))
   (try simp only [bp,bE,and_true])
   first
    |(rw [eq_comm,decide_eq_false_iff_not];unfold gU;omega)
    |(rw [decide_eq_decide];unfold gU;omega)
    |(rw [eq_comm,decide_eq_true_eq];unfold gU;omega)
  (try simp only [bp,bE,and_true] at Q5)
  refine aq rfl rfl (aq rfl rfl (aq rfl rfl (aq rfl rfl (eN rfl (eN rfl (eN rfl (aq rfl rfl (ab (ay (v:=.bool _) rfl rfl) ?_))))))));refine asb rfl (an (ai (aE (bA (v:=.bool _) rfl rfl (⟨congrArg Value.bool ?_,((ag.rfl_.next E1).next E10)⟩)))))
  (try simp only [bp,bE,and_true])
  first
   |(rw [eq_comm,decide_eq_false_iff_not];unfold gU;omega)
   |(rw [decide_eq_decide];unfold gU;omega)
   |(rw [eq_comm,decide_eq_true_eq];unfold gU;omega)
 refine aq rfl rfl (aq rfl rfl (aq rfl rfl (aq rfl rfl (ab (ay (v:=.bool _) rfl rfl) (mvb rfl (aq rfl rfl (aq rfl rfl (aq rfl rfl ?_))))))));refine aq rfl rfl (eN rfl (eN rfl (eN rfl (aq rfl rfl (ab (ay (v:=.bool _) rfl rfl) (asb rfl (an (ai (aE (bA (v:=.bool _) rfl rfl ?_))))))))));refine ⟨congrArg Value.bool ?_,(ag.rfl_.next E1)⟩
 (try simp only [bp,bE,and_true])
 first
  |(rw [eq_comm,decide_eq_false_iff_not];unfold gU;omega)
  |(rw [decide_eq_decide];unfold gU;omega)
  |(rw [eq_comm,decide_eq_true_eq];unfold gU;omega)
theorem pO (A:Option Addr) (c:Nat) (l:List Int) (n:Int) (w:World) (hr:et iV w A l) (hl:l.length≤1000000) :
 Rt prog 133 [.slice A l.length c,.int .i64 n] w (fun v w'=>v=.bool (fC l n)∧ag w w'):=by
 refine enter (n:=33) Tryz.func133 rfl rfl rfl (ao (ah (asb rfl (an (ai (ao (ao (ah (mvs rfl (ab (bU cy rfl) (mvi rfl (an (ai (bk (dr (G:=Nat) [4,5,6,10,11,12,13,14,15,16,17,18,19,20,21,22,23,24,25,26,27,28,29,30,31,32] (fun k=>[(9,.int .i64 (k:Nat))]) (fun k w'=>k≤l.length∧(∀ j (h:j<l.length),j<k→1≤l[j]∧l[j]≤n)∧(∀ j (h:j+1<l.length),j+1<k→l[j]<l[j+1])∧ag w w') (fun k=>l.length-k) (0) ⟨rfl,trivial⟩ ?_ ?_)))))))))))))))
 ·exact ⟨Nat.zero_le _,fun j _ h=>absurd h (by omega),fun j _ h=>absurd h (by omega),ag.rfl_⟩
 rintro k ρ1 w1 ⟨hk,h1,h2,hB⟩;refine ao (ah (ab (ch rfl rfl) (an (ai (ao (AT rfl (fun Q2=>?_) (fun Q2=>?_)))))))
 ·have hkx:k<l.length:=by omega
  obtain ⟨ba,oa,rfl,hca⟩:=hr (by omega);refine aO (ai (ao (bk (ao (ah (mvi rfl (ab (db cX rfl rfl (by omega)) (ab (ar ak rfl (by exact fy hB (hca k hkx))) ?_))))))));refine asi rfl (asi rfl (an (ai (ao (ah (mvi rfl (mvi rfl (fj (v:=.int _ _) bP rfl rfl rfl ?_))))))));intro b16 w3 E16 hb16 hk16;refine aC dF (eI 1 n (some ⟨b16,0,none⟩) 1 [l[k]] _ (gi hk16) (by simp)) ?_;rintro v17 w4 ⟨rfl,rfl⟩;refine ab (cp rfl) (mvb rfl (aK (t:=19) rfl (fun Q5=>?_) (fun Q5=>?_)))
  ·replace Q5:=dK Q5;replace Q5:=dF_ Q5
   (try simp only [bp,bE,and_true] at Q5)
   refine bD rfl (an (ai (aZ rfl (ao (ah (asb rfl (an (ai (aE (bG (aG (aG (bG (aG (bA (v:=.bool _) rfl rfl (⟨congrArg Value.bool ?_,(hB.next E16)⟩))))))))))))))));rw [eq_comm,←Bool.not_eq_true,gY];rintro ⟨h3,h4⟩;have h5:=h3 _ (List.getElem_mem hkx)
   first
    |omega
    |(obtain ⟨j,rfl⟩:∃ j,k=j+1:=⟨k-1,by omega⟩
      have h6:=h4 j hkx
      (try simp only [Nat.add_sub_cancel] at*)
      omega)
  replace Q5:=dL Q5;replace Q5:=dT_ Q5
  (try simp only [bp,bE,and_true] at Q5)
  refine ae rfl (mvi rfl (ae rfl (ab (cq rfl rfl) (ae rfl (mvb rfl (Ap (t:=22) rfl (fun Q6=>?_) (fun Q6=>?_)))))))
  ·refine ae rfl (mvs rfl (ae rfl (mvi rfl (ae rfl (ab (eJ rfl rfl (by omega)) (eS (t:=25) (v:=.int _ _) (v':=.int .i64 ((k-1:Nat):Int)) rfl (by exact bT (by omega)) ?_))))));refine ae rfl (ab (db cX rfl rfl (by omega)) (ae rfl (ab (ar ak rfl (by exact fy (hB.next E16) (hca (k-1) (by omega)))) ?_)));refine ae rfl (mvi rfl (ae rfl (ab (lH rfl rfl) (ae rfl (ab (aM (v:=.bool _) rfl rfl) (ab (ay (v:=.bool _) rfl rfl) (an (ai (AT rfl (fun Q7=>?_) (fun Q7=>?_))))))))))
   ·refine ao (ah (asb rfl (an (ai (aE (bG (aG (aG (bG (aG (bA (v:=.bool _) rfl rfl (⟨congrArg Value.bool ?_,(hB.next E16)⟩))))))))))));rw [eq_comm,←Bool.not_eq_true,gY];rintro ⟨h3,h4⟩;have h5:=h3 _ (List.getElem_mem hkx)
    first
     |omega
     |(obtain ⟨j,rfl⟩:∃ j,k=j+1:=⟨k-1,by omega⟩
       have h6:=h4 j hkx
       (try simp only [Nat.add_sub_cancel] at*)
       omega)
   refine aO (bN (ai (ah (ab (dD (b:=1) rfl rfl (by omega)) (mvi rfl (an ?_))))));refine bL (k+1) ⟨(by first | rfl | (refine bT ?_;omega)),trivial⟩ (by (iterate 56 refine bd rfl ?_);exact br) ⟨?_,?_⟩
   ·refine ⟨by omega,fun j h hj=>?_,fun j h hj=>?_,(hB.next E16)⟩
    ·rcases Nat.lt_or_ge j k with e | e
     ·exact h1 j h e
     ·obtain rfl:j=k:=by omega
      omega
    ·rcases Nat.lt_or_ge (j+1) k with e | e
     ·exact h2 j h e
     ·obtain rfl:k=j+1:=by omega
      (try simp only [Nat.add_sub_cancel] at*)
      omega
   ·omega
  refine aq rfl rfl (aq rfl rfl (aq rfl rfl (aq rfl rfl (aq rfl rfl (aq rfl rfl (aq rfl rfl (ae rfl (ab (ay (v:=.bool _) rfl rfl) ?_))))))));refine ab (ay (v:=.bool _) rfl rfl) (an (ai (bg rfl (aO (bN (ai (ah (ab (dD (b:=1) rfl rfl (by omega)) (mvi rfl (an ?_))))))))));refine bL (k+1) ⟨(by first | rfl | (refine bT ?_;omega)),trivial⟩ (by (iterate 55 refine bd rfl ?_);exact br) ⟨?_,?_⟩
  ·refine ⟨by omega,fun j h hj=>?_,fun j h hj=>?_,(hB.next E16)⟩
   ·rcases Nat.lt_or_ge j k with e | e
    ·exact h1 j h e
    ·obtain rfl:j=k:=by omega
     omega
   ·rcases Nat.lt_or_ge (j+1) k with e | e
    ·exact h2 j h e
    ·obtain rfl:k=j+1:=by omega
     (try simp only [Nat.add_sub_cancel] at*)
     omega
  ·omega
 refine cL (bB (bB (cw (ai (ao (ah (asb rfl (an (ai (aE (bA (v:=.bool _) rfl rfl (⟨congrArg Value.bool ?_,hB⟩))))))))))));obtain rfl:k=l.length:=by omega
 rw [eq_comm,gY];exact ⟨fun x hx=>by obtain ⟨j,hj,rfl⟩:=List.getElem_of_mem hx;exact h1 j hj hj,fun j hj=>h2 j hj hj⟩
theorem cD {s:Rf} (h:s.role=2):lD s↔((s.next.length:Int)=s.nodes∧(s.mtch.length:Int)=s.nodes∧(s.sent.length:Int)=s.nodes∧s.reads.length≤32)∧(eL 1 (bm s+1) s.next∧eL 0 (bm s) s.mtch∧eL 0 s.snap.size s.sent)∧(∀ q∈s.reads,gQ s q=true):=by unfold lD;rw [if_pos h]
theorem ee {s:Rf} (h:s.role≠2):lD s↔s.next.length+s.mtch.length+s.sent.length+s.reads.length=0:=by unfold lD;rw [if_neg h]
theorem eF {s:Rf} {q:Rd}:gQ s q=true↔(1≤q.id∧q.id≤1099511627776)∧(0≤q.ix∧q.ix≤s.commit)∧(0≤q.rn∧q.rn≤s.round)∧fC q.acks s.nodes=true:=by
 unfold gQ inb;simp only [Bool.and_eq_true,decide_eq_true_eq];constructor
 ·rintro ⟨⟨⟨h1,h2⟩,h3⟩,h4⟩;exact ⟨h1,h2,h3,h4⟩
 ·rintro ⟨h1,h2,h3,h4⟩;exact ⟨⟨⟨h1,h2⟩,h3⟩,h4⟩
theorem pk (s:Rf) (a:Ra) (w:World) (hrd:eX w s a) (hN:iQ s) (hL:gA s) (hl:s.next.length≤1000000∧s.mtch.length≤1000000∧s.sent.length≤1000000∧s.reads.length≤1000000∧∀ q∈s.reads,q.acks.length≤1000000) :
 Rt prog 134 [.agg (rfV s a).toArray] w (fun v w'=>v=.bool (decide (lD s))∧ag w w'):=by
 obtain ⟨E,Ec,V,Vc,X,Xc,M,Mc,Sn,Sc,Q,Qc,LL⟩:=a;have hrL:LL.map (fun q=>q.1)=s.reads:=hrd.r;have hrk:∀ q∈LL,IR w q.2.1 q.2.2 q.1.acks:=hrd.k;obtain ⟨hl1,hl2,hl3,hl4,hl5⟩:=hl;have hbl:=eU hL.1;have hlr:bm s=s.b+s.es.length:=hbl.1;have hrl:LL.length=s.reads.length:=by rw [←hrL,List.length_map]
 have hN0:=hN.1;refine enter (n:=122) Tryz.func134 rfl rfl rfl (ao (ah (bZ (v:=.agg _) rfl ?_)));intro b1 w1 E1 hb1 hk1;refine asb rfl (an (ai (ao (ao (ah (ab (aa cW rfl) (ab (ar ak rfl (by exact (hk1.from_ ag.rfl_).rd 2 rfl)) ?_)))))));refine ab (dm rfl rfl) (an (ai (AQ rfl (fun Q2=>?_) (fun Q2=>?_))))
 ·refine ao (ah (ab (aa cQ rfl) (ab (ar bt rfl (by exact (show _=some (Value.slice X s.next.length Xc) from (hk1.from_ ag.rfl_).rd 15 rfl))) ?_)));refine ab (bU cy rfl) (ab (aa cY rfl) (ab (ar bt rfl (by exact (show _=some (Value.slice M s.mtch.length Mc) from (hk1.from_ ag.rfl_).rd 16 rfl))) ?_));refine ab (bU cy rfl) (ab (dD rfl rfl (by omega)) (ab (aa dd rfl) (ab (ar bt rfl (by exact (show _=some (Value.slice Sn s.sent.length Sc) from (hk1.from_ ag.rfl_).rd 17 rfl))) ?_)));refine ab (bU cy rfl) (ab (dD rfl rfl (by omega)) (ab (aa cf rfl) (ab (ar ed rfl (by exact (show _=some (Value.slice Q LL.length Qc) from (hk1.from_ ag.rfl_).rd 19 rfl))) ?_)));refine ab (bU fq rfl) (ab (dD rfl rfl (by omega)) (ab (bf rfl rfl) (asb rfl (an (ai (aE (aG (bA (v:=.bool _) rfl rfl (⟨congrArg Value.bool ?_,(ag.rfl_.next E1)⟩)))))))));rw [Bool.eq_iff_iff,decide_eq_true_eq,ee (by omega),beq_iff_eq];omega
 refine aO (ai (ao (ah (ab (aa bn rfl) (ab (aa dE rfl) (ab (ar ak rfl (by exact (hk1.from_ ag.rfl_).rd 6 rfl)) ?_))))));refine ab (aa bn rfl) (ab (aa di rfl) (ab (ar bR rfl (by exact (hk1.from_ ag.rfl_).rd 8 rfl)) ?_));refine ab (bU cT rfl) (ab (cn rfl rfl (by omega)) (eS (t:=32) (v:=.int _ _) (v':=.int .i64 (bm s)) rfl (by exact bT hlr.symm) ?_));refine asi rfl (an (ai (ao (ao (ah (ab (aa cQ rfl) (ab (ar bt rfl (by exact (show _=some (Value.slice X s.next.length Xc) from (hk1.from_ ag.rfl_).rd 15 rfl))) ?_)))))));refine ab (bU cy rfl) (ab (aa cd rfl) (ab (ar ak rfl (by exact (hk1.from_ ag.rfl_).rd 1 rfl)) ?_));refine ab (dm rfl rfl) (mvb rfl (Am (t:=39) rfl (fun Q3=>?_) (fun Q3=>?_)))
 ·refine bD rfl (an (ai (aZ rfl (ao (ah (asb rfl (an (ai (aE (aG (bA (v:=.bool _) rfl rfl (⟨congrArg Value.bool ?_,(ag.rfl_.next E1)⟩))))))))))));rw [eq_comm,decide_eq_false_iff_not];rw [cD (by omega)];rintro ⟨⟨g1,g2,g3,g4⟩,_⟩;omega
 refine ae rfl (ab (aa cY rfl) (ae rfl (ab (ar bt rfl (by exact (show _=some (Value.slice M s.mtch.length Mc) from (hk1.from_ ag.rfl_).rd 16 rfl))) ?_)));refine ae rfl (ab (bU cy rfl) (ae rfl (ab (aa cd rfl) (ae rfl (ab (ar ak rfl (by exact (hk1.from_ ag.rfl_).rd 1 rfl)) ?_)))));refine ae rfl (ab (dm rfl rfl) (ab (ay (v:=.bool _) rfl rfl) (mvb rfl (Am (t:=47) rfl (fun Q4=>?_) (fun Q4=>?_)))))
 ·refine bD rfl (an (ai (aZ rfl (ao (ah (asb rfl (an (ai (aE (aG (bA (v:=.bool _) rfl rfl (⟨congrArg Value.bool ?_,(ag.rfl_.next E1)⟩))))))))))));rw [eq_comm,decide_eq_false_iff_not];rw [cD (by omega)];rintro ⟨⟨g1,g2,g3,g4⟩,_⟩;omega
 refine ae rfl (ab (aa dd rfl) (ae rfl (ab (ar bt rfl (by exact (show _=some (Value.slice Sn s.sent.length Sc) from (hk1.from_ ag.rfl_).rd 17 rfl))) ?_)));refine ae rfl (ab (bU cy rfl) (ae rfl (ab (aa cd rfl) (ae rfl (ab (ar ak rfl (by exact (hk1.from_ ag.rfl_).rd 1 rfl)) ?_)))));refine ae rfl (ab (dm rfl rfl) (ab (ay (v:=.bool _) rfl rfl) (mvb rfl (Am (t:=55) rfl (fun Q5=>?_) (fun Q5=>?_)))))
 ·refine bD rfl (an (ai (aZ rfl (ao (ah (asb rfl (an (ai (aE (aG (bA (v:=.bool _) rfl rfl (⟨congrArg Value.bool ?_,(ag.rfl_.next E1)⟩))))))))))));rw [eq_comm,decide_eq_false_iff_not];rw [cD (by omega)];rintro ⟨⟨g1,g2,g3,g4⟩,_⟩;omega
 refine ae rfl (ab (aa cf rfl) (ae rfl (ab (ar ed rfl (by exact (show _=some (Value.slice Q LL.length Qc) from (hk1.from_ ag.rfl_).rd 19 rfl))) ?_)));refine ae rfl (ab (bU fq rfl) (ae rfl (ab (cq rfl rfl) (ab (ay (v:=.bool _) rfl rfl) (an (ai (AT rfl (fun Q6=>?_) (fun Q6=>?_))))))))
 ·refine ao (ah (asb rfl (an (ai (aE (aG (bA (v:=.bool _) rfl rfl (⟨congrArg Value.bool ?_,(ag.rfl_.next E1)⟩))))))));rw [eq_comm,decide_eq_false_iff_not];rw [cD (by omega)];rintro ⟨⟨g1,g2,g3,g4⟩,_⟩;omega
 refine aO (ai (ao (ao (ah (mvi rfl (ab (cn rfl rfl (by omega)) (ab (aa cQ rfl) (ab (ar bt rfl (by exact (show _=some (Value.slice X s.next.length Xc) from (hk1.from_ ag.rfl_).rd 15 rfl))) ?_))))))));refine aC dF (eI 1 (bm s+1) X Xc s.next _ (hrd.x.1.from_ (ag.rfl_.next E1)) hl1) ?_;rintro v65 w7 ⟨rfl,rfl⟩;refine ab (cp rfl) (mvb rfl (aK (t:=67) rfl (fun Q8=>?_) (fun Q8=>?_)))
 ·with_reducible (replace Q8:=dK Q8;replace Q8:=dF_ Q8)
  (try simp only [bp,bE,and_true] at Q8)
  refine bD rfl (an (ai (aZ rfl (ao (ah (asb rfl (an (ai (aE (aG (bA (v:=.bool _) rfl rfl (⟨congrArg Value.bool ?_,(ag.rfl_.next E1)⟩))))))))))));rw [eq_comm,decide_eq_false_iff_not];rw [cD (by omega)];rintro ⟨_,⟨g1,g2,g3⟩,_⟩
  simp_all
 with_reducible (replace Q8:=dL Q8;replace Q8:=dT_ Q8)
 (try simp only [bp,bE,and_true] at Q8)
 refine ae rfl (mvi rfl (ae rfl (ab (aa cY rfl) (ae rfl (ab (ar bt rfl (by exact (show _=some (Value.slice M s.mtch.length Mc) from (hk1.from_ ag.rfl_).rd 16 rfl))) ?_)))));refine ae rfl (aC dF (eI 0 (bm s) M Mc s.mtch _ (hrd.m.1.from_ (ag.rfl_.next E1)) hl2) ?_);rintro v71 w9 ⟨rfl,rfl⟩;refine ae rfl (ab (cp rfl) (ab (ay (v:=.bool _) rfl rfl) (mvb rfl (aK (t:=74) rfl (fun Q10=>?_) (fun Q10=>?_)))))
 ·with_reducible (replace Q10:=dK Q10;replace Q10:=dF_ Q10)
  (try simp only [bp,bE,and_true] at Q10)
  refine bD rfl (an (ai (aZ rfl (ao (ah (asb rfl (an (ai (aE (aG (bA (v:=.bool _) rfl rfl (⟨congrArg Value.bool ?_,(ag.rfl_.next E1)⟩))))))))))));rw [eq_comm,decide_eq_false_iff_not];rw [cD (by omega)];rintro ⟨_,⟨g1,g2,g3⟩,_⟩
  simp_all
 with_reducible (replace Q10:=dL Q10;replace Q10:=dT_ Q10)
 (try simp only [bp,bE,and_true] at Q10)
 refine ae rfl (ab (aa dB rfl) (ae rfl (ab (ar bF rfl (by exact (hk1.from_ ag.rfl_).rd 9 rfl)) ?_)));refine ae rfl (ab (df (by kernel_rfl) rfl) (ae rfl (ab (aa dd rfl) (ae rfl (ab (ar bt rfl (by exact (show _=some (Value.slice Sn s.sent.length Sc) from (hk1.from_ ag.rfl_).rd 17 rfl))) ?_)))));refine ae rfl (aC dF (eI 0 (s.snap.size:Nat) Sn Sc s.sent _ (hrd.n.1.from_ (ag.rfl_.next E1)) hl3) ?_);rintro v80 w11 ⟨rfl,rfl⟩;refine ae rfl (ab (cp rfl) (ab (ay (v:=.bool _) rfl rfl) (an (ai (aS rfl (fun Q12=>?_) (fun Q12=>?_))))))
 ·with_reducible (replace Q12:=dK Q12;replace Q12:=dF_ Q12)
  refine ao (ah (asb rfl (an (ai (aE (aG (bA (v:=.bool _) rfl rfl (⟨congrArg Value.bool ?_,(ag.rfl_.next E1)⟩))))))));rw [eq_comm,decide_eq_false_iff_not];rw [cD (by omega)];rintro ⟨_,⟨g1,g2,g3⟩,_⟩
  simp_all
 with_reducible (replace Q12:=dL Q12;replace Q12:=dT_ Q12)
 refine aO (ai (ao (ao (ah (ab (aa cf rfl) (ab (ar ed rfl (by exact (show _=some (Value.slice Q LL.length Qc) from (hk1.from_ ag.rfl_).rd 19 rfl))) ?_))))));refine ab (bU fq rfl) (mvi rfl (an (ai (bk (dr (G:=Nat) [2,5,87,88,89,90,91,92,93,94,95,96,97,98,99,100,101,102,103,104,105,106,107,108,109,110,111,112,113,114,115,116,117,118,119,120,121] (fun k=>[(86,.int .i64 (k:Nat))]) (fun k w'=>k≤LL.length∧(∀ j (h:j<LL.length),j<k→gQ s LL[j].1=true)∧Blk w' b1 29 (rfV s (⟨E,Ec,V,Vc,X,Xc,M,Mc,Sn,Sc,Q,Qc,LL⟩:Ra)).toArray∧ag w w') (fun k=>LL.length-k) (0) ⟨rfl,trivial⟩ ?_ ?_)))))
 ·exact ⟨Nat.zero_le _,fun j _ h=>absurd h (by omega),hk1.from_ ag.rfl_,(ag.rfl_.next E1)⟩
 rintro k ρ13 w13 ⟨hk,h1,hk1,hB⟩;refine ao (ah (ab (ch rfl rfl) (an (ai (ao (AT rfl (fun Q14=>?_) (fun Q14=>?_)))))))
 ·have hkL:k<LL.length:=by omega
  have hqm:LL[k].1∈s.reads:=by rw [←hrL];exact List.mem_map_of_mem (List.getElem_mem hkL)
  obtain ⟨ba,oa,rfl,hcs⟩:∃ b o,Q=some ⟨b,o,none⟩∧∀ i (hi:i<LL.length),w.rangeAt b (o+i*4) (rdV LL[i]):=hrd.q (by show 0<LL.length;omega);refine aO (ai (ao (bk (ao (ah (ab (b_ gx rfl rfl (by omega)) (ab (aH (cs:=rdV LL[k]) iC fE rfl (fB hB (hcs k hkL))) (bS jE ?_))))))));intro b5 w15 E5 hb5 hk5;have hg5:w.heap.size≤b5:=by rw [hb5];exact (hB).size
  have hk1L:=hk1.from_ (ag.rfl_.next E5);have hn5:b1≠b5:=by have:=hk1.lt;have:=((ag.rfl_.next E5)).size;omega
  refine cg (vs:=[_,_,_,_]) fE rfl rfl (by simp [Value.oneCell']) (hk5) rfl ?_;intro w16 O10 P10;replace hk1:=hk1L.only O10 hn5;refine an (ai (ao (ah (ab (aa jo rfl) (ab (ar ak rfl (by exact (show _=some (Value.int .i64 LL[k].1.id) from (P10.from_ ag.rfl_).rd 0 rfl))) ?_)))));refine fj (v:=.int _ _) bP rfl rfl rfl ?_;intro b92 w17 E92 hb92 hk92;refine aC dF (eI 1 1099511627776 (some ⟨b92,0,none⟩) 1 [LL[k].1.id] _ (gi hk92) (by simp)) ?_;rintro v93 w18 ⟨rfl,rfl⟩;refine ab (cp rfl) (mvb rfl (aK (t:=95) rfl (fun Q19=>?_) (fun Q19=>?_)))
  ·with_reducible (replace Q19:=dK Q19;replace Q19:=dF_ Q19)
   (try simp only [bp,bE,and_true] at Q19)
   refine bD rfl (an (ai (aZ rfl (ao (ah (asb rfl (an (ai (aE (bG (aG (aG (bG (aG (bA (v:=.bool _) rfl rfl (⟨congrArg Value.bool ?_,(((hB.next E5).only O10 (hg5)).next E92)⟩))))))))))))))));rw [eq_comm,decide_eq_false_iff_not];rw [cD (by omega)];rintro ⟨_,_,g⟩;have g5:=eF.1 (g _ hqm)
   first
    |omega
    |simp_all
  with_reducible (replace Q19:=dL Q19;replace Q19:=dT_ Q19)
  (try simp only [bp,bE,and_true] at Q19)
  refine ae rfl (ab (aa bW rfl) (ae rfl (ab (ar ak rfl (by exact (hk1.from_ (ag.rfl_.next E92)).rd 10 rfl)) ?_)));refine ae rfl (ab (aa jn rfl) (ae rfl (ab (ar ak rfl (by exact (show _=some (Value.int .i64 LL[k].1.ix) from (P10.from_ (ag.rfl_.next E92)).rd 1 rfl))) ?_)));refine ae rfl (fj (v:=.int _ _) bP rfl rfl rfl ?_);intro b100 w20 E100 hb100 hk100;refine ae rfl (aC dF (eI 0 s.commit (some ⟨b100,0,none⟩) 1 [LL[k].1.ix] _ (gi hk100) (by simp)) ?_);rintro v101 w21 ⟨rfl,rfl⟩;refine ae rfl (ab (cp rfl) (ab (ay (v:=.bool _) rfl rfl) (mvb rfl (aK (t:=104) rfl (fun Q22=>?_) (fun Q22=>?_)))))
  ·with_reducible (replace Q22:=dK Q22;replace Q22:=dF_ Q22)
   (try simp only [bp,bE,and_true] at Q22)
   refine bD rfl (an (ai (aZ rfl (ao (ah (asb rfl (an (ai (aE (bG (aG (aG (bG (aG (bA (v:=.bool _) rfl rfl (⟨congrArg Value.bool ?_,((((hB.next E5).only O10 (hg5)).next E92).next E100)⟩))))))))))))))));rw [eq_comm,decide_eq_false_iff_not];rw [cD (by omega)];rintro ⟨_,_,g⟩;have g5:=eF.1 (g _ hqm)
   first
    |omega
    |simp_all
  with_reducible (replace Q22:=dL Q22;replace Q22:=dT_ Q22)
  (try simp only [bp,bE,and_true] at Q22)
  refine ae rfl (ab (aa dZ rfl) (ae rfl (ab (ar ak rfl (by exact (hk1.from_ ((ag.rfl_.next E92).next E100)).rd 18 rfl)) ?_)));refine ae rfl (ab (aa jm rfl) (ae rfl (ab (ar ak rfl (by exact (show _=some (Value.int .i64 LL[k].1.rn) from (P10.from_ ((ag.rfl_.next E92).next E100)).rd 2 rfl))) ?_)));refine ae rfl (fj (v:=.int _ _) bP rfl rfl rfl ?_);intro b109 w23 E109 hb109 hk109;refine ae rfl (aC dF (eI 0 s.round (some ⟨b109,0,none⟩) 1 [LL[k].1.rn] _ (gi hk109) (by simp)) ?_);rintro v110 w24 ⟨rfl,rfl⟩;refine ae rfl (ab (cp rfl) (ab (ay (v:=.bool _) rfl rfl) (mvb rfl (aK (t:=113) rfl (fun Q25=>?_) (fun Q25=>?_)))))
  ·with_reducible (replace Q25:=dK Q25;replace Q25:=dF_ Q25)
   (try simp only [bp,bE,and_true] at Q25)
   refine bD rfl (an (ai (aZ rfl (ao (ah (asb rfl (an (ai (aE (bG (aG (aG (bG (aG (bA (v:=.bool _) rfl rfl (⟨congrArg Value.bool ?_,(((((hB.next E5).only O10 (hg5)).next E92).next E100).next E109)⟩))))))))))))))));rw [eq_comm,decide_eq_false_iff_not];rw [cD (by omega)];rintro ⟨_,_,g⟩;have g5:=eF.1 (g _ hqm)
   first
    |omega
    |simp_all
  with_reducible (replace Q25:=dL Q25;replace Q25:=dT_ Q25)
  (try simp only [bp,bE,and_true] at Q25)
  refine ae rfl (ab (aa fx rfl) (ae rfl (ab (ar bt rfl (by exact (show _=some (Value.slice LL[k].2.1 LL[k].1.acks.length LL[k].2.2) from (P10.from_ (((ag.rfl_.next E92).next E100).next E109)).rd 3 rfl))) ?_)));refine ae rfl (ab (aa cd rfl) (ae rfl (ab (ar ak rfl (by exact (hk1.from_ (((ag.rfl_.next E92).next E100).next E109)).rd 1 rfl)) ?_)));refine ae rfl (aC mr (pO LL[k].2.1 LL[k].2.2 LL[k].1.acks s.nodes _ ((hrk _ (List.getElem_mem hkL)).1.from_ (((((hB.next E5).only O10 (hg5)).next E92).next E100).next E109)) (hl5 _ hqm)) ?_);rintro v118 w26 ⟨rfl,E118⟩;refine ae rfl (ab (cp rfl) (ab (ay (v:=.bool _) rfl rfl) (an (ai (AR rfl (fun Q27=>?_) (fun Q27=>?_))))))
  ·refine ao (ah (asb rfl (an (ai (aE (bG (aG (aG (bG (aG (bA (v:=.bool _) rfl rfl (⟨congrArg Value.bool ?_,((((((hB.next E5).only O10 (hg5)).next E92).next E100).next E109).next E118)⟩))))))))))));rw [eq_comm,decide_eq_false_iff_not];rw [cD (by omega)];rintro ⟨_,_,g⟩;have g5:=eF.1 (g _ hqm)
   first
    |omega
    |simp_all
  refine aO (bN (ai (ah (ab (cn rfl rfl (by omega)) (mvi rfl (an ?_))))));refine bL (k+1) ⟨(by first | rfl | (refine bT ?_;omega)),trivial⟩ (by (iterate 78 refine bd rfl ?_);exact br) ⟨?_,?_⟩
  ·refine ⟨by omega,fun j h hj=>?_,hk1.from_ ((((ag.rfl_.next E92).next E100).next E109).next E118),((((((hB.next E5).only O10 (hg5)).next E92).next E100).next E109).next E118)⟩;rcases Nat.lt_or_ge j k with e | e
   ·exact h1 j h e
   ·obtain rfl:j=k:=by omega
    rw [eF];exact ⟨by omega,by omega,by omega,by first | assumption | simp_all⟩
  ·omega
 refine cL (bB (bB (cw (ai (ao (ah (asb rfl (an (ai (aE (bA (v:=.bool _) rfl rfl (⟨congrArg Value.bool ?_,hB⟩))))))))))));rw [eq_comm,decide_eq_true_eq];rw [cD (by omega)];refine ⟨⟨by omega,by omega,by omega,by omega⟩,⟨?_,?_,?_⟩,fun q hq=>?_⟩
 ·simp_all
 ·simp_all
 ·simp_all
 ·rw [←hrL] at hq;obtain ⟨y,hy,rfl⟩:=List.mem_map.1 hq;obtain ⟨i,hi,rfl⟩:=List.getElem_of_mem hy;exact h1 i hi (by omega)
theorem b0 {s:Rf}:im s=true↔iQ s∧gA s∧fC s.votes s.nodes=true∧lD s∧gU s:=by
 constructor
 ·intro h;have F:=mP h;have hl:=F.last;refine ⟨⟨F.n,F.i,F.ro,⟨F.vo,F.le⟩,F.te,F.el,F.ti,F.rn⟩,⟨F.lg,F.lt,F.co,F.sn,?_⟩,F.vs,?_,⟨F.pa,F.po,?_⟩⟩
  ·have:=F.sb;omega
  ·by_cases hr:s.role=2
   ·rw [cD hr];have hx:=F.nx;have hm:=F.ma;have hs:=F.se;rw [jA hr] at hx hm hs;have:=F.n;exact ⟨⟨by omega,by omega,by omega,F.rl⟩,⟨hx.2,hm.2,hs.2⟩,F.rd⟩
   ·rw [ee hr];obtain ⟨e1,e2,e3,e4⟩:=F.free hr;rw [e1,e2,e3,e4];rfl
  ·have:=F.pp;have:=F.po;omega
 ·rintro ⟨⟨n,i,ro,⟨vo,le⟩,te,el,ti,rn⟩,⟨lg,lt,co,sn,sb⟩,vs,ls,⟨pa,po,pp⟩⟩;have hbl:=eU lg
  have key:(s.next.length=gp s∧∀ x∈s.next,1≤x∧x≤bm s+1)∧(s.mtch.length=gp s∧∀ x∈s.mtch,0≤x∧x≤bm s)∧(s.sent.length=gp s∧∀ x∈s.sent,0≤x∧x≤(s.snap.size:Int))∧s.reads.length≤32∧(gp s≠0∨s.reads.length=0)∧∀ q∈s.reads,gQ s q=true:=by
   by_cases hr:s.role=2
   ·rw [cD hr] at ls;obtain ⟨⟨l1,l2,l3,l4⟩,⟨g1,g2,g3⟩,g4⟩:=ls;rw [jA hr];exact ⟨⟨by omega,g1⟩,⟨by omega,g2⟩,⟨by omega,g3⟩,l4,.inl (by omega),g4⟩
   ·rw [ee hr] at ls;rw [nT hr];have e1:s.next=[]:=List.eq_nil_of_length_eq_zero (by omega);have e2:s.mtch=[]:=List.eq_nil_of_length_eq_zero (by omega);have e3:s.sent=[]:=List.eq_nil_of_length_eq_zero (by omega);have e4:s.reads=[]:=List.eq_nil_of_length_eq_zero (by omega);rw [e1,e2,e3,e4];exact ⟨⟨rfl,fun x hx=>by cases hx⟩,⟨rfl,fun x hx=>by cases hx⟩,⟨rfl,fun x hx=>by cases hx⟩,by decide,.inr rfl,fun x hx=>by cases hx⟩
  obtain ⟨k1,k2,k3,k4,k5,k6⟩:=key;unfold im eP p_;simp only [Bool.and_eq_true,Bool.or_eq_true,decide_eq_true_eq,List.all_eq_true];exact ⟨⟨⟨⟨⟨⟨⟨⟨⟨⟨⟨⟨⟨⟨⟨⟨⟨⟨⟨⟨⟨⟨⟨⟨n.1,n.2⟩,fv i⟩,fv ro⟩,fv te⟩,fv vo⟩,fv le⟩,lg⟩,sn⟩,by omega⟩,fv el⟩,fv ti⟩,fv rn⟩,vs⟩,lt⟩,fv co⟩,pa⟩,fv po⟩,by omega⟩,k1⟩,k2⟩,k3⟩,k4⟩,k5⟩,k6⟩
theorem sj (s:Rf) (a:Ra) (w:World) (hrd:eX w s a) (hl:s.votes.length≤1000000∧s.next.length≤1000000∧s.mtch.length≤1000000∧s.sent.length≤1000000∧s.reads.length≤1000000∧∀ q∈s.reads,q.acks.length≤1000000) :
 Rt prog 95 [.agg (rfV s a).toArray] w (fun v w'=>v=.int .i64 (if im s=true then 0 else 1)∧ag w w'):=by
 refine enter (n:=29) Tryz.func95 rfl rfl rfl (ao (ah (bZ (v:=.agg _) rfl ?_)));intro b1 w1 E1 hb1 hk1;refine asi rfl (an (ai (ao (ao (ah (ab (aH (cs:=rfV s a) aP aJ rfl ((hk1.from_ ag.rfl_).whole)) (aC rb (nI s a _) ?_)))))));rintro v4 w2 ⟨rfl,E4⟩;refine ab (cp rfl) (mvb rfl (aK (t:=6) rfl (fun Q3=>?_) (fun Q3=>?_)))
 ·replace Q3:=dK Q3;replace Q3:=dF_ Q3;have hNn:¬ iQ s:=by first | exact Q3 | simpa using Q3
  refine bD rfl (an (ai (aZ rfl (ao (ah (asi rfl (an (ai (aE (aG (bA (v:=.int _ _) rfl rfl (⟨bT (by rw [if_neg (fun h=>by obtain ⟨g1,g2,g3,g4,g5⟩:=b0.1 h;first | exact hNn g1 | exact hLn g2 | exact hVn g3 | exact hSn g4 | exact hPn g5)]),((ag.rfl_.next E1).next E4)⟩))))))))))))
 replace Q3:=dL Q3;replace Q3:=dT_ Q3;have hN:iQ s:=by first | exact Q3 | simpa using Q3
 refine ae rfl (ab (aH (cs:=rfV s a) aP aJ rfl ((hk1.from_ (ag.rfl_.next E4)).whole)) (ae rfl (aC ra (rr s a _ (hrd.e.from_ ((ag.rfl_.next E1).next E4))) ?_)));rintro v8 w4 ⟨rfl,E8⟩;refine ae rfl (ab (cp rfl) (ab (ay (v:=.bool _) rfl rfl) (mvb rfl (aK (t:=11) rfl (fun Q5=>?_) (fun Q5=>?_)))))
 ·replace Q5:=dK Q5;replace Q5:=dF_ Q5;have hLn:¬ gA s:=by first | exact Q5 | simpa using Q5
  refine bD rfl (an (ai (aZ rfl (ao (ah (asi rfl (an (ai (aE (aG (bA (v:=.int _ _) rfl rfl (⟨bT (by rw [if_neg (fun h=>by obtain ⟨g1,g2,g3,g4,g5⟩:=b0.1 h;first | exact hNn g1 | exact hLn g2 | exact hVn g3 | exact hSn g4 | exact hPn g5)]),(((ag.rfl_.next E1).next E4).next E8)⟩))))))))))))
 replace Q5:=dL Q5;replace Q5:=dT_ Q5;have hL:gA s:=by first | exact Q5 | simpa using Q5
 refine ae rfl (ab (aa dc rfl) (ae rfl (ab (ar bt rfl (by exact (show _=some (Value.slice a.V s.votes.length a.Vc) from (hk1.from_ ((ag.rfl_.next E4).next E8)).rd 14 rfl))) ?_)));refine ae rfl (ab (aa cd rfl) (ae rfl (ab (ar ak rfl (by exact (hk1.from_ ((ag.rfl_.next E4).next E8)).rd 1 rfl)) ?_)));refine ae rfl (aC mr (pO a.V a.Vc s.votes s.nodes _ (hrd.v.1.from_ (((ag.rfl_.next E1).next E4).next E8)) hl.1) ?_);rintro v16 w6 ⟨rfl,E16⟩;refine ae rfl (ab (cp rfl) (ab (ay (v:=.bool _) rfl rfl) (mvb rfl (An (t:=19) rfl (fun Q7=>?_) (fun Q7=>?_)))))
 ·have hVn:¬ fC s.votes s.nodes=true:=by first | exact Q7 | simpa using Q7
  refine bD rfl (an (ai (aZ rfl (ao (ah (asi rfl (an (ai (aE (aG (bA (v:=.int _ _) rfl rfl (⟨bT (by rw [if_neg (fun h=>by obtain ⟨g1,g2,g3,g4,g5⟩:=b0.1 h;first | exact hNn g1 | exact hLn g2 | exact hVn g3 | exact hSn g4 | exact hPn g5)]),((((ag.rfl_.next E1).next E4).next E8).next E16)⟩))))))))))))
 have hV:fC s.votes s.nodes=true:=by first | exact Q7 | simpa using Q7
 refine ae rfl (ab (aH (cs:=rfV s a) aP aJ rfl ((hk1.from_ (((ag.rfl_.next E4).next E8).next E16)).whole)) (ae rfl (aC q_ (pk s a _ (hrd.from_ ((((ag.rfl_.next E1).next E4).next E8).next E16)) hN hL hl.2) ?_)));rintro v21 w8 ⟨rfl,E21⟩;refine ae rfl (ab (cp rfl) (ab (ay (v:=.bool _) rfl rfl) (mvb rfl (aK (t:=24) rfl (fun Q9=>?_) (fun Q9=>?_)))))
 ·replace Q9:=dK Q9;replace Q9:=dF_ Q9;have hSn:¬ lD s:=by first | exact Q9 | simpa using Q9
  refine bD rfl (an (ai (aZ rfl (ao (ah (asi rfl (an (ai (aE (aG (bA (v:=.int _ _) rfl rfl (⟨bT (by rw [if_neg (fun h=>by obtain ⟨g1,g2,g3,g4,g5⟩:=b0.1 h;first | exact hNn g1 | exact hLn g2 | exact hVn g3 | exact hSn g4 | exact hPn g5)]),(((((ag.rfl_.next E1).next E4).next E8).next E16).next E21)⟩))))))))))))
 replace Q9:=dL Q9;replace Q9:=dT_ Q9;have hS:lD s:=by first | exact Q9 | simpa using Q9
 refine ae rfl (ab (aH (cs:=rfV s a) aP aJ rfl ((hk1.from_ ((((ag.rfl_.next E4).next E8).next E16).next E21)).whole)) (ae rfl (aC qY (qm s a _) ?_)));rintro v26 w10 ⟨rfl,E26⟩;refine ae rfl (ab (cp rfl) (ab (ay (v:=.bool _) rfl rfl) (an (ai (aS rfl (fun Q11=>?_) (fun Q11=>?_))))))
 ·replace Q11:=dK Q11;replace Q11:=dF_ Q11;have hPn:¬ gU s:=by first | exact Q11 | simpa using Q11
  refine ao (ah (asi rfl (an (ai (aE (aG (bA (v:=.int _ _) rfl rfl (⟨bT (by rw [if_neg (fun h=>by obtain ⟨g1,g2,g3,g4,g5⟩:=b0.1 h;first | exact hNn g1 | exact hLn g2 | exact hVn g3 | exact hSn g4 | exact hPn g5)]),((((((ag.rfl_.next E1).next E4).next E8).next E16).next E21).next E26)⟩))))))))
 replace Q11:=dL Q11;replace Q11:=dT_ Q11;have hP:gU s:=by first | exact Q11 | simpa using Q11
 refine aO (ai (ao (ah (asi rfl (an (ai (aE (bA (v:=.int _ _) rfl rfl (⟨bT (by rw [if_pos (b0.2 ⟨hN,hL,hV,hS,hP⟩)]),((((((ag.rfl_.next E1).next E4).next E8).next E16).next E21).next E26)⟩)))))))))
theorem aN:cI prog 111 0=some 0:=by kernel_rfl
theorem uc:aQ prog 69=true:=by kernel_rfl
theorem jG:cI prog 111 1=some 22:=by kernel_rfl
theorem oD (s:Rf) (E:Option Addr) (n c:Nat) (w:World) (h:cC w (.slice E n c) s.es) (_:cj s.b s.t s.es=true):Rt prog 65 [.agg #[.int .i64 s.b,.int .i64 s.t,.slice E n c]] w fun v w'=>v=.tuple #[.int .i64 (bm s),.int .i64 (cV s.t s.es)]∧ag w w':=
 (Rt.of (nm s.b s.t _ s.es w h)).mono fun _ _ h=>h
theorem x_ (w0:World) (Z:Nat→Prop) (T g:Nat) (p:Sp) (w:World) (h:aR w0 Z w T g p) :
 Rt prog 69 [.pointer (some ⟨g,0,none⟩)] w (fun v w'=>v=.tuple #[]∧aR w0 Z w' T g ⟨fD p.s,p.out⟩):=by
 obtain ⟨s,out⟩:=p;obtain ⟨tag,a,O,oc,L,hs⟩:=h.ex;obtain ⟨E,Ec,V,Vc,X,Xc,M,Mc,Sn,Sc,Q,Qc,LL⟩:=a;have hb:Blk w g T (rfV s (⟨E,Ec,V,Vc,X,Xc,M,Mc,Sn,Sc,Q,Qc,LL⟩:Ra)++[Value.slice O L.length oc]).toArray:=hs.b
 have hll:L.length=out.length:=by
  have h9:=congrArg List.length hs.m.l;rw [List.length_map] at h9;exact h9
 have hB0:ag w w:=ag.rfl_;refine enter (n:=22) Tryz.func69 rfl rfl rfl (ao (ah (mvp rfl (ab (av rfl) (ab (aa aN rfl) (ab (aa dc rfl) ?_))))));have hB0:ag _ w:=ag.rfl_;refine cN (s':=({ s with votes:=[] }:Rf)) (a':=(⟨E,Ec,none,0,X,Xc,M,Mc,Sn,Sc,Q,Qc,LL⟩:Ra)) (v:=.slice _ _ _) c_ rfl rfl rfl ((hb.from_ ag.rfl_)) (by exact ⟨by decide,rfl⟩) ?_;intro w1 O0_0 P0_0;have hC1:Chg (fun k=>k=g) w w1:=(ag.toChg hB0).only O0_0 rfl;refine an (ai (ao (ah (mvp rfl (ab (av rfl) (ab (aa aN rfl) (ab (aa cQ rfl) ?_)))))));have hB1:ag _ w1:=(ag.rfl_ (a:=w1));refine cN (s':=({ s with votes:=[],next:=[] }:Rf)) (a':=(⟨E,Ec,none,0,none,0,M,Mc,Sn,Sc,Q,Qc,LL⟩:Ra)) (v:=.slice _ _ _) c_ rfl rfl rfl ((P0_0.from_ (ag.rfl_ (a:=w1)))) (by exact ⟨by decide,rfl⟩) ?_;intro w2 O1_0 P1_0;replace hC1:=(hC1.next (ag.toChg hB1)).only O1_0 rfl;refine an (ai (ao (ah (mvp rfl (ab (av rfl) (ab (aa aN rfl) (ab (aa cY rfl) ?_)))))));have hB2:ag _ w2:=(ag.rfl_ (a:=w2));refine cN (s':=({ s with votes:=[],next:=[],mtch:=[] }:Rf)) (a':=(⟨E,Ec,none,0,none,0,none,0,Sn,Sc,Q,Qc,LL⟩:Ra)) (v:=.slice _ _ _) c_ rfl rfl rfl ((P1_0.from_ (ag.rfl_ (a:=w2)))) (by exact ⟨by decide,rfl⟩) ?_;intro w3 O2_0 P2_0;replace hC1:=(hC1.next (ag.toChg hB2)).only O2_0 rfl;refine an (ai (ao (ah (mvp rfl (ab (av rfl) (ab (aa aN rfl) (ab (aa dd rfl) ?_)))))));have hB3:ag _ w3:=(ag.rfl_ (a:=w3));refine cN (s':=({ s with votes:=[],next:=[],mtch:=[],sent:=[] }:Rf)) (a':=(⟨E,Ec,none,0,none,0,none,0,none,0,Q,Qc,LL⟩:Ra)) (v:=.slice _ _ _) c_ rfl rfl rfl ((P2_0.from_ (ag.rfl_ (a:=w3)))) (by exact ⟨by decide,rfl⟩) ?_;intro w4 O3_0 P3_0;replace hC1:=(hC1.next (ag.toChg hB3)).only O3_0 rfl;refine an (ai (ah (mvp rfl (ab (av rfl) (ab (aa aN rfl) (ab (aa cf rfl) ?_))))));have hB4:ag _ w4:=(ag.rfl_ (a:=w4));refine cN (s':=({ s with votes:=[],next:=[],mtch:=[],sent:=[],reads:=[] }:Rf)) (a':=(⟨E,Ec,none,0,none,0,none,0,none,0,none,0,[]⟩:Ra)) (v:=.slice _ _ _) ji rfl rfl rfl ((P3_0.from_ (ag.rfl_ (a:=w4)))) (by exact ⟨by decide,rfl⟩) ?_;intro w5 O4_0 P4_0;replace hC1:=(hC1.next (ag.toChg hB4)).only O4_0 rfl;refine an (da (eg rfl (⟨rfl,(h.set (s':=fD s) (a':=(⟨E,Ec,none,0,none,0,none,0,none,0,none,0,[]⟩:Ra)) hs hC1 (bo.same hs.f.alone rfl rfl rfl rfl rfl rfl) P4_0).2⟩)))
theorem oV (w0:World) (Z:Nat→Prop) (T g:Nat) (p:Sp) (w:World) (h:aR w0 Z w T g p) (tm:Int) :
 Rt prog 124 [.pointer (some ⟨g,0,none⟩),.int .i64 tm] w (fun v w'=>v=.tuple #[]∧aR w0 Z w' T g ⟨cJ p.s tm,p.out⟩):=by
 obtain ⟨s,out⟩:=p;obtain ⟨tag,a,O,oc,L,hs⟩:=h.ex;obtain ⟨E,Ec,V,Vc,X,Xc,M,Mc,Sn,Sc,Q,Qc,LL⟩:=a;have hb:Blk w g T (rfV s (⟨E,Ec,V,Vc,X,Xc,M,Mc,Sn,Sc,Q,Qc,LL⟩:Ra)++[Value.slice O L.length oc]).toArray:=hs.b
 have hll:L.length=out.length:=by
  have h9:=congrArg List.length hs.m.l;rw [List.length_map] at h9;exact h9
 have hB0:ag w w:=ag.rfl_;refine enter (n:=38) Tryz.func124 rfl rfl rfl (ao (ah (mvp rfl (ab (av rfl) (ab (aa aN rfl) (ab (aa cW rfl) ?_))))));have hB0:ag w w:=ag.rfl_;refine cN (s':=({ s with role:=0 }:Rf)) (a':=(⟨E,Ec,V,Vc,X,Xc,M,Mc,Sn,Sc,Q,Qc,LL⟩:Ra)) (v:=.int _ _) bc rfl rfl rfl (hb) (by exact ⟨by decide,rfl⟩) ?_;intro w1 O0_0 P0_0;have hC1:Chg (fun k=>k=g) w w1:=(ag.toChg hB0).only O0_0 rfl;refine an (ai (ao (ah (mvp rfl (ab (av rfl) (ab (aa aN rfl) (ab (aa d_ rfl) ?_)))))));have hB1:ag _ w1:=(ag.rfl_ (a:=w1));refine cN (s':=({ s with role:=0,leader:=0 }:Rf)) (a':=(⟨E,Ec,V,Vc,X,Xc,M,Mc,Sn,Sc,Q,Qc,LL⟩:Ra)) (v:=.int _ _) bc rfl rfl rfl ((P0_0.from_ (ag.rfl_ (a:=w1)))) (by exact ⟨by decide,rfl⟩) ?_;intro w2 O1_0 P1_0;have hC2:=(hC1.next (ag.toChg hB1)).only O1_0 rfl;obtain ⟨hs3,h3⟩:=h.set (s':=({ s with role:=0,leader:=0 }:Rf)) (a':=(⟨E,Ec,V,Vc,X,Xc,M,Mc,Sn,Sc,Q,Qc,LL⟩:Ra)) hs hC2 (bo.same hs.f rfl rfl rfl rfl rfl rfl) P1_0;refine an (ai (ao (ah (mvp rfl (aC uc (x_ w0 Z T g ⟨({ s with role:=0,leader:=0 }:Rf),out⟩ _ (h3.from_ (ag.rfl_ (a:=w2)))) ?_)))));rintro v13 w3 ⟨rfl,h13⟩;have h13:aR w0 Z w3 T g ⟨({ fD s with role:=0,leader:=0 }:Rf),out⟩:=h13;obtain ⟨tag9,a9,O9,oc9,L9,hs9⟩:=h13.ex;have hb9:=hs9.b;refine an (ai (ao (ah (mvi rfl (mvp rfl (ab (av rfl) (ab (aa aN rfl) (ab (aa bH rfl) (ab (ar ak rfl (by exact (show _=some (Value.int .i64 s.term) from dM (hb9.from_ (ag.rfl_ (a:=w3))) 3 rfl))) ?_)))))))));refine ab (cq rfl rfl) (an (ai (AT rfl (fun Q4=>?_) (fun Q4=>?_))))
 ·refine ao (ah (mvp rfl (mvi rfl (ab (av rfl) (ab (aa aN rfl) (ab (aa bH rfl) ?_))))));have hB4:ag _ w3:=(ag.rfl_ (a:=w3));refine cN (s':=({ fD s with role:=0,leader:=0,term:=tm }:Rf)) (a':=a9) (v:=.int _ _) bc rfl rfl rfl ((hb9.from_ (ag.rfl_ (a:=w3)))) (by exact ⟨by decide,rfl⟩) ?_;intro w5 O4_0 P4_0;have hC4:Chg (fun k=>k=g) _ w5:=(ag.toChg hB4).only O4_0 rfl;refine an (ai (ao (ah (mvp rfl (ab (av rfl) (ab (aa aN rfl) (ab (aa fm rfl) ?_)))))));have hB5:ag _ w5:=(ag.rfl_ (a:=w5));refine cN (s':=({ fD s with role:=0,leader:=0,term:=tm,vote:=0 }:Rf)) (a':=a9) (v:=.int _ _) bc rfl rfl rfl ((P4_0.from_ (ag.rfl_ (a:=w5)))) (by exact ⟨by decide,rfl⟩) ?_;intro w6 O5_0 P5_0;have hC5:=(hC4.next (ag.toChg hB5)).only O5_0 rfl;refine an (ai (ao (ah (mvp rfl (ab (av rfl) (ab (aa aN rfl) (ab (aa bw rfl) ?_)))))));have hB6:ag _ w6:=(ag.rfl_ (a:=w6));refine cN (s':=({ fD s with role:=0,leader:=0,term:=tm,vote:=0,part:=⟨#[]⟩ }:Rf)) (a':=a9) (v:=.string _) ep rfl rfl rfl ((P5_0.from_ (ag.rfl_ (a:=w6)))) (by exact ⟨by decide,rfl⟩) ?_;intro w7 O6_0 P6_0;have hC6:=(hC5.next (ag.toChg hB6)).only O6_0 rfl;refine an (ai (ah (mvp rfl (ab (av rfl) (ab (aa aN rfl) (ab (aa cA rfl) ?_))))));have hB7:ag _ w7:=(ag.rfl_ (a:=w7));refine cN (s':=({ fD s with role:=0,leader:=0,term:=tm,vote:=0,part:=⟨#[]⟩,partOf:=0 }:Rf)) (a':=a9) (v:=.int _ _) bc rfl rfl rfl ((P6_0.from_ (ag.rfl_ (a:=w7)))) (by exact ⟨by decide,rfl⟩) ?_;intro w8 O7_0 P7_0;have hC7:=(hC6.next (ag.toChg hB7)).only O7_0 rfl;refine an (da (eg rfl (⟨rfl,?_⟩)));show aR w0 Z _ T g ⟨cJ s tm,out⟩;unfold cJ;simp only
  first
   |(rw [if_pos (show s.term<tm by omega)];exact (h13.set (s':=({ fD s with role:=0,leader:=0,term:=tm,vote:=0,part:=⟨#[]⟩,partOf:=0 }:Rf)) (a':=a9) hs9 hC7 (bo.same hs9.f rfl rfl rfl rfl rfl rfl) P7_0).2)
   |(rw [if_neg (show ¬ s.term<tm by omega)];exact h13.from_ (ag.rfl_ (a:=w8)))
 refine aO (da (eg rfl (⟨rfl,?_⟩)));show aR w0 Z _ T g ⟨cJ s tm,out⟩;unfold cJ;simp only
 first
  |(rw [if_pos (show s.term<tm by omega)];exact (h13.set (s':=({ fD s with role:=0,leader:=0,term:=tm,vote:=0,part:=⟨#[]⟩,partOf:=0 }:Rf)) (a':=a9) hs9 hC7 (bo.same hs9.f rfl rfl rfl rfl rfl rfl) P7_0).2)
  |(rw [if_neg (show ¬ s.term<tm by omega)];exact h13.from_ (ag.rfl_ (a:=w3)))
theorem gH (w0:World) (Z:Nat→Prop) (T g:Nat) (p:Sp) (w:World) (h:aR w0 Z w T g p) (tag:Nat→Nat) (a:Ra) (O:Option Addr) (oc:Nat) (L:List Msg) (hs:gP w Z T g tag p a O oc L) (hl:L.length≤1000) (m:Msg) (hE:w.ownsRow 0 99 3 (.slice m.E m.es.length m.c) m.es.length (dT m.es)∧Col tag (1000+2*L.length) m.E) :
 Rt prog 71 [.pointer (some ⟨g,0,none⟩),.agg (bC m).toArray] w (fun v w'=>v=.tuple #[]∧aR w0 Z w' T g (p.tell (pl m))):=by
 refine enter (n:=26) Tryz.func71 rfl rfl rfl (ao (ah (bZ (v:=.agg _) rfl ?_)));intro b3 w1 E3 hb3 hk3;have hgb:=hs.b.lt;have h5:g≠b3:=by omega
 have hg3:w.heap.size≤b3:=Nat.le_of_eq hb3.symm;have hgA:=hs.b.from_ (ag.rfl_.next E3);refine an (ai (ao (ah (mvp rfl (ab (av rfl) (ab (aa aN rfl) (ab (aa cB rfl) (ab (ar ak rfl (by exact dM (hgA.from_ ag.rfl_) 0 rfl)) ?_))))))));refine ab (aa bY rfl) ?_;have hM1:ag _ w1:=ag.rfl_;refine ej (v:=.int _ _) bc rfl rfl rfl ((hk3.from_ ag.rfl_)) (by show _<13;decide) ?_;intro w2 O1 P1;have hgB0:=(hgA.from_ hM1).only O1 h5;refine an (ai (ao (ah (mvp rfl (ab (av rfl) (ab (aa aN rfl) (ab (aa bH rfl) (ab (ar ak rfl (by exact dM (hgB0.from_ ag.rfl_) 3 rfl)) ?_))))))));refine ab (aa bI rfl) ?_;have hM2:ag _ w2:=ag.rfl_;refine ej (v:=.int _ _) bc rfl rfl rfl ((P1.from_ ag.rfl_)) (by show _<13;decide) ?_;intro w3 O2 P2;have hgB:=(hgB0.from_ hM2).only O2 h5;have hB:ag w w3:=(((ag.rfl_.next E3).only O1 (hg3)).only O2 (hg3));have hX:Blk w3 b3 39 (bC { m with f:=p.s.id,tm:=p.s.term }).toArray:=P2;refine an (ai ?_);apply xX 8 7 [22] [(16,eqp _),(17,eqp _),(18,eqp _),(19,eqp _),(20,eqp (.slice O L.length oc)),(21,eqp (.agg (bC { m with f:=p.s.id,tm:=p.s.term }).toArray)),(22,fun v w'=>∃ q,v=.slice (some ⟨q,0,none⟩) 1 1∧Blk w' q 39 (bC { m with f:=p.s.id,tm:=p.s.term }).toArray),(23,fun v w'=>∃ A2 c2,v=.slice A2 (L.length+1) c2∧w'.ownsRow 0 39 13 (.slice A2 (L.length+1) c2) (L.length+1) (L.flatMap bC++bC { m with f:=p.s.id,tm:=p.s.term })∧(∀ k,A2.map (·.block)=some k→O.map (·.block)=some k∨(w3).heap.size≤k))] (fun w'=>ag w3 w') (fun w'=>(w3).grownBy w' (O.map (·.block))) (by repeat first | exact ct | refine cr ?_ | refine bX ?_) (by kernel_rfl) (by kernel_rfl) (by kernel_rfl) ⟨aj _,aj _,aj _,aj _,aj _,aj _,(fun _ _ _ hF ⟨q,h1,h2⟩=>⟨q,h1,h2.from_ hF⟩),(fun _ _ _ hF ⟨A2,c2,h1,h2,h3⟩=>⟨A2,c2,h1,h2.kept_from hF,h3⟩),trivial⟩ (ag.rfl_.d1) (ag.rfl_.d1.grown _) (fun _ _ hF h=>h.next hF) (fun _ _ hF h=>eQ h (hF.grown _))
 case hop=>
  constructor
  ·rintro-w5 hG5;exact au (aF (v:=.pointer _) rfl) rfl
  constructor
  ·rintro-w6 D6;exact au (aF (v:=.pointer _) rfl) rfl
  constructor
  ·rintro-w7 D7;rintro _ rfl;exact au (av rfl) rfl
  constructor
  ·rintro-w8 D8;rintro _ rfl;exact au (aa jG rfl) rfl
  constructor
  ·rintro-w9 D9;rintro _ rfl;exact au (ar jk rfl (show _=some (Value.slice O L.length oc) from (hgB.from_ D9).rd 22 rfl)) rfl
  constructor
  ·rintro-w10 D10;exact au (aH (cs:=bC { m with f:=p.s.id,tm:=p.s.term }) bj aY rfl ((hX.from_ D10).whole)) rfl
  constructor
  ·rintro-w11 D11;rintro v11_21 rfl;exact oK (qu (l:=[(0,.tmp 21)]) (cells:=(bC { m with f:=p.s.id,tm:=p.s.term }).toArray) ia rfl rfl (by show Instr.fill _ _ [(0,Value.agg (bC { m with f:=p.s.id,tm:=p.s.term }).toArray)]=_;kernel_rfl)) (ag.rfl_.new _) ⟨_,rfl,Blk.new _ _ _⟩
  constructor
  ·intro h;cases h
  exact trivial
 case hmu=>
  rintro w13 D13;rintro v13_20 rfl v13_22 ⟨q13,rfl,hq13⟩;show vP ..;refine oM (news:=bC { m with f:=p.s.id,tm:=p.s.term }) ia rfl (by decide) rfl ((hs.m.o.kept_from hB).kept_from D13) (Nat.zero_le _) rfl rfl ⟨_,_,rfl,hq13.whole⟩ (by simp [bC,Value.oneCell']) (by omega) (by omega) ?_;intro A3 c3 w3 ho3 hg3 hl3;exact ⟨eQ (D13.grown _) hg3,⟨A3,c3,rfl,ho3,fun k hk=>(hl3 k hk).imp id fun e=>Nat.le_trans D13.size e⟩,fun t u ht h=>oN (by repeat first | exact trivial | refine ⟨.inl rfl,?_⟩ | refine ⟨.inr (fun _ h=>h),?_⟩) t u ht h⟩
 case hend=>
  rintro w14 hG14;rintro _ rfl _ rfl _ rfl _ rfl v20 rfl v21 rfl v22 _ v23 ⟨A23,c23,rfl,ho23,hL23⟩;show St ..;have hgD:=hG14;have hgC:=hgB.chg (Chg.of_grown (U:=fun k=>tag k=6) hgD (fun k hk=>hs.m.c k hk)) (fun e=>by rw [hs.gc] at e;cases e);refine ab (av rfl) (ab (aa jG rfl) (ej (v:=.slice _ _ _) pc rfl rfl rfl (hgC) (by show _<23;decide) ?_));intro w15 O3 P3;refine an (da (eg rfl (⟨rfl,h.push hs (x:={ m with f:=p.s.id,tm:=p.s.term }) hE hB hgD ho23 rfl (fun k hk=>(hL23 k hk).imp id fun e=>Nat.le_trans hB.size e) O3 P3⟩)))
theorem wK (s:Rf) (i:Int) (E:Option Addr) (c:Nat) (w:World) (h:cC w (.slice E s.es.length c) s.es) (hm:cj s.b s.t s.es=true) (hi:s.b≤i∧i≤bm s):Rt prog 82 [.agg #[.int .i64 s.b,.int .i64 s.t,.slice E s.es.length c],.int .i64 i] w fun v w'=>v=.tuple #[.int .i64 (de s.b s.t s.es i),.bool true]∧ag w w':=
 oC s.b s.t i E s.es.length c s.es w h hm ⟨hi.1,by have:=(eU hm).1;have h2:bm s=s.b+s.es.length:=this;omega⟩
theorem ue:aQ prog 106=true:=by kernel_rfl
theorem nc:aQ prog 61=true:=by kernel_rfl
theorem eR:aQ prog 62=true:=by kernel_rfl
theorem vN:aQ prog 63=true:=by kernel_rfl
theorem nb:aQ prog 64=true:=by kernel_rfl
theorem m_:aQ prog 65=true:=by kernel_rfl
theorem mY:aQ prog 66=true:=by kernel_rfl
theorem AB (n:Int) (w:World) :
 Rt prog 61 [.int .i64 n] w (fun v w'=>v=.bool (decide (1≤n∧n≤7))∧w=w'):=by
 refine enter (n:=9) Tryz.func61 rfl rfl rfl (ao (ah (asb rfl (an (ai (ao (ah (mvi rfl (ab (lH rfl rfl) (mvb rfl (Ap (t:=5) rfl (fun Q1=>?_) (fun Q1=>?_))))))))))))
 ·refine ae rfl (mvi rfl (ae rfl (ab (eT rfl rfl) (ab (aM (v:=.bool _) rfl rfl) (asb rfl (an (ai (aE (bA (v:=.bool _) rfl rfl (⟨congrArg Value.bool ?_,rfl⟩))))))))))
  first
   |exact (decide_eq_true (by omega)).symm
   |exact (decide_eq_false (by omega)).symm
   |(rw [decide_eq_decide];omega)
 refine aq rfl rfl (aq rfl rfl (ab (ay (v:=.bool _) rfl rfl) (asb rfl (an (ai (aE (bA (v:=.bool _) rfl rfl (⟨congrArg Value.bool ?_,rfl⟩))))))))
 first
  |exact (decide_eq_true (by omega)).symm
  |exact (decide_eq_false (by omega)).symm
  |(rw [decide_eq_decide];omega)
theorem tk (n:Int) (w:World) :
 Rt prog 62 [.int .i64 n] w (fun v w'=>v=.bool (decide (0≤n∧n≤1099511627775))∧w=w'):=by
 refine enter (n:=9) Tryz.func62 rfl rfl rfl (ao (ah (asb rfl (an (ai (ao (ah (mvi rfl (ab (lH rfl rfl) (mvb rfl (Ap (t:=5) rfl (fun Q1=>?_) (fun Q1=>?_))))))))))))
 ·refine ae rfl (mvi rfl (ae rfl (ab (ch rfl rfl) (ab (aM (v:=.bool _) rfl rfl) (asb rfl (an (ai (aE (bA (v:=.bool _) rfl rfl (⟨congrArg Value.bool ?_,rfl⟩))))))))))
  first
   |exact (decide_eq_true (by omega)).symm
   |exact (decide_eq_false (by omega)).symm
   |(rw [decide_eq_decide];omega)
 refine aq rfl rfl (aq rfl rfl (ab (ay (v:=.bool _) rfl rfl) (asb rfl (an (ai (aE (bA (v:=.bool _) rfl rfl (⟨congrArg Value.bool ?_,rfl⟩))))))))
 first
  |exact (decide_eq_true (by omega)).symm
  |exact (decide_eq_false (by omega)).symm
  |(rw [decide_eq_decide];omega)
theorem Bd (s:Rf) (E:Option Addr) (n c:Nat) (w:World) (h:cC w (.slice E n c) s.es):Rt prog 63 [.agg #[.int .i64 s.b,.int .i64 s.t,.slice E n c]] w fun v w'=>v=.bool (cj s.b s.t s.es)∧ag w w':=
 (Rt.of (yP s.b s.t _ s.es w h)).mono fun _ _ h=>h
def fu (l:List Int) (n lo hi:Int):Prop:=(l.length:Int)=n∧eL lo hi l
instance (l:List Int) (n lo hi:Int):Decidable (fu l n lo hi):=by unfold fu;exact inferInstance
theorem zI (A:Option Addr) (c:Nat) (l:List Int) (w:World) (hr:et iV w A l) (hl:l.length≤1000000) :
 Rt prog 106 [.slice A l.length c] w (fun v w'=>v=.bool (gu l)∧ag w w'):=by
 refine enter (n:=20) Tryz.func106 rfl rfl rfl (ao (ah (asb rfl (an (ai (ao (ao (ah (asi rfl (an (ai (bk (dr (G:=Nat) [2,4,5,6,7,8,9,10,11,12,13,14,15,16,17,18,19] (fun k=>[(3,.int .i64 (k:Nat))]) (fun k w'=>1≤k∧(k≤l.length∨k=1)∧(∀ j (h:j+1<l.length),j+1<k→l[j]<l[j+1])∧ag w w') (fun k=>l.length-k) (1) ⟨rfl,trivial⟩ ?_ ?_)))))))))))))
 ·exact ⟨Nat.le_refl _,.inr rfl,fun j _ h=>absurd h (by omega),ag.rfl_⟩
 rintro k ρ1 w1 ⟨hk0,hk,h2,hB⟩;refine ao (ao (ah (mvi rfl (mvs rfl (ab (bU cy rfl) (ab (ch rfl rfl) (an (ai (AT rfl (fun Q2=>?_) (fun Q2=>?_))))))))))
 ·have hkx:k<l.length:=by omega
  obtain ⟨ba,oa,rfl,hca⟩:=hr (by omega);refine aO (ai (ao (bk (ao ?_))));apply bK 10 [(10,eqp _),(11,eqp _),(12,eqp _),(13,eqp (.int .i64 l[k])),(14,eqp _),(15,eqp _),(16,eqp (.int .i64 ((k-1:Nat):Int))),(17,eqp _),(18,eqp (.int .i64 l[k-1])),(19,eqp _)] (by repeat first | exact ct | refine cr ?_ | refine bX ?_) (by kernel_rfl) (by kernel_rfl) ⟨aj _,aj _,aj _,aj _,aj _,aj _,aj _,aj _,aj _,aj _,trivial⟩
  case hop=>
   constructor
   ·rintro-w4 D4;exact au (aF (v:=.slice _ _ _) rfl) rfl
   constructor
   ·rintro-w5 D5;exact au (aF (v:=.int _ _) rfl) rfl
   constructor
   ·rintro-w6 D6;rintro _ rfl _ rfl;exact au (db cX rfl rfl (by omega)) rfl
   constructor
   ·rintro-w7 D7;rintro _ rfl;exact au (ar ak rfl (by exact fy (hB.next D7) (hca k hkx))) rfl
   constructor
   ·rintro-w8 D8;exact au (aF (v:=.slice _ _ _) rfl) rfl
   constructor
   ·rintro-w9 D9;exact au (aF (v:=.int _ _) rfl) rfl
   constructor
   ·rintro-w10 D10;rintro _ rfl;exact au (iY (eJ rfl rfl (by omega)) (bT (by omega))) rfl
   constructor
   ·rintro-w11 D11;rintro _ rfl v11_16 rfl;exact au (db cX rfl rfl (by omega)) rfl
   constructor
   ·rintro-w12 D12;rintro _ rfl;exact au (ar ak rfl (by exact fy (hB.next D12) (hca (k-1) (by omega)))) rfl
   constructor
   ·rintro-w13 D13;rintro v13_13 rfl v13_18 rfl;exact au (eT rfl rfl) rfl
   exact trivial
  case hend=>
   intro w14 D14;rintro _ rfl _ rfl _ rfl v13 rfl _ rfl _ rfl v16 rfl _ rfl v18 rfl _ rfl;show St ..;refine an (ai (AT rfl (fun Q15=>?_) (fun Q15=>?_)))
   ·refine ao (ah (asb rfl (an (ai (aE (bG (aG (aG (bG (aG (bA (v:=.bool _) rfl rfl (⟨congrArg Value.bool ?_,(hB.next D14)⟩))))))))))));rw [eq_comm,←Bool.not_eq_true,iZ];intro h4;obtain ⟨j,rfl⟩:∃ j,k=j+1:=⟨k-1,by omega⟩;have h6:=h4 j hkx
    (try simp only [Nat.add_sub_cancel] at*)
    omega
   refine aO (bN (ai (ah (mvi rfl (ab (cn rfl rfl (by omega)) (asi rfl (an ?_)))))));refine bL (k+1) ⟨(by first | rfl | (refine bT ?_;omega)),trivial⟩ (by (iterate 35 refine bd rfl ?_);exact br) ⟨?_,?_⟩
   ·refine ⟨by omega,.inl (by omega),fun j h hj=>?_,(hB.next D14)⟩;rcases Nat.lt_or_ge (j+1) k with e | e
    ·exact h2 j h e
    ·obtain rfl:k=j+1:=by omega
     (try simp only [Nat.add_sub_cancel] at*)
     omega
   ·omega
 refine cL (bB (bB (cw (ai (ao (ah (asb rfl (an (ai (aE (bA (v:=.bool _) rfl rfl (⟨congrArg Value.bool ?_,hB⟩))))))))))));rw [eq_comm,iZ];exact fun j hj=>h2 j hj (by omega)
theorem tn (A:Option Addr) (c:Nat) (l:List Int) (n:Int) (w:World) (hr:et iV w A l) (hl:l.length≤1000000) :
 Rt prog 64 [.slice A l.length c,.int .i64 n] w (fun v w'=>v=.bool (fC l n)∧ag w w'):=by
 refine enter (n:=27) Tryz.func64 rfl rfl rfl (ao (ah (asb rfl (an (ai (ao (ao (ah (asi rfl (an (ai (bk (dr (G:=Nat) [4,6,7,8,9,10,11,12,13,14,15,16,17,18,19,20,21,22,23,24] (fun k=>[(5,.int .i64 (k:Nat))]) (fun k w'=>k≤l.length∧(∀ j (h:j<l.length),j<k→1≤l[j]∧l[j]≤n)∧ag w w') (fun k=>l.length-k) (0) ⟨rfl,trivial⟩ ?_ ?_)))))))))))))
 ·exact ⟨Nat.zero_le _,fun j _ h=>absurd h (by omega),ag.rfl_⟩
 rintro k ρ1 w1 ⟨hk,h1,hB⟩;refine ao (ao (ah (mvi rfl (mvs rfl (ab (bU cy rfl) (ab (ch rfl rfl) (an (ai (AT rfl (fun Q2=>?_) (fun Q2=>?_))))))))))
 ·have hkx:k<l.length:=by omega
  obtain ⟨ba,oa,rfl,hca⟩:=hr (by omega);refine aO (ai (ao (bk (ao (ah (mvs rfl (mvi rfl (ab (db cX rfl rfl (by omega)) (ab (ar ak rfl (by exact fy hB (hca k hkx))) ?_)))))))));refine ab (ch rfl rfl) (mvb rfl (Ap (t:=17) rfl (fun Q3=>?_) (fun Q3=>?_)))
  ·refine bD rfl (an (ai (aZ rfl (ao (ah (asb rfl (an (ai (aE (bG (aG (aG (bG (aG (bA (v:=.bool _) rfl rfl (⟨congrArg Value.bool ?_,hB⟩))))))))))))))));rw [eq_comm,←Bool.not_eq_true,gY];rintro ⟨h3,h4⟩;have h5:=h3 _ (List.getElem_mem hkx);omega
  refine ae rfl (mvs rfl (ae rfl (mvi rfl (ae rfl (ab (db cX rfl rfl (by omega)) (ae rfl (ab (ar ak rfl (by exact fy hB (hca k hkx))) ?_)))))));refine ae rfl (mvi rfl (ae rfl (ab (cq rfl rfl) (ab (ay (v:=.bool _) rfl rfl) (an (ai (AT rfl (fun Q4=>?_) (fun Q4=>?_))))))))
  ·refine ao (ah (asb rfl (an (ai (aE (bG (aG (aG (bG (aG (bA (v:=.bool _) rfl rfl (⟨congrArg Value.bool ?_,hB⟩))))))))))));rw [eq_comm,←Bool.not_eq_true,gY];rintro ⟨h3,h4⟩;have h5:=h3 _ (List.getElem_mem hkx);omega
  refine aO (bN (ai (ah (mvi rfl (ab (cn rfl rfl (by omega)) (asi rfl (an ?_)))))));refine bL (k+1) ⟨(by first | rfl | (refine bT ?_;omega)),trivial⟩ (by (iterate 42 refine bd rfl ?_);exact br) ⟨?_,?_⟩
  ·refine ⟨by omega,fun j h hj=>?_,hB⟩;rcases Nat.lt_or_ge j k with e | e
   ·exact h1 j h e
   ·obtain rfl:j=k:=by omega
    omega
  ·omega
 refine cL (bB (bB (cw (ai (ao (ah (mvs rfl (aC ue (zI A c l _ (hr.from_ hB) hl) ?_))))))));rintro v26 w5 ⟨rfl,E26⟩;refine asb rfl (an (ai (aE (bA (v:=.bool _) rfl rfl (⟨congrArg Value.bool ?_,(hB.next E26)⟩)))));obtain rfl:k=l.length:=by omega
 rw [Bool.eq_iff_iff,gY,iZ];exact ⟨fun h=>⟨fun x hx=>by obtain ⟨j,hj,rfl⟩:=List.getElem_of_mem hx;exact h1 j hj hj,h⟩,fun h=>h.2⟩
theorem xQ (A:Option Addr) (c:Nat) (l:List Int) (n lo hi:Int) (w:World) (hr:et iV w A l) (hl:l.length≤1000000) :
 Rt prog 66 [.slice A l.length c,.int .i64 n,.int .i64 lo,.int .i64 hi] w (fun v w'=>v=.bool (decide (fu l n lo hi))∧ag w w'):=by
 refine enter (n:=34) Tryz.func66 rfl rfl rfl (ao (ah (asb rfl (an (ai (ao (ao (ah (asi rfl (an (ai (bk (dr (G:=Nat) [8,10,11,12,13,14,15,16,17,18,19,20,21,22,23,24,25,26,27,28,29] (fun k=>[(9,.int .i64 (k:Nat))]) (fun k w'=>k≤l.length∧(∀ j (h:j<l.length),j<k→lo≤l[j]∧l[j]≤hi)∧ag w w') (fun k=>l.length-k) (0) ⟨rfl,trivial⟩ ?_ ?_)))))))))))))
 ·exact ⟨Nat.zero_le _,fun j _ h=>absurd h (by omega),ag.rfl_⟩
 rintro k ρ1 w1 ⟨hk,h1,hB⟩;refine ao (ao (ah (mvi rfl (mvs rfl (ab (bU cy rfl) (ab (ch rfl rfl) (an (ai (AT rfl (fun Q2=>?_) (fun Q2=>?_))))))))))
 ·have hkx:k<l.length:=by omega
  obtain ⟨ba,oa,rfl,hca⟩:=hr (by omega);refine aO (ai (ao (bk (ao (ah (mvs rfl (mvi rfl (ab (db cX rfl rfl (by omega)) (ab (ar ak rfl (by exact fy hB (hca k hkx))) ?_)))))))));refine mvi rfl (ab (ch rfl rfl) (mvb rfl (Ap (t:=22) rfl (fun Q3=>?_) (fun Q3=>?_))))
  ·refine bD rfl (an (ai (aZ rfl (ao (ah (asb rfl (an (ai (aE (bG (aG (aG (bG (aG (bA (v:=.bool _) rfl rfl (⟨congrArg Value.bool ?_,hB⟩))))))))))))))));rw [eq_comm,decide_eq_false_iff_not];rintro ⟨h3,h4⟩;have h5:=h4 _ (List.getElem_mem hkx);omega
  refine ae rfl (mvs rfl (ae rfl (mvi rfl (ae rfl (ab (db cX rfl rfl (by omega)) (ae rfl (ab (ar ak rfl (by exact fy hB (hca k hkx))) ?_)))))));refine ae rfl (mvi rfl (ae rfl (ab (cq rfl rfl) (ab (ay (v:=.bool _) rfl rfl) (an (ai (AT rfl (fun Q4=>?_) (fun Q4=>?_))))))))
  ·refine ao (ah (asb rfl (an (ai (aE (bG (aG (aG (bG (aG (bA (v:=.bool _) rfl rfl (⟨congrArg Value.bool ?_,hB⟩))))))))))));rw [eq_comm,decide_eq_false_iff_not];rintro ⟨h3,h4⟩;have h5:=h4 _ (List.getElem_mem hkx);omega
  refine aO (bN (ai (ah (mvi rfl (ab (cn rfl rfl (by omega)) (asi rfl (an ?_)))))));refine bL (k+1) ⟨(by first | rfl | (refine bT ?_;omega)),trivial⟩ (by (iterate 44 refine bd rfl ?_);exact br) ⟨?_,?_⟩
  ·refine ⟨by omega,fun j h hj=>?_,hB⟩;rcases Nat.lt_or_ge j k with e | e
   ·exact h1 j h e
   ·obtain rfl:j=k:=by omega
    omega
  ·omega
 refine cL (bB (bB (cw (ai (ao (ah (mvs rfl (ab (bU cy rfl) (mvi rfl (ab (bf rfl rfl) (asb rfl (an (ai (aE (bA (v:=.bool _) rfl rfl ?_)))))))))))))));refine ⟨congrArg Value.bool ?_,hB⟩;obtain rfl:k=l.length:=by omega
 rw [Bool.eq_iff_iff,beq_iff_eq,decide_eq_true_eq];exact ⟨fun h=>⟨h,fun x hx=>by obtain ⟨j,hj,rfl⟩:=List.getElem_of_mem hx;exact h1 j hj hj⟩,fun h=>h.1⟩
theorem AU (s:ByteArray):(!(s.toList==(⟨#[]⟩:ByteArray).toList))=decide (s.size≠0):=by
 rw [zc,Bool.eq_iff_iff];simp
theorem yB (s:Rf) (a:Ra) (w:World) (hrd:eX w s a) (hl:s.votes.length≤1000000∧s.next.length≤1000000∧s.mtch.length≤1000000∧s.sent.length≤1000000∧s.reads.length≤1000000∧∀ q∈s.reads,q.acks.length≤1000000) :
 Rt prog 30 [.agg (rfV s a).toArray] w (fun v w'=>v=.bool (im s)∧ag w w'):=by
 obtain ⟨E,Ec,V,Vc,X,Xc,M,Mc,Sn,Sc,Q,Qc,LL⟩:=a;have hrL:LL.map (fun q=>q.1)=s.reads:=hrd.r;have hrk:∀ q∈LL,IR w q.2.1 q.2.2 q.1.acks:=hrd.k;obtain ⟨hl1,hl2,hl3,hl4,hl5,hl6⟩:=hl;have hrl:LL.length=s.reads.length:=by rw [←hrL,List.length_map]
 obtain ⟨nn,hnn⟩:∃ nn:Int,(s.role=2→nn=s.nodes)∧(s.role≠2→nn=0):=by
  by_cases h:s.role=2
  ·exact ⟨s.nodes,fun _=>rfl,fun e=>absurd h e⟩
  ·exact ⟨0,fun e=>absurd e h,fun _=>rfl⟩
 refine enter (n:=259) Tryz.func30 rfl rfl rfl (ao (ah (bZ (v:=.agg _) rfl ?_)));intro b1 w1 E1 hb1 hk1;refine asb rfl (an (ai (e_ (G:=Unit) [2,8,9,10,11,12,13,14,15,16,17,18,19,20,21,22,23,24,25,26,27,28,29,30,31,32,33,34,35,36,37,38,39,40,41,42,43,44,45,46,47,48,49,50,51,52,53,54,55,56,57,58,59,60,61,62,63,64,65,66,67,68,69,70,71,72,73,74,75,76,77,78,79,80,81,82,83,84,85,86,87,88,89,90,91,92,93,94,95,96,97,98,99,100,101,102,103,104,105,106,107,108,109,110,111,112] (fun _=>[]) (fun _ w'=>((1≤s.nodes∧s.nodes≤7)∧(1≤s.id∧s.id≤s.nodes)∧(0≤s.role∧s.role≤2)∧(0≤s.term∧s.term≤1099511627775)∧(0≤s.vote∧s.vote≤s.nodes)∧(0≤s.leader∧s.leader≤s.nodes)∧cj s.b s.t s.es=true∧s.snap.size≤524288∧(s.b≠0∨s.snap.size=0)∧(0≤s.elapsed∧s.elapsed≤1099511627775)∧(0≤s.timeout∧s.timeout≤1099511627775)∧(0≤s.round∧s.round≤1099511627775)∧fC s.votes s.nodes=true)∧Blk w' b1 29 (rfV s (⟨E,Ec,V,Vc,X,Xc,M,Mc,Sn,Sc,Q,Qc,LL⟩:Ra)).toArray∧ag w w') ?_ ?_)))
 ·refine ao (ah (ab (aa cd rfl) (ab (ar ak rfl (by exact (hk1.from_ ag.rfl_).rd 1 rfl)) ?_)));refine aC nc (AB s.nodes _) ?_;rintro v10 w2 ⟨rfl,rfl⟩;refine ab (cp rfl) (mvb rfl (aK (t:=12) rfl (fun Q3=>?_) (fun Q3=>?_)))
  ·with_reducible (replace Q3:=dK Q3;replace Q3:=dF_ Q3)
   (try simp only [bs9] at Q3)
   refine bD rfl (an (ai (aZ rfl (ao (ah (asb rfl (an (ai (aE (aG (bA (v:=.bool _) rfl rfl (⟨congrArg Value.bool ?_,(ag.rfl_.next E1)⟩))))))))))));rw [eq_comm,←Bool.not_eq_true,b0];rintro ⟨⟨n1,n2,n3,⟨n4,n5⟩,n6,n7,n8,n9⟩,⟨g1,g2,g3,g4,g5⟩,v1,l1,⟨p1,p2,p3⟩⟩
   first
    |omega
    |(simp_all;done)
    |(simp_all;omega)
  with_reducible (replace Q3:=dL Q3;replace Q3:=dT_ Q3)
  (try simp only [bs9] at Q3)
  refine ae rfl (ab (aa cB rfl) (ae rfl (ab (ar ak rfl (by exact (hk1.from_ ag.rfl_).rd 0 rfl)) ?_)));refine ae rfl (ab (ch rfl rfl) (ab (ay (v:=.bool _) rfl rfl) (mvb rfl (Ap (t:=17) rfl (fun Q4=>?_) (fun Q4=>?_)))))
  ·(try simp only [bs9] at Q4)
   refine bD rfl (an (ai (aZ rfl (ao (ah (asb rfl (an (ai (aE (aG (bA (v:=.bool _) rfl rfl (⟨congrArg Value.bool ?_,(ag.rfl_.next E1)⟩))))))))))));rw [eq_comm,←Bool.not_eq_true,b0];rintro ⟨⟨n1,n2,n3,⟨n4,n5⟩,n6,n7,n8,n9⟩,⟨g1,g2,g3,g4,g5⟩,v1,l1,⟨p1,p2,p3⟩⟩
   first
    |omega
    |(simp_all;done)
    |(simp_all;omega)
  (try simp only [bs9] at Q4)
  refine ae rfl (ab (aa cB rfl) (ae rfl (ab (ar ak rfl (by exact (hk1.from_ ag.rfl_).rd 0 rfl)) ?_)));refine ae rfl (ab (aa cd rfl) (ae rfl (ab (ar ak rfl (by exact (hk1.from_ ag.rfl_).rd 1 rfl)) ?_)));refine ae rfl (ab (cq rfl rfl) (ab (ay (v:=.bool _) rfl rfl) (mvb rfl (Ap (t:=24) rfl (fun Q5=>?_) (fun Q5=>?_)))))
  ·(try simp only [bs9] at Q5)
   refine bD rfl (an (ai (aZ rfl (ao (ah (asb rfl (an (ai (aE (aG (bA (v:=.bool _) rfl rfl (⟨congrArg Value.bool ?_,(ag.rfl_.next E1)⟩))))))))))));rw [eq_comm,←Bool.not_eq_true,b0];rintro ⟨⟨n1,n2,n3,⟨n4,n5⟩,n6,n7,n8,n9⟩,⟨g1,g2,g3,g4,g5⟩,v1,l1,⟨p1,p2,p3⟩⟩
   first
    |omega
    |(simp_all;done)
    |(simp_all;omega)
  (try simp only [bs9] at Q5)
  refine ae rfl (ab (aa cW rfl) (ae rfl (ab (ar ak rfl (by exact (hk1.from_ ag.rfl_).rd 2 rfl)) ?_)));refine ae rfl (ab (ch rfl rfl) (ab (ay (v:=.bool _) rfl rfl) (mvb rfl (Ap (t:=29) rfl (fun Q6=>?_) (fun Q6=>?_)))))
  ·(try simp only [bs9] at Q6)
   refine bD rfl (an (ai (aZ rfl (ao (ah (asb rfl (an (ai (aE (aG (bA (v:=.bool _) rfl rfl (⟨congrArg Value.bool ?_,(ag.rfl_.next E1)⟩))))))))))));rw [eq_comm,←Bool.not_eq_true,b0];rintro ⟨⟨n1,n2,n3,⟨n4,n5⟩,n6,n7,n8,n9⟩,⟨g1,g2,g3,g4,g5⟩,v1,l1,⟨p1,p2,p3⟩⟩
   first
    |omega
    |(simp_all;done)
    |(simp_all;omega)
  (try simp only [bs9] at Q6)
  refine ae rfl (ab (aa cW rfl) (ae rfl (ab (ar ak rfl (by exact (hk1.from_ ag.rfl_).rd 2 rfl)) ?_)));refine ae rfl (ab (cq rfl rfl) (ab (ay (v:=.bool _) rfl rfl) (mvb rfl (Ap (t:=34) rfl (fun Q7=>?_) (fun Q7=>?_)))))
  ·(try simp only [bs9] at Q7)
   refine bD rfl (an (ai (aZ rfl (ao (ah (asb rfl (an (ai (aE (aG (bA (v:=.bool _) rfl rfl (⟨congrArg Value.bool ?_,(ag.rfl_.next E1)⟩))))))))))));rw [eq_comm,←Bool.not_eq_true,b0];rintro ⟨⟨n1,n2,n3,⟨n4,n5⟩,n6,n7,n8,n9⟩,⟨g1,g2,g3,g4,g5⟩,v1,l1,⟨p1,p2,p3⟩⟩
   first
    |omega
    |(simp_all;done)
    |(simp_all;omega)
  (try simp only [bs9] at Q7)
  refine ae rfl (ab (aa bH rfl) (ae rfl (ab (ar ak rfl (by exact (hk1.from_ ag.rfl_).rd 3 rfl)) ?_)));refine ae rfl (aC eR (tk s.term _) ?_);rintro v37 w8 ⟨rfl,rfl⟩;refine ae rfl (ab (cp rfl) (ab (ay (v:=.bool _) rfl rfl) (mvb rfl (aK (t:=40) rfl (fun Q9=>?_) (fun Q9=>?_)))))
  ·with_reducible (replace Q9:=dK Q9;replace Q9:=dF_ Q9)
   (try simp only [bs9] at Q9)
   refine bD rfl (an (ai (aZ rfl (ao (ah (asb rfl (an (ai (aE (aG (bA (v:=.bool _) rfl rfl (⟨congrArg Value.bool ?_,(ag.rfl_.next E1)⟩))))))))))));rw [eq_comm,←Bool.not_eq_true,b0];rintro ⟨⟨n1,n2,n3,⟨n4,n5⟩,n6,n7,n8,n9⟩,⟨g1,g2,g3,g4,g5⟩,v1,l1,⟨p1,p2,p3⟩⟩
   first
    |omega
    |(simp_all;done)
    |(simp_all;omega)
  with_reducible (replace Q9:=dL Q9;replace Q9:=dT_ Q9)
  (try simp only [bs9] at Q9)
  refine ae rfl (ab (aa fm rfl) (ae rfl (ab (ar ak rfl (by exact (hk1.from_ ag.rfl_).rd 4 rfl)) ?_)));refine ae rfl (ab (ch rfl rfl) (ab (ay (v:=.bool _) rfl rfl) (mvb rfl (Ap (t:=45) rfl (fun Q10=>?_) (fun Q10=>?_)))))
  ·(try simp only [bs9] at Q10)
   refine bD rfl (an (ai (aZ rfl (ao (ah (asb rfl (an (ai (aE (aG (bA (v:=.bool _) rfl rfl (⟨congrArg Value.bool ?_,(ag.rfl_.next E1)⟩))))))))))));rw [eq_comm,←Bool.not_eq_true,b0];rintro ⟨⟨n1,n2,n3,⟨n4,n5⟩,n6,n7,n8,n9⟩,⟨g1,g2,g3,g4,g5⟩,v1,l1,⟨p1,p2,p3⟩⟩
   first
    |omega
    |(simp_all;done)
    |(simp_all;omega)
  (try simp only [bs9] at Q10)
  refine ae rfl (ab (aa fm rfl) (ae rfl (ab (ar ak rfl (by exact (hk1.from_ ag.rfl_).rd 4 rfl)) ?_)));refine ae rfl (ab (aa cd rfl) (ae rfl (ab (ar ak rfl (by exact (hk1.from_ ag.rfl_).rd 1 rfl)) ?_)));refine ae rfl (ab (cq rfl rfl) (ab (ay (v:=.bool _) rfl rfl) (mvb rfl (Ap (t:=52) rfl (fun Q11=>?_) (fun Q11=>?_)))))
  ·(try simp only [bs9] at Q11)
   refine bD rfl (an (ai (aZ rfl (ao (ah (asb rfl (an (ai (aE (aG (bA (v:=.bool _) rfl rfl (⟨congrArg Value.bool ?_,(ag.rfl_.next E1)⟩))))))))))));rw [eq_comm,←Bool.not_eq_true,b0];rintro ⟨⟨n1,n2,n3,⟨n4,n5⟩,n6,n7,n8,n9⟩,⟨g1,g2,g3,g4,g5⟩,v1,l1,⟨p1,p2,p3⟩⟩
   first
    |omega
    |(simp_all;done)
    |(simp_all;omega)
  (try simp only [bs9] at Q11)
  refine ae rfl (ab (aa d_ rfl) (ae rfl (ab (ar ak rfl (by exact (hk1.from_ ag.rfl_).rd 5 rfl)) ?_)));refine ae rfl (ab (ch rfl rfl) (ab (ay (v:=.bool _) rfl rfl) (mvb rfl (Ap (t:=57) rfl (fun Q12=>?_) (fun Q12=>?_)))))
  ·(try simp only [bs9] at Q12)
   refine bD rfl (an (ai (aZ rfl (ao (ah (asb rfl (an (ai (aE (aG (bA (v:=.bool _) rfl rfl (⟨congrArg Value.bool ?_,(ag.rfl_.next E1)⟩))))))))))));rw [eq_comm,←Bool.not_eq_true,b0];rintro ⟨⟨n1,n2,n3,⟨n4,n5⟩,n6,n7,n8,n9⟩,⟨g1,g2,g3,g4,g5⟩,v1,l1,⟨p1,p2,p3⟩⟩
   first
    |omega
    |(simp_all;done)
    |(simp_all;omega)
  (try simp only [bs9] at Q12)
  refine ae rfl (ab (aa d_ rfl) (ae rfl (ab (ar ak rfl (by exact (hk1.from_ ag.rfl_).rd 5 rfl)) ?_)));refine ae rfl (ab (aa cd rfl) (ae rfl (ab (ar ak rfl (by exact (hk1.from_ ag.rfl_).rd 1 rfl)) ?_)));refine ae rfl (ab (cq rfl rfl) (ab (ay (v:=.bool _) rfl rfl) (mvb rfl (Ap (t:=64) rfl (fun Q13=>?_) (fun Q13=>?_)))))
  ·(try simp only [bs9] at Q13)
   refine bD rfl (an (ai (aZ rfl (ao (ah (asb rfl (an (ai (aE (aG (bA (v:=.bool _) rfl rfl (⟨congrArg Value.bool ?_,(ag.rfl_.next E1)⟩))))))))))));rw [eq_comm,←Bool.not_eq_true,b0];rintro ⟨⟨n1,n2,n3,⟨n4,n5⟩,n6,n7,n8,n9⟩,⟨g1,g2,g3,g4,g5⟩,v1,l1,⟨p1,p2,p3⟩⟩
   first
    |omega
    |(simp_all;done)
    |(simp_all;omega)
  (try simp only [bs9] at Q13)
  refine ae rfl (ab (aa bn rfl) (ae rfl (ab (aH (cs:=[.int .i64 s.b,.int .i64 s.t,.slice E s.es.length Ec]) bQ bh rfl (qv (hk1.from_ ag.rfl_))) (ae rfl (aC vN (Bd s E s.es.length Ec _ (hrd.e.from_ (ag.rfl_.next E1))) ?_)))));rintro v67 w14 ⟨rfl,E67⟩;refine ae rfl (ab (cp rfl) (ab (ay (v:=.bool _) rfl rfl) (mvb rfl (An (t:=70) rfl (fun Q15=>?_) (fun Q15=>?_)))))
  ·(try simp only [bs9] at Q15)
   refine bD rfl (an (ai (aZ rfl (ao (ah (asb rfl (an (ai (aE (aG (bA (v:=.bool _) rfl rfl (⟨congrArg Value.bool ?_,((ag.rfl_.next E1).next E67)⟩))))))))))));rw [eq_comm,←Bool.not_eq_true,b0];rintro ⟨⟨n1,n2,n3,⟨n4,n5⟩,n6,n7,n8,n9⟩,⟨g1,g2,g3,g4,g5⟩,v1,l1,⟨p1,p2,p3⟩⟩
   first
    |omega
    |(simp_all;done)
    |(simp_all;omega)
  (try simp only [bs9] at Q15)
  refine ae rfl (ab (aa dB rfl) (ae rfl (ab (ar bF rfl (by exact (hk1.from_ (ag.rfl_.next E67)).rd 9 rfl)) ?_)));refine ae rfl (ab (df (by kernel_rfl) rfl) (ae rfl (ab (cq rfl rfl) (ab (ay (v:=.bool _) rfl rfl) (mvb rfl (Ap (t:=76) rfl (fun Q16=>?_) (fun Q16=>?_)))))))
  ·(try simp only [bs9] at Q16)
   refine bD rfl (an (ai (aZ rfl (ao (ah (asb rfl (an (ai (aE (aG (bA (v:=.bool _) rfl rfl (⟨congrArg Value.bool ?_,((ag.rfl_.next E1).next E67)⟩))))))))))));rw [eq_comm,←Bool.not_eq_true,b0];rintro ⟨⟨n1,n2,n3,⟨n4,n5⟩,n6,n7,n8,n9⟩,⟨g1,g2,g3,g4,g5⟩,v1,l1,⟨p1,p2,p3⟩⟩
   first
    |omega
    |(simp_all;done)
    |(simp_all;omega)
  (try simp only [bs9] at Q16)
  refine ae rfl (ab (aa bn rfl) (ae rfl (ab (aa dE rfl) (ae rfl (ab (ar ak rfl (by exact (hk1.from_ (ag.rfl_.next E67)).rd 6 rfl)) ?_)))));refine ae rfl (ab (bf rfl rfl) (ae rfl (mvb rfl (Ap (t:=81) rfl (fun Q17=>?_) (fun Q17=>?_)))))
  ·(try simp only [bs9] at Q17)
   refine ae rfl (ab (aa dB rfl) (ae rfl (ab (ar bF rfl (by exact (hk1.from_ (ag.rfl_.next E67)).rd 9 rfl)) ?_)));refine ae rfl (ab (iY (uC rfl rfl) (congrArg Value.bool (AU s.snap))) (ae rfl (ab (aM (v:=.bool _) rfl rfl) (ab (ay (v:=.bool _) rfl rfl) (mvb rfl (Ap (t:=87) rfl (fun Q18=>?_) (fun Q18=>?_)))))))
   ·(try simp only [bs9] at Q18)
    refine bD rfl (an (ai (aZ rfl (ao (ah (asb rfl (an (ai (aE (aG (bA (v:=.bool _) rfl rfl (⟨congrArg Value.bool ?_,((ag.rfl_.next E1).next E67)⟩))))))))))));rw [eq_comm,←Bool.not_eq_true,b0];rintro ⟨⟨n1,n2,n3,⟨n4,n5⟩,n6,n7,n8,n9⟩,⟨g1,g2,g3,g4,g5⟩,v1,l1,⟨p1,p2,p3⟩⟩
    first
     |omega
     |(simp_all;done)
     |(simp_all;omega)
   (try simp only [bs9] at Q18)
   refine ae rfl (ab (aa dp rfl) (ae rfl (ab (ar ak rfl (by exact (hk1.from_ (ag.rfl_.next E67)).rd 11 rfl)) ?_)));refine ae rfl (aC eR (tk s.elapsed _) ?_);rintro v90 w19 ⟨rfl,rfl⟩;refine ae rfl (ab (cp rfl) (ab (ay (v:=.bool _) rfl rfl) (mvb rfl (aK (t:=93) rfl (fun Q20=>?_) (fun Q20=>?_)))))
   ·with_reducible (replace Q20:=dK Q20;replace Q20:=dF_ Q20)
    (try simp only [bs9] at Q20)
    refine bD rfl (an (ai (aZ rfl (ao (ah (asb rfl (an (ai (aE (aG (bA (v:=.bool _) rfl rfl (⟨congrArg Value.bool ?_,((ag.rfl_.next E1).next E67)⟩))))))))))));rw [eq_comm,←Bool.not_eq_true,b0];rintro ⟨⟨n1,n2,n3,⟨n4,n5⟩,n6,n7,n8,n9⟩,⟨g1,g2,g3,g4,g5⟩,v1,l1,⟨p1,p2,p3⟩⟩
    first
     |omega
     |(simp_all;done)
     |(simp_all;omega)
   with_reducible (replace Q20:=dL Q20;replace Q20:=dT_ Q20)
   (try simp only [bs9] at Q20)
   refine ae rfl (ab (aa eY rfl) (ae rfl (ab (ar ak rfl (by exact (hk1.from_ (ag.rfl_.next E67)).rd 12 rfl)) ?_)));refine ae rfl (aC eR (tk s.timeout _) ?_);rintro v96 w21 ⟨rfl,rfl⟩;refine ae rfl (ab (cp rfl) (ab (ay (v:=.bool _) rfl rfl) (mvb rfl (aK (t:=99) rfl (fun Q22=>?_) (fun Q22=>?_)))))
   ·with_reducible (replace Q22:=dK Q22;replace Q22:=dF_ Q22)
    (try simp only [bs9] at Q22)
    refine bD rfl (an (ai (aZ rfl (ao (ah (asb rfl (an (ai (aE (aG (bA (v:=.bool _) rfl rfl (⟨congrArg Value.bool ?_,((ag.rfl_.next E1).next E67)⟩))))))))))));rw [eq_comm,←Bool.not_eq_true,b0];rintro ⟨⟨n1,n2,n3,⟨n4,n5⟩,n6,n7,n8,n9⟩,⟨g1,g2,g3,g4,g5⟩,v1,l1,⟨p1,p2,p3⟩⟩
    first
     |omega
     |(simp_all;done)
     |(simp_all;omega)
   with_reducible (replace Q22:=dL Q22;replace Q22:=dT_ Q22)
   (try simp only [bs9] at Q22)
   refine ae rfl (ab (aa dZ rfl) (ae rfl (ab (ar ak rfl (by exact (hk1.from_ (ag.rfl_.next E67)).rd 18 rfl)) ?_)));refine ae rfl (aC eR (tk s.round _) ?_);rintro v102 w23 ⟨rfl,rfl⟩;refine ae rfl (ab (cp rfl) (ab (ay (v:=.bool _) rfl rfl) (mvb rfl (aK (t:=105) rfl (fun Q24=>?_) (fun Q24=>?_)))))
   ·with_reducible (replace Q24:=dK Q24;replace Q24:=dF_ Q24)
    (try simp only [bs9] at Q24)
    refine bD rfl (an (ai (aZ rfl (ao (ah (asb rfl (an (ai (aE (aG (bA (v:=.bool _) rfl rfl (⟨congrArg Value.bool ?_,((ag.rfl_.next E1).next E67)⟩))))))))))));rw [eq_comm,←Bool.not_eq_true,b0];rintro ⟨⟨n1,n2,n3,⟨n4,n5⟩,n6,n7,n8,n9⟩,⟨g1,g2,g3,g4,g5⟩,v1,l1,⟨p1,p2,p3⟩⟩
    first
     |omega
     |(simp_all;done)
     |(simp_all;omega)
   with_reducible (replace Q24:=dL Q24;replace Q24:=dT_ Q24)
   (try simp only [bs9] at Q24)
   refine ae rfl (ab (aa dc rfl) (ae rfl (ab (ar bt rfl (by exact (show _=some (Value.slice V s.votes.length Vc) from (hk1.from_ (ag.rfl_.next E67)).rd 14 rfl))) ?_)));refine ae rfl (ab (aa cd rfl) (ae rfl (ab (ar ak rfl (by exact (hk1.from_ (ag.rfl_.next E67)).rd 1 rfl)) ?_)));refine ae rfl (aC nb (tn V Vc s.votes s.nodes _ (hrd.v.1.from_ ((ag.rfl_.next E1).next E67)) hl1) ?_);rintro v110 w25 ⟨rfl,E110⟩;refine ae rfl (ab (cp rfl) (ab (ay (v:=.bool _) rfl rfl) (an (ai (AR rfl (fun Q26=>?_) (fun Q26=>?_))))))
   ·(try simp only [bs9] at Q26)
    refine ao (ah (asb rfl (an (ai (aE (aG (bA (v:=.bool _) rfl rfl (⟨congrArg Value.bool ?_,(((ag.rfl_.next E1).next E67).next E110)⟩))))))));rw [eq_comm,←Bool.not_eq_true,b0];rintro ⟨⟨n1,n2,n3,⟨n4,n5⟩,n6,n7,n8,n9⟩,⟨g1,g2,g3,g4,g5⟩,v1,l1,⟨p1,p2,p3⟩⟩
    first
     |omega
     |(simp_all;done)
     |(simp_all;omega)
   (try simp only [bs9] at Q26)
   refine aO ?_;refine bL (()) trivial (by (iterate 122 refine bd rfl ?_);exact br) ?_;exact ⟨⟨by omega,by omega,by omega,by omega,by omega,by omega,by first | assumption | simp_all,by omega,by omega,by omega,by omega,by omega,by first | assumption | simp_all⟩,hk1.from_ ((ag.rfl_.next E67).next E110),(((ag.rfl_.next E1).next E67).next E110)⟩
  (try simp only [bs9] at Q17)
  refine aq rfl rfl (aq rfl rfl (aq rfl rfl (ae rfl (ab (ay (v:=.bool _) rfl rfl) (ab (ay (v:=.bool _) rfl rfl) (mvb rfl (ae rfl (ab (aa dp rfl) ?_))))))));refine ae rfl (ab (ar ak rfl (by exact (hk1.from_ (ag.rfl_.next E67)).rd 11 rfl)) ?_);refine ae rfl (aC eR (tk s.elapsed _) ?_);rintro v90 w27 ⟨rfl,rfl⟩;refine ae rfl (ab (cp rfl) (ab (ay (v:=.bool _) rfl rfl) (mvb rfl (aK (t:=93) rfl (fun Q28=>?_) (fun Q28=>?_)))))
  ·with_reducible (replace Q28:=dK Q28;replace Q28:=dF_ Q28)
   (try simp only [bs9] at Q28)
   refine bD rfl (an (ai (aZ rfl (ao (ah (asb rfl (an (ai (aE (aG (bA (v:=.bool _) rfl rfl (⟨congrArg Value.bool ?_,((ag.rfl_.next E1).next E67)⟩))))))))))));rw [eq_comm,←Bool.not_eq_true,b0];rintro ⟨⟨n1,n2,n3,⟨n4,n5⟩,n6,n7,n8,n9⟩,⟨g1,g2,g3,g4,g5⟩,v1,l1,⟨p1,p2,p3⟩⟩
   first
    |omega
    |(simp_all;done)
    |(simp_all;omega)
  with_reducible (replace Q28:=dL Q28;replace Q28:=dT_ Q28)
  (try simp only [bs9] at Q28)
  refine ae rfl (ab (aa eY rfl) (ae rfl (ab (ar ak rfl (by exact (hk1.from_ (ag.rfl_.next E67)).rd 12 rfl)) ?_)));refine ae rfl (aC eR (tk s.timeout _) ?_);rintro v96 w29 ⟨rfl,rfl⟩;refine ae rfl (ab (cp rfl) (ab (ay (v:=.bool _) rfl rfl) (mvb rfl (aK (t:=99) rfl (fun Q30=>?_) (fun Q30=>?_)))))
  ·with_reducible (replace Q30:=dK Q30;replace Q30:=dF_ Q30)
   (try simp only [bs9] at Q30)
   refine bD rfl (an (ai (aZ rfl (ao (ah (asb rfl (an (ai (aE (aG (bA (v:=.bool _) rfl rfl (⟨congrArg Value.bool ?_,((ag.rfl_.next E1).next E67)⟩))))))))))));rw [eq_comm,←Bool.not_eq_true,b0];rintro ⟨⟨n1,n2,n3,⟨n4,n5⟩,n6,n7,n8,n9⟩,⟨g1,g2,g3,g4,g5⟩,v1,l1,⟨p1,p2,p3⟩⟩
   first
    |omega
    |(simp_all;done)
    |(simp_all;omega)
  with_reducible (replace Q30:=dL Q30;replace Q30:=dT_ Q30)
  (try simp only [bs9] at Q30)
  refine ae rfl (ab (aa dZ rfl) (ae rfl (ab (ar ak rfl (by exact (hk1.from_ (ag.rfl_.next E67)).rd 18 rfl)) ?_)));refine ae rfl (aC eR (tk s.round _) ?_);rintro v102 w31 ⟨rfl,rfl⟩;refine ae rfl (ab (cp rfl) (ab (ay (v:=.bool _) rfl rfl) (mvb rfl (aK (t:=105) rfl (fun Q32=>?_) (fun Q32=>?_)))))
  ·with_reducible (replace Q32:=dK Q32;replace Q32:=dF_ Q32)
   (try simp only [bs9] at Q32)
   refine bD rfl (an (ai (aZ rfl (ao (ah (asb rfl (an (ai (aE (aG (bA (v:=.bool _) rfl rfl (⟨congrArg Value.bool ?_,((ag.rfl_.next E1).next E67)⟩))))))))))));rw [eq_comm,←Bool.not_eq_true,b0];rintro ⟨⟨n1,n2,n3,⟨n4,n5⟩,n6,n7,n8,n9⟩,⟨g1,g2,g3,g4,g5⟩,v1,l1,⟨p1,p2,p3⟩⟩
   first
    |omega
    |(simp_all;done)
    |(simp_all;omega)
  with_reducible (replace Q32:=dL Q32;replace Q32:=dT_ Q32)
  (try simp only [bs9] at Q32)
  refine ae rfl (ab (aa dc rfl) (ae rfl (ab (ar bt rfl (by exact (show _=some (Value.slice V s.votes.length Vc) from (hk1.from_ (ag.rfl_.next E67)).rd 14 rfl))) ?_)));refine ae rfl (ab (aa cd rfl) (ae rfl (ab (ar ak rfl (by exact (hk1.from_ (ag.rfl_.next E67)).rd 1 rfl)) ?_)));refine ae rfl (aC nb (tn V Vc s.votes s.nodes _ (hrd.v.1.from_ ((ag.rfl_.next E1).next E67)) hl1) ?_);rintro v110 w33 ⟨rfl,E110⟩;refine ae rfl (ab (cp rfl) (ab (ay (v:=.bool _) rfl rfl) (an (ai (AR rfl (fun Q34=>?_) (fun Q34=>?_))))))
  ·(try simp only [bs9] at Q34)
   refine ao (ah (asb rfl (an (ai (aE (aG (bA (v:=.bool _) rfl rfl (⟨congrArg Value.bool ?_,(((ag.rfl_.next E1).next E67).next E110)⟩))))))));rw [eq_comm,←Bool.not_eq_true,b0];rintro ⟨⟨n1,n2,n3,⟨n4,n5⟩,n6,n7,n8,n9⟩,⟨g1,g2,g3,g4,g5⟩,v1,l1,⟨p1,p2,p3⟩⟩
   first
    |omega
    |(simp_all;done)
    |(simp_all;omega)
  (try simp only [bs9] at Q34)
  refine aO ?_;refine bL (()) trivial (by (iterate 121 refine bd rfl ?_);exact br) ?_;exact ⟨⟨by omega,by omega,by omega,by omega,by omega,by omega,by first | assumption | simp_all,by omega,by omega,by omega,by omega,by omega,by first | assumption | simp_all⟩,hk1.from_ ((ag.rfl_.next E67).next E110),(((ag.rfl_.next E1).next E67).next E110)⟩
 rintro ⟨⟩ ρ35 w35 ⟨⟨f1,f2,f3,f4,f5,f6,f7,f8,f9,fa,fb,fc,fd⟩,hk1,hB⟩;refine ao (ah (ab (aa bn rfl) (ab (aH (cs:=[.int .i64 s.b,.int .i64 s.t,.slice E s.es.length Ec]) bQ bh rfl (qv (hk1.from_ ag.rfl_))) ?_)));have hm1:cj s.b s.t s.es=true:=by first | assumption | simp_all
 have hbl:=eU hm1;have hlr:bm s=s.b+s.es.length:=hbl.1;refine aC m_ (oD s E s.es.length Ec _ (hrd.e.from_ hB) hm1) ?_;rintro v116 w36 ⟨rfl,E116⟩;refine mvt rfl (ab (a_ rfl rfl) (ab (a_ rfl rfl) (asi rfl (asi rfl (an (ai (ao (ao (ah (mvi rfl (ab (aa bH rfl) (ab (ar ak rfl (by exact (hk1.from_ (ag.rfl_.next E116)).rd 3 rfl)) ?_))))))))))));refine ab (cq rfl rfl) (an (ai (AT rfl (fun Q37=>?_) (fun Q37=>?_))))
 ·refine ao (ah (asb rfl (an (ai (aE (aG (bA (v:=.bool _) rfl rfl (⟨congrArg Value.bool ?_,(hB.next E116)⟩))))))));rw [eq_comm,←Bool.not_eq_true,b0];rintro ⟨⟨n1,n2,n3,⟨n4,n5⟩,n6,n7,n8,n9⟩,⟨g1,g2,g3,g4,g5⟩,v1,l1,⟨p1,p2,p3⟩⟩
  first
   |omega
   |(simp_all;done)
   |(simp_all;omega)
 refine aO (ai (e_ (G:=Unit) [2,123,124,125,126,127,128,129,130,131,132,133,134,135,136,137,138,139,140,141,142,143,144,145,146,147,148,149,150,151,152,153,154,155,156,157,158,159,160] (fun _=>[]) (fun _ w'=>(cV s.t s.es≤s.term∧(s.b≤s.commit∧s.commit≤bm s)∧s.part.size≤524288∧(0≤s.partOf∧s.partOf≤1099511625728)∧(s.partOf≠0∨s.part.size=0))∧Blk w' b1 29 (rfV s (⟨E,Ec,V,Vc,X,Xc,M,Mc,Sn,Sc,Q,Qc,LL⟩:Ra)).toArray∧ag w w') ?_ ?_))
 ·refine ao (ah (ab (aa bW rfl) (ab (ar ak rfl (by exact (hk1.from_ (ag.rfl_.next E116)).rd 10 rfl)) ?_)));refine ab (aa bn rfl) (ab (aa dE rfl) (ab (ar ak rfl (by exact (hk1.from_ (ag.rfl_.next E116)).rd 6 rfl)) ?_));refine ab (ch rfl rfl) (mvb rfl (Ap (t:=129) rfl (fun Q38=>?_) (fun Q38=>?_)))
  ·(try simp only [bs9] at Q38)
   refine bD rfl (an (ai (aZ rfl (ao (ah (asb rfl (an (ai (aE (aG (bA (v:=.bool _) rfl rfl (⟨congrArg Value.bool ?_,(hB.next E116)⟩))))))))))));rw [eq_comm,←Bool.not_eq_true,b0];rintro ⟨⟨n1,n2,n3,⟨n4,n5⟩,n6,n7,n8,n9⟩,⟨g1,g2,g3,g4,g5⟩,v1,l1,⟨p1,p2,p3⟩⟩
   first
    |omega
    |(simp_all;done)
    |(simp_all;omega)
  (try simp only [bs9] at Q38)
  refine ae rfl (ab (aa bW rfl) (ae rfl (ab (ar ak rfl (by exact (hk1.from_ (ag.rfl_.next E116)).rd 10 rfl)) ?_)));refine ae rfl (mvi rfl (ae rfl (ab (cq rfl rfl) (ab (ay (v:=.bool _) rfl rfl) (mvb rfl (Ap (t:=135) rfl (fun Q39=>?_) (fun Q39=>?_)))))))
  ·(try simp only [bs9] at Q39)
   refine bD rfl (an (ai (aZ rfl (ao (ah (asb rfl (an (ai (aE (aG (bA (v:=.bool _) rfl rfl (⟨congrArg Value.bool ?_,(hB.next E116)⟩))))))))))));rw [eq_comm,←Bool.not_eq_true,b0];rintro ⟨⟨n1,n2,n3,⟨n4,n5⟩,n6,n7,n8,n9⟩,⟨g1,g2,g3,g4,g5⟩,v1,l1,⟨p1,p2,p3⟩⟩
   first
    |omega
    |(simp_all;done)
    |(simp_all;omega)
  (try simp only [bs9] at Q39)
  refine ae rfl (ab (aa bw rfl) (ae rfl (ab (ar bF rfl (by exact (hk1.from_ (ag.rfl_.next E116)).rd 20 rfl)) ?_)));refine ae rfl (ab (df (by kernel_rfl) rfl) (ae rfl (ab (cq rfl rfl) (ab (ay (v:=.bool _) rfl rfl) (mvb rfl (Ap (t:=141) rfl (fun Q40=>?_) (fun Q40=>?_)))))))
  ·(try simp only [bs9] at Q40)
   refine bD rfl (an (ai (aZ rfl (ao (ah (asb rfl (an (ai (aE (aG (bA (v:=.bool _) rfl rfl (⟨congrArg Value.bool ?_,(hB.next E116)⟩))))))))))));rw [eq_comm,←Bool.not_eq_true,b0];rintro ⟨⟨n1,n2,n3,⟨n4,n5⟩,n6,n7,n8,n9⟩,⟨g1,g2,g3,g4,g5⟩,v1,l1,⟨p1,p2,p3⟩⟩
   first
    |omega
    |(simp_all;done)
    |(simp_all;omega)
  (try simp only [bs9] at Q40)
  refine ae rfl (ab (aa cA rfl) (ae rfl (ab (ar ak rfl (by exact (hk1.from_ (ag.rfl_.next E116)).rd 21 rfl)) ?_)));refine ae rfl (ab (ch rfl rfl) (ab (ay (v:=.bool _) rfl rfl) (mvb rfl (Ap (t:=146) rfl (fun Q41=>?_) (fun Q41=>?_)))))
  ·(try simp only [bs9] at Q41)
   refine bD rfl (an (ai (aZ rfl (ao (ah (asb rfl (an (ai (aE (aG (bA (v:=.bool _) rfl rfl (⟨congrArg Value.bool ?_,(hB.next E116)⟩))))))))))));rw [eq_comm,←Bool.not_eq_true,b0];rintro ⟨⟨n1,n2,n3,⟨n4,n5⟩,n6,n7,n8,n9⟩,⟨g1,g2,g3,g4,g5⟩,v1,l1,⟨p1,p2,p3⟩⟩
   first
    |omega
    |(simp_all;done)
    |(simp_all;omega)
  (try simp only [bs9] at Q41)
  refine ae rfl (ab (aa cA rfl) (ae rfl (ab (ar ak rfl (by exact (hk1.from_ (ag.rfl_.next E116)).rd 21 rfl)) ?_)));refine ae rfl (ab (cq rfl rfl) (ab (ay (v:=.bool _) rfl rfl) (mvb rfl (Ap (t:=151) rfl (fun Q42=>?_) (fun Q42=>?_)))))
  ·(try simp only [bs9] at Q42)
   refine bD rfl (an (ai (aZ rfl (ao (ah (asb rfl (an (ai (aE (aG (bA (v:=.bool _) rfl rfl (⟨congrArg Value.bool ?_,(hB.next E116)⟩))))))))))));rw [eq_comm,←Bool.not_eq_true,b0];rintro ⟨⟨n1,n2,n3,⟨n4,n5⟩,n6,n7,n8,n9⟩,⟨g1,g2,g3,g4,g5⟩,v1,l1,⟨p1,p2,p3⟩⟩
   first
    |omega
    |(simp_all;done)
    |(simp_all;omega)
  (try simp only [bs9] at Q42)
  refine ae rfl (ab (aa cA rfl) (ae rfl (ab (ar ak rfl (by exact (hk1.from_ (ag.rfl_.next E116)).rd 21 rfl)) ?_)));refine ae rfl (ab (bf rfl rfl) (ae rfl (mvb rfl (Ap (t:=155) rfl (fun Q43=>?_) (fun Q43=>?_)))))
  ·(try simp only [bs9] at Q43)
   refine ae rfl (ab (aa bw rfl) (ae rfl (ab (ar bF rfl (by exact (hk1.from_ (ag.rfl_.next E116)).rd 20 rfl)) ?_)));refine ae rfl (ab (iY (uC rfl rfl) (congrArg Value.bool (AU s.part))) (ae rfl (ab (aM (v:=.bool _) rfl rfl) (ab (ay (v:=.bool _) rfl rfl) (an (ai (AT rfl (fun Q44=>?_) (fun Q44=>?_))))))))
   ·(try simp only [bs9] at Q44)
    refine ao (ah (asb rfl (an (ai (aE (aG (bA (v:=.bool _) rfl rfl (⟨congrArg Value.bool ?_,(hB.next E116)⟩))))))));rw [eq_comm,←Bool.not_eq_true,b0];rintro ⟨⟨n1,n2,n3,⟨n4,n5⟩,n6,n7,n8,n9⟩,⟨g1,g2,g3,g4,g5⟩,v1,l1,⟨p1,p2,p3⟩⟩
    first
     |omega
     |(simp_all;done)
     |(simp_all;omega)
   (try simp only [bs9] at Q44)
   refine aO ?_;refine bL (()) trivial (by (iterate 44 refine bd rfl ?_);exact br) ?_;exact ⟨⟨by omega,by omega,by omega,by omega,by omega⟩,hk1.from_ (ag.rfl_.next E116),(hB.next E116)⟩
  (try simp only [bs9] at Q43)
  refine aq rfl rfl (aq rfl rfl (aq rfl rfl (ae rfl (ab (ay (v:=.bool _) rfl rfl) (ab (ay (v:=.bool _) rfl rfl) (an (ai (bg rfl (aO ?_)))))))));refine bL (()) trivial (by (iterate 44 refine bd rfl ?_);exact br) ?_;exact ⟨⟨by omega,by omega,by omega,by omega,by omega⟩,hk1.from_ (ag.rfl_.next E116),(hB.next E116)⟩
 rintro ⟨⟩ ρ45 w45 ⟨⟨fe,ff,fg,fh,fi⟩,hk1,hB⟩;refine ao (ah (asi rfl (an (ai (e_ (G:=Unit) [161,162,163,164,165] (fun _=>[(5,.int .i64 nn)]) (fun _ w'=>Blk w' b1 29 (rfV s (⟨E,Ec,V,Vc,X,Xc,M,Mc,Sn,Sc,Q,Qc,LL⟩:Ra)).toArray∧ag w w') ?_ ?_)))))
 ·refine ao (ah (ab (aa cW rfl) (ab (ar ak rfl (by exact (hk1.from_ ag.rfl_).rd 2 rfl)) ?_)));refine ab (bf rfl rfl) (an (ai (AT rfl (fun Q46=>?_) (fun Q46=>?_))))
  ·refine ah (ab (aa cd rfl) (ab (ar ak rfl (by exact (hk1.from_ ag.rfl_).rd 1 rfl)) ?_));refine asi rfl (an ?_);refine bL (()) ⟨(bT (by first | exact (hnn.1 (by omega)).symm | exact (hnn.2 (by omega)).symm)),trivial⟩ (by (iterate 6 refine bd rfl ?_);exact br) ?_;exact ⟨hk1.from_ ag.rfl_,hB⟩
  refine aO ?_;refine bL (()) ⟨(bT (by first | exact (hnn.1 (by omega)).symm | exact (hnn.2 (by omega)).symm)),trivial⟩ (by (iterate 3 refine bd rfl ?_);exact br) ?_;exact ⟨hk1.from_ ag.rfl_,hB⟩
 rintro ⟨⟩ ρ47 w47 ⟨hk1,hB⟩;refine e_ (G:=Unit) [2,166,167,168,169,170,171,172,173,174,175,176,177,178,179,180,181,182,183,184,185,186,187,188,189,190,191,192,193,194,195,196,197,198,199,200,201,202,203,204,205,206] (fun _=>[]) (fun _ w'=>fu s.next nn 1 (bm s+1)∧fu s.mtch nn 0 (bm s)∧fu s.sent nn 0 (s.snap.size:Nat)∧LL.length≤32∧(nn≠0∨LL.length=0)∧Blk w' b1 29 (rfV s (⟨E,Ec,V,Vc,X,Xc,M,Mc,Sn,Sc,Q,Qc,LL⟩:Ra)).toArray∧ag w w') ?_ ?_
 ·refine ao (ah (ab (aa cQ rfl) (ab (ar bt rfl (by exact (show _=some (Value.slice X s.next.length Xc) from (hk1.from_ ag.rfl_).rd 15 rfl))) ?_)));refine mvi rfl (mvi rfl (ab (cn rfl rfl (by omega)) (aC mY (xQ X Xc s.next _ 1 (bm s+1) _ (hrd.x.1.from_ hB) hl2) ?_)));rintro v171 w48 ⟨rfl,E171⟩;refine ab (cp rfl) (mvb rfl (aK (t:=173) rfl (fun Q49=>?_) (fun Q49=>?_)))
  ·with_reducible (replace Q49:=dK Q49;replace Q49:=dF_ Q49)
   (try simp only [bs9] at Q49)
   refine bD rfl (an (ai (aZ rfl (ao (ah (asb rfl (an (ai (aE (aG (bA (v:=.bool _) rfl rfl (⟨congrArg Value.bool ?_,(hB.next E171)⟩))))))))))));rw [eq_comm,←Bool.not_eq_true,b0];rintro ⟨⟨n1,n2,n3,⟨n4,n5⟩,n6,n7,n8,n9⟩,⟨g1,g2,g3,g4,g5⟩,v1,l1,⟨p1,p2,p3⟩⟩;by_cases hro:s.role=2
   ·rw [cD hro] at l1;obtain rfl:nn=s.nodes:=hnn.1 hro;obtain ⟨⟨l2,l3,l4,l5⟩,⟨l6,l7,l8⟩,l9⟩:=l1
    first
     |omega
     |(rename_i q9;exact q9 ⟨by omega,by assumption⟩)
     |(simp_all [fu];done)
     |(simp_all [fu];omega)
   ·rw [ee hro] at l1;obtain rfl:nn=0:=hnn.2 hro;have e1:s.next=[]:=List.eq_nil_of_length_eq_zero (by omega);have e2:s.mtch=[]:=List.eq_nil_of_length_eq_zero (by omega);have e3:s.sent=[]:=List.eq_nil_of_length_eq_zero (by omega)
    first
     |omega
     |(simp_all [fu,eL];done)
     |(simp_all [fu,eL];omega)
  with_reducible (replace Q49:=dL Q49;replace Q49:=dT_ Q49)
  (try simp only [bs9] at Q49)
  refine ae rfl (ab (aa cY rfl) (ae rfl (ab (ar bt rfl (by exact (show _=some (Value.slice M s.mtch.length Mc) from (hk1.from_ (ag.rfl_.next E171)).rd 16 rfl))) ?_)));refine ae rfl (mvi rfl (ae rfl (mvi rfl (ae rfl (aC mY (xQ M Mc s.mtch _ 0 (bm s) _ (hrd.m.1.from_ (hB.next E171)) hl3) ?_)))));rintro v178 w50 ⟨rfl,E178⟩;refine ae rfl (ab (cp rfl) (ab (ay (v:=.bool _) rfl rfl) (mvb rfl (aK (t:=181) rfl (fun Q51=>?_) (fun Q51=>?_)))))
  ·with_reducible (replace Q51:=dK Q51;replace Q51:=dF_ Q51)
   (try simp only [bs9] at Q51)
   refine bD rfl (an (ai (aZ rfl (ao (ah (asb rfl (an (ai (aE (aG (bA (v:=.bool _) rfl rfl (⟨congrArg Value.bool ?_,((hB.next E171).next E178)⟩))))))))))));rw [eq_comm,←Bool.not_eq_true,b0];rintro ⟨⟨n1,n2,n3,⟨n4,n5⟩,n6,n7,n8,n9⟩,⟨g1,g2,g3,g4,g5⟩,v1,l1,⟨p1,p2,p3⟩⟩;by_cases hro:s.role=2
   ·rw [cD hro] at l1;obtain rfl:nn=s.nodes:=hnn.1 hro;obtain ⟨⟨l2,l3,l4,l5⟩,⟨l6,l7,l8⟩,l9⟩:=l1
    first
     |omega
     |(rename_i q9;exact q9 ⟨by omega,by assumption⟩)
     |(simp_all [fu];done)
     |(simp_all [fu];omega)
   ·rw [ee hro] at l1;obtain rfl:nn=0:=hnn.2 hro;have e1:s.next=[]:=List.eq_nil_of_length_eq_zero (by omega);have e2:s.mtch=[]:=List.eq_nil_of_length_eq_zero (by omega);have e3:s.sent=[]:=List.eq_nil_of_length_eq_zero (by omega)
    first
     |omega
     |(simp_all [fu,eL];done)
     |(simp_all [fu,eL];omega)
  with_reducible (replace Q51:=dL Q51;replace Q51:=dT_ Q51)
  (try simp only [bs9] at Q51)
  refine ae rfl (ab (aa dd rfl) (ae rfl (ab (ar bt rfl (by exact (show _=some (Value.slice Sn s.sent.length Sc) from (hk1.from_ ((ag.rfl_.next E171).next E178)).rd 17 rfl))) ?_)));refine ae rfl (mvi rfl (ae rfl (ab (aa dB rfl) (ae rfl (ab (ar bF rfl (by exact (hk1.from_ ((ag.rfl_.next E171).next E178)).rd 9 rfl)) ?_)))));refine ae rfl (ab (df (by kernel_rfl) rfl) (ae rfl (aC mY (xQ Sn Sc s.sent _ 0 (s.snap.size:Nat) _ (hrd.n.1.from_ ((hB.next E171).next E178)) hl4) ?_)));rintro v188 w52 ⟨rfl,E188⟩;refine ae rfl (ab (cp rfl) (ab (ay (v:=.bool _) rfl rfl) (mvb rfl (aK (t:=191) rfl (fun Q53=>?_) (fun Q53=>?_)))))
  ·with_reducible (replace Q53:=dK Q53;replace Q53:=dF_ Q53)
   (try simp only [bs9] at Q53)
   refine bD rfl (an (ai (aZ rfl (ao (ah (asb rfl (an (ai (aE (aG (bA (v:=.bool _) rfl rfl (⟨congrArg Value.bool ?_,(((hB.next E171).next E178).next E188)⟩))))))))))));rw [eq_comm,←Bool.not_eq_true,b0];rintro ⟨⟨n1,n2,n3,⟨n4,n5⟩,n6,n7,n8,n9⟩,⟨g1,g2,g3,g4,g5⟩,v1,l1,⟨p1,p2,p3⟩⟩;by_cases hro:s.role=2
   ·rw [cD hro] at l1;obtain rfl:nn=s.nodes:=hnn.1 hro;obtain ⟨⟨l2,l3,l4,l5⟩,⟨l6,l7,l8⟩,l9⟩:=l1
    first
     |omega
     |(rename_i q9;exact q9 ⟨by omega,by assumption⟩)
     |(simp_all [fu];done)
     |(simp_all [fu];omega)
   ·rw [ee hro] at l1;obtain rfl:nn=0:=hnn.2 hro;have e1:s.next=[]:=List.eq_nil_of_length_eq_zero (by omega);have e2:s.mtch=[]:=List.eq_nil_of_length_eq_zero (by omega);have e3:s.sent=[]:=List.eq_nil_of_length_eq_zero (by omega)
    first
     |omega
     |(simp_all [fu,eL];done)
     |(simp_all [fu,eL];omega)
  with_reducible (replace Q53:=dL Q53;replace Q53:=dT_ Q53)
  (try simp only [bs9] at Q53)
  refine ae rfl (ab (aa cf rfl) (ae rfl (ab (ar ed rfl (by exact (show _=some (Value.slice Q LL.length Qc) from (hk1.from_ (((ag.rfl_.next E171).next E178).next E188)).rd 19 rfl))) ?_)));refine ae rfl (ab (bU fq rfl) (ae rfl (ab (cq rfl rfl) (ab (ay (v:=.bool _) rfl rfl) (mvb rfl (Ap (t:=197) rfl (fun Q54=>?_) (fun Q54=>?_)))))))
  ·(try simp only [bs9] at Q54)
   refine bD rfl (an (ai (aZ rfl (ao (ah (asb rfl (an (ai (aE (aG (bA (v:=.bool _) rfl rfl (⟨congrArg Value.bool ?_,(((hB.next E171).next E178).next E188)⟩))))))))))));rw [eq_comm,←Bool.not_eq_true,b0];rintro ⟨⟨n1,n2,n3,⟨n4,n5⟩,n6,n7,n8,n9⟩,⟨g1,g2,g3,g4,g5⟩,v1,l1,⟨p1,p2,p3⟩⟩;by_cases hro:s.role=2
   ·rw [cD hro] at l1;obtain rfl:nn=s.nodes:=hnn.1 hro;obtain ⟨⟨l2,l3,l4,l5⟩,⟨l6,l7,l8⟩,l9⟩:=l1
    first
     |omega
     |(rename_i q9;exact q9 ⟨by omega,by assumption⟩)
     |(simp_all [fu];done)
     |(simp_all [fu];omega)
   ·rw [ee hro] at l1;obtain rfl:nn=0:=hnn.2 hro;have e1:s.next=[]:=List.eq_nil_of_length_eq_zero (by omega);have e2:s.mtch=[]:=List.eq_nil_of_length_eq_zero (by omega);have e3:s.sent=[]:=List.eq_nil_of_length_eq_zero (by omega)
    first
     |omega
     |(simp_all [fu,eL];done)
     |(simp_all [fu,eL];omega)
  (try simp only [bs9] at Q54)
  refine ae rfl (mvi rfl (ae rfl (ab (bf rfl rfl) (ae rfl (mvb rfl (Ap (t:=200) rfl (fun Q55=>?_) (fun Q55=>?_)))))))
  ·(try simp only [bs9] at Q55)
   refine ae rfl (ab (aa cf rfl) (ae rfl (ab (ar ed rfl (by exact (show _=some (Value.slice Q LL.length Qc) from (hk1.from_ (((ag.rfl_.next E171).next E178).next E188)).rd 19 rfl))) ?_)));refine ae rfl (ab (bU fq rfl) (ae rfl (ab (cq rfl rfl) (ae rfl (ab (aM (v:=.bool _) rfl rfl) (ab (ay (v:=.bool _) rfl rfl) (an (ai (AT rfl (fun Q56=>?_) (fun Q56=>?_))))))))))
   ·(try simp only [bs9] at Q56)
    refine ao (ah (asb rfl (an (ai (aE (aG (bA (v:=.bool _) rfl rfl (⟨congrArg Value.bool ?_,(((hB.next E171).next E178).next E188)⟩))))))));rw [eq_comm,←Bool.not_eq_true,b0];rintro ⟨⟨n1,n2,n3,⟨n4,n5⟩,n6,n7,n8,n9⟩,⟨g1,g2,g3,g4,g5⟩,v1,l1,⟨p1,p2,p3⟩⟩;by_cases hro:s.role=2
    ·rw [cD hro] at l1;obtain rfl:nn=s.nodes:=hnn.1 hro;obtain ⟨⟨l2,l3,l4,l5⟩,⟨l6,l7,l8⟩,l9⟩:=l1
     first
      |omega
      |(rename_i q9;exact q9 ⟨by omega,by assumption⟩)
      |(simp_all [fu];done)
      |(simp_all [fu];omega)
    ·rw [ee hro] at l1;obtain rfl:nn=0:=hnn.2 hro;have e1:s.next=[]:=List.eq_nil_of_length_eq_zero (by omega);have e2:s.mtch=[]:=List.eq_nil_of_length_eq_zero (by omega);have e3:s.sent=[]:=List.eq_nil_of_length_eq_zero (by omega)
     first
      |omega
      |(simp_all [fu,eL];done)
      |(simp_all [fu,eL];omega)
   (try simp only [bs9] at Q56)
   refine aO ?_;refine bL (()) trivial (by (iterate 46 refine bd rfl ?_);exact br) ?_;exact ⟨by first | assumption | simp_all,by first | assumption | simp_all,by first | assumption | simp_all,by omega,by omega,hk1.from_ (((ag.rfl_.next E171).next E178).next E188),(((hB.next E171).next E178).next E188)⟩
  (try simp only [bs9] at Q55)
  refine aq rfl rfl (aq rfl rfl (aq rfl rfl (aq rfl rfl (ae rfl (ab (ay (v:=.bool _) rfl rfl) (ab (ay (v:=.bool _) rfl rfl) (an (ai (bg rfl ?_)))))))));refine aO ?_;refine bL (()) trivial (by (iterate 46 refine bd rfl ?_);exact br) ?_;exact ⟨by first | assumption | simp_all,by first | assumption | simp_all,by first | assumption | simp_all,by omega,by omega,hk1.from_ (((ag.rfl_.next E171).next E178).next E188),(((hB.next E171).next E178).next E188)⟩
 rintro ⟨⟩ ρ57 w57 ⟨hx9,hm9,hs9,hl9,hn9,hk1,hB⟩;refine ao (ao (ah (asi rfl (an (ai (bk (dr (G:=Nat) [2,7,207,208,209,210,211,212,213,214,215,216,217,218,219,220,221,222,223,224,225,226,227,228,229,230,231,232,233,234,235,236,237,238,239,240,241,242,243,244,245,246,247,248,249,250,251,252,253,254,255,256,257,258] (fun k=>[(6,.int .i64 (k:Nat))]) (fun k w'=>k≤LL.length∧(∀ j (h:j<LL.length),j<k→gQ s LL[j].1=true)∧Blk w' b1 29 (rfV s (⟨E,Ec,V,Vc,X,Xc,M,Mc,Sn,Sc,Q,Qc,LL⟩:Ra)).toArray∧ag w w') (fun k=>LL.length-k) (0) ⟨rfl,trivial⟩ ?_ ?_)))))))
 ·exact ⟨Nat.zero_le _,fun j _ h=>absurd h (by omega),hk1.from_ ag.rfl_,hB⟩
 rintro k ρ58 w58 ⟨hk,h1,hk1,hB⟩;refine ao (ao (ah (mvi rfl (ab (aa cf rfl) (ab (ar ed rfl (by exact (show _=some (Value.slice Q LL.length Qc) from (hk1.from_ ag.rfl_).rd 19 rfl))) ?_)))));refine ab (bU fq rfl) (ab (ch rfl rfl) (an (ai (AT rfl (fun Q59=>?_) (fun Q59=>?_)))))
 ·have hkL:k<LL.length:=by omega
  have hqm:LL[k].1∈s.reads:=by rw [←hrL];exact List.mem_map_of_mem (List.getElem_mem hkL)
  obtain ⟨ba,oa,rfl,hcs⟩:∃ b o,Q=some ⟨b,o,none⟩∧∀ i (hi:i<LL.length),w.rangeAt b (o+i*4) (rdV LL[i]):=hrd.q (by show 0<LL.length;omega);refine aO (ai (ao (bk (ao (ah (ab (aa cf rfl) (ab (ar ed rfl (by exact (show _=some (Value.slice (some ⟨ba,oa,none⟩) LL.length Qc) from (hk1.from_ ag.rfl_).rd 19 rfl))) ?_)))))));refine mvi rfl (ab (b_ gx rfl rfl (by omega)) (ab (aH (cs:=rdV LL[k]) iC fE rfl (fB hB (hcs k hkL))) (bS jE ?_)));intro b7 w60 E7 hb7 hk7;have hg7:w.heap.size≤b7:=by rw [hb7];exact (hB).size
  have hk1L:=hk1.from_ (ag.rfl_.next E7);have hn7:b1≠b7:=by have:=hk1.lt;have:=((ag.rfl_.next E7)).size;omega
  refine cg (vs:=[_,_,_,_]) fE rfl rfl (by simp [Value.oneCell']) (hk7) rfl ?_;intro w61 O16 P16;replace hk1:=hk1L.only O16 hn7;refine an (ai (ao (ah (ab (aa jo rfl) (ab (ar ak rfl (by exact (show _=some (Value.int .i64 LL[k].1.id) from (P16.from_ ag.rfl_).rd 0 rfl))) ?_)))));refine ab (ch rfl rfl) (mvb rfl (Ap (t:=222) rfl (fun Q62=>?_) (fun Q62=>?_)))
  ·(try simp only [bs9] at Q62)
   refine bD rfl (an (ai (aZ rfl (ao (ah (asb rfl (an (ai (aE (bG (aG (aG (bG (aG (bA (v:=.bool _) rfl rfl (⟨congrArg Value.bool ?_,((hB.next E7).only O16 (hg7))⟩))))))))))))))));rw [eq_comm,←Bool.not_eq_true,b0];rintro ⟨_,_,_,l1,_⟩;by_cases hro:s.role=2
   ·rw [cD hro] at l1;have g5:=eF.1 (l1.2.2 _ hqm)
    first
     |omega
     |(simp_all;done)
   ·rw [ee hro] at l1;omega
  (try simp only [bs9] at Q62)
  refine ae rfl (ab (aa jo rfl) (ae rfl (ab (ar ak rfl (by exact (show _=some (Value.int .i64 LL[k].1.id) from (P16.from_ ag.rfl_).rd 0 rfl))) ?_)));refine ae rfl (ab (cq rfl rfl) (ab (ay (v:=.bool _) rfl rfl) (mvb rfl (Ap (t:=227) rfl (fun Q63=>?_) (fun Q63=>?_)))))
  ·(try simp only [bs9] at Q63)
   refine bD rfl (an (ai (aZ rfl (ao (ah (asb rfl (an (ai (aE (bG (aG (aG (bG (aG (bA (v:=.bool _) rfl rfl (⟨congrArg Value.bool ?_,((hB.next E7).only O16 (hg7))⟩))))))))))))))));rw [eq_comm,←Bool.not_eq_true,b0];rintro ⟨_,_,_,l1,_⟩;by_cases hro:s.role=2
   ·rw [cD hro] at l1;have g5:=eF.1 (l1.2.2 _ hqm)
    first
     |omega
     |(simp_all;done)
   ·rw [ee hro] at l1;omega
  (try simp only [bs9] at Q63)
  refine ae rfl (ab (aa jn rfl) (ae rfl (ab (ar ak rfl (by exact (show _=some (Value.int .i64 LL[k].1.ix) from (P16.from_ ag.rfl_).rd 1 rfl))) ?_)));refine ae rfl (ab (ch rfl rfl) (ab (ay (v:=.bool _) rfl rfl) (mvb rfl (Ap (t:=232) rfl (fun Q64=>?_) (fun Q64=>?_)))))
  ·(try simp only [bs9] at Q64)
   refine bD rfl (an (ai (aZ rfl (ao (ah (asb rfl (an (ai (aE (bG (aG (aG (bG (aG (bA (v:=.bool _) rfl rfl (⟨congrArg Value.bool ?_,((hB.next E7).only O16 (hg7))⟩))))))))))))))));rw [eq_comm,←Bool.not_eq_true,b0];rintro ⟨_,_,_,l1,_⟩;by_cases hro:s.role=2
   ·rw [cD hro] at l1;have g5:=eF.1 (l1.2.2 _ hqm)
    first
     |omega
     |(simp_all;done)
   ·rw [ee hro] at l1;omega
  (try simp only [bs9] at Q64)
  refine ae rfl (ab (aa jn rfl) (ae rfl (ab (ar ak rfl (by exact (show _=some (Value.int .i64 LL[k].1.ix) from (P16.from_ ag.rfl_).rd 1 rfl))) ?_)));refine ae rfl (ab (aa bW rfl) (ae rfl (ab (ar ak rfl (by exact (hk1.from_ ag.rfl_).rd 10 rfl)) ?_)));refine ae rfl (ab (cq rfl rfl) (ab (ay (v:=.bool _) rfl rfl) (mvb rfl (Ap (t:=239) rfl (fun Q65=>?_) (fun Q65=>?_)))))
  ·(try simp only [bs9] at Q65)
   refine bD rfl (an (ai (aZ rfl (ao (ah (asb rfl (an (ai (aE (bG (aG (aG (bG (aG (bA (v:=.bool _) rfl rfl (⟨congrArg Value.bool ?_,((hB.next E7).only O16 (hg7))⟩))))))))))))))));rw [eq_comm,←Bool.not_eq_true,b0];rintro ⟨_,_,_,l1,_⟩;by_cases hro:s.role=2
   ·rw [cD hro] at l1;have g5:=eF.1 (l1.2.2 _ hqm)
    first
     |omega
     |(simp_all;done)
   ·rw [ee hro] at l1;omega
  (try simp only [bs9] at Q65)
  refine ae rfl (ab (aa jm rfl) (ae rfl (ab (ar ak rfl (by exact (show _=some (Value.int .i64 LL[k].1.rn) from (P16.from_ ag.rfl_).rd 2 rfl))) ?_)));refine ae rfl (ab (ch rfl rfl) (ab (ay (v:=.bool _) rfl rfl) (mvb rfl (Ap (t:=244) rfl (fun Q66=>?_) (fun Q66=>?_)))))
  ·(try simp only [bs9] at Q66)
   refine bD rfl (an (ai (aZ rfl (ao (ah (asb rfl (an (ai (aE (bG (aG (aG (bG (aG (bA (v:=.bool _) rfl rfl (⟨congrArg Value.bool ?_,((hB.next E7).only O16 (hg7))⟩))))))))))))))));rw [eq_comm,←Bool.not_eq_true,b0];rintro ⟨_,_,_,l1,_⟩;by_cases hro:s.role=2
   ·rw [cD hro] at l1;have g5:=eF.1 (l1.2.2 _ hqm)
    first
     |omega
     |(simp_all;done)
   ·rw [ee hro] at l1;omega
  (try simp only [bs9] at Q66)
  refine ae rfl (ab (aa jm rfl) (ae rfl (ab (ar ak rfl (by exact (show _=some (Value.int .i64 LL[k].1.rn) from (P16.from_ ag.rfl_).rd 2 rfl))) ?_)));refine ae rfl (ab (aa dZ rfl) (ae rfl (ab (ar ak rfl (by exact (hk1.from_ ag.rfl_).rd 18 rfl)) ?_)));refine ae rfl (ab (cq rfl rfl) (ab (ay (v:=.bool _) rfl rfl) (mvb rfl (Ap (t:=251) rfl (fun Q67=>?_) (fun Q67=>?_)))))
  ·(try simp only [bs9] at Q67)
   refine bD rfl (an (ai (aZ rfl (ao (ah (asb rfl (an (ai (aE (bG (aG (aG (bG (aG (bA (v:=.bool _) rfl rfl (⟨congrArg Value.bool ?_,((hB.next E7).only O16 (hg7))⟩))))))))))))))));rw [eq_comm,←Bool.not_eq_true,b0];rintro ⟨_,_,_,l1,_⟩;by_cases hro:s.role=2
   ·rw [cD hro] at l1;have g5:=eF.1 (l1.2.2 _ hqm)
    first
     |omega
     |(simp_all;done)
   ·rw [ee hro] at l1;omega
  (try simp only [bs9] at Q67)
  refine ae rfl (ab (aa fx rfl) (ae rfl (ab (ar bt rfl (by exact (show _=some (Value.slice LL[k].2.1 LL[k].1.acks.length LL[k].2.2) from (P16.from_ ag.rfl_).rd 3 rfl))) ?_)));refine ae rfl (ab (aa cd rfl) (ae rfl (ab (ar ak rfl (by exact (hk1.from_ ag.rfl_).rd 1 rfl)) ?_)));refine ae rfl (aC nb (tn LL[k].2.1 LL[k].2.2 LL[k].1.acks s.nodes _ ((hrk _ (List.getElem_mem hkL)).1.from_ ((hB.next E7).only O16 (hg7))) (hl6 _ hqm)) ?_);rintro v256 w68 ⟨rfl,E256⟩;refine ae rfl (ab (cp rfl) (ab (ay (v:=.bool _) rfl rfl) (an (ai (AR rfl (fun Q69=>?_) (fun Q69=>?_))))))
  ·(try simp only [bs9] at Q69)
   refine ao (ah (asb rfl (an (ai (aE (bG (aG (aG (bG (aG (bA (v:=.bool _) rfl rfl (⟨congrArg Value.bool ?_,(((hB.next E7).only O16 (hg7)).next E256)⟩))))))))))));rw [eq_comm,←Bool.not_eq_true,b0];rintro ⟨_,_,_,l1,_⟩;by_cases hro:s.role=2
   ·rw [cD hro] at l1;have g5:=eF.1 (l1.2.2 _ hqm)
    first
     |omega
     |(simp_all;done)
   ·rw [ee hro] at l1;omega
  (try simp only [bs9] at Q69)
  refine aO (bN (ai (ah (mvi rfl (ab (cn rfl rfl (by omega)) (asi rfl (an ?_)))))));refine bL (k+1) ⟨(by first | rfl | (refine bT ?_;omega)),trivial⟩ (by (iterate 115 refine bd rfl ?_);exact br) ⟨?_,?_⟩
  ·refine ⟨by omega,fun j h hj=>?_,hk1.from_ (ag.rfl_.next E256),(((hB.next E7).only O16 (hg7)).next E256)⟩;rcases Nat.lt_or_ge j k with e | e
   ·exact h1 j h e
   ·obtain rfl:j=k:=by omega
    rw [eF];exact ⟨by omega,by omega,by omega,by first | assumption | simp_all⟩
  ·omega
 refine cL (bB (bB (cw (ai (ao (ah (asb rfl (an (ai (aE (bA (v:=.bool _) rfl rfl (⟨congrArg Value.bool ?_,hB⟩))))))))))));rw [eq_comm,b0]
 have hrd9:∀ q∈s.reads,gQ s q=true:=fun q hq=>by
  rw [←hrL] at hq;obtain ⟨y,hy,rfl⟩:=List.mem_map.1 hq;obtain ⟨i,hi,rfl⟩:=List.getElem_of_mem hy;exact h1 i hi (by omega)
 refine ⟨⟨by omega,by omega,by omega,⟨by omega,by omega⟩,by omega,by omega,by omega,by omega⟩,⟨by simp_all,by omega,by omega,by omega,by omega⟩,by simp_all,?_,⟨by omega,by omega,by omega⟩⟩;by_cases hro:s.role=2
 ·rw [cD hro];obtain rfl:nn=s.nodes:=hnn.1 hro;refine ⟨⟨?_,?_,?_,?_⟩,⟨?_,?_,?_⟩,hrd9⟩ <;> first | omega | (simp_all [fu];done) | (simp_all [fu];omega)
 ·rw [ee hro];obtain rfl:nn=0:=hnn.2 hro
  simp_all [fu]
theorem dG:kj prog 39=some (.agg #[.int .i64 0,.int .i64 0,.int .i64 0,.int .i64 0,.int .i64 0,.int .i64 0,.int .i64 0,.int .i64 0,.bool false,.slice none 0 0,.int .i64 0,.string ⟨#[]⟩,.bool false]):=by kernel_rfl
theorem pd:ea prog 22=some 1:=by kernel_rfl
theorem zC {s:ByteArray}:⟨#[]⟩=s↔s.size=0:=by
 constructor
 ·intro h;subst h;rfl
 ·intro h;obtain ⟨⟨l⟩⟩:=s;have h9:l.length=0:=h;rw [List.eq_nil_of_length_eq_zero h9]
theorem yJ {k f t tm ix lt cm rd:Int} {ok:Bool} {es:List Ent} {a:Int} {d:ByteArray} {dn:Bool} (h1:ig k f t tm ix lt cm rd a) (h2:ri k ix lt es) (h3:kf k ix a d):OkR k f t tm ix lt cm rd ok es a d dn↔ExR k ix lt cm rd ok es.length a d dn:=
 ⟨fun h=>h.2.1,fun h=>⟨h1,h,h2,h3⟩⟩
theorem wV (n:Int) (w:World) :
 Rt prog 61 [.int .i64 n] w (fun v w'=>v=.bool (decide (1≤n∧n≤7))∧w=w'):=by
 refine enter (n:=9) Tryz.func61 rfl rfl rfl (ao (ah (asb rfl (an (ai (ao (ah (mvi rfl (ab (lH rfl rfl) (mvb rfl (Ap (t:=5) rfl (fun Q1=>?_) (fun Q1=>?_))))))))))))
 ·refine ae rfl (mvi rfl (ae rfl (ab (eT rfl rfl) (ab (aM (v:=.bool _) rfl rfl) (asb rfl (an (ai (aE (bA (v:=.bool _) rfl rfl (⟨congrArg Value.bool ?_,rfl⟩))))))))))
  first
   |(rw [eq_comm,decide_eq_false_iff_not];omega)
   |(rw [decide_eq_decide];omega)
 refine aq rfl rfl (aq rfl rfl (ab (ay (v:=.bool _) rfl rfl) (asb rfl (an (ai (aE (bA (v:=.bool _) rfl rfl (⟨congrArg Value.bool ?_,rfl⟩))))))))
 first
  |(rw [eq_comm,decide_eq_false_iff_not];omega)
  |(rw [decide_eq_decide];omega)
theorem pY (n:Int) (w:World) :
 Rt prog 62 [.int .i64 n] w (fun v w'=>v=.bool (decide (0≤n∧n<1099511627776))∧w=w'):=by
 refine enter (n:=9) Tryz.func62 rfl rfl rfl (ao (ah (asb rfl (an (ai (ao (ah (mvi rfl (ab (lH rfl rfl) (mvb rfl (Ap (t:=5) rfl (fun Q1=>?_) (fun Q1=>?_))))))))))))
 ·refine ae rfl (mvi rfl (ae rfl (ab (ch rfl rfl) (ab (aM (v:=.bool _) rfl rfl) (asb rfl (an (ai (aE (bA (v:=.bool _) rfl rfl (⟨congrArg Value.bool ?_,rfl⟩))))))))))
  first
   |(rw [eq_comm,decide_eq_false_iff_not];omega)
   |(rw [decide_eq_decide];omega)
 refine aq rfl rfl (aq rfl rfl (ab (ay (v:=.bool _) rfl rfl) (asb rfl (an (ai (aE (bA (v:=.bool _) rfl rfl (⟨congrArg Value.bool ?_,rfl⟩))))))))
 first
  |(rw [eq_comm,decide_eq_false_iff_not];omega)
  |(rw [decide_eq_decide];omega)
theorem tF {es:List Ent} {k:Nat} (h:k<es.length):dT (es.take k)++[.int .i64 es[k].i,.int .i64 es[k].t,.string es[k].d]=dT (es.take (k+1)):=by
 rw [List.take_succ_eq_append_getElem h,nu];rfl
theorem xU (E:Option Addr) (n c:Nat) (es:List Ent) (w:World) (hn:n=es.length) (he:cC w (.slice E n c) es) (hl:es.length≤1000000000) :
 Rt prog 59 [.slice E n c] w (fun v w'=>(∃ A' c',v=.slice A' es.length c'∧w'.ownsRow w.heap.size 99 3 (.slice A' es.length c') es.length (dT es))∧ag w w'):=by
 refine enter (n:=19) Tryz.func59 rfl rfl rfl (ao (ah (ass rfl (an (ai (ao (ah (ass rfl (an (ai (ao (ao (ah (asi rfl (an (ai (bk (dr (G:=Nat×Option Addr×Nat) [5,6,7,8,9,10,11,12,13,14,15,16,17] (fun (k,A3,c3)=>[(3,.slice A3 k c3),(4,.int .i64 (k:Nat))]) (fun (k,A3,c3) w'=>k≤es.length∧w'.ownsRow w.heap.size 99 3 (.slice A3 k c3) k (dT (es.take k))∧ag w w') (fun (k,_,_)=>es.length-k) ((0,none,0)) ⟨rfl,rfl,trivial⟩ ?_ ?_))))))))))))))))))
 ·exact ⟨Nat.zero_le _,World.ownsRow_nil _ _ _ _,ag.rfl_⟩
 rintro ⟨k,A3,c3⟩ ρ1 w1 ⟨hk,ho3,hB⟩;refine ao (ao (ah (mvi rfl (mvs rfl (ab (bU cT rfl) (ab (ch rfl rfl) (an (ai (AT rfl (fun Q2=>?_) (fun Q2=>?_))))))))))
 ·have hkl:k<es.length:=by omega
  obtain ⟨ba,oa,hA,hcs⟩:=lh he (by omega);subst hA;refine aO (ai (ao (bk (ah (mvs rfl (mvs rfl (mvi rfl (ab (iK dP rfl rfl (by omega)) (ab (aH (cs:=[.int .i64 (es[k]'hkl).i,.int .i64 (es[k]'hkl).t,.string (es[k]'hkl).d]) jX gG rfl (fB hB (hcs k hkl))) ?_)))))))));refine lG (l:=[(0,.tmp 15)]) (cells:=[.int .i64 (es[k]'hkl).i,.int .i64 (es[k]'hkl).t,.string (es[k]'hkl).d].toArray) jj rfl rfl (by show Instr.fill _ _ [(0,Value.agg [.int .i64 (es[k]'hkl).i,.int .i64 (es[k]'hkl).t,.string (es[k]'hkl).d].toArray)]=_;kernel_rfl) ?_;intro b16 w3 E16 hb16 hk16;refine k7 (a0:=w) (news:=[.int .i64 (es[k]'hkl).i,.int .i64 (es[k]'hkl).t,.string (es[k]'hkl).d]) jj rfl (by decide) rfl (ho3.kept_from (ag.rfl_.next E16)) (hB.next E16) rfl rfl (fun _=>⟨b16,0,rfl,hk16.whole⟩) (fun h=>by cases h) (by simp [Value.oneCell']) (by omega) (by omega) ?_;intro A17 c17 w4 ho17 B17 hg17;refine ass rfl (an (bN (ai (ah (mvi rfl (ab (cn rfl rfl (by omega)) (asi rfl (an ?_))))))));refine bL ((k+1,A17,c17)) ⟨(by first | rfl | (refine bT ?_;omega)),(by first | rfl | (refine bT ?_;omega)),trivial⟩ (by (iterate 30 refine bd rfl ?_);exact br) ⟨?_,?_⟩
  ·exact ⟨by omega,by rw [←tF hkl];exact ho17,B17⟩
  ·show es.length-(k+1)<es.length-k;omega
 refine cL (bB (bB (cw (ai (ao (ah (mvs rfl (ass rfl (an (ai (aE (bA (v:=.slice _ _ _) rfl rfl ?_))))))))))));obtain rfl:k=es.length:=by omega
 rw [List.take_length] at ho3;exact ⟨⟨A3,c3,rfl,ho3⟩,hB⟩
theorem jg (x:Msg) (w:World) (he:cC w (.slice x.E x.es.length x.c) x.es) (hl:x.es.length≤1000000000) :
 Rt prog 47 [.agg (bC x).toArray] w (fun v w'=>(∃ A' c',v=.agg (bC { x with E:=A',c:=c' }).toArray∧w'.ownsRow w.heap.size 99 3 (.slice A' x.es.length c') x.es.length (dT x.es))∧ag w w'):=by
 refine enter (n:=10) Tryz.func47 rfl rfl rfl (ao (ah (bZ (v:=.agg _) rfl ?_)));intro b1 w1 E1 hb1 hk1;refine bS dG ?_;intro b2 w2 E2 hb2 hk2;have hg2:w.heap.size≤b2:=by rw [hb2];exact ((ag.rfl_.next E1)).size
 replace hk1:=hk1.from_ E2;refine an (ai (ao (ah (ab (aH (cs:=bC x) bj aY rfl hk1.whole) (bS dG ?_)))));intro b3 w3 E3 hb3 hk3;have hg3:w.heap.size≤b3:=by rw [hb3];exact (((ag.rfl_.next E1).next E2)).size
 have h23:b2≠b3:=by have:=hk2.lt;omega
 have h13:b1≠b3:=by have:=hk1.lt;omega
 replace hk1:=hk1.from_ E3;replace hk2:=hk2.from_ E3;refine cg (vs:=[_,_,_,_,_,_,_,_,_,_,_,_,_]) aY rfl rfl (by simp [Value.oneCell']) (hk3) rfl ?_;intro w4 O1 P1;replace hk1:=hk1.only O1 h13;replace hk2:=hk2.only O1 h23;have hz1:=(((((ag.rfl_.next E1).next E2).next E3).only O1 (hg3))).size;refine an (ai (ao (ah (ab (aa dz rfl) (ab (ar bR rfl (by exact hk1.rd 9 rfl)) ?_)))));refine aC mx (xU x.E x.es.length x.c x.es _ rfl (he.from_ ((((ag.rfl_.next E1).next E2).next E3).only O1 (hg3))) hl) ?_;rintro v7 w5 ⟨⟨A7,c7,rfl,ho7⟩,E7⟩;refine ab (aa dz rfl) (ej (v:=.slice _ _ _) pd rfl rfl rfl ((P1.from_ (ag.rfl_.next E7))) (by show 0+9<13;decide) ?_);intro w6 O2 P2;replace hk2:=(hk2.from_ E7).only O2 h23;replace ho7:=gk ho7 O2 (j7 ho7 (P1.from_ E7) (by decide));refine an (ai (ao (ah (ab (aH (cs:=bC { x with E:=A7,c:=c7 }) bj aY rfl P2.whole) (cg (vs:=[_,_,_,_,_,_,_,_,_,_,_,_,_]) aY rfl rfl (by simp [Value.oneCell']) (hk2) rfl ?_)))));intro w7 O3 P3;replace ho7:=gk ho7 O3 (j7 ho7 hk2 (by decide));refine an (ai (aE (ly rfl (dI (cs:=[_,_,_,_,_,_,_,_,_,_,_,_,_]) bj aY rfl (by exact P3.whole)) ?_)));exact ⟨⟨A7,c7,rfl,dW ho7 hz1⟩,(((((((ag.rfl_.next E1).next E2).next E3).only O1 (hg3)).next E7).only O2 (hg3)).only O3 (hg2))⟩
end Go.Proofs.YtkpooenofjdpmaaGreat
namespace Go.Proofs.YtkpooenofjdpmaaGreat
open Go.Proofs.Tryz (prog)
open Go.RowKit
open Go.ChangeShapes Go.WideShapes Go.ChangeAt
open Go.RowKit
theorem rK:∀ (l:List Int),gu l=true→l.Pairwise (·<·)
 |[],_=>List.Pairwise.nil
 |_::r,h=>List.Pairwise.cons (pP h) (rK r (nj h))
theorem rP:∀ (l:List Int),l.Pairwise (·<·)→gu l=true
 |[],_=>rfl
 |[_],_=>rfl
 |a::b::r,h=>by
  cases h with
  |cons h1 h2=>
   show (decide (a<b)&&gu (b::r))=true;rw [rP (b::r) h2,decide_eq_true (h1 b List.mem_cons_self)];rfl
theorem u6 {l:List Int} {x y:Int} (h:y∈kz l x):y∈l∨y=x:=by
 unfold kz at h;split at h
 ·exact .inl h
 ·rcases List.mem_append.1 h with e | e
  ·exact .inl ((List.takeWhile_sublist _).mem e)
  ·rcases List.mem_cons.1 e with e | e
   ·exact .inr e
   ·exact .inl ((List.dropWhile_sublist _).mem e)
theorem oZ:∀ {l:List Int} {x:Int},l.Pairwise (·<·)→∀ y∈l.dropWhile (fun y=>decide (y<x)),x≤y
 |[],_,_,y,hy=>by cases hy
 |a::r,x,h,y,hy=>by
  cases h with
  |cons h1 h2=>
   by_cases hax:a<x
   ·rw [List.dropWhile_cons,if_pos (by simpa using hax)] at hy;exact oZ h2 y hy
   ·rw [List.dropWhile_cons,if_neg (by simpa using hax)] at hy;rcases List.mem_cons.1 hy with e | e
    ·omega
    ·have:=h1 y e;omega
theorem ry:∀ {l:List Int} {x:Int},∀ y∈l.takeWhile (fun y=>decide (y<x)),y<x
 |[],_,y,hy=>by cases hy
 |a::r,x,y,hy=>by
  by_cases hax:a<x
  ·rw [List.takeWhile_cons,if_pos (by simpa using hax)] at hy;rcases List.mem_cons.1 hy with e | e
   ·omega
   ·exact ry y e
  ·rw [List.takeWhile_cons,if_neg (by simpa using hax)] at hy;cases hy
theorem vV {l:List Int} {x:Int} (h:l.Pairwise (·<·)):(kz l x).Pairwise (·<·):=by
 unfold kz;split
 ·exact h
 ·rename_i hx;have hx':x ∉ l:=by simpa using hx
  rw [List.pairwise_append];refine ⟨h.sublist (List.takeWhile_sublist _),List.Pairwise.cons (fun y hy=>?_) (h.sublist (List.dropWhile_sublist _)),fun y hy z hz=>?_⟩
  ·have h1:=oZ h y hy;have h2:y≠x:=fun e=>hx' (e ▸ (List.dropWhile_sublist _).mem hy)
   omega
  ·have h1:=ry y hy;rcases List.mem_cons.1 hz with e | e
   ·omega
   ·have:=oZ h z e;omega
theorem rk {l:List Int} {n x:Int} (h:fC l n=true) (hx:1≤x∧x≤n):fC (kz l x) n=true:=by
 have h1:=mb h;unfold fC;rw [rP _ (vV (rK _ h1.2)),Bool.and_true,List.all_eq_true];intro y hy
 have h2:1≤y∧y≤n:=by
  rcases u6 hy with e | e
  ·exact h1.1 y e
  ·rw [e];exact hx
 simp only [Bool.and_eq_true,decide_eq_true_eq];exact h2
theorem vw {l:List Int} {n:Int} (h:fC l n=true) (hn:n≤7):l.length≤7:=by
 have h1:=mb h;have h2:=ld l 0 n h1.2 fun x hx=>⟨by have:=(h1.1 x hx).1;omega,(h1.1 x hx).2⟩
 omega
theorem RfF.voted {s:Rf} (h:RfF s) {x:Int} (hx:1≤x∧x≤s.nodes):RfF { s with votes:=kz s.votes x }:={ h with vs:=rk h.vs hx }
theorem Ai {s:Rf} {q:Rd} (h:gQ s q=true) {x rn:Int} (hx:1≤x∧x≤s.nodes):gQ s (if q.rn≤rn then { q with acks:=kz q.acks x } else q)=true:=by
 split
 ·unfold gQ at h ⊢;simp only [Bool.and_eq_true] at h ⊢;exact ⟨h.1,rk h.2 hx⟩
 ·exact h
theorem zj {s:Rf} (h:RfF s) {x rn:Int} (hx:1≤x∧x≤s.nodes):∀ q∈(ya s x rn).reads,gQ s q=true:=fun q hq=>by
 obtain ⟨y,hy,rfl⟩:=List.mem_map.1 hq;exact Ai (h.rd y hy) hx
theorem uZ {s:Rf} {x rn:Int}:(ya s x rn).reads.length=s.reads.length:=List.length_map _
theorem RfF.ack {s:Rf} (h:RfF s) {x rn:Int} (hx:1≤x∧x≤s.nodes):RfF (ya s x rn):=
 { h with rl:=(by rw [uZ];exact h.rl),r0:=h.r0.imp id (fun e=>by rw [uZ];exact e),rd:=zj h hx }
theorem RfF.hear {s:Rf} (h:RfF s) {v:Int} (hv:0≤v∧v≤s.nodes):RfF { s with leader:=v,elapsed:=0 }:={ h with le:=hv,el:=⟨Int.le_refl _,z40⟩ }
theorem np {B T:Int} {xs:List Ent}:∀ (zs:List Ent) (p t:Int),eD zs p t=true→B≤p→p≤B+xs.length→gJ B T xs zs=[]∨∃ e r,gJ B T xs zs=e::r∧B+1≤e.i∧e.i≤B+xs.length+1∧¬ (e.i≤B+xs.length∧de B T xs e.i=e.t)
 |[],_,_,_,_,_=>.inl rfl
 |e::r,p,t,h,h1,h2=>by
  have h3:=pL h;by_cases hc:e.i≤B+xs.length∧de B T xs e.i=e.t
  ·rw [vx hc];exact np r (p+1) e.t h3.2 (by omega) (by omega)
  ·exact .inr ⟨e,r,rX hc,by omega,by omega,hc⟩
def Bn (es es':List Ent) (c:Nat):Prop:=c≤es'.length∧∀ i (h:i<es.length) (h':i<es'.length),i<c→es'[i].t=es[i].t
theorem xj {s:Rf} (h:RfF s) {m:Msg} {es':List Ent} (hr:lL s.b s.t m.ix m.lt s.es m.es=(0,false,es')):es'=s.es.take (uK s.b s.es (gJ s.b s.t s.es (nq s.b m.ix m.es)))++gJ s.b s.t s.es (nq s.b m.ix m.es)∧cj s.b s.t es'=true∧(gJ s.b s.t s.es (nq s.b m.ix m.es)=[]∨∃ e r,gJ s.b s.t s.es (nq s.b m.ix m.es)=e::r∧s.b+1≤e.i∧e.i≤bm s+1∧¬ (e.i≤bm s∧de s.b s.t s.es e.i=e.t)):=by
 have hl:=h.last;unfold lL at hr;split at hr
 ·rename_i h1;split at hr
  ·cases hr
  ·rename_i h2;unfold mg2 at hr;split at hr
   ·cases hr
   ·split at hr
    ·rename_i h4;cases hr;refine ⟨rfl,h4,?_⟩;obtain ⟨t,hrun⟩:=wx (B:=s.b) hl.2.1 h1.2.2.2 h1.2.2.1;have hP:s.b≤mgP s.b m.ix∧mgP s.b m.ix≤s.b+s.es.length:=⟨by unfold mgP;split <;> omega,by omega⟩;rw [hl.1];exact np _ _ t hrun hP.1 hP.2
    ·cases hr
 ·cases hr
end Go.Proofs.YtkpooenofjdpmaaGreat
namespace Go.Proofs.YtkpooenofjdpmaaGreat
open Go.Proofs.Tryz (prog)
open Go.RowKit
open Go.ChangeShapes Go.WideShapes Go.ChangeAt
end Go.Proofs.YtkpooenofjdpmaaGreat
