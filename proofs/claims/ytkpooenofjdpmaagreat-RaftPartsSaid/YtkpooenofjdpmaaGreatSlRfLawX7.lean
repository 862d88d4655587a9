/- The law RaftParts. -/
import Derived.Test.YtkpooenofjdpmaaGreatSlRfLawX6
import Derived.Lib.AppendStr
set_option maxRecDepth 100000
set_option maxHeartbeats 4000000
namespace Go.Proofs.YtkpooenofjdpmaaGreat
open Go.Proofs.Tryz (prog)
open Go.RowKit
open Go.ChangeShapes Go.WideShapes Go.ChangeAt
theorem qV (k f t tm ix lt cm rd:Int) (ok:Bool) (E:Option Addr) (n c:Nat) (a:Int) (d:ByteArray) (dn:Bool) (w:World) (hk:k=6) :
 Rt prog 141 [.agg #[.int .i64 k,.int .i64 f,.int .i64 t,.int .i64 tm,.int .i64 ix,.int .i64 lt,.int .i64 cm,.int .i64 rd,.bool ok,.slice E n c,.int .i64 a,.string d,.bool dn]] w (fun v w'=>(∃ ix' lt' cm' rd' ok' E' n' c' a' d' dn',v=.agg #[.int .i64 k,.int .i64 f,.int .i64 t,.int .i64 tm,.int .i64 ix',.int .i64 lt',.int .i64 cm',.int .i64 rd',.bool ok',.slice E' n' c',.int .i64 a',.string d',.bool dn']∧((ix'=0∧lt'=0∧cm'=0∧rd'=0∧a'=0∧ok'.toNat=0∧dn'.toNat=0∧d'.size=0∧n'=0)↔ExR k ix lt cm rd ok n a d dn))∧ai w w'):=by
 refine enter (n:=38) Tryz.func141 rfl rfl rfl (ao (ag (cj (v:=.agg _) rfl ?_)));intro b1 w1 E1 hb1 hk1;have hg1:w.heap.size≤b1:=by rw [hb1];exact Nat.le_refl _
 refine dq ji ?_;intro b2 w2 E2 hb2 hk2;have hlt:=hk1.lt;have hg2:w.heap.size≤b2:=by rw [hb2];exact ((ai.rfl_.next E1)).size
 have h12:b1<b2:=by omega
 replace hk1:=hk1.from_ E2;refine aq (ah (ao (ao (ag (ab (aa bJ rfl) (ab (au ak rfl (by exact hk1.rd 0 rfl)) ?_))))));refine aq (ah (bk (ao (ag (ab (bo rfl rfl) (asb rfl (aq (ah (yR rfl (fun Q3=>?_) (fun Q3=>?_))))))))))
 ·exfalso;omega
 refine ao (ag (ab (bo rfl rfl) (asb rfl (aq (ah (yR rfl (fun Q7=>?_) (fun Q7=>?_)))))))
 ·exfalso;omega
 refine ao (ag (ab (bo rfl rfl) (asb rfl (aq (ah (yR rfl (fun Q10=>?_) (fun Q10=>?_)))))))
 ·exfalso;omega
 refine ao (ag (ab (bo rfl rfl) (asb rfl (aq (ah (yR rfl (fun Q17=>?_) (fun Q17=>?_)))))))
 ·exfalso;omega
 refine ao (ag (ab (bo rfl rfl) (asb rfl (aq (ah (yR rfl (fun Q22=>?_) (fun Q22=>?_)))))))
 ·exfalso;omega
 refine ao (ag (ab (bo rfl rfl) (asb rfl (aq (ah (yR rfl (fun Q30=>?_) (fun Q30=>?_)))))));rotate_left
 ·exfalso;omega
 refine ag (ab (aa bW rfl) (fv (v:=.int _ _) bh rfl rfl rfl (hk1) (by show 0+4<13;decide) ?_));intro w32 O13_0 P13_0;replace hk2:=hk2.only O13_0 (by omega);replace hk1:Blk w32 b1 39 #[.int .i64 k,.int .i64 f,.int .i64 t,.int .i64 tm,.int .i64 0,.int .i64 lt,.int .i64 cm,.int .i64 rd,.bool ok,.slice E n c,.int .i64 a,.string d,.bool dn]:=P13_0;refine ab (aa dd rfl) (fv (v:=.int _ _) bh rfl rfl rfl (hk1) (by show 0+10<13;decide) ?_);intro w33 O13_1 P13_1;replace hk2:=hk2.only O13_1 (by omega);replace hk1:Blk w33 b1 39 #[.int .i64 k,.int .i64 f,.int .i64 t,.int .i64 tm,.int .i64 0,.int .i64 lt,.int .i64 cm,.int .i64 rd,.bool ok,.slice E n c,.int .i64 0,.string d,.bool dn]:=P13_1;refine ab (aa dg rfl) (fv (v:=.int _ _) bh rfl rfl rfl (hk1) (by show 0+7<13;decide) ?_);intro w34 O13_2 P13_2;replace hk2:=hk2.only O13_2 (by omega);replace hk1:Blk w34 b1 39 #[.int .i64 k,.int .i64 f,.int .i64 t,.int .i64 tm,.int .i64 0,.int .i64 lt,.int .i64 cm,.int .i64 0,.bool ok,.slice E n c,.int .i64 0,.string d,.bool dn]:=P13_2;refine aq (bI (ah (ao (ag (ab (aR (cs:=[_,_,_,_,_,_,_,_,_,_,_,_,_]) bp bg rfl (by exact hk1.whole)) ?_)))));refine cZ (vs:=[_,_,_,_,_,_,_,_,_,_,_,_,_]) bg rfl rfl (by simp [Value.oneCell']) (hk2) rfl ?_;intro w35 O14 P14;refine aq (ah (aG (sw rfl (eP (cs:=[_,_,_,_,_,_,_,_,_,_,_,_,_]) bp bg rfl (by exact P14.whole)) ?_)));refine ⟨⟨_,_,_,_,_,_,_,_,_,_,_,rfl,?_⟩,((((((ai.rfl_.next E1).next E2).only O13_0 (hg1)).only O13_1 (hg1)).only O13_2 (hg1)).only O14 (hg2))⟩;unfold ExR
 first
  |(rw [if_pos (by omega)];(try simp only [Bool.toNat_false,bz,true_and,and_true]);first | done | omega)
  |(rw [if_neg (by omega),if_pos (by omega)];(try simp only [Bool.toNat_false,bz,true_and,and_true]);first | done | omega)
  |(rw [if_neg (by omega),if_neg (by omega),if_pos (by omega)];(try simp only [Bool.toNat_false,bz,true_and,and_true]);first | done | omega)
  |(rw [if_neg (by omega),if_neg (by omega),if_neg (by omega),if_pos (by omega)];(try simp only [Bool.toNat_false,bz,true_and,and_true]);first | done | omega)
  |(rw [if_neg (by omega),if_neg (by omega),if_neg (by omega),if_neg (by omega),if_pos (by omega)];(try simp only [Bool.toNat_false,bz,true_and,and_true]);first | done | omega)
  |(rw [if_neg (by omega),if_neg (by omega),if_neg (by omega),if_neg (by omega),if_neg (by omega),if_pos (by omega)];(try simp only [true_and]);first | done | omega)
  |(rw [if_neg (by omega),if_neg (by omega),if_neg (by omega),if_neg (by omega),if_neg (by omega),if_neg (by omega)];omega)
theorem me (k f t tm ix lt cm rd:Int) (ok:Bool) (E:Option Addr) (n c:Nat) (a:Int) (d:ByteArray) (dn:Bool) (w:World) (hk:k=6) (es:List Ent) (hn:n=es.length) (he:cQ w (.slice E n c) es) (_:es.length≤400000000000) (_:0≤ix∧ix≤1099511627775) (_:0≤lt∧lt≤1099511627775) :
 Rt prog 142 [.agg #[.int .i64 k,.int .i64 f,.int .i64 t,.int .i64 tm,.int .i64 ix,.int .i64 lt,.int .i64 cm,.int .i64 rd,.bool ok,.slice E n c,.int .i64 a,.string d,.bool dn]] w (fun v w'=>v=.bool (decide (si k ix lt es))∧ai w w'):=by
 subst hn;refine enter (n:=29) Tryz.func142 rfl rfl rfl (ao (ag (cj (v:=.agg _) rfl ?_)));intro b1 w1 E1 hb1 hk1;refine asb rfl (aq (ah (ao (ao (ag (ab (aa bJ rfl) (ab (au ak rfl (by exact (hk1.from_ ai.rfl_).rd 0 rfl)) ?_)))))));refine ab (cz rfl rfl) (aq (ah (aO rfl (fun Q2=>?_) (fun Q2=>?_))));rotate_left
 ·replace Q2:=eu Q2;replace Q2:=d_ Q2;exfalso;omega
 replace Q2:=et Q2;replace Q2:=ea Q2;refine ao (ag (asb rfl (aq (ah (aG (aH (bF (v:=.bool _) rfl rfl (⟨congrArg Value.bool (decide_eq_true ?_).symm,(ai.rfl_.next E1)⟩))))))));intro h;omega
theorem ot (k f t tm ix lt cm rd:Int) (ok:Bool) (E:Option Addr) (n c:Nat) (a:Int) (d:ByteArray) (dn:Bool) (w:World) (hk:k=6) :
 Rt prog 143 [.agg #[.int .i64 k,.int .i64 f,.int .i64 t,.int .i64 tm,.int .i64 ix,.int .i64 lt,.int .i64 cm,.int .i64 rd,.bool ok,.slice E n c,.int .i64 a,.string d,.bool dn]] w (fun v w'=>v=.bool (decide (ir k ix a d))∧ai w w'):=by
 refine enter (n:=23) Tryz.func143 rfl rfl rfl (ao (ag (cj (v:=.agg _) rfl ?_)));intro b1 w1 E1 hb1 hk1;refine asb rfl (aq (ah (ao (ag (ab (aa bJ rfl) (ab (au ak rfl (by exact (hk1.from_ ai.rfl_).rd 0 rfl)) ?_))))));refine ab (cz rfl rfl) (mvb rfl (aM (t:=6) rfl (fun Q2=>?_) (fun Q2=>?_)));rotate_left
 ·replace Q2:=eu Q2;replace Q2:=d_ Q2;exfalso;omega
 replace Q2:=et Q2;replace Q2:=ea Q2;refine ar rfl rfl (ar rfl rfl (ar rfl rfl (ar rfl rfl (ar rfl rfl (bU rfl (bU rfl (bU rfl (ar rfl rfl ?_))))))));refine ar rfl rfl (bU rfl (bU rfl (bU rfl (bU rfl (ar rfl rfl (ab (aJ (v:=.bool _) rfl rfl) (asb rfl (aq (ah (aG ?_))))))))));refine bF (v:=.bool _) rfl rfl (⟨congrArg Value.bool ?_,(ai.rfl_.next E1)⟩)
 first
  |(rw [eq_comm,decide_eq_false_iff_not];unfold ir;omega)
  |(rw [decide_eq_decide];unfold ir;omega)
  |(rw [eq_comm,decide_eq_true_eq];unfold ir;omega)
theorem u9 (k f t tm ix lt cm rd:Int) (ok:Bool) (E:Option Addr) (n c:Nat) (a:Int) (d:ByteArray) (dn:Bool) (w:World) (hk:k=6) (es:List Ent) (hn:n=es.length) (he:cQ w (.slice E n c) es) (hl:es.length≤400000000000) :
 Rt prog 98 [.agg #[.int .i64 k,.int .i64 f,.int .i64 t,.int .i64 tm,.int .i64 ix,.int .i64 lt,.int .i64 cm,.int .i64 rd,.bool ok,.slice E n c,.int .i64 a,.string d,.bool dn]] w (fun v w'=>v=.int .i64 (if OkR k f t tm ix lt cm rd ok es a d dn then 0 else 1)∧ai w w'):=by
 refine enter (n:=47) Tryz.func98 rfl rfl rfl (ao (ag (cj (v:=.agg _) rfl ?_)));intro b1 w1 E1 hb1 hk1;refine asi rfl (aq (ah (ao (ag (ab (aa bJ rfl) (ab (au ak rfl (by exact (hk1.from_ ai.rfl_).rd 0 rfl)) ?_))))));refine ej (v:=.int _ _) aS rfl rfl rfl ?_;intro b6 w2 E6 hb6 hk6;refine aE ei (fe 1 6 b6 1 1 [k] _ rfl hk6 (by simp)) ?_;rintro v7 w3 ⟨rfl,rfl⟩;refine mvb rfl (ym (t:=8) rfl (fun Q4=>?_) (fun Q4=>?_))
 ·simp only [aL,aP,and_true] at Q4;have h8:=Q4;refine aj rfl (ab (aa bx rfl) (aj rfl (ab (au ak rfl (by exact (hk1.from_ (ai.rfl_.next E6)).rd 1 rfl)) ?_)));refine aj rfl (ab (aa ft rfl) (aj rfl (ab (au ak rfl (by exact (hk1.from_ (ai.rfl_.next E6)).rd 2 rfl)) ?_)));refine aj rfl (fA [.tmp 10,.tmp 12] [.int _ _,.int _ _] aS rfl rfl rfl rfl (by simp [Value.cells]) ?_);intro b13 w5 E13 hb13 hk13;refine aj rfl (aE ei (fe 1 7 b13 2 2 [f,t] _ rfl hk13 (by simp)) ?_);rintro v14 w6 ⟨rfl,rfl⟩;refine ab (aJ (v:=.bool _) rfl rfl) (mvb rfl (ym (t:=16) rfl (fun Q7=>?_) (fun Q7=>?_)))
  ·simp only [aL,aP,and_true] at Q7;have h16:=Q7;refine aj rfl (ab (aa bG rfl) (aj rfl (ab (au ak rfl (by exact (hk1.from_ ((ai.rfl_.next E6).next E13)).rd 3 rfl)) ?_)));refine aj rfl (ab (aa bW rfl) (aj rfl (ab (au ak rfl (by exact (hk1.from_ ((ai.rfl_.next E6).next E13)).rd 4 rfl)) ?_)));refine aj rfl (ab (aa ee rfl) (aj rfl (ab (au ak rfl (by exact (hk1.from_ ((ai.rfl_.next E6).next E13)).rd 5 rfl)) ?_)));refine aj rfl (ab (aa iG rfl) (aj rfl (ab (au ak rfl (by exact (hk1.from_ ((ai.rfl_.next E6).next E13)).rd 6 rfl)) ?_)));refine aj rfl (ab (aa dg rfl) (aj rfl (ab (au ak rfl (by exact (hk1.from_ ((ai.rfl_.next E6).next E13)).rd 7 rfl)) ?_)));refine aj rfl (ab (aa dd rfl) (aj rfl (ab (au ak rfl (by exact (hk1.from_ ((ai.rfl_.next E6).next E13)).rd 10 rfl)) ?_)));refine aj rfl (fA [.tmp 18,.tmp 20,.tmp 22,.tmp 24,.tmp 26,.tmp 28] [.int _ _,.int _ _,.int _ _,.int _ _,.int _ _,.int _ _] aS rfl rfl rfl rfl (by simp [Value.cells]) ?_);intro b29 w8 E29 hb29 hk29;refine aj rfl (aE ei (fe 0 1099511627775 b29 6 6 [tm,ix,lt,cm,rd,a] _ rfl hk29 (by simp)) ?_);rintro v30 w9 ⟨rfl,rfl⟩;refine ab (aJ (v:=.bool _) rfl rfl) (mvb rfl (ym (t:=32) rfl (fun Q10=>?_) (fun Q10=>?_)))
   ·simp only [aL,aP,and_true] at Q10;have h32:=Q10;refine aj rfl (ab (aR (cs:=[_,_,_,_,_,_,_,_,_,_,_,_,_]) bp bg rfl (by exact (hk1.from_ (((ai.rfl_.next E6).next E13).next E29)).whole)) ?_);refine aj rfl (aE jE (qV k f t tm ix lt cm rd ok E n c a d dn _ hk) ?_);rintro v34 w11 ⟨⟨ix',lt',cm',rd',ok',E',n',c',a',d',dn',rfl,hex⟩,E34⟩;refine aj rfl (aE jF (oN k f t tm ix' lt' cm' rd' ok' E' n' c' a' d' dn' _) ?_);rintro v35 w12 ⟨rfl,E35⟩;refine ab (aJ (v:=.bool _) rfl rfl) (mvb rfl (ym (t:=37) rfl (fun Q13=>?_) (fun Q13=>?_)))
    ·have hx:=hex.1 Q13;have h37:=Q13;refine aj rfl (ab (aR (cs:=[_,_,_,_,_,_,_,_,_,_,_,_,_]) bp bg rfl (by exact (hk1.from_ (((((ai.rfl_.next E6).next E13).next E29).next E34).next E35)).whole)) ?_);refine aj rfl (aE jD (me k f t tm ix lt cm rd ok E n c a d dn _ hk es hn (he.from_ ((((((ai.rfl_.next E1).next E6).next E13).next E29).next E34).next E35)) hl (by omega) (by omega)) ?_);rintro v39 w14 ⟨rfl,E39⟩;refine ab (aJ (v:=.bool _) rfl rfl) (mvb rfl (ym (t:=41) rfl (fun Q15=>?_) (fun Q15=>?_)))
     ·have h41:=Q15;refine aj rfl (ab (aR (cs:=[_,_,_,_,_,_,_,_,_,_,_,_,_]) bp bg rfl (by exact (hk1.from_ ((((((ai.rfl_.next E6).next E13).next E29).next E34).next E35).next E39)).whole)) ?_);refine aj rfl (aE jC (ot k f t tm ix lt cm rd ok E n c a d dn _ hk) ?_);rintro v43 w16 ⟨rfl,E43⟩;refine ab (aJ (v:=.bool _) rfl rfl) (asb rfl (aq (ah (ao (ao (ag (mvb rfl (ab (cE rfl) (aq (ah (aO rfl (fun Q17=>?_) (fun Q17=>?_))))))))))))
      ·replace Q17:=et Q17;replace Q17:=dF_ Q17;have hno:¬ (OkR k f t tm ix lt cm rd ok es a d dn):=fun h=>Q17 h.2.2.2
       refine ao (ag (asi rfl (aq (ah (aG (aH (bF (v:=.int _ _) rfl rfl (⟨aZ (by rw [if_neg hno]),((((((((ai.rfl_.next E1).next E6).next E13).next E29).next E34).next E35).next E39).next E43)⟩))))))))
      replace Q17:=eu Q17;replace Q17:=dT_ Q17;have hyes:OkR k f t tm ix lt cm rd ok es a d dn:=⟨by unfold jk;omega,hn ▸ hx,h41,Q17⟩;refine aI (ah (ao (ag (asi rfl (aq (ah (aG (bF (v:=.int _ _) rfl rfl (⟨aZ (by rw [if_pos hyes]),((((((((ai.rfl_.next E1).next E6).next E13).next E29).next E34).next E35).next E39).next E43)⟩)))))))))
     have hno:¬ (OkR k f t tm ix lt cm rd ok es a d dn):=fun h=>Q15 h.2.2.1
     refine ar rfl rfl (ar rfl rfl (ab (aB (v:=.bool _) rfl rfl) (asb rfl (aq (ah (ao (ao (ag (mvb rfl (ab (cE rfl) (aq (ah (aW rfl ?_)))))))))))));refine ao (ag (asi rfl (aq (ah (aG (aH (bF (v:=.int _ _) rfl rfl (⟨aZ (by rw [if_neg hno]),(((((((ai.rfl_.next E1).next E6).next E13).next E29).next E34).next E35).next E39)⟩))))))))
    have hno:¬ (OkR k f t tm ix lt cm rd ok es a d dn):=fun h=>Q13 (hex.2 (hn ▸ h.2.1))
    refine ar rfl rfl (ar rfl rfl (ab (aB (v:=.bool _) rfl rfl) (mvb rfl (ar rfl rfl (ar rfl rfl (ab (aB (v:=.bool _) rfl rfl) (asb rfl (aq (ah (ao (ao (ag ?_))))))))))));refine mvb rfl (ab (cE rfl) (aq (ah (aW rfl (ao (ag (asi rfl (aq (ah (aG (aH (bF (v:=.int _ _) rfl rfl (⟨aZ (by rw [if_neg hno]),((((((ai.rfl_.next E1).next E6).next E13).next E29).next E34).next E35)⟩)))))))))))))
   simp only [aL,aP,and_true] at Q10;have hno:¬ (OkR k f t tm ix lt cm rd ok es a d dn):=fun h=>Q10 (by have:=h.1;unfold jk at this;omega)
   refine ar rfl rfl (ar rfl rfl (ar rfl rfl (ab (aB (v:=.bool _) rfl rfl) (mvb rfl (ar rfl rfl (ar rfl rfl (ab (aB (v:=.bool _) rfl rfl) (mvb rfl ?_))))))));refine ar rfl rfl (ar rfl rfl (ab (aB (v:=.bool _) rfl rfl) (asb rfl (aq (ah (ao (ao (ag (mvb rfl (ab (cE rfl) (aq (ah (aW rfl ?_)))))))))))));refine ao (ag (asi rfl (aq (ah (aG (aH (bF (v:=.int _ _) rfl rfl (⟨aZ (by rw [if_neg hno]),((((ai.rfl_.next E1).next E6).next E13).next E29)⟩))))))))
  simp only [aL,aP,and_true] at Q7;have hno:¬ (OkR k f t tm ix lt cm rd ok es a d dn):=fun h=>Q7 (by have:=h.1;unfold jk at this;omega)
  refine ar rfl rfl (ar rfl rfl (ar rfl rfl (ar rfl rfl (ar rfl rfl (ar rfl rfl (ar rfl rfl (ar rfl rfl (ar rfl rfl ?_))))))));refine ar rfl rfl (ar rfl rfl (ar rfl rfl (ar rfl rfl (ar rfl rfl (ab (aB (v:=.bool _) rfl rfl) (mvb rfl (ar rfl rfl (ar rfl rfl ?_))))))));refine ar rfl rfl (ab (aB (v:=.bool _) rfl rfl) (mvb rfl (ar rfl rfl (ar rfl rfl (ab (aB (v:=.bool _) rfl rfl) (mvb rfl (ar rfl rfl (ar rfl rfl ?_))))))));refine ab (aB (v:=.bool _) rfl rfl) (asb rfl (aq (ah (ao (ao (ag (mvb rfl (ab (cE rfl) (aq (ah (aW rfl (ao (ag (asi rfl ?_))))))))))))));refine aq (ah (aG (aH (bF (v:=.int _ _) rfl rfl (⟨aZ (by rw [if_neg hno]),(((ai.rfl_.next E1).next E6).next E13)⟩)))))
 simp only [aL,aP,and_true] at Q4;have hno:¬ (OkR k f t tm ix lt cm rd ok es a d dn):=fun h=>Q4 (by have:=h.1;unfold jk at this;omega)
 refine ar rfl rfl (ar rfl rfl (ar rfl rfl (ar rfl rfl (ar rfl rfl (ar rfl rfl (ab (aB (v:=.bool _) rfl rfl) (mvb rfl (ar rfl rfl ?_))))))));refine ar rfl rfl (ar rfl rfl (ar rfl rfl (ar rfl rfl (ar rfl rfl (ar rfl rfl (ar rfl rfl (ar rfl rfl (ar rfl rfl ?_))))))));refine ar rfl rfl (ar rfl rfl (ar rfl rfl (ar rfl rfl (ab (aB (v:=.bool _) rfl rfl) (mvb rfl (ar rfl rfl (ar rfl rfl (ar rfl rfl ?_))))))));refine ab (aB (v:=.bool _) rfl rfl) (mvb rfl (ar rfl rfl (ar rfl rfl (ab (aB (v:=.bool _) rfl rfl) (mvb rfl (ar rfl rfl (ar rfl rfl (ab (aB (v:=.bool _) rfl rfl) ?_))))))));refine asb rfl (aq (ah (ao (ao (ag (mvb rfl (ab (cE rfl) (aq (ah (aW rfl (ao (ag (asi rfl (aq (ah (aG (aH ?_)))))))))))))))));refine bF (v:=.int _ _) rfl rfl (⟨aZ (by rw [if_neg hno]),((ai.rfl_.next E1).next E6)⟩)
theorem vb {m:Msg} (hl:m.es.length≤1000000) (hk:m.k=6):o6 m:=fun w he=>u9 m.k m.f m.t m.tm m.ix m.lt m.cm m.rd m.ok m.E m.es.length m.c m.a m.d m.dn w hk m.es rfl he (by omega)
end Go.Proofs.YtkpooenofjdpmaaGreat
namespace Go.Proofs.YtkpooenofjdpmaaGreat
open Go.Proofs.Tryz (prog)
def zy (s:ByteArray):List Nat:=s.data.toList.map (·.toNat)
def fQ (l:List Nat):List Value:=l.map fun (x:Nat)=>.int .u8 x
theorem eU (l:List Nat):(fQ l).length=l.length:=by simp [fQ]
end Go.Proofs.YtkpooenofjdpmaaGreat
namespace Go.Proofs.YtkpooenofjdpmaaGreat
open Go.Proofs.Tryz (prog)
open Go.RowKit
open Go.ChangeShapes Go.WideShapes Go.ChangeAt
open Go.RowKit
theorem qp:nU prog 88=some (5,1,(.int .u8 0)):=by kernel_rfl
theorem r9:dr prog 5=some 1:=by kernel_rfl
theorem qq:(e_ prog 88).isSome=true:=by kernel_rfl
theorem r_:prog.underlying 5=some (.int .u8):=by kernel_rfl
theorem qs:e_ prog 88=some (5,1):=by kernel_rfl
def vO (l:List Nat):ByteArray:=⟨(l.map UInt8.ofNat).toArray⟩
theorem sW (l:List Nat):(vO l).size=l.length:=by
 show ((l.map UInt8.ofNat).toArray).size=_;simp
theorem ts {w:World} {src dst e:TypeId} (hs:prog.underlying src=some (.slice e)) (he:prog.underlying e=some (.int .u8)) (hd:prog.underlying dst=some .string)
 {v:Value} {l:List Nat} (hl:∀ b∈l,b<256) (hr:vq w v (fQ l)):(convert src dst v).run prog w=.ok (.string (vO l)) w:=by
 obtain ⟨A,cap,rfl,_,_,hp⟩:=hr.parts;rw [eU] at hp ⊢;cases A with
 |none=>
  have h0:l=[]:=by
   cases l with
   |nil=>rfl
   |cons x t=>
    obtain ⟨b,o,hA,_⟩:=hp (by simp);cases hA
  subst h0;rw [run_convert_bytes_string w src dst e none _ cap hs he hd];rfl
 |some a=>
  have hm:(l.map UInt8.ofNat).length=l.length:=by simp
  have:=run_convert_bytes_back (P:=prog) w src dst e a cap (l.map UInt8.ofNat) hs he hd (fun j hj=>by
   have hj':j<l.length:=by simpa using hj
   obtain ⟨b,o,hA,_,hc⟩:=hp (by omega);simp only [Option.some.injEq] at hA;subst hA;rw [Go.WideShapes.add_plain];have hb:=hl _ (List.getElem_mem hj');rw [hc j (.int .u8 (l[j]:Nat)) (by simp [fQ,hj'])];simp only [List.getElem_map,UInt8.toNat_ofNat']
   congr 2
   omega)
  rw [hm] at this;exact this
theorem uj {ρ:Operand→Value} {w:World} {x:Operand} {v:Value} {l:List Nat} (hl:∀ b∈l,b<256) (hx:ρ x=v) (hr:vq w v (fQ l)):RO prog ρ (.convert 88 9 x) w (.string (vO l)) w:=fun _ _ _ _ _=>by
 subst hx;have h:=ts (src:=88) (dst:=9) (e:=5) (by kernel_rfl) (by kernel_rfl) (by kernel_rfl) hl hr;simp [execOp,h]
theorem xj (i:Int):∃ b:Nat,IntKind.u8.wrap i=(b:Int)∧b<256:=by
 rw [IntKind.wrap_u8];exact ⟨(i%256).toNat,by omega,by omega⟩
theorem rQ (l:List Nat) (k b:Nat):(fQ l).set k (.int .u8 (b:Nat))=fQ (l.set k b):=by
 unfold fQ;rw [List.map_set]
theorem ue {w:World} {g n:Nat} {l:List Nat} {t:TypeId} (hb:Blk w g t (fQ l).toArray) (hn:n=l.length) (hs:n≤9223372036854775807):vq w (.slice (some ⟨g,0,none⟩) n n) (fQ l):=by
 subst hn;refine ⟨?_,_,_,by rw [eU],by rw [eU];exact Nat.le_refl _,hs⟩;have h9:=Row.blk hb l.length;rw [←eU l];simpa [eU] using h9
theorem p2 (n:Nat):List.replicate n (Value.int .u8 0)=fQ (List.replicate n 0):=by
 unfold fQ;rw [List.map_replicate];rfl
theorem tY (i:Int) (w:World) (hi:0≤i∧i<200) :
 Rt prog 20 [.int .i64 i] w (fun v w'=>(∃ b:ByteArray,v=.string b∧(b.size:Int)=1024+10*i)∧ai w w'):=by
 obtain ⟨n,hn⟩:∃ n:Nat,(n:Int)=1024+10*i:=⟨(1024+10*i).toNat,by omega⟩;refine enter (n:=25) Tryz.func20 rfl rfl rfl (ao (ag (asg rfl (aq (ah (ao (ag (mvi rfl (ab (pq rfl rfl (by omega)) (ab (pt rfl rfl (by omega)) (ab (cl rfl rfl (by omega)) (er (t:=8) (v:=.int _ _) (v':=.int .i64 (n:Nat)) rfl (by exact aZ (by omega)) ?_))))))))))));refine vP qp rfl rfl rfl (by omega) (by omega) ?_;intro b9 w1 E9 hb9 hk9;have hg9:w.heap.size≤b9:=by rw [hb9];exact (ai.rfl_).size
 refine ass rfl (aq (ah (ao (ao (ag (asi rfl (aq (ah (bk (dC (G:=Nat×List Nat) [10,11,12,13,14,15,16,17,18,19,20,21,22] (fun (k,l)=>[(4,.int .i64 (k:Nat))]) (fun (k,l) w'=>k≤n∧l.length=n∧(∀ x∈l,x<256)∧Blk w' b9 5 (fQ l).toArray∧ai w w') (fun (k,l)=>n-k) ((0,List.replicate n 0)) ⟨rfl,trivial⟩ ?_ ?_))))))))))
 ·exact ⟨Nat.zero_le _,List.length_replicate,fun x hx=>by rw [List.eq_of_mem_replicate hx];decide,by rw [←p2];exact hk9,(ai.rfl_.next E9)⟩
 rintro ⟨k,l⟩ ρ2 w2 ⟨hk,hln,hlt,hbl,hB⟩;refine ao (ao (ag (mvi rfl (mvs rfl (ab (b0 qq rfl) (ab (cA rfl rfl) (aq (ah (yS rfl (fun Q3=>?_) (fun Q3=>?_))))))))))
 ·have hkn:k<n:=by omega
  obtain ⟨b,hb1,hb2⟩:=xj (i+(k:Nat));refine aI (ah (ao (bk (ag (mvs rfl (mvi rfl (mvi rfl (mvi rfl (ab (cl rfl rfl (by omega)) (ab (su n_ r_ rfl) (er (t:=21) (v:=.int _ _) (v':=.int .u8 (b:Nat)) rfl (by exact congrArg (Value.int .u8) hb1) ?_)))))))))));refine ab (ky qs rfl rfl (by omega)) (fv (g:=b9) (i:=k) (v:=.int .u8 (b:Nat)) r9 (show Value.pointer (some ⟨b9,0+(k:Int).toNat*1,none⟩)=Value.pointer (some ⟨b9,k,none⟩) from by rw [Nat.mul_one,Int.toNat_natCast,Nat.zero_add]) rfl rfl (hbl.from_ ai.rfl_) (by simp [eU,hln];omega) ?_);intro w4 O5 P5
  have hP5:Blk w4 b9 5 (fQ (l.set k b)).toArray:=by
   have h9:=P5;rw [List.setIfInBounds_toArray,rQ] at h9;exact h9
  refine aq (bI (ah (ag (mvi rfl (ab (cl rfl rfl (by omega)) (asi rfl (aq ?_)))))));refine cu ((k+1,l.set k b)) ⟨(by first | rfl | (refine aZ ?_;omega)),trivial⟩ (by (iterate 29 refine bC rfl ?_);exact bP) ⟨?_,?_⟩
  ·exact ⟨by omega,by rw [List.length_set];exact hln,fun x hx=>(List.mem_or_eq_of_mem_set hx).elim (hlt x) (fun e=>by rw [e];exact hb2),hP5.from_ ai.rfl_,(hB.only O5 hg9)⟩
  ·show n-(k+1)<n-k;omega
 obtain rfl:k=n:=by omega
 refine cL (bw (bw (cr (ah (ao (ag (mvs rfl (ab (uj (l:=l) hlt rfl (ue hbl hln.symm (by omega))) (asg rfl (aq (ah (aG (bF (v:=.string _) rfl rfl (⟨⟨vO l,rfl,?_⟩,hB⟩))))))))))))));rw [sW,hln];exact hn
theorem ld {w w':World} {row:Option Nat} (h:w.grownBy w' row):Chg (fun k=>row=some k) w w':=⟨h.os,h.tape,h.output,h.size,fun k hk hn=>h.block k hk (fun e=>hn e.symm)⟩
theorem aY.offC {w w':World} {tag:Nat→Nat} {s:Rf} {a:Ra} {U:Nat→Prop} (h:aY w tag s a) (hC:Chg U w w') (hU:∀ k,U k→∃ T cs,Blk w k T cs∧T≠99∧T≠3∧T≠54):aY w' tag s a:=by
 have k1:∀ {base e sz n m:Nat} {c:Nat} {A:Option Addr} {xs:List Value},(e=99∨e=3∨e=54)→w.ownsRow base e sz (.slice A n c) m xs→∀ k,A.map (·.block)=some k→¬ U k:=fun he ho k hk hu=>by
  obtain ⟨T,cs,hb,h1,h2,h3⟩:=hU k hu;exact oE ho hb (by rcases he with rfl | rfl | rfl <;> assumption) k hk rfl
 exact ⟨fun hx=>⟨eK (h.e hx).1 hC (k1 (.inl rfl) (h.e hx).1),(h.e hx).2⟩,fun hx=>⟨eK (h.v hx).1 hC (k1 (.inr (.inl rfl)) (h.v hx).1),(h.v hx).2⟩,fun hx=>⟨eK (h.x hx).1 hC (k1 (.inr (.inl rfl)) (h.x hx).1),(h.x hx).2⟩,fun hx=>⟨eK (h.m hx).1 hC (k1 (.inr (.inl rfl)) (h.m hx).1),(h.m hx).2⟩,fun hx=>⟨eK (h.n hx).1 hC (k1 (.inr (.inl rfl)) (h.n hx).1),(h.n hx).2⟩,h.r,fun hx=>⟨eK (h.q hx).1 hC (k1 (.inr (.inr rfl)) (h.q hx).1),(h.q hx).2⟩,fun i hi hx=>⟨eK (h.k i hi hx).1 hC (k1 (.inr (.inl rfl)) (h.k i hi hx).1),(h.k i hi hx).2⟩⟩
theorem aY.box {w w':World} {tag:Nat→Nat} {s:Rf} {a:Ra} {g:Nat} {cs:Array Value} (h:aY w tag s a) (hb:Blk w g 29 cs) (hO:dw g w w'):aY w' tag s a:=
 h.offC (hO.toChg (U:=fun k=>k=g) rfl) fun k e=>by have e9:k=g:=e;subst e9;exact ⟨29,cs,hb,by decide,by decide,by decide⟩
structure QIs (w:World) (base:Nat) (q:List Msg) (O:Option Addr) (c:Nat) (L:List Msg):Prop where
 o:eY w base 39 13 O L.length c (L.flatMap bT)
 l:L.map pl=q
 e:∀ x∈L,x.es=[]∧Em w x
theorem Em.nil {w w':World} {m:Msg} (h:Em w m) (he:m.es=[]):Em w' m:=by
 obtain ⟨A',c',hv,h1,h2,h3,_⟩:=h;exact ⟨A',c',hv,h1,h2,h3,fun h0=>by rw [he] at h0;exact absurd h0 (Nat.lt_irrefl _)⟩
theorem QIs.chg {w w':World} {base:Nat} {q:List Msg} {O:Option Addr} {c:Nat} {L:List Msg} {U:Nat→Prop} (h:QIs w base q O c L) (hC:Chg U w w') (hU:∀ k,O.map (·.block)=some k→¬ U k):QIs w' base q O c L:=⟨h.o.chg hC hU,h.l,fun x hx=>⟨(h.e x hx).1,(h.e x hx).2.nil (h.e x hx).1⟩⟩
theorem QIs.from_ {w w':World} {base:Nat} {q:List Msg} {O:Option Addr} {c:Nat} {L:List Msg} (h:QIs w base q O c L) (hF:ai w w'):QIs w' base q O c L:=h.chg (U:=fun _=>False) hF.toChg fun _ _ e=>e
theorem QIs.box {w w':World} {base g:Nat} {q:List Msg} {O:Option Addr} {c:Nat} {L:List Msg} {cs:Array Value} (h:QIs w base q O c L) (hb:Blk w g 29 cs) (hO:dw g w w'):QIs w' base q O c L:=h.chg (hO.toChg (U:=fun k=>k=g) rfl) fun k hk e=>h.o.off hb (by decide) k hk e
theorem QIs.of_ {w:World} {base:Nat} {q:List Msg} {O:Option Addr} {c:Nat} {L:List Msg} {tag:Nat→Nat} (h:fz w tag q O c L) (ht:∀ k,k<base→tag k=8) (hq:∀ m∈q,m.es=[]):QIs w base q O c L:=by
 have hx:=eY.of_own h.o;refine ⟨?_,h.l,fun x hx9=>?_⟩
 ·obtain ⟨g1,g2,g3,hA⟩:=hx;refine ⟨g1,g2,g3,hA.imp id ?_⟩;rintro ⟨g,off,cs,e,_,h4,h5,h6⟩;refine ⟨g,off,cs,e,?_,h4,h5,h6⟩;rcases Nat.lt_or_ge g base with h9 | h9
  ·have h8:=h.c g (by rw [e];rfl);rw [ht g h9] at h8;cases h8
  ·exact h9
 ·obtain ⟨j,hj,rfl⟩:=List.getElem_of_mem hx9;have hm:(pl L[j]).es=[]:=hq _ (by rw [←h.l];exact List.mem_map_of_mem hx9);exact ⟨hm,cQ.of_own (h.e j hj).1 rfl⟩
theorem j8 (s:Rf) (a:Ra) (m:Msg) (w:World) (hrd:jj w s a) (he:Em w m) (hes:m.es=[]) (hm:jo s=true) (hf:lQ s m) (hk:m.k=5∨m.k=6∨m.k=4) {s2:Rf} {q2:List Msg} (hr:cp s m=⟨s2,q2⟩) (hq:∀ x∈q2,x.es=[]):Rt prog 24 [.agg (rfV s a).toArray,.agg (bT m).toArray] w fun v w'=>(∃ tag a' O oc L,v=.tuple #[.agg (rfV s2 a').toArray,.slice O (List.length L) oc,.int .i64 0]∧aY w' tag s2 a'∧QIs w' w.heap.size q2 O oc L)∧ai w w':=by
 have hF:=mQ hm;have hz:=hF.sz;have hlm:m.es.length≤1000000:=by rw [hes];exact Nat.zero_le _
 have hff:=(⟨hf.1.num.2.1.1,((eR s m).1 hf.2).2.2.1⟩:1≤m.f∧m.f≤s.nodes);have ht:=hf.1.num.2.2.2.1.2
 have fin:∀ (v:Value) (w':World),(∃ tag a' O oc L,v=.tuple #[.agg (rfV (cp s m).s a').toArray,.slice O (List.length L) oc,.int .i64 0]∧aY w' tag (cp s m).s a'∧fz w' tag (cp s m).out O oc L∧∀ k,k<w.heap.size→tag k=8)∧ai w w'→(∃ tag a' O oc L,v=.tuple #[.agg (rfV s2 a').toArray,.slice O (List.length L) oc,.int .i64 0]∧aY w' tag s2 a'∧QIs w' w.heap.size q2 O oc L)∧ai w w':=fun v w' h=>by
  rw [hr] at h;obtain ⟨⟨tag,a',O,oc,L,hv,ho,hO,htg⟩,hF9⟩:=h;exact ⟨⟨tag,a',O,oc,L,hv,ho,QIs.of_ hO htg hq⟩,hF9⟩
 rcases hk with hk | hk | hk
 ·exact (ml s a m w hrd hz.2 hz.1 he hlm (vd hlm hk) hm hf (fun w0 Z g wv hs h1 h2=>vF w0 Z 96 g s m wv hs hF ht hk hff (hf.1.2.2.2 hk).1.2 (hf.1.2.2.2 hk).2.2)).mono fin
 ·exact (ml s a m w hrd hz.2 hz.1 he hlm (vb hlm hk) hm hf (fun w0 Z g wv hs h1 h2=>vE w0 Z 96 g s m wv hs hF ht hk hff hf.1.num.2.2.2.2.1 hf.1.num.2.2.2.2.2.2.2.2.1)).mono fin
 ·exact (ml s a m w hrd hz.2 hz.1 he hlm (ve hlm hk) hm hf (fun w0 Z g wv hs h1 h2=>vG w0 Z 96 g s m wv hs hF ht hk hff hf.1.num.2.2.2.2.1 hf.1.num.2.2.2.2.2.2.2.2.1)).mono fin
theorem mh (s:Rf) (a:Ra) (w:World) (hrd:jj w s a) (hm:jo s=true) {s2:Rf} {q2:List Msg} (hr:fJ s=⟨s2,q2⟩) (hq:∀ x∈q2,x.es=[]):Rt prog 23 [.agg (rfV s a).toArray] w fun v w'=>(∃ tag a' O oc L,v=.tuple #[.agg (rfV s2 a').toArray,.slice O (List.length L) oc,.int .i64 0]∧aY w' tag s2 a'∧QIs w' w.heap.size q2 O oc L)∧ai w w':=by
 have hz:=(mQ hm).sz;refine (pe s a w hrd hz.2 hz.1 hm).mono fun v w' h=>?_
 rw [hr] at h;obtain ⟨⟨tag,a',O,oc,L,hv,ho,hO,htg⟩,hF9⟩:=h;exact ⟨⟨tag,a',O,oc,L,hv,ho,QIs.of_ hO htg hq⟩,hF9⟩
theorem nr {P:Program} {w:World} {t ty e size by_:Nat} {z:Value} {A A2:Option Addr} {m cap c2:Nat} (hq:gA P t=some (e,size,by_,z)) (hm:m≤cap):(Builtin.append_ #[t,t] ty #[.slice A m cap,.slice A2 0 c2]).run P w=.ok (.slice A m cap) w:=by
 obtain ⟨i,hu,hi,hsz,hb,hz⟩:=kd hq;cases A <;> cases A2 <;> simp [Builtin.append_,run_underlying hu,sizeOf,typeInfo,hi,Builtin.lenOf,Builtin.firstCells,loadCells,loadCellsFrom,hm,storeCells]
section
variable {P:Program} {ops:Array Oper} {Q:Exit→Act→World→Prop} {rest:List Oper} {n:Fr} {L:List (Nat×Value)} {w:World} {ty:TypeId} {pos:String} {after:Array Edge} {d:Nat} {t:TypeId} {x s:Operand}
theorem mr {base:Nat} {A A2:Option Addr} {m j cap c2 e size by_:Nat} {z:Value} {xs news:List Value} (hq:gA P t=some (e,size,by_,z)) (hzs:z.cells.size=size) (hs0:0<size)
 (hs:ev n L s=.slice A m cap) (hown:eY w base e size A m cap xs) (hB:base≤w.heap.size)
 (hx:ev n L x=.slice A2 j c2) (hl:news.length=j*size) (hsrc:0<j→∃ b o,A2=some ⟨b,o,none⟩∧w.rangeAt b o news) (h1:∀ u∈news,u.oneCell'=true) (h63:m+j≤9223372036854775807) (hby:(m+j)*by_≤140737488355328)
 (k:∀ A' cap' w',eY w' base e size A' (m+j) cap' (xs++news)→w.grownBy w' (A.map (·.block))→St P ops Q rest n ((d,.slice A' (m+j) cap')::L) w') :
 St P ops Q (⟨some d,.call { callee:=.builtin .append,args:=#[s,x],argTypes:=#[t,t] },ty,pos,after,none⟩::rest) n L w:=by
 rcases Nat.eq_zero_or_pos j with h0 | h0
 ·subst h0;have hn:news=[]:=List.eq_nil_of_length_eq_zero (by omega);subst hn;have hrun:=fun ty9=>nr (P:=P) (w:=w) (t:=t) (ty:=ty9) (A:=A) (A2:=A2) (m:=m) (cap:=cap) (c2:=c2) hq hown.2.1
  refine ab (v:=.slice A m cap) (w':=w) (fun dst ty9 pos after g=>?_) (by have h9:=k A cap w (by rw [List.append_nil];exact hown) ⟨rfl,rfl,rfl,Nat.le_refl _,fun k _ _=>rfl⟩;exact h9);unfold execOp;simp only [resolve,invoke,builtin,Sem.run_bind,Sem.run_pure,Result.andThen_ok,List.map_toArray,List.map_cons,List.map_nil,hs,hx,hrun]
 ·exact q_ hq hzs hs0 hs hown hB hx hl (hsrc h0) h1 h63 hby k
end
theorem xC (i:Int):-100<i.tmod 100∧i.tmod 100<100:=by
 by_cases h:i<0
 ·have e:i.tmod 100=-((-i).tmod 100):=by rw [Int.neg_tmod,Int.neg_neg]
  rw [e,Int.tmod_eq_emod_of_nonneg (by omega)];omega
 ·rw [Int.tmod_eq_emod_of_nonneg (by omega)];omega
theorem uC (m:Msg):∀ u∈bT m,u.oneCell'=true:=by
 intro u hu;simp [bT] at hu;rcases hu with rfl | rfl | rfl | rfl | rfl | rfl | rfl | rfl | rfl | rfl | rfl | rfl | rfl <;> rfl
theorem QIs.app {w w':World} {base:Nat} {O A:Option Addr} {c c2 j:Nat} {L2 q2:List Msg} (h:eY w' base 39 13 A (0+L2.length) c2 ([]++L2.flatMap bT)) (hq:QIs w j q2 O c L2):QIs w' base q2 A c2 L2:=⟨by rw [Nat.zero_add,List.nil_append] at h;exact h,hq.l,fun x hx=>⟨(hq.e x hx).1,(hq.e x hx).2.nil (hq.e x hx).1⟩⟩
theorem QIs.src {w:World} {base:Nat} {q:List Msg} {O:Option Addr} {c:Nat} {L:List Msg} (h:QIs w base q O c L):0<L.length→∃ b o,O=some ⟨b,o,none⟩∧w.rangeAt b o (L.flatMap bT):=fun h0=>by
 obtain ⟨b,o,hO,_,hr⟩:=h.o.range h0;exact ⟨b,o,hO,hr⟩
theorem aY.app {w w':World} {tag:Nat→Nat} {s:Rf} {a:Ra} {base n c:Nat} {A:Option Addr} {xs:List Value} (h:aY w tag s a) (hX:eY w base 39 13 A n c xs) (hg:w.grownBy w' (A.map (·.block))):aY w' tag s a:=
 h.offC (ld hg) fun k hk=>by
  rcases hX.2.2.2 with ⟨e,_,_⟩ | ⟨g,off,cs,e,_,hb,_⟩
  ·rw [e] at hk;cases hk
  ·rw [e] at hk;cases hk;exact ⟨39,cs,hb,by decide,by decide,by decide⟩
theorem Blk.app {w w':World} {b T:Nat} {cs:Array Value} {base n c:Nat} {A:Option Addr} {xs:List Value} (h:Blk w b T cs) (hT:T≠39) (hX:eY w base 39 13 A n c xs) (hg:w.grownBy w' (A.map (·.block))):Blk w' b T cs:=
 h.chg (ld hg) fun e=>hX.off h hT b e rfl
theorem ai.app {a w w':World} {n c:Nat} {A:Option Addr} {xs:List Value} (h:ai a w) (hX:eY w a.heap.size 39 13 A n c xs) (hg:w.grownBy w' (A.map (·.block))):ai a w':=
 h.chg (ld hg) fun k hk=>(hX.at_ k hk).1
end Go.Proofs.YtkpooenofjdpmaaGreat
namespace Go.Proofs.YtkpooenofjdpmaaGreat
open Go.Proofs.Tryz (prog)
open Go.RowKit
open Go.ChangeShapes Go.WideShapes Go.ChangeAt
theorem lC:aN prog 21=true:=by kernel_rfl
theorem eJ:aN prog 22=true:=by kernel_rfl
theorem jA:aN prog 23=true:=by kernel_rfl
def wkA (k:Int):Rf:={ pH 1 1 1 with elapsed:=k }
def wkB (e r:Int):Rf:=⟨1,1,2,1,1,1,0,0,[⟨1,1,⟨#[]⟩⟩],⟨#[]⟩,1,e,10+bl (nx 1) 10,nx (nx 1),[],[1],[1],[0],r,[],⟨#[]⟩,0⟩
def wkR:Nat→Rf
 |0=>pH 1 1 1
 |k+1=>(fJ (wkR k)).s
theorem wi:med [1]=1:=by
 have h:srt [1]=[1]:=List.perm_singleton.1 (mw [1]);unfold med;rw [h];rfl
theorem tH (k:Int):(ic (wkA k)).s=wkB 0 0:=by
 rw [pY (show (wkA k).term≠dZ by show (0:Int)≠1099511627775;decide)];show (lq ⟨dF (wkA k),[]⟩).s=_;unfold lq;rw [if_pos (show eD (⟨dF (wkA k),[]⟩:Sp).s.nodes (⟨dF (wkA k),[]⟩:Sp).s.votes=true from (by decide:eD 1 [1]=true))];unfold pL;rw [if_neg (show ¬ gF (⟨dF (wkA k),[]⟩:Sp).s=true from fun h=>Bool.noConfusion (show false=true from h))];show cH (Sp.all ⟨eI (dN (dF (wkA k))) ⟨#[]⟩,[]⟩).s=_;rw [nc];show cH (eI (dN (dF (wkA k))) ⟨#[]⟩)=_;unfold cH;simp only;rw [show ck (eI (dN (dF (wkA k))) ⟨#[]⟩).mtch (eI (dN (dF (wkA k))) ⟨#[]⟩).id (aQ (eI (dN (dF (wkA k))) ⟨#[]⟩))=[1] from rfl,wi];rfl
theorem vx {k:Int} (h:0≤k∧k≤20):jo (wkA k)=true:=by
 have hb:=p5 1;refine gu.2 ⟨?_,?_,rfl,?_,?_⟩
 ·unfold gN wkA pH gB zR;simp only;omega
 ·exact ⟨rfl,Int.le_refl 0,⟨Int.le_refl 0,Int.le_refl 0⟩,Nat.zero_le _,.inr rfl⟩
 ·exact (jT (show (0:Int)≠2 by decide)).2 rfl
 ·exact ⟨Nat.zero_le _,⟨Int.le_refl 0,z11⟩,.inr rfl⟩
theorem vw {e r:Int} (he:0≤e∧e≤1) (hr:0≤r∧r≤20):jo (wkB e r)=true:=by
 have hb:=p5 (nx 1);refine gu.2 ⟨?_,?_,rfl,?_,?_⟩
 ·unfold gN wkB;simp only;omega
 ·exact ⟨(by decide:cn 0 0 [⟨1,1,⟨#[]⟩⟩]=true),Int.le_refl 1,⟨(by decide:(0:Int)≤1),Int.le_refl 1⟩,Nat.zero_le _,.inr rfl⟩
 ·exact (dp rfl).2 ⟨⟨rfl,rfl,rfl,Nat.zero_le _⟩,⟨fun x hx=>by rw [List.mem_singleton.1 hx];exact ⟨Int.le_refl 1,(by decide:(1:Int)≤1+1)⟩,fun x hx=>by rw [List.mem_singleton.1 hx];exact ⟨(by decide:(0:Int)≤1),Int.le_refl 1⟩,fun x hx=>by rw [List.mem_singleton.1 hx];exact ⟨Int.le_refl 0,Int.le_refl 0⟩⟩,fun q hq=>by cases hq⟩
 ·exact ⟨Nat.zero_le _,⟨Int.le_refl 0,z11⟩,.inr rfl⟩
theorem tI:∀ k:Nat,k≤20→((k:Int)<10+bl 1 10∧wkR k=wkA k)∨(10+bl 1 10≤(k:Int)∧∃ e r:Int,(0≤e∧e≤1)∧(0≤r∧r≤k)∧wkR k=wkB e r)
 |0,_=>by
  have hb:=p5 1;exact .inl ⟨by show (0:Int)<_;omega,rfl⟩
 |k+1,hk=>by
  have hb:=p5 1;rcases tI k (by omega) with ⟨h1,h2⟩ | ⟨h1,e,r,he,hr,h2⟩
  ·have ht:wkR (k+1)=(fJ (wkA k)).s:=by rw [←h2];rfl
   have hm:min ((k:Int)+1) dZ=((k+1:Nat):Int):=by unfold dZ;omega
   have h3:fJ (wkA k)=if 10+bl 1 10≤((k+1:Nat):Int) then ic (wkA ((k+1:Nat):Int)) else ⟨wkA ((k+1:Nat):Int),[]⟩:=by
    unfold fJ;simp only;rw [if_neg (show ¬ (wkA k).role=2 by show ¬ (0:Int)=2;decide),show min ((wkA (k:Int)).elapsed+1) dZ=((k+1:Nat):Int) from hm];rfl
   rw [ht,h3];by_cases h4:10+bl 1 10≤((k+1:Nat):Int)
   ·rw [if_pos h4,tH];exact .inr ⟨h4,0,0,⟨by omega,by omega⟩,⟨by omega,by omega⟩,rfl⟩
   ·rw [if_neg h4];exact .inl ⟨by omega,rfl⟩
  ·have ht:wkR (k+1)=(fJ (wkB e r)).s:=by rw [←h2];rfl
   have hm:min (e+1) dZ=e+1:=by unfold dZ;omega
   have hm2:min (r+1) dZ=r+1:=by unfold dZ;omega
   have h3:(fJ (wkB e r)).s=if 2≤e+1 then wkB 0 (r+1) else wkB (e+1) r:=by
    unfold fJ;simp only;rw [if_pos (show (wkB e r).role=2 from rfl),show min ((wkB e r).elapsed+1) dZ=e+1 from hm,show min ((wkB e r).round+1) dZ=r+1 from hm2];split
    ·rw [nc];rfl
    ·rfl
   rw [ht,h3];refine .inr ⟨by omega,?_⟩;split
   ·exact ⟨0,r+1,⟨by omega,by omega⟩,⟨by omega,by omega⟩,rfl⟩
   ·exact ⟨e+1,r,⟨by omega,by omega⟩,⟨by omega,by omega⟩,rfl⟩
theorem xc {k:Nat} (hk:k≤20):jo (wkR k)=true:=by
 rcases tI k hk with ⟨_,h2⟩ | ⟨_,e,r,he,hr,h2⟩
 ·rw [h2];exact vx (by omega)
 ·rw [h2];exact vw he (by omega)
theorem xg:(wkR 20).role=2∧(wkR 20).term=1∧(wkR 20).commit=1:=by
 have hb:=p5 1;rcases tI 20 (Nat.le_refl _) with ⟨h1,_⟩ | ⟨_,e,r,_,_,h2⟩
 ·omega
 ·rw [h2];exact ⟨rfl,rfl,rfl⟩
theorem RfF.sizes {s:Rf} (h:RfF s):(s.votes.length≤1000000∧s.next.length≤1000000∧s.mtch.length≤1000000∧s.sent.length≤1000000∧s.reads.length≤1000000∧∀ q∈s.reads,q.acks.length≤1000000)∧s.es.length≤1000000:=by
 have h1:=h.vl;have h2:=h.n
 have h3:fu s≤7:=by
  by_cases hr:s.role=2
  ·rw [dP hr];omega
  ·rw [l7 hr];omega
 have h4:=h.nx.1;have h5:=h.ma.1;have h6:=h.se.1;have h7:=h.rl;have h8:=h.last;refine ⟨⟨by omega,by omega,by omega,by omega,by omega,fun q hq=>?_⟩,by omega⟩;have h9:=(f_.1 (h.rd q hq)).2.2.2;have h10:=ju h9;have h11:=iO q.acks 0 s.nodes h10.2 fun x hx=>⟨by have:=(h10.1 x hx).1;omega,(h10.1 x hx).2⟩
 omega
theorem yA {w:World} {id n seed:Int}:jj w (pH id n seed) a0:=aY.rd (aY.same (s':=pH id n seed) (aY.zero (w:=w) (tag:=fun _=>8)) rfl rfl rfl rfl rfl rfl)
theorem xT (w:World):Rt prog 21 [.int .i64 1,.int .i64 1,.int .u64 1] w fun v w'=>v=.tuple #[.agg (rfV (pH 1 1 1) a0).toArray,.int .i64 0]∧ai w w':=
 (sB 1 1 1 w).mono fun v w' h=>⟨h.1.elim (fun e=>e.2) (fun e=>absurd (by unfold kM;omega) e.1),h.2⟩
theorem gq (e:Int) (w:World) :
 Rt prog 22 [.int .i64 e] w (fun v w'=>v=.int .i64 e∧w=w'):=by
 refine enter (n:=4) Tryz.func22 rfl rfl rfl (ao (ag (asi rfl (aq (ah (ao (ag (mvi rfl (asi rfl (aq (ah (aG (bF (v:=.int _ _) rfl rfl (⟨rfl,rfl⟩))))))))))))))
theorem o_ (w:World) :
 Rt prog 18 [] w (fun v w'=>v=.bool true∧ai w w'):=by
 refine enter (n:=37) Tryz.func18 rfl rfl rfl (ao (ag (asb rfl (aq (ah (ao (ag (aE lC (xT _) ?_))))))));rintro v5 w1 ⟨rfl,E5⟩;refine mvt rfl (ab (aK rfl rfl) (ab (aK rfl rfl) ?_));have hz1:=((ai.rfl_.next E5)).size;refine dq gh ?_;intro b1 w2 E1 hb1 hk1;have hg1:w.heap.size≤b1:=by omega
 refine cZ (vs:=[_,_,_,_,_,_,_,_,_,_,_,_,_,_,_,_,_,_,_,_,_,_]) bf rfl rfl (by simp [Value.oneCell']) (hk1) rfl ?_;intro w3 O1 P1;refine asi rfl (aq (ah (ao (ao (ag (mvi rfl (aE eJ (gq _ _) ?_)))))));rintro v9 w4 ⟨rfl,rfl⟩;refine ab (bL (cz rfl rfl) rfl) (aq (ah (aU rfl (aI (ah (ao (ao (ag (asi rfl (aq (ah (bk (dC (G:=Nat×Ra) [0,11,12,13,14,15,16,17,18,19,20,21,22,23] (fun (k,_)=>[(2,.int .i64 0),(3,.int .i64 (k:Nat))]) (fun (k,a) w'=>k≤20∧Blk w' b1 29 (rfV (wkR k) a).toArray∧jj w' (wkR k) a∧ai w w') (fun (k,_)=>20-k) ((0,a0)) ⟨rfl,rfl,trivial⟩ ?_ ?_)))))))))))))
 ·exact ⟨Nat.zero_le _,P1.from_ ai.rfl_,yA,(((ai.rfl_.next E5).next E1).only O1 (hg1))⟩
 rintro ⟨k,a⟩ ρ5 w5 ⟨hk,hkb,hrd,hB⟩;refine ao (ao (ag (mvi rfl (ab (cA rfl rfl) (aq (ah (yS rfl (fun Q6=>?_) (fun Q6=>?_))))))))
 ·have hmk:=xc (k:=k) (by omega);have hszs:=(mQ hmk).sizes;refine aI (ah (ao (bk (ao (ag (ab (aR (cs:=rfV (wkR k) a) bR bf rfl ((hkb.from_ ai.rfl_).whole)) ?_))))));have hM17:ai _ w5:=ai.rfl_;have hlt1:b1<(w5).heap.size:=(hkb.from_ ai.rfl_).lt;refine aE jA (pe (wkR k) a _ (hrd.from_ ai.rfl_) hszs.1 hszs.2 hmk) ?_;rintro v17 w7 ⟨⟨tag9,a9,O9,oc9,L9,rfl,hf9,hm9,ht9⟩,E17⟩;refine mvt rfl (ab (aK rfl rfl) (ab (aK rfl rfl) (ab (aK rfl rfl) (cZ (vs:=[_,_,_,_,_,_,_,_,_,_,_,_,_,_,_,_,_,_,_,_,_,_]) bf rfl rfl (by simp [Value.oneCell']) (((hkb.from_ hM17).from_ E17)) rfl ?_))));intro w8 O7 P7;have hrd9:jj w8 (wkR (k+1)) a9:=aY.rd (cJ.chg8 hf9 (O7.toChg rfl) (ht9 b1 hlt1));refine asi rfl (aq (ah (ao (ag (mvi rfl (aE eJ (gq _ _) ?_))))));rintro v22 w9 ⟨rfl,rfl⟩;refine ab (bL (cz rfl rfl) rfl) (aq (ah (aU rfl (aI (bI (ah (ag (mvi rfl (ab (cl rfl rfl (by omega)) (asi rfl (aq ?_)))))))))));refine cu ((k+1,a9)) ⟨(by first | rfl | (refine aZ ?_;omega)),(by first | rfl | (refine aZ ?_;omega)),trivial⟩ (by (iterate 31 refine bC rfl ?_);exact bP) ⟨?_,?_⟩
  ·exact ⟨by omega,P7.from_ ai.rfl_,hrd9.from_ ai.rfl_,((hB.next E17).only O7 (hg1))⟩
  ·show 20-(k+1)<20-k;omega
 have h20:k=20:=by omega
 have hwe:=xg;rw [←h20] at hwe;refine cL (bw (bw (cr (ah (ao (ag (ab (aa c6 rfl) (ab (au ak rfl (by exact (show _=some (Value.int .i64 (wkR k).role) from (hkb.from_ ai.rfl_).rd 2 rfl))) ?_))))))));refine ab (dX (bo rfl rfl) (by rw [hwe.1];rfl)) ?_;refine mvb rfl (aj rfl (ab (aa bE rfl) (aj rfl (ab (au ak rfl (by exact (show _=some (Value.int .i64 (wkR k).term) from (hkb.from_ ai.rfl_).rd 3 rfl))) ?_))));refine aj rfl (ab (dX (bo rfl rfl) (by rw [hwe.2.1];rfl)) ?_);refine ab (aJ (v:=.bool _) rfl rfl) (mvb rfl (aj rfl (ab (aa cC rfl) (aj rfl (ab (au ak rfl (by exact (show _=some (Value.int .i64 (wkR k).commit) from (hkb.from_ ai.rfl_).rd 10 rfl))) ?_)))));refine aj rfl (ab (dX (bo rfl rfl) (by rw [hwe.2.2];rfl)) ?_);refine ab (aJ (v:=.bool _) rfl rfl) (asb rfl (aq (ah (aG (bF (v:=.bool _) rfl rfl (⟨rfl,hB⟩))))))
end Go.Proofs.YtkpooenofjdpmaaGreat
namespace Go.Proofs.YtkpooenofjdpmaaGreat
open Go.Proofs.Tryz (prog)
open Go.RowKit
open Go.ChangeShapes Go.WideShapes Go.ChangeAt
open Go.RowKit
theorem qB:iJ prog 32=some true:=by kernel_rfl
theorem qx:dr prog 32=some 23:=by kernel_rfl
theorem lF:e_ prog 48=some (39,13):=by kernel_rfl
theorem lD:gA prog 48=some (39,13,128,(.agg #[.int .i64 0,.int .i64 0,.int .i64 0,.int .i64 0,.int .i64 0,.int .i64 0,.int .i64 0,.int .i64 0,.bool false,.slice none 0 0,.int .i64 0,.string ⟨#[]⟩,.bool false])):=by kernel_rfl
theorem qA:aN prog 15=true:=by kernel_rfl
theorem nw:cd prog 41 4=some 16:=by kernel_rfl
theorem qz:aN prog 20=true:=by kernel_rfl
theorem fU:prog.built 24 [(0,.int .i64 5),(1,.int .i64 1)]=some #[.int .i64 5,.int .i64 1,.slice none 0 0]:=by kernel_rfl
theorem cP:∀ (a0:Int) (a1:Int) (a2:Option Addr) (a3 a4:Nat) (a5:ByteArray) (a6:Option Addr) (a7 a8:Nat) (a9:Option Addr) (a10 a11:Nat) (a12:Option Addr) (a13 a14:Nat),prog.built 29 [(0,.int .i64 1),(1,.int .i64 2),(2,.int .i64 2),(5,.int .i64 1),(3,.int .i64 2),(6,.agg #[.int .i64 a0,.int .i64 a1,.slice a2 a3 a4]),(7,.string a5),(8,.int .i64 5),(13,.slice a6 a7 a8),(14,.slice a9 a10 a11),(15,.slice a12 a13 a14)]=some #[.int .i64 1,.int .i64 2,.int .i64 2,.int .i64 2,.int .i64 0,.int .i64 1,.int .i64 a0,.int .i64 a1,.slice a2 a3 a4,.string a5,.int .i64 5,.int .i64 0,.int .i64 0,.int .u64 0,.slice none 0 0,.slice a6 a7 a8,.slice a9 a10 a11,.slice a12 a13 a14,.int .i64 0,.slice none 0 0,.string ⟨#[]⟩,.int .i64 0]:=by intros;kernel_rfl
theorem qy:(e_ prog 48).isSome=true:=by kernel_rfl
theorem jH:aN prog 24=true:=by kernel_rfl
theorem lE:aN prog 18=true:=by kernel_rfl
theorem y3 {w:World} {sn:ByteArray} {b1 b2 b3:Nat} (h1:Blk w b1 3 ([6,5].map iV).toArray) (h2:Blk w b2 3 ([5,0].map iV).toArray) (h3:Blk w b3 3 ([0,0].map iV).toArray):jj w (LD sn 0 0 0) (⟨none,0,none,0,some ⟨b1,0,none⟩,2,some ⟨b2,0,none⟩,2,some ⟨b3,0,none⟩,2,none,0,[]⟩:Ra):=
 ⟨cQ.nil_ w,IR.nil,⟨eC h1,Nat.le_refl 2,by show 2≤9223372036854775807;decide,fun h=>by cases h⟩,⟨eC h2,Nat.le_refl 2,by show 2≤9223372036854775807;decide,fun h=>by cases h⟩,⟨eC h3,Nat.le_refl 2,by show 2≤9223372036854775807;decide,fun h=>by cases h⟩,rfl,fun h0=>absurd h0 (Nat.lt_irrefl _),⟨Nat.le_refl _,by show 0≤9223372036854775807;decide,fun _=>⟨rfl,rfl⟩⟩,fun q hq=>by cases hq⟩
theorem y_ (w:World) {T Sd:Int} (h1:T=10+bl 1 10) (h2:Sd=nx 1):Rt prog 21 [.int .i64 2,.int .i64 2,.int .u64 1] w fun v w'=>v=.tuple #[.agg (rfV (F0 T Sd) a0).toArray,.int .i64 0]∧ai w w':=by
 subst h1 h2;exact (sB 2 2 1 w).mono fun v w' h=>⟨h.1.elim (fun e=>e.2) (fun e=>absurd (by unfold kM;omega) e.1),h.2⟩
theorem yi {w:World} {T Sd:Int}:aY w (fun _=>8) (F0 T Sd) a0:=aY.same (s':=F0 T Sd) (aY.zero (w:=w) (tag:=fun _=>8)) rfl rfl rfl rfl rfl rfl
theorem QIs.le {w:World} {base b2:Nat} {q:List Msg} {O:Option Addr} {c:Nat} {L:List Msg} (h:QIs w base q O c L) (hb:b2≤base):QIs w b2 q O c L:=⟨h.o.le hb,h.l,h.e⟩
theorem yK (x:Msg):[x].flatMap bT=bT x:=by simp
theorem mN:∀ L:List Msg,(L.flatMap bT).length=L.length*13
 |[]=>rfl
 |x::r=>by
  rw [List.flatMap_cons,List.length_append,mN r,List.length_cons];show 13+_=_;omega
theorem pI (L:List Msg):∀ u∈L.flatMap bT,u.oneCell'=true:=fun u hu=>by
 obtain ⟨x,_,hx⟩:=List.mem_flatMap.1 hu;exact uC x u hx
theorem QIs.nil_ {w:World} {base:Nat} {O:Option Addr} {c:Nat} {L:List Msg} (h:QIs w base [] O c L):L=[]:=List.map_eq_nil_iff.1 h.l
theorem QIs.rest1 {w:World} {base:Nat} {q:List Msg} {O:Option Addr} {c:Nat} {x:Msg} (h:QIs w base q O c [x]):eY w base 39 13 (fK O c 1 13) 0 (c-1) []:=h.o.rest (k:=1) (Nat.le_refl 1)
theorem xR {L:List Msg} (h0:0<L.length) (h1:L.length≤1):∃ x,L=[x]:=by
 cases L with
 |nil=>exact absurd h0 (Nat.lt_irrefl _)
 |cons x r=>
  have h2:r.length+1≤1:=h1;obtain rfl:r=[]:=List.eq_nil_of_length_eq_zero (by omega);exact ⟨x,rfl⟩
theorem bK (s:Rf) (a:Ra) (LA:Option Addr) (lc:Nat) (X:List Ac) (w:World) (h:tA w s a LA X) :
 Rt prog 13 [.agg (scV s a LA X.length lc).toArray] w (fun v w'=>v=.bool true∧ai w w'):=by
 obtain ⟨T0,hT0⟩:∃ x,x=10+bl 1 10:=⟨_,rfl⟩;obtain ⟨S0,hS0⟩:∃ x,x=nx 1:=⟨_,rfl⟩;have hTb:0≤T0∧T0≤1000:=by have:=p5 1;omega
 refine enter (n:=179) Tryz.func13 rfl rfl rfl (ao (ag (cj (v:=.agg _) rfl ?_)));intro b1 w1 E1 hb1 hk1;refine asb rfl (aq (ah (ao (ao (ag (ab (aR (cs:=scV s a LA X.length lc) qB qx rfl ((hk1.from_ ai.rfl_).whole)) ?_))))));replace hk1:=hk1.from_ ai.rfl_;refine aE qA (bH s a LA lc X _ (h.from_ (ai.rfl_.next E1))) ?_;rintro v18 w2 ⟨⟨bb,rfl,hbb⟩,E18⟩;replace hk1:=hk1.from_ E18;refine aq (ah (aO rfl (fun Q3=>?_) (fun Q3=>?_)))
 ·(try with_reducible first | (replace Q3 := dT_ Q3; trace "@MK N bK:c18+ 1.1") | (replace Q3 := dF_ Q3; trace "@MK N bK:c18+ 1.2") | (replace Q3 := et Q3; trace "@MK N bK:c18+ 1.3") | (replace Q3 := eu Q3; trace "@MK N bK:c18+ 1.4"))
  (try with_reducible first | (replace Q3 := dT_ Q3; trace "@MK N bK:c18+ 2.1") | (replace Q3 := dF_ Q3; trace "@MK N bK:c18+ 2.2") | (replace Q3 := iU Q3; trace "@MK N bK:c18+ 2.3") | (replace Q3 := iW Q3; trace "@MK N bK:c18+ 2.4") | (replace Q3 := d_ Q3; trace "@MK N bK:c18+ 2.5") | (replace Q3 := ea Q3; trace "@MK N bK:c18+ 2.6"))
  refine ao (ag (asb rfl (aq (ah (aG (aH (bF (v:=.bool _) rfl rfl (⟨rfl,((ai.rfl_.next E1).next E18)⟩))))))))
 (try with_reducible first | (replace Q3 := dT_ Q3; trace "@MK N bK:c18- 1.1") | (replace Q3 := dF_ Q3; trace "@MK N bK:c18- 1.2") | (replace Q3 := et Q3; trace "@MK N bK:c18- 1.3") | (replace Q3 := eu Q3; trace "@MK N bK:c18- 1.4"))
 (try with_reducible first | (replace Q3 := dT_ Q3; trace "@MK N bK:c18- 2.1") | (replace Q3 := dF_ Q3; trace "@MK N bK:c18- 2.2") | (replace Q3 := iU Q3; trace "@MK N bK:c18- 2.3") | (replace Q3 := iW Q3; trace "@MK N bK:c18- 2.4") | (replace Q3 := d_ Q3; trace "@MK N bK:c18- 2.5") | (replace Q3 := ea Q3; trace "@MK N bK:c18- 2.6"))
 have hsm:=hbb (by simpa using Q3);refine aI (ah (ao (ao (ag (asi rfl (aq (ah (bk (dC (G:=Nat) (2::4::5::6::7::8::9::10::11::12::13::14::15::16::19::20::21::22::23::24::25::26::27::28::29::30::31::32::33::34::35::36::37::38::39::40::41::42::43::44::45::46::47::48::49::50::51::52::53::54::55::56::57::58::59::60::61::62::63::64::65::66::67::68::69::70::71::72::73::74::75::76::77::78::79::80::81::82::83::84::85::86::87::88::89::90::91::92::93::94::95::96::97::98::99::100::101::102::103::104::105::106::107::108::109::110::111::112::113::114::115::116::117::118::119::120::121::122::123::124::125::126::127::128::129::130::131::132::133::134::135::136::137::138::139::140::141::142::143::144::145::146::147::148::149::150::151::152::153::154::155::156::157::158::159::160::161::162::163::164::165::166::167::168::169::170::171::172::173::174::175::176::177::[]) (fun i=>[(3,.int .i64 (i:Nat))]) (fun i w'=>i≤X.length∧Blk w' b1 32 (scV s a LA X.length lc).toArray∧ai w w') (fun i=>X.length-i) (0) ⟨rfl,trivial⟩ ?_ ?_)))))))))
 ·exact ⟨Nat.zero_le _,hk1.from_ ai.rfl_,((ai.rfl_.next E1).next E18)⟩
 rintro i ρ4 w4 ⟨hi,hkb,hB⟩;refine ao (ao (ag (mvi rfl (ab (aa cU rfl) (ab (au dv rfl (by exact (show _=some (Value.slice LA X.length lc) from (hkb.from_ ai.rfl_).rd 22 rfl))) ?_)))));refine ab (b0 fj rfl) (ab (cA rfl rfl) (mvb rfl (ym (t:=24) rfl (fun Q5=>?_) (fun Q5=>?_))))
 ·have hkX:i<X.length:=by omega
  obtain ⟨ba,oa,hQe,hcs⟩:=h.x (by omega);have hkq:Blk w4 b1 32 (scV s a (some ⟨ba,oa,none⟩) X.length lc).toArray:=by rw [←hQe];exact hkb.from_ ai.rfl_
  have hxz:=(hsm.2.2.2.2 _ (List.getElem_mem hkX)).2.2;refine aj rfl (mvi rfl (aj rfl (ab (cA rfl rfl) (ab (aJ (v:=.bool _) rfl rfl) (aq (ah (yS rfl (fun Q6=>?_) (fun Q6=>?_))))))))
  ·refine aI (ah (ao (bk (ao ?_))))
   skip
   have hmd:=xC (X[i]'hkX).i;apply br 17 [(30,eqp _),(31,eqp (.slice (some ⟨ba,oa,none⟩) X.length lc)),(32,eqp _),(33,eqp (.pointer (some ⟨ba,oa+i*17,none⟩))),(34,eqp _),(35,eqp (.string (X[i]'hkX).d)),(36,eqp _),(37,eqp (.slice (some ⟨ba,oa,none⟩) X.length lc)),(38,eqp _),(39,eqp (.pointer (some ⟨ba,oa+i*17,none⟩))),(40,eqp _),(41,eqp (.int .i64 (X[i]'hkX).i)),(42,eqp (.int .i64 ((X[i]'hkX).i.tmod 100))),(43,eqp (.int .i64 ((X[i]'hkX).i.tmod 100+100))),(44,fun v _=>∃ b:ByteArray,v=.string b∧1034≤b.size∧b.size≤4000),(45,fun v _=>∃ b:ByteArray,v=.string b∧1034≤b.size∧b.size≤30000),(4,fun v _=>∃ b:ByteArray,v=.string b∧1034≤b.size∧b.size≤30000)] (by repeat first | exact bN | refine bM ?_ | refine bB ?_) (by kernel_rfl) (by kernel_rfl) ⟨ae _,ae _,ae _,ae _,ae _,ae _,ae _,ae _,ae _,ae _,ae _,ae _,ae _,ae _,(fun _ _ _ _ h=>h),(fun _ _ _ _ h=>h),(fun _ _ _ _ h=>h),trivial⟩
   case hop=>
    constructor
    ·rintro-w8 D8;exact an (aa cU rfl) rfl
    constructor
    ·rintro-w9 D9;rintro _ rfl;exact an (au dv rfl (by exact (show _=some (Value.slice (some ⟨ba,oa,none⟩) X.length lc) from (hkq.from_ (ai.rfl_.next D9)).rd 22 rfl))) rfl
    constructor
    ·rintro-w10 D10;exact an (aC (v:=.int _ _) rfl) rfl
    constructor
    ·rintro-w11 D11;rintro v11_31 rfl _ rfl;exact an (cq fH rfl rfl hkX) rfl
    constructor
    ·rintro-w12 D12;rintro v12_33 rfl;exact an (aa iL rfl) rfl
    constructor
    ·rintro-w13 D13;rintro _ rfl;exact an (au bQ rfl (by exact fL (hB.next D13) (hcs i hkX) 15 _ rfl)) rfl
    constructor
    ·rintro-w14 D14;exact an (aa cU rfl) rfl
    constructor
    ·rintro-w15 D15;rintro _ rfl;exact an (au dv rfl (by exact (show _=some (Value.slice (some ⟨ba,oa,none⟩) X.length lc) from (hkq.from_ (ai.rfl_.next D15)).rd 22 rfl))) rfl
    constructor
    ·rintro-w16 D16;exact an (aC (v:=.int _ _) rfl) rfl
    constructor
    ·rintro-w17 D17;rintro v17_37 rfl _ rfl;exact an (cq fH rfl rfl hkX) rfl
    constructor
    ·rintro-w18 D18;rintro v18_39 rfl;exact an (aa nw rfl) rfl
    constructor
    ·rintro-w19 D19;rintro _ rfl;exact an (au ak rfl (by exact fL (hB.next D19) (hcs i hkX) 16 _ rfl)) rfl
    constructor
    ·rintro-w20 D20;rintro v20_41 rfl;exact an (uf rfl rfl (by decide)) rfl
    constructor
    ·rintro-w21 D21;rintro v21_42 rfl;exact an (cl rfl rfl (by omega)) rfl
    constructor
    ·rintro-w22 D22;rintro v22_43 rfl;refine iC qz ((tY ((X[i]'hkX).i.tmod 100+100) _ (by omega)).mono ?_);rintro v w9 ⟨⟨b,rfl,hb⟩,hF9⟩;exact ⟨hF9,b,rfl,by omega,by omega⟩
    constructor
    ·rintro-w23 D23;rintro v23_35 rfl v23_44 ⟨b44,rfl,hb44,hb44b⟩;exact an (sv rfl rfl (by omega)) ⟨_,rfl,by rw [ByteArray.size_append];omega,by rw [ByteArray.size_append];omega⟩
    constructor
    ·rintro-w24 D24;rintro v24_45 ⟨b45,rfl,hb45,hb45b⟩;exact an (cS (v:=.string _) rfl) ⟨_,rfl,hb45,hb45b⟩
    exact trivial
   case hend=>
    intro w25 D25;rintro _ rfl v31 rfl _ rfl v33 rfl _ rfl v35 rfl _ rfl v37 rfl _ rfl v39 rfl _ rfl v41 rfl v42 rfl v43 rfl v44 ⟨b44,rfl,hb44,hb44b⟩ v45 ⟨b45,rfl,hb45,hb45b⟩ v4 ⟨sn,rfl,hsn1,hsn2⟩;show St ..;refine aq (ah (ao (ag (ab (dt (l:=[(0,.const (.int .i64 5)),(1,.const (.int .i64 1))]) (fU)) (mvg rfl (fA [.const (.int .i64 6),.const (.int .i64 5)] [.int .i64 6,.int .i64 5] aS rfl rfl rfl rfl (by simp [Value.cells]) ?_))))));intro b48 w26 E48 hb48 hk48;refine fA [.const (.int .i64 5),.const (.int .i64 0)] [.int .i64 5,.int .i64 0] aS rfl rfl rfl rfl (by simp [Value.cells]) ?_;intro b49 w27 E49 hb49 hk49;refine fA [.const (.int .i64 0),.const (.int .i64 0)] [.int .i64 0,.int .i64 0] aS rfl rfl rfl rfl (by simp [Value.cells]) ?_;intro b50 w28 E50 hb50 hk50;refine ab (dt (l:=[(0,.const (.int .i64 1)),(1,.const (.int .i64 2)),(2,.const (.int .i64 2)),(5,.const (.int .i64 1)),(3,.const (.int .i64 2)),(6,.tmp 46),(7,.tmp 47),(8,.const (.int .i64 5)),(13,.tmp 48),(14,.tmp 49),(15,.tmp 50)]) (cP _ _ _ _ _ _ _ _ _ _ _ _ _ _ _)) (er (t:=51) (v:=.agg _) (v':=.agg (rfV (LD sn 0 0 0) (⟨none,0,none,0,some ⟨b48,0,none⟩,2,some ⟨b49,0,none⟩,2,some ⟨b50,0,none⟩,2,none,0,[]⟩:Ra)).toArray) rfl (by rfl) ?_);have hM5:ai _ w28:=((((ai.rfl_.next D25).next E48).next E49).next E50);have hzk:=(hkb.from_ hM5).lt;have hl48:=((hk48.from_ E49).from_ E50).lt;have hl49:=(hk49.from_ E50).lt;have hl50:=hk50.lt;refine dq gh ?_;intro b5 w29 E5 hb5 hk5;have hg5:w.heap.size≤b5:=by rw [hb5];exact (((((hB.next D25).next E48).next E49).next E50)).size
    replace hkb:=hkb.from_ (hM5.next E5);refine cZ (vs:=[_,_,_,_,_,_,_,_,_,_,_,_,_,_,_,_,_,_,_,_,_,_]) bf rfl rfl (by simp [Value.oneCell']) (hk5) rfl ?_;intro w30 O7 P7;replace hk5:Blk w30 b5 29 (rfV (LD sn 0 0 0) (⟨none,0,none,0,some ⟨b48,0,none⟩,2,some ⟨b49,0,none⟩,2,some ⟨b50,0,none⟩,2,none,0,[]⟩:Ra)).toArray:=P7;have hL0:jj w30 (LD sn 0 0 0) (⟨none,0,none,0,some ⟨b48,0,none⟩,2,some ⟨b49,0,none⟩,2,some ⟨b50,0,none⟩,2,none,0,[]⟩:Ra):=y3 ((((hk48.from_ E49).from_ E50).from_ E5).only O7 (by omega)) (((hk49.from_ E50).from_ E5).only O7 (by omega)) ((hk50.from_ E5).only O7 (by omega));replace hkb:=hkb.only O7 (by omega);refine aq (ah (ao (ag ?_)));have hM53:ai _ w30:=ai.rfl_;replace hk5:=hk5.from_ hM53;replace hL0:=hL0.from_ hM53;replace hkb:=hkb.from_ hM53;have hz5:=hk5.lt;refine aE lC (y_ _ hT0 hS0) ?_;rintro v53 w31 ⟨rfl,E53⟩;replace hk5:=hk5.from_ E53;replace hL0:=hL0.from_ E53;have hL53:=hL0;replace hkb:=hkb.from_ E53;refine mvt rfl (ab (aK rfl rfl) (ab (aK rfl rfl) ?_));have hM6:ai _ w31:=ai.rfl_;have hz6:=(hk5.from_ hM6).lt;refine dq gh ?_;intro b6 w32 E6 hb6 hk6;have hg6:w.heap.size≤b6:=by rw [hb6];exact ((((((((hB.next D25).next E48).next E49).next E50).next E5).only O7 (hg5)).next E53)).size
    have h56:b5<b6:=by omega
    have h15:b1<b5:=by omega
    replace hk5:=hk5.from_ (hM6.next E6);replace hL0:=hL0.from_ (hM6.next E6);replace hkb:=hkb.from_ (hM6.next E6);refine cZ (vs:=[_,_,_,_,_,_,_,_,_,_,_,_,_,_,_,_,_,_,_,_,_,_]) bf rfl rfl (by simp [Value.oneCell']) (hk6) rfl ?_;intro w33 O8 P8;replace hk5:=hk5.only O8 (by omega);replace hk6:Blk w33 b6 29 (rfV (F0 T0 S0) a0).toArray:=P8;have hL0:=hL53.from_ ((hM6.next E6).only O8 (by have:=hM6.size;omega));replace hkb:=hkb.only O8 (by omega);refine asi rfl (aq (ah (ao (ao (ag (mvi rfl (aE eJ (gq _ _) ?_)))))));rintro v57 w34 ⟨rfl,rfl⟩;refine ab (bL (cz rfl rfl) rfl) (aq (ah (aU rfl (aI (ah (ao (ag (ab (aR (cs:=rfV (LD sn 0 0 0) (⟨none,0,none,0,some ⟨b48,0,none⟩,2,some ⟨b49,0,none⟩,2,some ⟨b50,0,none⟩,2,none,0,[]⟩:Ra)) bR bf rfl ((hk5.from_ ai.rfl_).whole)) ?_))))))));have hM61:ai _ w33:=ai.rfl_;replace hk5:=hk5.from_ hM61;replace hL0:=hL0.from_ hM61;replace hkb:=hkb.from_ hM61;replace hk6:=hk6.from_ hM61;have hzB1:=((((((((((hB.next D25).next E48).next E49).next E50).next E5).only O7 (hg5)).next E53).next E6).only O8 (hg6))).size;refine aE jA (mh (LD sn 0 0 0) (⟨none,0,none,0,some ⟨b48,0,none⟩,2,some ⟨b49,0,none⟩,2,some ⟨b50,0,none⟩,2,none,0,[]⟩:Ra) _ (hL0.from_ ai.rfl_) (oI (by omega) (by decide) (by decide) ⟨by decide,by omega⟩) (pf (by omega)).1 (fun y hy=>by cases hy)) ?_;rintro v61 w35 ⟨⟨tg1,a1,O1,c1,L1,rfl,hf1,hQ1⟩,E61⟩;replace hk5:=hk5.from_ E61;replace hkb:=hkb.from_ E61;replace hk6:=hk6.from_ E61;replace hQ1:=hQ1.le hzB1;obtain rfl:=hQ1.nil_;refine mvt rfl (ab (aK rfl rfl) (ab (aK rfl rfl) (ab (aK rfl rfl) ?_)));have hM11:ai _ w35:=ai.rfl_;refine cZ (vs:=[_,_,_,_,_,_,_,_,_,_,_,_,_,_,_,_,_,_,_,_,_,_]) bf rfl rfl (by simp [Value.oneCell']) ((hk5.from_ ai.rfl_)) rfl ?_;intro w36 O11 P11;replace hk6:=(hk6.from_ hM11).only O11 (by omega);replace hkb:=(hkb.from_ hM11).only O11 (by omega);have hbx:=hk5.from_ hM11;replace hf1:=aY.box (cJ.from_ hf1 hM11) hbx O11;replace hQ1:=(hQ1.from_ hM11).box hbx O11;replace hk5:Blk w36 b5 29 (rfV (LD sn 1 0 0) a1).toArray:=P11;refine ass rfl (asi rfl (aq (ah (ao (ag (ab (aR (cs:=rfV (LD sn 1 0 0) a1) bR bf rfl ((hk5.from_ ai.rfl_).whole)) ?_))))));have hM67:ai _ w36:=ai.rfl_;replace hk5:=hk5.from_ hM67;replace hkb:=hkb.from_ hM67;replace hk6:=hk6.from_ hM67;replace hQ1:=hQ1.from_ hM67;replace hf1:=cJ.from_ hf1 hM67;have hzB2:=((((((((((((hB.next D25).next E48).next E49).next E50).next E5).only O7 (hg5)).next E53).next E6).only O8 (hg6)).next E61).only O11 (hg5))).size;refine aE jA (mh (LD sn 1 0 0) a1 _ ((aY.rd hf1).from_ ai.rfl_) (oI (by omega) (by decide) (by decide) ⟨by decide,by omega⟩) (pf (by omega)).2 (fun y hy=>by rw [List.mem_singleton.1 hy];rfl)) ?_;rintro v67 w37 ⟨⟨tg2,a2,O2,c2,L2,rfl,hf2,hQ2⟩,E67⟩;replace hk5:=hk5.from_ E67;replace hkb:=hkb.from_ E67;replace hk6:=hk6.from_ E67;replace hQ1:=hQ1.from_ E67;replace hQ2:=hQ2.le hzB2;refine mvt rfl (ab (aK rfl rfl) (ab (aK rfl rfl) (ab (aK rfl rfl) ?_)));have hM12:ai _ w37:=ai.rfl_;refine cZ (vs:=[_,_,_,_,_,_,_,_,_,_,_,_,_,_,_,_,_,_,_,_,_,_]) bf rfl rfl (by simp [Value.oneCell']) ((hk5.from_ ai.rfl_)) rfl ?_;intro w38 O12 P12;replace hk6:=(hk6.from_ hM12).only O12 (by omega);replace hkb:=(hkb.from_ hM12).only O12 (by omega);have hbx:=hk5.from_ hM12;have hlo:=aY.box (cJ.from_ hf2 hM12) hbx O12;replace hQ1:=(hQ1.from_ hM12).box hbx O12;replace hQ2:=(hQ2.from_ hM12).box hbx O12;replace hk5:Blk w38 b5 29 (rfV (LD sn 0 1 0) a2).toArray:=P12;refine ass rfl (asi rfl (aq (ah (ao (ao (ag (mvi rfl (aE eJ (gq _ _) ?_))))))));rintro v72 w39 ⟨rfl,rfl⟩;refine ab (bL (cz rfl rfl) rfl) (mvb rfl (aj rfl (mvi rfl (aj rfl (aE eJ (gq _ _) ?_)))));rintro v76 w40 ⟨rfl,rfl⟩;refine aj rfl (ab (bL (cz rfl rfl) rfl) (ab (aB (v:=.bool _) rfl rfl) (aq (ah (aU rfl (aI (ah (ao (ag (mvs rfl (mvs rfl ?_)))))))))));have hM15:ai _ w38:=ai.rfl_;have hB15:ai w w38:=(((((((((((((hB.next D25).next E48).next E49).next E50).next E5).only O7 (hg5)).next E53).next E6).only O8 (hg6)).next E61).only O11 (hg5)).next E67).only O12 (hg5));have hX15:=(hQ1.from_ hM15).o
    have hL2:L2.length=1:=by
     have h9:=congrArg List.length hQ2.l;rw [List.length_map] at h9;exact h9
    refine mr (base:=w.heap.size) (A:=O1) (m:=0) (j:=L2.length) (xs:=[]) (news:=L2.flatMap bT) lD rfl (by decide) rfl hX15 hB15.size rfl (mN L2) (hQ2.from_ hM15).src (pI L2) (by omega) (by omega) ?_;intro A9 c9 w41 hX9 hg9;have hB9:ai w w41:=hB15.app hX15 hg9;have hQ9:=QIs.app hX9 (hQ2.from_ hM15);have hlo9:=aY.app (cJ.from_ hlo hM15) hX15 hg9;have hfo9:aY w41 (fun _=>8) (F0 T0 S0) a0:=yi;have hk59:=(hk5.from_ hM15).app (by decide) hX15 hg9;have hk69:=(hk6.from_ hM15).app (by decide) hX15 hg9;have hkb9:=(hkb.from_ hM15).app (by decide) hX15 hg9;rw [show 0+L2.length=L2.length from Nat.zero_add _];refine ass rfl (aq (ah (kf (G:=Ra×(Nat→Nat)×Ra×(Nat→Nat)) [2,7,8,11,12,13,14,15,16,82,83,84,85,86,87,88,89,90,91,92,93,94,95,96,97,98,99,100,101,102,103,104,105,106,107,108,109,110,111,112,113,114,115,116,117,118,119,120,121,122,123,124,125,126,127,128,129,130,131,132,133,134,135,136,137] (fun _=>[(3,.int .i64 (i:Nat)),(4,.string sn)]) (fun (la,tl,fa,tf) w'=>aY w' tl (LE sn) la∧aY w' tf (FI T0 S0 sn) fa∧Blk w' b5 29 (rfV (LE sn) la).toArray∧Blk w' b6 29 (rfV (FI T0 S0 sn) fa).toArray∧Blk w' b1 32 (scV s a LA X.length lc).toArray∧ai w w') ?_ ?_)))
    ·refine ao (ag (asi rfl (aq (ah (bk (dC (G:=Nat×Rf×Ra×(Nat→Nat)×Rf×Ra×(Nat→Nat)×List Msg×Option Addr×Nat×List Msg) (2::7::12::13::14::15::16::82::83::84::85::86::87::88::89::90::91::92::93::94::95::96::97::98::99::100::101::102::103::104::105::106::107::108::109::110::111::112::113::114::115::116::117::118::119::120::121::122::123::124::125::126::127::128::129::130::131::132::133::134::135::136::137::[]) (fun (k,l,la,tl,fo,fa,tf,q,O,c,L)=>[(11,.int .i64 (k:Nat)),(8,.slice O L.length c)]) (fun (k,l,la,tl,fo,fa,tf,q,O,c,L) w'=>Ph T0 S0 sn k l fo q∧aY w' tl l la∧aY w' tf fo fa∧Blk w' b5 29 (rfV l la).toArray∧Blk w' b6 29 (rfV fo fa).toArray∧QIs w' w.heap.size q O c L∧Blk w' b1 32 (scV s a LA X.length lc).toArray∧ai w w') (fun (k,l,la,tl,fo,fa,tf,q,O,c,L)=>400-k) ((0,LD sn 0 1 0,a2,tg2,F0 T0 S0,a0,(fun _=>8),[AM sn 0],A9,c9,L2)) ⟨rfl,rfl,trivial⟩ ?_ ?_))))))
     ·exact ⟨.ask0,hlo9.from_ ai.rfl_,hfo9.from_ ai.rfl_,hk59.from_ ai.rfl_,hk69.from_ ai.rfl_,hQ9.from_ ai.rfl_,hkb9.from_ ai.rfl_,hB9⟩
     rintro ⟨k,l,la,tl,fo,fa,tf,q,O,c,L⟩ ρ42 w42 ⟨hPh,hlo,hfo,hk5,hk6,hQ,hkb,hB⟩;refine ao (ao (ag (mvi rfl (ab (cA rfl rfl) (mvb rfl (ym (t:=84) rfl (fun Q43=>?_) (fun Q43=>?_)))))))
     ·refine aj rfl (mvs rfl (aj rfl (ab (b0 qy rfl) (aj rfl (ab (ct rfl rfl) (ab (aJ (v:=.bool _) rfl rfl) (aq (ah (yS rfl (fun Q44=>?_) (fun Q44=>?_))))))))))
      ·obtain ⟨x,rfl⟩:∃ x,L=[x]:=xR (by omega) (by have h9:=hPh.len.1;rw [←hQ.l,List.length_map] at h9;exact h9);have hql:[pl x]=q:=hQ.l;subst hql;have hxe:=hQ.e x (List.mem_singleton.2 rfl);obtain ⟨bq,oq,hOq,hbq,hcq⟩:=hQ.o.range (Nat.lt_succ_self 0);rw [yK] at hcq;refine aI (ah (ao (bk (ao (ag (mvs rfl ?_))))));refine ab (cq (i:=0) lF (show _=Value.slice (some ⟨bq,oq,none⟩) 1 c from by rw [←hOq];rfl) rfl (by decide)) ?_;refine ab (aR (cs:=bT x) bp bg rfl (fL ai.rfl_ hcq)) ?_;have hM12a:ai _ w42:=ai.rfl_;have hz12:=hM12a.size;have hz6c:=(hk6.from_ hM12a).lt;have hz5c:=(hk5.from_ hM12a).lt;have hz1c:=(hkb.from_ hM12a).lt;refine dq ji ?_;intro b12 w45 E12 hb12 hk12;have hg12:w.heap.size≤b12:=by rw [hb12];exact (hB).size
       refine cZ (vs:=[_,_,_,_,_,_,_,_,_,_,_,_,_]) bg rfl rfl (by simp [Value.oneCell']) (hk12) rfl ?_;intro w46 O19 P19;have hA19:ai _ w46:=(hM12a.next E12).only O19 (by omega);replace hlo:=hlo.from_ hA19;replace hfo:=hfo.from_ hA19;replace hk5:=hk5.from_ hA19;replace hk6:=hk6.from_ hA19;replace hQ:=hQ.from_ hA19;replace hkb:=hkb.from_ hA19;have hk12q:Blk w46 b12 39 (bT x).toArray:=P19;refine aq (ah (ao (ag (mvs rfl (ab (ep (l:=1) lF rfl (.inr ⟨_,_,_,rfl,rfl,rfl⟩) (.inl ⟨rfl,rfl⟩) (Nat.le_refl 1) hQ.o.2.1) (ass rfl (aq (ah (ao (ag (ass rfl (aq (ah (kf (G:=Rf×Ra×(Nat→Nat)×Rf×Ra×(Nat→Nat)×List Msg×Option Addr×Nat×List Msg) [2,14,15,16,96,97,98,99,100,101,102,103,104,105,106,107,108,109,110,111,112,113,114,115,116,117,118,119,120,121,122,123,124,125,126,127,128,129,130,131] (fun (l2,la2,tl2,fo2,fa2,tf2,q2,O2,c2,L2)=>[(7,.int .i64 0),(8,.slice (fK O c 1 13) 0 (c-1)),(11,.int .i64 (k:Nat)),(13,.slice O2 L2.length c2)]) (fun (l2,la2,tl2,fo2,fa2,tf2,q2,O2,c2,L2) w'=>Ph T0 S0 sn (k+1) l2 fo2 q2∧aY w' tl2 l2 la2∧aY w' tf2 fo2 fa2∧Blk w' b5 29 (rfV l2 la2).toArray∧Blk w' b6 29 (rfV fo2 fa2).toArray∧QIs w' w.heap.size q2 O2 c2 L2∧eY w' w.heap.size 39 13 (fK O c 1 13) 0 (c-1) []∧Blk w' b1 32 (scV s a LA X.length lc).toArray∧ai w w') ?_ ?_))))))))))))))
       ·refine ao (ag (ab (aa ft rfl) (ab (au ak rfl (by exact (show _=some (Value.int .i64 x.t) from (hk12q.from_ ai.rfl_).rd 2 rfl))) ?_)));refine ab (bo rfl rfl) (aq (ah (yS rfl (fun Q47=>?_) (fun Q47=>?_))))
        ·have hxt:x.t=2:=by simpa using Q47
         obtain ⟨-,hk5x,hmf,hfx,hPh2,hmf2,hfx2,hag,hae⟩:=hPh.fol hxt hTb (by omega) (by omega);obtain ⟨⟨s2,q2⟩,hr2⟩:∃ r,cp fo x=r:=⟨_,rfl⟩;rw [show cp fo (pl x)=⟨s2,q2⟩ from hr2] at hPh2 hmf2 hfx2 hag hae;obtain ⟨q3,hr3,hqe3⟩:∃ q3,cp s2 x=⟨s2,q3⟩∧∀ y∈q3,y.es=[]:=⟨(cp s2 x).out,by rw [show cp s2 x=⟨(cp s2 x).s,(cp s2 x).out⟩ from rfl,show (cp s2 x).s=s2 from hag],hae⟩;have hqe2:=hPh2.len.2;refine ao (ag (ab (aR (cs:=rfV fo fa) bR bf rfl ((hk6.from_ ai.rfl_).whole)) (ab (aR (cs:=bT x) bp bg rfl ((hk12q.from_ ai.rfl_).whole)) ?_)));have hM102:ai _ w46:=ai.rfl_;replace hlo:=hlo.from_ hM102;replace hfo:=hfo.from_ hM102;replace hk5:=hk5.from_ hM102;replace hk6:=hk6.from_ hM102;replace hQ:=hQ.from_ hM102;replace hkb:=hkb.from_ hM102;replace hk12q:=hk12q.from_ hM102;have hzB2:=(((hB.next E12).only O19 (hg12))).size;refine aE jH (j8 fo fa x _ ((aY.rd hfo).from_ ai.rfl_) (hxe.2.nil hxe.1) hxe.1 hmf hfx (.inl hk5x) hr2 hqe2) ?_;rintro v102 w48 ⟨⟨tg2,a2,O2,c2,L2,rfl,hf2,hQ2⟩,E102⟩;replace hlo:=hlo.from_ E102;replace hfo:=hfo.from_ E102;replace hk5:=hk5.from_ E102;replace hk6:=hk6.from_ E102;replace hQ:=hQ.from_ E102;replace hkb:=hkb.from_ E102;replace hk12q:=hk12q.from_ E102;replace hQ2:=hQ2.le hzB2;refine mvt rfl (ab (aK rfl rfl) (ab (aK rfl rfl) (ab (aK rfl rfl) ?_)));have hM23:ai _ w48:=ai.rfl_;refine cZ (vs:=[_,_,_,_,_,_,_,_,_,_,_,_,_,_,_,_,_,_,_,_,_,_]) bf rfl rfl (by simp [Value.oneCell']) ((hk6.from_ ai.rfl_)) rfl ?_;intro w49 O23 P23;have hbx:=hk6.from_ hM23;replace hlo:=aY.box (cJ.from_ hlo hM23) hbx O23;replace hf2:=aY.box (cJ.from_ hf2 hM23) hbx O23;replace hk5:=(hk5.from_ hM23).only O23 (by omega);replace hkb:=(hkb.from_ hM23).only O23 (by omega);replace hk12q:=(hk12q.from_ hM23).only O23 (by omega);replace hQ:=(hQ.from_ hM23).box hbx O23;replace hQ2:=(hQ2.from_ hM23).box hbx O23;replace hk6:Blk w49 b6 29 (rfV s2 a2).toArray:=P23;replace hfo:=hf2;refine ass rfl (asi rfl (aq (ah (ao (ag (mvi rfl (ab (pq rfl rfl (by omega)) (ab (bo rfl rfl) (mvb rfl (ym (t:=109) rfl (fun Q50=>?_) (fun Q50=>?_)))))))))))
         ·refine aj rfl (mvi rfl (aj rfl (aE eJ (gq _ _) ?_)));rintro v111 w51 ⟨rfl,rfl⟩;refine aj rfl (ab (dX (bo rfl rfl) rfl) (ab (aJ (v:=.bool _) rfl rfl) (aq (ah (aW rfl (ao (ag (ab (aR (cs:=rfV s2 a2) bR bf rfl ((hk6.from_ ai.rfl_).whole)) (ab (aR (cs:=bT x) bp bg rfl ((hk12q.from_ ai.rfl_).whole)) ?_)))))))));have hM117:ai _ w49:=ai.rfl_;replace hlo:=hlo.from_ hM117;replace hfo:=hfo.from_ hM117;replace hk5:=hk5.from_ hM117;replace hk6:=hk6.from_ hM117;replace hQ:=hQ.from_ hM117;replace hkb:=hkb.from_ hM117;replace hk12q:=hk12q.from_ hM117;replace hQ2:=hQ2.from_ hM117;have hzB3:=(((((hB.next E12).only O19 (hg12)).next E102).only O23 (hg6))).size;refine aE jH (j8 s2 a2 x _ ((aY.rd hfo).from_ ai.rfl_) (hxe.2.nil hxe.1) hxe.1 hmf2 hfx2 (.inl hk5x) hr3 hqe3) ?_;rintro v117 w52 ⟨⟨tg3,a3,O3,c3,L3,rfl,hf3,hQ3⟩,E117⟩;replace hlo:=hlo.from_ E117;replace hfo:=hfo.from_ E117;replace hk5:=hk5.from_ E117;replace hk6:=hk6.from_ E117;replace hQ:=hQ.from_ E117;replace hkb:=hkb.from_ E117;replace hk12q:=hk12q.from_ E117;replace hQ2:=hQ2.from_ E117;replace hQ3:=hQ3.le hzB3;refine mvt rfl (ab (aK rfl rfl) (ab (aK rfl rfl) (ab (aK rfl rfl) ?_)));have hM14:ai _ w52:=ai.rfl_;have hz14:=hM14.size;refine dq gh ?_;intro b14 w53 E14 hb14 hk14;have hg14:w.heap.size≤b14:=by rw [hb14];exact ((((((hB.next E12).only O19 (hg12)).next E102).only O23 (hg6)).next E117)).size
          refine cZ (vs:=[_,_,_,_,_,_,_,_,_,_,_,_,_,_,_,_,_,_,_,_,_,_]) bf rfl rfl (by simp [Value.oneCell']) (hk14) rfl ?_;intro w54 O25 P25;have hA25:ai _ w54:=(hM14.next E14).only O25 (by omega);replace hlo:=hlo.from_ hA25;replace hfo:=hfo.from_ hA25;replace hk5:=hk5.from_ hA25;replace hk6:=hk6.from_ hA25;replace hQ:=hQ.from_ hA25;replace hkb:=hkb.from_ hA25;replace hk12q:=hk12q.from_ hA25;replace hQ2:=hQ2.from_ hA25;replace hf3:=hf3.from_ hA25;have hk14q:Blk w54 b14 29 (rfV s2 a3).toArray:=P25;refine ass rfl (asi rfl (aq (ah (ao (ao (ag (mvi rfl (aE eJ (gq _ _) ?_))))))));rintro v122 w55 ⟨rfl,rfl⟩;refine ab (bL (cz rfl rfl) rfl) (aq (ah (aU rfl (aI (ah (ag (ab (aR (cs:=rfV s2 a3) bR bf rfl ((hk14q.from_ ai.rfl_).whole)) ?_)))))));have hM28:ai _ w54:=ai.rfl_;refine cZ (vs:=[_,_,_,_,_,_,_,_,_,_,_,_,_,_,_,_,_,_,_,_,_,_]) bf rfl rfl (by simp [Value.oneCell']) ((hk6.from_ ai.rfl_)) rfl ?_;intro w56 O28 P28;have hbx:=hk6.from_ hM28;replace hlo:=aY.box (cJ.from_ hlo hM28) hbx O28;replace hf3:=aY.box (cJ.from_ hf3 hM28) hbx O28;replace hk5:=(hk5.from_ hM28).only O28 (by omega);replace hkb:=(hkb.from_ hM28).only O28 (by omega);replace hk12q:=(hk12q.from_ hM28).only O28 (by omega);replace hQ:=(hQ.from_ hM28).box hbx O28;replace hQ2:=(hQ2.from_ hM28).box hbx O28;replace hk6:Blk w56 b6 29 (rfV s2 a3).toArray:=P28;replace hfo:=hf3;refine aq ?_;refine cu ((l,la,tl,s2,a3,tg3,q2,O2,c2,L2)) ⟨rfl,rfl,rfl,rfl,trivial⟩ (by (iterate 35 refine bC rfl ?_);exact bP) ?_;exact ⟨hPh2,hlo.from_ ai.rfl_,hfo.from_ ai.rfl_,hk5.from_ ai.rfl_,hk6.from_ ai.rfl_,hQ2.from_ ai.rfl_,(hQ.rest1).from_ ai.rfl_,hkb.from_ ai.rfl_,((((((((hB.next E12).only O19 (hg12)).next E102).only O23 (hg6)).next E117).next E14).only O25 (hg14)).only O28 (hg6))⟩
         refine ar rfl rfl (ar rfl rfl (ar rfl rfl (ab (aB (v:=.bool _) rfl rfl) (aq (ah (aU rfl (aI ?_)))))));refine cu ((l,la,tl,s2,a2,tg2,q2,O2,c2,L2)) ⟨rfl,rfl,rfl,rfl,trivial⟩ (by (iterate 21 refine bC rfl ?_);exact bP) ?_;exact ⟨hPh2,hlo.from_ ai.rfl_,hfo.from_ ai.rfl_,hk5.from_ ai.rfl_,hk6.from_ ai.rfl_,hQ2.from_ ai.rfl_,(hQ.rest1).from_ ai.rfl_,hkb.from_ ai.rfl_,((((hB.next E12).only O19 (hg12)).next E102).only O23 (hg6))⟩
        have hxt:x.t≠2:=by simpa using Q47
        obtain ⟨-,hk64,hml,hfx,hPh2⟩:=hPh.led hxt (by omega);obtain ⟨⟨s2,q2⟩,hr2⟩:∃ r,cp l x=r:=⟨_,rfl⟩;rw [show cp l (pl x)=⟨s2,q2⟩ from hr2] at hPh2;have hqe2:=hPh2.len.2;refine ag (ab (aR (cs:=rfV l la) bR bf rfl ((hk5.from_ ai.rfl_).whole)) (ab (aR (cs:=bT x) bp bg rfl ((hk12q.from_ ai.rfl_).whole)) ?_));have hM128:ai _ w46:=ai.rfl_;replace hlo:=hlo.from_ hM128;replace hfo:=hfo.from_ hM128;replace hk5:=hk5.from_ hM128;replace hk6:=hk6.from_ hM128;replace hQ:=hQ.from_ hM128;replace hkb:=hkb.from_ hM128;replace hk12q:=hk12q.from_ hM128;have hzB2:=(((hB.next E12).only O19 (hg12))).size;refine aE jH (j8 l la x _ ((aY.rd hlo).from_ ai.rfl_) (hxe.2.nil hxe.1) hxe.1 hml hfx (.inr hk64) hr2 hqe2) ?_;rintro v128 w57 ⟨⟨tg2,a2,O2,c2,L2,rfl,hf2,hQ2⟩,E128⟩;replace hlo:=hlo.from_ E128;replace hfo:=hfo.from_ E128;replace hk5:=hk5.from_ E128;replace hk6:=hk6.from_ E128;replace hQ:=hQ.from_ E128;replace hkb:=hkb.from_ E128;replace hk12q:=hk12q.from_ E128;replace hQ2:=hQ2.le hzB2;refine mvt rfl (ab (aK rfl rfl) (ab (aK rfl rfl) (ab (aK rfl rfl) ?_)));have hM29:ai _ w57:=ai.rfl_;refine cZ (vs:=[_,_,_,_,_,_,_,_,_,_,_,_,_,_,_,_,_,_,_,_,_,_]) bf rfl rfl (by simp [Value.oneCell']) ((hk5.from_ ai.rfl_)) rfl ?_;intro w58 O29 P29;have hbx:=hk5.from_ hM29;replace hfo:=aY.box (cJ.from_ hfo hM29) hbx O29;replace hf2:=aY.box (cJ.from_ hf2 hM29) hbx O29;replace hk6:=(hk6.from_ hM29).only O29 (by omega);replace hkb:=(hkb.from_ hM29).only O29 (by omega);replace hk12q:=(hk12q.from_ hM29).only O29 (by omega);replace hQ:=(hQ.from_ hM29).box hbx O29;replace hQ2:=(hQ2.from_ hM29).box hbx O29;replace hk5:Blk w58 b5 29 (rfV s2 a2).toArray:=P29;replace hlo:=hf2;refine ass rfl (asi rfl (aq ?_));refine cu ((s2,a2,tg2,fo,fa,tf,q2,O2,c2,L2)) ⟨rfl,rfl,rfl,rfl,trivial⟩ (by (iterate 12 refine bC rfl ?_);exact bP) ?_;exact ⟨hPh2,hlo.from_ ai.rfl_,hfo.from_ ai.rfl_,hk5.from_ ai.rfl_,hk6.from_ ai.rfl_,hQ2.from_ ai.rfl_,(hQ.rest1).from_ ai.rfl_,hkb.from_ ai.rfl_,((((hB.next E12).only O19 (hg12)).next E128).only O29 (hg5))⟩
       rintro ⟨l2,la2,tl2,fo2,fa2,tf2,q2,O2,c2,L2⟩ ρ59 w59 ⟨hPh,hlo,hfo,hk5,hk6,hQ2,hR,hkb,hB⟩;refine ao (ao (ag (mvi rfl (aE eJ (gq _ _) ?_))));rintro v133 w60 ⟨rfl,rfl⟩;refine ab (bL (cz rfl rfl) rfl) (aq (ah (aU rfl (aI (ah (ag (mvs rfl (mvs rfl ?_))))))));have hM32:ai _ w59:=ai.rfl_;have hB32:ai w w59:=hB;have hX32:=hR.from_ hM32
       have hL2:L2.length≤1:=by
        have h9:=hPh.len.1;rw [←hQ2.l,List.length_map] at h9;exact h9
       refine mr (base:=w.heap.size) (A:=fK O c 1 13) (m:=0) (j:=L2.length) (xs:=[]) (news:=L2.flatMap bT) lD rfl (by decide) rfl hX32 hB32.size rfl (mN L2) (hQ2.from_ hM32).src (pI L2) (by omega) (by omega) ?_;intro A9 c9 w61 hX9 hg9;have hB9:ai w w61:=hB32.app hX32 hg9;have hQ9:=QIs.app hX9 (hQ2.from_ hM32);have hlo9:=aY.app (cJ.from_ hlo hM32) hX32 hg9;have hfo9:=aY.app (cJ.from_ hfo hM32) hX32 hg9;have hk59:=(hk5.from_ hM32).app (by decide) hX32 hg9;have hk69:=(hk6.from_ hM32).app (by decide) hX32 hg9;have hkb9:=(hkb.from_ hM32).app (by decide) hX32 hg9;rw [show 0+L2.length=L2.length from Nat.zero_add _];refine ass rfl (aq (bI (ah (ag (mvi rfl (ab (cl rfl rfl (by omega)) (asi rfl (aq ?_))))))));refine cu ((k+1,l2,la2,tl2,fo2,fa2,tf2,q2,A9,c9,L2)) ⟨rfl,rfl,trivial⟩ (by (iterate 135 refine bC rfl ?_);exact bP) ⟨?_,?_⟩
       ·exact ⟨hPh,hlo9.from_ ai.rfl_,hfo9.from_ ai.rfl_,hk59.from_ ai.rfl_,hk69.from_ ai.rfl_,hQ9.from_ ai.rfl_,hkb9.from_ ai.rfl_,hB9⟩
       ·show 400-(k+1)<400-k;omega
      have hq0:q=[]:=by rw [←hQ.l,List.eq_nil_of_length_eq_zero (show L.length=0 by omega)];rfl
      refine cL (bw (bw (cr ?_)));refine cu ((la,tl,fa,tf)) ⟨rfl,rfl,trivial⟩ (by (iterate 74 refine bC rfl ?_);exact bP) ?_;subst hq0;obtain ⟨rfl,rfl⟩:=hPh.end_;exact ⟨hlo.from_ ai.rfl_,hfo.from_ ai.rfl_,hk5.from_ ai.rfl_,hk6.from_ ai.rfl_,hkb.from_ ai.rfl_,hB⟩
     have hq0:q=[]:=by
      cases q with
      |nil=>rfl
      |cons x r=>exact absurd (hPh.lt (by omega) (by simp)) (by omega)
     refine ar rfl rfl (ar rfl rfl (ar rfl rfl (ab (aB (v:=.bool _) rfl rfl) (aq (ah (aU rfl (cL (bw (bw (cr ?_))))))))));refine cu ((la,tl,fa,tf)) ⟨rfl,rfl,trivial⟩ (by (iterate 74 refine bC rfl ?_);exact bP) ?_;subst hq0;obtain ⟨rfl,rfl⟩:=hPh.end_;exact ⟨hlo.from_ ai.rfl_,hfo.from_ ai.rfl_,hk5.from_ ai.rfl_,hk6.from_ ai.rfl_,hkb.from_ ai.rfl_,hB⟩
    rintro ⟨la,tl,fa,tf⟩ ρ62 w62 ⟨hlo,hfo,hk5,hk6,hkb,hB⟩;obtain ⟨bm,om,hMa,hMc⟩:=(aY.rd hlo).m.1 (by show 0<2;decide);obtain ⟨bn,on,hNa,hNc⟩:=(aY.rd hlo).x.1 (by show 0<2;decide);have hm1:=hMc 1 (by show 1<2;decide);have hn1:=hNc 1 (by show 1<2;decide);refine ao (ag (ab (aa bd rfl) (ab (aa bY rfl) (ab (au ak rfl (by exact (show _=some (Value.int .i64 5) from (hk6.from_ ai.rfl_).rd 6 rfl))) ?_))));refine ab (bL (cz rfl rfl) rfl) (mvb rfl (aj rfl (ab (aa bd rfl) (aj rfl (ab (aa kI rfl) (aj rfl (ab (au ak rfl (by exact (show _=some (Value.int .i64 1) from (hk6.from_ ai.rfl_).rd 7 rfl))) ?_)))))));refine aj rfl (ab (bL (cz rfl rfl) rfl) (ab (aB (v:=.bool _) rfl rfl) (mvb rfl (aj rfl (ab (aa dD rfl) (aj rfl (ab (au bQ rfl (by exact (show _=some (Value.string sn) from (hk6.from_ ai.rfl_).rd 9 rfl))) ?_)))))));refine aj rfl (mvg rfl (aj rfl (ab (bL (ss rfl rfl) (by simp)) ?_)));refine ab (aB (v:=.bool _) rfl rfl) (mvb rfl (aj rfl (ab (aa cC rfl) (aj rfl (ab (au ak rfl (by exact (show _=some (Value.int .i64 5) from (hk6.from_ ai.rfl_).rd 10 rfl))) ?_)))));refine aj rfl (ab (bL (cz rfl rfl) rfl) (ab (aB (v:=.bool _) rfl rfl) (mvb rfl (aj rfl (ab (aa cg rfl) (aj rfl (ab (au bQ rfl (by exact (show _=some (Value.string ⟨#[]⟩) from (hk6.from_ ai.rfl_).rd 20 rfl))) ?_)))))));refine aj rfl (ab (bL (ss rfl rfl) (by simp)) ?_);refine ab (aB (v:=.bool _) rfl rfl) (mvb rfl (aj rfl (ab (aa cM rfl) (aj rfl (ab (au bj rfl (by exact (show _=some (Value.slice la.M 2 la.Mc) from (hk5.from_ ai.rfl_).rd 16 rfl))) ?_)))));refine aj rfl ?_;refine ab (db (i:=1) a_ (show _=Value.slice (some ⟨bm,om,none⟩) 2 la.Mc from by rw [←hMa];rfl) rfl (by decide)) ?_;refine aj rfl (ab (au ak rfl (by exact eH ai.rfl_ hm1)) ?_);refine aj rfl (ab (bL (cz rfl rfl) rfl) (ab (aB (v:=.bool _) rfl rfl) (mvb rfl (aj rfl (ab (aa ch rfl) (aj rfl (ab (au bj rfl (by exact (show _=some (Value.slice la.X 2 la.Xc) from (hk5.from_ ai.rfl_).rd 15 rfl))) ?_)))))));refine aj rfl ?_;refine ab (db (i:=1) a_ (show _=Value.slice (some ⟨bn,on,none⟩) 2 la.Xc from by rw [←hNa];rfl) rfl (by decide)) ?_;refine aj rfl (ab (au ak rfl (by exact eH ai.rfl_ hn1)) ?_);refine aj rfl (ab (bL (cz rfl rfl) rfl) (ab (aB (v:=.bool _) rfl rfl) (aq (ah (aU rfl (aI (bI (ah (ag (mvi rfl (ab (cl rfl rfl (by omega)) (asi rfl ?_))))))))))));refine aq ?_;refine cu (i+1) ⟨(by first | rfl | (refine aZ ?_;omega)),trivial⟩ (by (iterate 356 refine bC rfl ?_);exact bP) ⟨?_,?_⟩
    ·exact ⟨by omega,hkb.from_ ai.rfl_,hB⟩
    ·omega
  refine cL (bw (bw (cr (ah (ao (ag (aE lE (o_ _) ?_)))))));rintro v178 w63 ⟨rfl,E178⟩;refine asb rfl (aq (ah (aG (bF (v:=.bool _) rfl rfl (⟨rfl,(hB.next E178)⟩)))))
 refine ar rfl rfl (ar rfl rfl (ab (aB (v:=.bool _) rfl rfl) (aq (ah (aU rfl (cL (bw (bw (cr (ah (ao (ag (aE lE (o_ _) ?_)))))))))))));rintro v178 w64 ⟨rfl,E178⟩;refine asb rfl (aq (ah (aG (bF (v:=.bool _) rfl rfl (⟨rfl,(hB.next E178)⟩)))))
end Go.Proofs.YtkpooenofjdpmaaGreat
namespace Go.Proofs.YtkpooenofjdpmaaGreat
open Go.Proofs.Tryz (prog)
open Go.RowKit
open Go.ChangeShapes Go.WideShapes Go.ChangeAt
theorem nt (cs:Array Value) (x:(Ty.pr mE (.pr (.sl rW) .unit)).den) (w:World) (hs:cs.size=23) (h:(Ty.pr mE (.pr (.sl rW) .unit)).At w (fun j=>cs[j]?) x):Rt prog 13 [.agg cs] w fun v w'=>v=.bool true∧ai w w':=by
 obtain ⟨s,a,LA,lc,X,rfl,hr⟩:=tx hs h;exact bK s a LA lc X w hr
theorem ll (os:Os) (started:os.Started) (H:Type) (enc:TypeId×Value→H) :
 ReturnsInHanded {} Tryz.checked os 13 .any (Rows.raftPartsSpec.pre6 enc prog Tryz.f13 Rows.raftPartsRow.domain false) (Rows.raftPartsSpec.post enc prog Tryz.f13 false true false false):=by
 refine returnsInHanded_of_change_sized (C:=Tryz.checked) Tryz.own started (by kernel_rfl) Tryz.func13
  (ChangeSpec.witness6 (enc:=enc) (C:=Tryz.checked) false ⟨#[],#[.agg #[.int .i64 0,.int .i64 0,.int .i64 0,.int .i64 0,.int .i64 0,.int .i64 0,.int .i64 0,.int .i64 0,.slice none 0 0,.string ⟨#[]⟩,.int .i64 0,.int .i64 0,.int .i64 0,.int .u64 0,.slice none 0 0,.slice none 0 0,.slice none 0 0,.slice none 0 0,.int .i64 0,.slice none 0 0,.string ⟨#[]⟩,.int .i64 0,.slice none 0 0]],[]⟩ 8 (by kernel_rfl) (by kernel_rfl) (by kernel_rfl) (by kernel_rfl)) ?_
 intro W base args ds gs before hval hW _ hsz _;exact uO 13 Tryz.f13 32 4 Rows.raftPartsSpec Tryz.params13 (by kernel_rfl) Tryz.underlying4 rfl (fun _=>rfl) (by kernel_rfl) (dT_ (by kernel_rfl)) (o8 mE (.pr (.sl rW) .unit) (by kernel_rfl) nt) W base args ds gs before hval hW hsz
theorem RaftParts_holds:Rows.RaftPartsSaid:=
 OpenClaim.holds_of_wide 13 Tryz.f13 rfl rfl rfl rfl rfl rfl rfl ⟨rfl,rfl,rfl,rfl,rfl⟩ rfl rfl rfl rfl rfl (by kernel_rfl) Tryz.func13 (by kernel_rfl)
  (dT_ (by kernel_rfl)) (by unfold Func.isWrapper;first | (rw [if_pos (by decide+kernel)];kernel_rfl) | (rw [if_neg (by decide+kernel)];exact ⟨rfl,rfl⟩))
  (fun os started H enc _=>ll os started H enc)
end Go.Proofs.YtkpooenofjdpmaaGreat
