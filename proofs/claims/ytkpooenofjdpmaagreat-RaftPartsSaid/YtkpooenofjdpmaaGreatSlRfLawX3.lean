/- texts that the claim stands on. -/
import Derived.Test.YtkpooenofjdpmaaGreatSlRfLawX2

set_option maxRecDepth 100000
set_option maxHeartbeats 4000000
namespace Go.Proofs.YtkpooenofjdpmaaGreat
open Go.Proofs.Tryz (prog)
open Go.RowKit
open Go.ChangeShapes Go.WideShapes Go.ChangeAt
theorem aw:cd prog 91 0=some 0:=by kernel_rfl
theorem bd:cd prog 29 6=some 6:=by kernel_rfl
theorem kJ:aN prog 152=true:=by kernel_rfl
theorem kK:aN prog 121=true:=by kernel_rfl
theorem ey:aN prog 111=true:=by kernel_rfl
theorem dG:(e_ prog 22).isSome=true:=by kernel_rfl
theorem cN:cd prog 29 1=some 1:=by kernel_rfl
theorem oW:aN prog 123=true:=by kernel_rfl
theorem jG:cd prog 29 11=some 13:=by kernel_rfl
theorem qw:iJ prog 25=some false:=by kernel_rfl
theorem qv:aN prog 94=true:=by kernel_rfl
theorem qu:dr prog 25=some 1:=by kernel_rfl
theorem ik:cd prog 29 10=some 12:=by kernel_rfl
theorem bh:dr prog 3=some 1:=by kernel_rfl
theorem dJ:cd prog 29 9=some 11:=by kernel_rfl
theorem dK:cd prog 29 0=some 0:=by kernel_rfl
theorem wE (s:Int) (w:World):Rt prog 94 [.int .u64 s,.int .i64 10] w fun v w'=>v=.tuple #[.int .u64 (nx s),.int .i64 (bl s 10)]∧ai w w':=Rt.of (below s 10 w (by decide))
theorem wA (A:Option Addr) (c:Nat) (n:Int) (L:List Int) (w:World) (hr:ew iV w A L) (hl:L.length≤1000000) (hn:1≤n∧n≤7):Rt prog 123 [.int .i64 n,.slice A L.length c] w fun v w'=>v=.tuple #[.bool (eD n L),.int .i64 0]∧ai w w':=
 (tq A c n L w hr hl).mono fun v w' h=>⟨by
  rw [h.1];unfold okV eV eD;rw [if_pos hn,decide_eq_true hn,Bool.true_and,show decide (n<2*((cv L n.toNat:Nat):Int))=decide (n.toNat<2*cv L n.toNat) from decide_eq_decide.2 (by omega)],h.2⟩
theorem sy (id:Int) (k:Nat):(iP id k).length≤k:=by
 unfold iP;refine Nat.le_trans (List.length_filter_le _ _) ?_;simp
theorem uy {id:Int} {k:Nat} (h:((k:Int)+1)≠id):iP id (k+1)=iP id k++[(k:Int)+1]:=by
 rw [nR,if_neg (by omega)];rfl
theorem v_ {id:Int} {k:Nat} (h:((k:Int)+1)=id):iP id (k+1)=iP id k:=by rw [nR,if_pos (by omega)]
theorem gv (T g:Nat) (s:Rf) (a:Ra) (R:List Value) (w:World) (hb:Blk w g T (rfV s a++R).toArray) (he:cQ w (.slice a.E s.es.length a.Ec) s.es) (hm:cn s.b s.t s.es=true) :
 Rt prog 111 [.pointer (some ⟨g,0,none⟩)] w (fun v w'=>v=.tuple #[.int .i64 (aQ s),.int .i64 (dE s.t s.es)]∧ai w w'):=by
 refine enter (n:=16) Tryz.func111 rfl rfl rfl (ao (ag (asi rfl (asi rfl (aq (ah (ao (ag (mvp rfl (ab (av rfl) (ab (aa aw rfl) (ab (aa bd rfl) ?_))))))))))));refine ab (aR (cs:=[.int .i64 s.b,.int .i64 s.t,.slice a.E s.es.length a.Ec]) cw bD rfl (kV (hb.from_ ai.rfl_))) (aE kJ (wk s.b s.t a.E s.es.length a.Ec s.es _ (he.from_ ai.rfl_) hm) ?_);rintro v10 w1 ⟨rfl,E10⟩;refine mvt rfl (ab (aK rfl rfl) (ab (aK rfl rfl) (ab (aK rfl rfl) (asi rfl (asi rfl (aq (ah (ao (ag (mvi rfl (mvi rfl ?_)))))))))));refine asi rfl (asi rfl (aq (ah (aG (lO (v:=.int _ _) (v':=.int _ _) rfl rfl rfl (⟨rfl,(ai.rfl_.next E10)⟩))))))
theorem mi (T g:Nat) (s:Rf) (a:Ra) (R:List Value) (w:World) (hb:Blk w g T (rfV s a++R).toArray) (he:cQ w (.slice a.E s.es.length a.Ec) s.es) (hm:cn s.b s.t s.es=true) (i:Int) (hi:s.b≤i∧i≤aQ s) :
 Rt prog 83 [.pointer (some ⟨g,0,none⟩),.int .i64 i] w (fun v w'=>v=.int .i64 (dz s.b s.t s.es i)∧ai w w'):=by
 refine enter (n:=18) Tryz.func83 rfl rfl rfl (ao (ag (asi rfl (aq (ah (ao (ag (mvp rfl (ab (av rfl) (ab (aa aw rfl) (ab (aa bd rfl) (ab (aR (cs:=[.int .i64 s.b,.int .i64 s.t,.slice a.E s.es.length a.Ec]) cw bD rfl (kV (hb.from_ ai.rfl_))) ?_))))))))))));refine mvi rfl (aE kK (vA s.b s.t i a.E s.es.length a.Ec s.es _ (he.from_ ai.rfl_) hm hi) ?_);rintro v14 w1 ⟨rfl,E14⟩;refine mvt rfl (ab (aK rfl rfl) (ab (aK rfl rfl) (asi rfl (asi rfl (aq (ah (ao (ag (mvi rfl (asi rfl (aq (ah (aG ?_)))))))))))));refine bF (v:=.int _ _) rfl rfl (⟨rfl,(ai.rfl_.next E14)⟩)
theorem wu (T g:Nat) (s:Rf) (a:Ra) (R:List Value) (w:World) (hb:Blk w g T (rfV s a++R).toArray) (he:cQ w (.slice a.E s.es.length a.Ec) s.es) (hm:cn s.b s.t s.es=true) :
 Rt prog 75 [.pointer (some ⟨g,0,none⟩)] w (fun v w'=>v=.bool (gF s)∧ai w w'):=by
 refine enter (n:=22) Tryz.func75 rfl rfl rfl (ao (ag (asb rfl (aq (ah (ao (ag (mvp rfl (aE ey (gv T g s a R _ (hb.from_ ai.rfl_) (he.from_ ai.rfl_) hm) ?_)))))))));rintro v7 w1 ⟨rfl,E7⟩;refine mvt rfl (ab (aK rfl rfl) (ab (aK rfl rfl) (asi rfl (asi rfl (aq (ah (ao (ag (mvp rfl (ab (av rfl) (ab (aa aw rfl) ?_)))))))))));refine ab (aa bd rfl) (ab (aa cV rfl) (ab (au cD rfl (by exact cB (hb.from_ (ai.rfl_.next E7)) 8 rfl)) ?_));refine ab (b0 dG rfl) (ab (bo rfl rfl) (mvb rfl (yl (t:=18) rfl (fun Q2=>?_) (fun Q2=>?_))))
 ·refine ar rfl rfl (ar rfl rfl (ab (aJ (v:=.bool _) rfl rfl) (asb rfl (aq (ah (aG (bF (v:=.bool _) rfl rfl (⟨congrArg Value.bool ?_,(ai.rfl_.next E7)⟩))))))));unfold gF
  first
   |(rw [Bool.eq_iff_iff];simp only [Bool.or_eq_true,decide_eq_true_eq];omega)
   |(rw [eq_comm,Bool.or_eq_true];left;rw [decide_eq_true_eq];omega)
 refine aj rfl (mvi rfl (aj rfl (ab (bo rfl rfl) (ab (aB (v:=.bool _) rfl rfl) (asb rfl (aq (ah (aG (bF (v:=.bool _) rfl rfl (⟨congrArg Value.bool ?_,(ai.rfl_.next E7)⟩))))))))));unfold gF
 first
  |(rw [Bool.eq_iff_iff];simp only [Bool.or_eq_true,decide_eq_true_eq,beq_iff_eq];omega)
  |(rw [eq_comm,Bool.or_eq_true];left;rw [decide_eq_true_eq];omega)
theorem rK (T g:Nat) (s:Rf) (a:Ra) (R:List Value) (w:World) (hb:Blk w g T (rfV s a++R).toArray) (A:Option Addr) (c:Nat) (l:List Int) (hr:ew iV w A l) (hl:l.length≤1000000) (hn:1≤s.nodes∧s.nodes≤7) :
 Rt prog 86 [.pointer (some ⟨g,0,none⟩),.slice A l.length c] w (fun v w'=>v=.bool (eD s.nodes l)∧ai w w'):=by
 refine enter (n:=22) Tryz.func86 rfl rfl rfl (ao (ag (asb rfl (aq (ah (ao (ag (mvp rfl (ab (av rfl) (ab (aa aw rfl) (ab (aa cN rfl) (ab (au ak rfl (by exact cB (hb.from_ ai.rfl_) 1 rfl)) ?_))))))))))));refine mvs rfl (aE oW (wA A c s.nodes l _ (hr.from_ ai.rfl_) hl hn) ?_);rintro v14 w1 ⟨rfl,E14⟩;refine mvt rfl (ab (aK rfl rfl) (ab (aK rfl rfl) (asb rfl (asi rfl (aq (ah (ao (ag (mvb rfl (mvb rfl (ym (t:=18) rfl (fun Q2=>?_) (fun Q2=>?_))))))))))))
 ·refine aj rfl (mvi rfl (aj rfl (ab (dX (bo rfl rfl) rfl) (ab (aJ (v:=.bool _) rfl rfl) (asb rfl (aq (ah (aG (bF (v:=.bool _) rfl rfl (⟨congrArg Value.bool ?_,(ai.rfl_.next E14)⟩))))))))));unfold eD
  first
   |exact (decide_eq_true (by omega)).symm
   |exact (decide_eq_false (by omega)).symm
 refine ar rfl rfl (ar rfl rfl (ab (aB (v:=.bool _) rfl rfl) (asb rfl (aq (ah (aG (bF (v:=.bool _) rfl rfl (⟨congrArg Value.bool ?_,(ai.rfl_.next E14)⟩))))))));unfold eD
 first
  |exact (decide_eq_true (by omega)).symm
  |exact (decide_eq_false (by omega)).symm
theorem oP (T g:Nat) (s:Rf) (a:Ra) (R:List Value) (w:World) (hb:Blk w g T (rfV s a++R).toArray) :
 Rt prog 54 [.pointer (some ⟨g,0,none⟩)] w (fun v w'=>v=.tuple #[]∧Blk w' g T (rfV (gB s) a++R).toArray∧Chg (fun k=>k=g) w w'):=by
 have hbl:=p5 s.seed;refine enter (n:=28) Tryz.func54 rfl rfl rfl (ao (ag (mvp rfl (ab (av rfl) (ab (aa aw rfl) (ab (aa jG rfl) (ab (au qw rfl (by exact cB (hb.from_ ai.rfl_) 13 rfl)) ?_)))))));refine aE qv (wE s.seed _) ?_;rintro v10 w1 ⟨rfl,E10⟩;refine mvt rfl (ab (aK rfl rfl) (ab (aK rfl rfl) (asi rfl (asi rfl (aq (ah (ag (mvp rfl (mvp rfl (mvp rfl ?_))))))))));refine mvi rfl (mvi rfl (ab (cl rfl rfl (by omega)) (ab (av rfl) (ab (aa aw rfl) (ab (aa jG rfl) (cY (s':={ s with seed:=nx s.seed }) (a':=a) (v:=.int _ _) qu rfl rfl rfl ((hb.from_ (ai.rfl_.next E10))) (by exact ⟨by decide,rfl⟩) ?_))))));intro w2 O1a P1a;have hC1:Chg (fun k=>k=g) w w2:=(ai.toChg E10).only O1a rfl;refine ab (av rfl) (ab (aa aw rfl) (ab (aa ik rfl) (cY (s':={ s with seed:=nx s.seed,timeout:=10+bl s.seed 10 }) (a':=a) (v:=.int _ _) bh rfl rfl rfl (P1a) (by exact ⟨by decide,rfl⟩) ?_)));intro w3 O1b P1b;replace hC1:=hC1.only O1b rfl;refine ab (av rfl) (ab (aa aw rfl) (ab (aa dJ rfl) (cY (s':=gB s) (a':=a) (v:=.int _ _) bh rfl rfl rfl (P1b) (by exact ⟨by decide,rfl⟩) ?_)));intro w4 O1c P1c;replace hC1:=hC1.only O1c rfl;refine aq (cK (dU rfl (⟨rfl,P1c,hC1⟩)))
theorem nQ (T g:Nat) (s:Rf) (a:Ra) (R:List Value) (w:World) (hb:Blk w g T (rfV s a++R).toArray) (hn:0≤s.nodes∧s.nodes≤1000000) :
 Rt prog 77 [.pointer (some ⟨g,0,none⟩)] w (fun v w'=>(∃ A c,v=.slice A (c_ s).length c∧w'.ownsRow w.heap.size 3 1 (.slice A (c_ s).length c) (c_ s).length ((c_ s).map iV))∧ai w w'):=by
 refine enter (n:=26) Tryz.func77 rfl rfl rfl (ao (ag (ass rfl (aq (ah (ao (ag (ass rfl (aq (ah (ao (ao (ag (asi rfl (aq (ah (bk (dC (G:=Nat×Option Addr×Nat) [5,6,7,8,9,10,11,12,13,14,15,16,17,18,19,20,21,22,23,24] (fun (k,A3,c3)=>[(3,.slice A3 (iP s.id k).length c3),(4,.int .i64 ((k:Int)+1))]) (fun (k,A3,c3) w'=>(k:Int)≤s.nodes∧w'.ownsRow w.heap.size 3 1 (.slice A3 (iP s.id k).length c3) (iP s.id k).length ((iP s.id k).map iV)∧ai w w') (fun (k,_,_)=>s.nodes.toNat-k) ((0,none,0)) ⟨rfl,rfl,trivial⟩ ?_ ?_))))))))))))))))))
 ·exact ⟨by omega,World.ownsRow_nil _ _ _ _,ai.rfl_⟩
 rintro ⟨k,A3,c3⟩ ρ1 w1 ⟨hk,ho3,hB⟩;refine ao (ao (ag (mvi rfl (mvp rfl (ab (av rfl) (ab (aa aw rfl) (ab (aa cN rfl) (ab (au ak rfl (by exact cB (hb.from_ hB) 1 rfl)) ?_))))))));refine ab (fx rfl rfl) (aq (ah (yS rfl (fun Q2=>?_) (fun Q2=>?_))))
 ·have hle:=sy s.id k;refine aI (ah (ao (bk (ao (ag (mvi rfl (mvp rfl (ab (av rfl) (ab (aa aw rfl) (ab (aa dK rfl) (ab (au ak rfl (by exact cB (hb.from_ hB) 0 rfl)) ?_)))))))))));refine ab (cz rfl rfl) (aq (ah (aO rfl (fun Q3=>?_) (fun Q3=>?_))))
  ·replace Q3:=et Q3;replace Q3:=ea Q3;have hoy:=uy (id:=s.id) (k:=k) (by omega);have hol:(iP s.id (k+1)).length=(iP s.id k).length+1:=by rw [hoy,List.length_append];rfl
   refine ag (mvs rfl (mvi rfl (ej (v:=.int _ _) aS rfl rfl rfl ?_)));intro b23 w4 E23 hb23 hk23;refine tW (a0:=w) aS rfl rfl (ho3.kept_from E23) (hB.next E23) rfl hk23 rfl (by omega) (by omega) ?_;intro A24 c24 w5 ho24 B24 hg24;refine ass rfl (aq (bI (ah (ag (mvi rfl (ab (cl rfl rfl (by omega)) (asi rfl (aq ?_))))))));refine cu ((k+1,A24,c24)) ⟨by first | exact congrArg (fun q=>Value.slice A24 q c24) hol.symm | exact (congrArg (fun q=>Value.slice A24 q c24) hol).symm,aZ (by omega),trivial⟩ (by (iterate 44 refine bC rfl ?_);exact bP) ⟨?_,?_⟩
   ·exact ⟨by omega,by first | (rw [hoy,List.map_append,List.length_append];exact ho24) | (rw [hoy];exact ho24),B24⟩
   ·show s.nodes.toNat-(k+1)<s.nodes.toNat-k;omega
  replace Q3:=eu Q3;replace Q3:=d_ Q3;obtain ⟨A24,rfl⟩:∃ x,x=A3:=⟨_,rfl⟩;obtain ⟨c24,rfl⟩:∃ x,x=c3:=⟨_,rfl⟩;have hoy:=v_ (id:=s.id) (k:=k) (by omega);have hol:(iP s.id (k+1)).length=(iP s.id k).length:=by rw [hoy]
  have ho24:=ho3;refine aI (bI (ah (ag (mvi rfl (ab (cl rfl rfl (by omega)) (asi rfl (aq ?_)))))));refine cu ((k+1,A24,c24)) ⟨by first | exact congrArg (fun q=>Value.slice A24 q c24) hol.symm | exact (congrArg (fun q=>Value.slice A24 q c24) hol).symm,aZ (by omega),trivial⟩ (by (iterate 39 refine bC rfl ?_);exact bP) ⟨?_,?_⟩
  ·exact ⟨by omega,by first | (rw [hoy,List.map_append,List.length_append];exact ho24) | (rw [hoy];exact ho24),hB⟩
  ·show s.nodes.toNat-(k+1)<s.nodes.toNat-k;omega
 refine cL (bw (bw (cr (ah (ao (ag (mvs rfl (ass rfl (aq (ah (aG (bF (v:=.slice _ _ _) rfl rfl ?_))))))))))));have hkn:k=s.nodes.toNat:=by omega
 subst hkn;exact ⟨⟨A3,c3,rfl,ho3⟩,hB⟩
end Go.Proofs.YtkpooenofjdpmaaGreat
namespace Go.Proofs.YtkpooenofjdpmaaGreat
open Go.Proofs.Tryz (prog)
open Go.RowKit
def mx (B T:Int) (xs:List Ent) (i n:Int):Int:=if cn B T xs=true then (if B+1≤i∧i≤cW B xs+1 then (if n<0 then 1 else 0) else 3) else 1
def yW (w w':World) (ys:List Ent) (c:Int) (v:Value):Prop:=(c≠0→v=.slice none 0 0)∧(c=0→w'.ownsRow w.heap.size 99 3 v ys.length (dV ys))
def yv (A:Option Addr) (cap k:Nat):Option Addr:=if cap=k then A else Option.map (fun x=>x.add (k*3)) A
theorem sZ (B T i n:Int) (v:Value) (xs:List Ent) (w:World) (h:cQ w v xs) (hn9:n≤9223372036854775807) :
 Calls prog 114 #[.agg #[.int .i64 B,.int .i64 T,v],.int .i64 i,.int .i64 n] w fun e w'=>∃ L,e=.returned (.tuple #[L,.int .i64 (mx B T xs i n)])∧yW w w' ((xs.drop (i-B-1).toNat).take n.toNat) (mx B T xs i n) L∧ai w w':=by
 obtain ⟨f0,f1,f2,hbb,hwb⟩:=iD (w:=w) (B:=B) (T:=T) (v:=v) (t:=24);have hch:=fun w' (hw:ai w w')=>iT B T v xs w' (h.from_ hw)
 have hlo:=fun w' (hw:ai w w')=>h_ B T v xs w' (h.from_ hw)
 have hwi:=gT;have HW:=Lib.hid hwi;unfold chk at hch;have HE:=Lib.hid h;have hdef:mx B T xs i n=mx B T xs i n:=rfl
 conv at hdef=>rhs;unfold mx
 obtain ⟨A,cap,rfl,hc1,hc2,hc3,hrow⟩:=h;clear hc3 hrow hwi;by_cases hm:cn B T xs=true
 ·rw [if_pos hm] at hch hdef;obtain ⟨hl,hB0,hB1,hx⟩:=nT hm;rw [hl] at hlo hdef;have HC:=Lib.hid hch;have HL:=Lib.hid hlo;clear hch hlo hm hl;by_cases hin:B+1≤i∧i≤B+xs.length+1
  ·rw [if_pos hin] at hdef;have hib:=eh hin;by_cases hneg:n<0
   ·rw [if_pos hneg] at hdef;rw [hdef];have e1:decide (n<0)=true:=decide_eq_true hneg;clear hdef hin hneg
    go_enter Tryz.func114,Tryz.ntmps114
    go_wp2_with (first
     |(go_at_call 116;(with_reducible refine (HC.out _ hwb).mono ?_);rintro e w1 ⟨rfl,hb1⟩;have hw1:=ai.next (a:=w) hwb hb1;have hbw1:=ai.next (a:=_) hbb hb1)
     |(go_at_call 117;(with_reducible refine (HL.out _ hw1).mono ?_);rintro e w2 ⟨rfl,hb3⟩;have hw2:=ai.next (a:=w) hw1 hb3;have hbw2:=ai.next (a:=_) hbw1 hb3)
     |(go_at_call 118;(with_reducible refine (HW.out _ _ _ _).mono ?_);rintro e w3 ⟨rfl,hb4⟩;have hw3:=ai.next (a:=w) hw2 hb4))
    go_ret2
    exact ⟨_,rfl,⟨fun _=>rfl,fun h=>absurd h (by decide)⟩,hw3⟩
   ·rw [if_neg hneg] at hdef;rw [hdef];obtain ⟨k,hk⟩:∃ k:Nat,i=B+k+1:=⟨(i-B-1).toNat,by omega⟩;obtain ⟨m,hmn⟩:∃ m:Nat,n=m:=⟨n.toNat,by omega⟩;subst hmn;have e1:decide ((m:Int)<0)=false:=decide_eq_false hneg;have hkn:(i-B-1).toNat=k:=by omega
    have hmt:(m:Int).toNat=m:=by omega
    rw [hkn,hmt];have hkl:k≤xs.length:=by omega
    have hrest:=HE.out.rest hkl;have hdl:(xs.drop k).length=xs.length-k:=List.length_drop;obtain ⟨q,hq⟩:∃ q:Nat,q=min m (xs.length-k):=⟨_,rfl⟩;have hql:q≤xs.length-k:=by omega
    have hcut:=hrest.cut (k:=q) (by omega)
    have htk:(xs.drop k).take m=(xs.drop k).take q:=by
     rw [hq];by_cases hle:m≤xs.length-k
     ·rw [Nat.min_eq_left hle]
     ·rw [Nat.min_eq_right (by omega),List.take_of_length_le (by omega),List.take_of_length_le (by omega)]
    rw [htk];have hcl:=fun w' (hw:ai w w')=>n5 _ _ w' (hcut.from_ hw) (by rw [List.length_take];omega)
    have HCL:=Lib.hid hcl;have hra:(if cap=k then A else Option.map (fun x=>x.add (k*3)) A)=yv A cap k:=rfl;rw [hra] at HCL;have j0:i-B-1=(k:Int):=by omega
    have j1:(0:Int)≤(k:Int):=by omega
    have j2:(k:Int)≤(xs.length:Int):=by omega
    have j3:(k:Int)≤(cap:Int):=by omega
    have q1:(0:Int)≤(q:Int):=by omega
    have q2:(q:Int)≤((xs.length-k:Nat):Int):=by omega
    have q3:(q:Int)≤((cap-k:Nat):Int):=by omega
    have hHQ:=Lib.hid hq;have HI:=Lib.hid hin;have hii:B+1≤i∧i≤B+600:=by omega
    clear hdef hkn hmt hrest hcut htk hcl hin hneg hq;by_cases hle:m≤xs.length-k
    ·have hqm:q=m:=by have:=hHQ.out;omega
     subst hqm;have e5:min (q:Int) ((xs.length-k:Nat):Int)=(q:Int):=by omega
     have e6:(q:Int)≤((xs.length-k:Nat):Int):=by omega
     clear hk
     go_enter Tryz.func114,Tryz.ntmps114
     go_wp2_with (first
      |(go_at_call 116;(with_reducible refine (HC.out _ hwb).mono ?_);rintro e w1 ⟨rfl,hb1⟩;have hw1:=ai.next (a:=w) hwb hb1;have hbw1:=ai.next (a:=_) hbb hb1)
      |(go_at_call 117;(with_reducible refine (HL.out _ hw1).mono ?_);rintro e w2 ⟨rfl,hb3⟩;have hw2:=ai.next (a:=w) hw1 hb3;have hbw2:=ai.next (a:=_) hbw1 hb3)
      |(go_at_call 118;(with_reducible refine (HW.out _ _ _ _).mono ?_);rintro e w3 ⟨rfl,hb4⟩;have hw3:=ai.next (a:=w) hw2 hb4;have hbw3:=ai.next (a:=_) hbw2 hb4)
      |(go_at_call 120;(with_reducible refine (HCL.out _ hw3).mono ?_);rintro e w4 ⟨v4,rfl,hown4,hb5⟩;have hw4:=ai.next (a:=w) hw3 hb5;have HO:=Lib.hid (And.intro hown4 hw3.size);clear hown4))
     go_ret2
     exact ⟨_,rfl,⟨fun h=>absurd rfl h,fun _=>fD HO.out.1 HO.out.2⟩,hw4⟩
    ·have hqm:q=xs.length-k:=by have:=hHQ.out;omega
     subst hqm;have e5:min (m:Int) ((xs.length-k:Nat):Int)=((xs.length-k:Nat):Int):=by omega
     have e6:¬ (m:Int)≤((xs.length-k:Nat):Int):=by omega
     clear hk
     go_enter Tryz.func114,Tryz.ntmps114
     go_wp2_with (first
      |(go_at_call 116;(with_reducible refine (HC.out _ hwb).mono ?_);rintro e w1 ⟨rfl,hb1⟩;have hw1:=ai.next (a:=w) hwb hb1;have hbw1:=ai.next (a:=_) hbb hb1)
      |(go_at_call 117;(with_reducible refine (HL.out _ hw1).mono ?_);rintro e w2 ⟨rfl,hb3⟩;have hw2:=ai.next (a:=w) hw1 hb3;have hbw2:=ai.next (a:=_) hbw1 hb3)
      |(go_at_call 118;(with_reducible refine (HW.out _ _ _ _).mono ?_);rintro e w3 ⟨rfl,hb4⟩;have hw3:=ai.next (a:=w) hw2 hb4;have hbw3:=ai.next (a:=_) hbw2 hb4)
      |(go_at_call 120;(with_reducible refine (HCL.out _ hw3).mono ?_);rintro e w4 ⟨v4,rfl,hown4,hb5⟩;have hw4:=ai.next (a:=w) hw3 hb5;have HO:=Lib.hid (And.intro hown4 hw3.size);clear hown4))
     go_ret2
     exact ⟨_,rfl,⟨fun h=>absurd rfl h,fun _=>fD HO.out.1 HO.out.2⟩,hw4⟩
  ·rw [if_neg hin] at hdef;rw [hdef];have hib:=oL hin;clear hdef hin
   go_enter Tryz.func114,Tryz.ntmps114
   go_wp2_with (first
    |(go_at_call 116;(with_reducible refine (HC.out _ hwb).mono ?_);rintro e w1 ⟨rfl,hb1⟩;have hw1:=ai.next (a:=w) hwb hb1;have hbw1:=ai.next (a:=_) hbb hb1)
    |(go_at_call 117;(with_reducible refine (HL.out _ hw1).mono ?_);rintro e w2 ⟨rfl,hb3⟩;have hw2:=ai.next (a:=w) hw1 hb3;have hbw2:=ai.next (a:=_) hbw1 hb3)
    |(go_at_call 118;(with_reducible refine (HW.out _ _ _ _).mono ?_);rintro e w3 ⟨rfl,hb4⟩;have hw3:=ai.next (a:=w) hw2 hb4))
   go_ret2
   exact ⟨_,rfl,⟨fun _=>rfl,fun h=>absurd h (by decide)⟩,hw3⟩
 ·rw [if_neg hm] at hch hdef;rw [hdef];have HC:=Lib.hid hch;clear hch hlo hm hdef
  go_enter Tryz.func114,Tryz.ntmps114
  go_wp2_with (first
   |(go_at_call 116;(with_reducible refine (HC.out _ hwb).mono ?_);rintro e w1 ⟨rfl,hb1⟩;have hw1:=ai.next (a:=w) hwb hb1))
  go_ret2
  exact ⟨_,rfl,⟨fun _=>rfl,fun h=>absurd h (by decide)⟩,hw1⟩
def zd (l:List Oper):Bool:=(List.range l.length).all fun i=>match l[i]? with
 |none=>false
 |some o=>o.after.toList.all fun e=> !Region.binds .any e||decide (e.on<i)
section
variable {P:Program} {Q:Exit→Act→World→Prop} {n:Fr} {L:List (Nat×Value)} {w:World} {l:List Oper}
def zx (o:Oper):Oper:={ o with guard:=none }
def gdB (n:Fr) (T:List (Nat×Nat×Value)) (l:List Oper) (o:Oper):Bool:=match o.guard with
 |none=>true
 |some (j,b)=>o.after.toList.any (fun e=>e.on==j&&Region.binds .any e)&&match T.find? fun p=>p.1==j with
  |some (_,t,.bool x)=>(x==b)&&(match jt l j with | some t'=>t'==t&&Nat.blt t n.n | none=>false)
  |_=>false
end
end Go.Proofs.YtkpooenofjdpmaaGreat
namespace Go.Proofs.YtkpooenofjdpmaaGreat
open Go.Proofs.Tryz (prog)
open Go.RowKit
abbrev PT:=List (Nat×Nat×((Nat→Bool)→Value→World→Prop))
def lP (L:List (Nat×Value)) (T:PT) (S:Nat→Bool) (L':List (Nat×Value)) (w:World):Prop:=
 (∀ t,(∀ p∈T,p.2.1≠t)→bc L' t=bc L t)∧(∀ p∈T,S p.1=true→p.2.2 S (bc L' p.2.1) w)∧∀ p∈T,S p.1=false→bc L' p.2.1=bc L p.2.1
def lh:List (Nat×Nat)→Prop
 |[]=>True
 |p::r=>(∀ q∈r,q.1≠p.1∧q.2≠p.2)∧lh r
def tP:List (Nat×Nat)→Bool
 |[]=>true
 |p::r=>(r.all fun q=> !(Nat.beq q.1 p.1)&&!(Nat.beq q.2 p.2))&&tP r
theorem uB {a b:Nat}:Nat.beq a b=false↔a≠b:=by
 refine ⟨fun h e=>?_,fun h=>?_⟩
 ·subst e;rw [Nat.beq_refl] at h;cases h
 ·rcases hb:Nat.beq a b with _ | _
  ·rfl
  ·exact absurd (Nat.eq_of_beq_eq_true hb) h
theorem lV:∀ {l:List (Nat×Nat)},tP l=true→lh l
 |[],_=>trivial
 |p::r,h=>by
  simp only [tP,Bool.and_eq_true,List.all_eq_true,Bool.not_eq_true',uB] at h;exact ⟨fun q hq=>h.1 q hq,lV h.2⟩
theorem lW:∀ {T:PT},lh (T.map fun p=>(p.1,p.2.1))→∀ {p q:Nat×Nat×((Nat→Bool)→Value→World→Prop)},p∈T→q∈T→p.1=q.1∨p.2.1=q.2.1→p=q
 |_::_,⟨h1,h2⟩,p,q,hp,hq,he=>by
  rcases List.mem_cons.1 hp with rfl | hp' <;> rcases List.mem_cons.1 hq with rfl | hq'
  ·rfl
  ·rcases he with e | e
   ·exact absurd e.symm (h1 _ (List.mem_map_of_mem (f:=fun p=>(p.1,p.2.1)) hq')).1
   ·exact absurd e.symm (h1 _ (List.mem_map_of_mem (f:=fun p=>(p.1,p.2.1)) hq')).2
  ·rcases he with e | e
   ·exact absurd e (h1 _ (List.mem_map_of_mem (f:=fun p=>(p.1,p.2.1)) hp')).1
   ·exact absurd e (h1 _ (List.mem_map_of_mem (f:=fun p=>(p.1,p.2.1)) hp')).2
  ·exact lW h2 hp' hq' he
theorem lP.get {L:List (Nat×Value)} {T:PT} {S:Nat→Bool} {L':List (Nat×Value)} {w:World} {i d:Nat} {R:(Nat→Bool)→Value→World→Prop} (h:lP L T S L' w) (hp:(i,d,R)∈T) (hs:S i=true):∃ v,bc L' d=v∧R S v w:=⟨_,rfl,h.2.1 _ hp hs⟩
theorem en {S:Nat→Bool} {i k:Nat} (h:di S i k=false):S k=false:=by
 unfold di at h;split at h
 ·cases h
 ·exact h
theorem jn {S:Nat→Bool} {i k:Nat} (hk:k≠i) (h:di S i k=true):S k=true:=by
 unfold di at h
 rwa [if_neg hk] at h
theorem dS (S:Nat→Bool) (i:Nat):di S i i=true:=by unfold di;rw [if_pos rfl]
theorem ek {S:Nat→Bool} {i k:Nat} (hk:k≠i):di S i k=S k:=by unfold di;rw [if_neg hk]
def lM (Mu:List Nat):PT→Prop
 |[]=>True
 |p::r=>(∀ S i v w1 w2,Mu.elem i=false→ai w1 w2→p.2.2 S v w1→p.2.2 (di S i) v w2)∧lM Mu r
def ChP (i:Nat) (S:Nat→Bool) (w1 w2:World):PT→Prop
 |[]=>True
 |p::r=>(Nat.beq p.1 i=false→S p.1=true→∀ v,p.2.2 S v w1→p.2.2 (di S i) v w2)∧ChP i S w1 w2 r
theorem pJ {Mu:List Nat}:∀ {T:PT},lM Mu T→∀ p∈T,∀ S i v w1 w2,Mu.elem i=false→ai w1 w2→p.2.2 S v w1→p.2.2 (di S i) v w2
 |_::_,⟨h1,h2⟩,p,hp=>by
  rcases List.mem_cons.1 hp with rfl | hp
  ·exact h1
  ·exact pJ h2 p hp
theorem vf {i:Nat} {S:Nat→Bool} {w1 w2:World}:∀ {T:PT},ChP i S w1 w2 T→∀ p∈T,p.1≠i→S p.1=true→∀ v,p.2.2 S v w1→p.2.2 (di S i) v w2
 |_::_,⟨h1,h2⟩,p,hp=>by
  rcases List.mem_cons.1 hp with rfl | hp
  ·exact fun hne=>h1 (by rw [uB];exact hne)
  ·exact vf h2 p hp
theorem lP.next {L:List (Nat×Value)} {T:PT} {S:Nat→Bool} {L':List (Nat×Value)} {w w':World} {i d:Nat} {v:Value} {R:(Nat→Bool)→Value→World→Prop} (h:lP L T S L' w) (hU:lh (T.map fun p=>(p.1,p.2.1))) (hp:(i,d,R)∈T) (hR:R (di S i) v w')
 (hst:∀ p∈T,p.1≠i→S p.1=true→∀ v,p.2.2 S v w→p.2.2 (di S i) v w'):lP L T (di S i) ((d,v)::L') w':=by
 refine ⟨fun t ht=>?_,fun p hq hs=>?_,fun p hq hs=>?_⟩
 ·rw [b_,if_neg (fun e=>ht _ hp e.symm)];exact h.1 t ht
 ·rw [b_];by_cases e:p.2.1=d
  ·rw [if_pos e,lW hU hq hp (.inr e)];exact hR
  ·rw [if_neg e];have e2:p.1≠i:=fun e2=>e (congrArg (·.2.1) (lW hU hq hp (.inl e2)))
   have hs':=jn e2 hs;exact hst p hq e2 hs' _ (h.2.1 p hq hs')
 ·have hs':=en hs;have e2:p.1≠i:=fun e2=>by rw [e2,dS] at hs;cases hs
  rw [b_,if_neg (fun e=>e2 (congrArg (·.1) (lW hU hq hp (.inr e))))];exact h.2.2 p hq hs'
def qU (L':List (Nat×Value)):List (Nat×Value)→Prop
 |[]=>True
 |(t,v)::r=>bc L' t=v∧qU L' r
theorem n8 {L':List (Nat×Value)}:∀ {M:List (Nat×Value)},qU L' M→∀ t,(M.map Prod.fst).elem t=true→bc M t=bc L' t
 |(k,v)::r,⟨h1,h2⟩,t,ht=>by
  rw [b_];by_cases e:t=k
  ·rw [if_pos e,e,h1]
  ·rw [if_neg e];refine n8 h2 t ?_;simpa [e] using ht
section
variable {P:Program} {Q:Exit→Act→World→Prop} {n:Fr} {L L' M:List (Nat×Value)} {w w' w'':World} {l:List Oper} {T:PT} {Mem:(Nat→Bool)→World→Prop} {Mu:List Nat} {S:Nat→Bool} {op:Op} {ty:TypeId} {pos:String} {after:Array Edge} {i d:Nat} {v:Value} {R:(Nat→Bool)→Value→World→Prop}
theorem jx {dst:Option Nat} (hs:de op=false) (hk:(((⟨dst,op,ty,pos,after,none⟩:Oper).looksAt #[]).all fun t=>(M.map Prod.fst).elem t)=true) (hag:qU L' M):execOp (ev n L') ⟨dst,op,ty,pos,after,none⟩=execOp (ev n M) ⟨dst,op,ty,pos,after,none⟩:=by
 have h:∀ t,((⟨dst,op,ty,pos,after,none⟩:Oper).looksAt #[]).elem t=true→bc M t=bc L' t:=fun t ht=>
  n8 hag t (List.all_eq_true.1 hk t (List.elem_iff.1 ht))
 exact (eT (n:=n) (ops:=#[]) (o:=⟨dst,op,ty,pos,after,none⟩) hs h).1.symm
abbrev qa (P:Program) (n:Fr) (L:List (Nat×Value)) (T:PT) (Mem:(Nat→Bool)→World→Prop) (S:Nat→Bool) (i:Nat) (o:Oper) (L':List (Nat×Value)) (w':World):Prop:=iE P n o (fun L2 w2=>lP L T (di S i) L2 w2∧Mem (di S i) w2) L' w'
theorem uv (hmo:lM Mu T) (hq:Mu.elem i=false) (hF:ai w' w''):∀ p∈T,p.1≠i→S p.1=true→∀ v,p.2.2 S v w'→p.2.2 (di S i) v w'':=fun p hp _ _ v h=>pJ hmo p hp S i v w' w'' hq hF h
theorem az (M:List (Nat×Value)) (hU:lh (T.map fun p=>(p.1,p.2.1))) (hmo:lM Mu T) (hme:∀ S i w1 w2,Mu.elem i=false→ai w1 w2→Mem S w1→Mem (di S i) w2) (hI:lP L T S L' w') (hM:Mem S w') (hp:(i,d,R)∈T) (hq:Mu.elem i=false)
 (hs:de op=false) (hk:(((⟨some d,op,ty,pos,after,none⟩:Oper).looksAt #[]).all fun t=>(M.map Prod.fst).elem t)=true) (hag:qU L' M) (hr:RO P (ev n M) op w' v w'') (hF:ai w' w'') (hR:R (di S i) v w''):qa P n L T Mem S i ⟨some d,op,ty,pos,after,none⟩ L' w':=
 .inl ⟨d,v,w'',rfl,by rw [jx hs hk hag];exact hr _ _ _ _ _,hI.next hU hp hR (uv hmo hq hF),hme S i _ _ hq hF hM⟩
theorem q7 (M:List (Nat×Value)) {f:FuncId} {al:List Operand} {ats:Array TypeId} (hU:lh (T.map fun p=>(p.1,p.2.1))) (hmo:lM Mu T) (hme:∀ S i w1 w2,Mu.elem i=false→ai w1 w2→Mem S w1→Mem (di S i) w2) (hI:lP L T S L' w') (hM:Mem S w') (hp:(i,d,R)∈T) (hq:Mu.elem i=false)
 (hk:(((⟨some d,.call { callee:=.value (.func f),args:=al.toArray,argTypes:=ats },ty,pos,after,none⟩:Oper).looksAt #[]).all fun t=>(M.map Prod.fst).elem t)=true) (hag:qU L' M) (hf:aN P f=true) (hc:Rt P f (al.map (ev n M)) w' fun v w''=>ai w' w''∧R (di S i) v w'') :
 qa P n L T Mem S i ⟨some d,.call { callee:=.value (.func f),args:=al.toArray,argTypes:=ats },ty,pos,after,none⟩ L' w':=
 .inr (.inr ⟨d,f,al.map (ev n M),rfl,by rw [jx rfl hk hag,gd (fun _=>rfl),iN hf],Calls.mono hc fun e w2 ⟨v,he,hF,hR⟩=>⟨v,he,hI.next hU hp hR (uv hmo hq hF),hme S i _ _ hq hF hM⟩⟩)
theorem df (M:List (Nat×Value)) {f:FuncId} {al:List Operand} {ats:Array TypeId} (hU:lh (T.map fun p=>(p.1,p.2.1))) (hI:lP L T S L' w') (hp:(i,d,R)∈T)
 (hk:(((⟨some d,.call { callee:=.value (.func f),args:=al.toArray,argTypes:=ats },ty,pos,after,none⟩:Oper).looksAt #[]).all fun t=>(M.map Prod.fst).elem t)=true) (hag:qU L' M) (hf:aN P f=true) (hc:Rt P f (al.map (ev n M)) w' fun v w''=>Mem (di S i) w''∧R (di S i) v w''∧ChP i S w' w'' T) :
 qa P n L T Mem S i ⟨some d,.call { callee:=.value (.func f),args:=al.toArray,argTypes:=ats },ty,pos,after,none⟩ L' w':=
 .inr (.inr ⟨d,f,al.map (ev n M),rfl,by rw [jx rfl hk hag,gd (fun _=>rfl),iN hf],Calls.mono hc fun e w2 ⟨v,he,hM,hR,hC⟩=>⟨v,he,hI.next hU hp hR (vf hC),hM⟩⟩)
def wQ (S:Nat→Bool) (w:World):PT→(List (Nat×Value)→Prop)→Prop
 |[],K=>K []
 |p::r,K=>∀ v,p.2.2 S v w→wQ S w r fun M=>K ((p.2.1,v)::M)
theorem dY {S:Nat→Bool} {w:World} {K:List (Nat×Value)→Prop} (h:K []):wQ S w [] K:=h
theorem sL {S:Nat→Bool} {w:World} (ρ:Nat→Value):∀ (l:PT) {K:List (Nat×Value)→Prop},(∀ p∈l,p.2.2 S (ρ p.2.1) w)→wQ S w l K→K (l.map fun p=>(p.2.1,ρ p.2.1))
 |[],_,_,h=>h
 |p::r,_,hr,h=>sL ρ r (fun e he=>hr e (List.mem_cons_of_mem _ he)) (h (ρ p.2.1) (hr p (List.mem_cons_self ..)))
theorem th (ρ:Nat→Value) (T:PT) (L:List (Nat×Value)) (t:Nat):((∃ p∈T,p.2.1=t)∧bc (T.map (fun p=>(p.2.1,ρ p.2.1))++L) t=ρ t)∨((∀ p∈T,p.2.1≠t)∧bc (T.map (fun p=>(p.2.1,ρ p.2.1))++L) t=bc L t):=by
 induction T with
 |nil=>exact .inr ⟨fun p hp=>by simp at hp,rfl⟩
 |cons q r ih=>
  rw [List.map_cons,List.cons_append,b_];by_cases e:t=q.2.1
  ·rw [if_pos e,←e];exact .inl ⟨⟨q,.head _,e.symm⟩,rfl⟩
  ·rw [if_neg e];rcases ih with ⟨⟨p,hp,h1⟩,h2⟩ | ⟨h1,h2⟩
   ·exact .inl ⟨⟨p,.tail _ hp,h1⟩,h2⟩
   ·refine .inr ⟨fun p hp=>?_,h2⟩;rcases List.mem_cons.1 hp with rfl | hp2
    ·exact fun e2=>e e2.symm
    ·exact h1 p hp2
theorem dy {T:PT} {t:Nat} (h:(T.map fun p=>p.2.1).elem t=false):∀ p∈T,p.2.1≠t:=fun p hp e=>by
 have:t∈T.map fun p=>p.2.1:=List.mem_map.2 ⟨p,hp,e⟩
 rw [List.elem_eq_mem,decide_eq_false_iff_not] at h;exact h this
theorem iE.mono {o:Oper} {I1 I2:List (Nat×Value)→World→Prop} (hi:∀ L2 w2,I1 L2 w2→I2 L2 w2) (h:iE P n o I1 L' w'):iE P n o I2 L' w':=by
 rcases h with ⟨d,v,w2,h1,h2,h3⟩ | ⟨w2,h1,h2,h3⟩ | ⟨d,f,args,h1,h2,h3⟩
 ·exact .inl ⟨d,v,w2,h1,h2,hi _ _ h3⟩
 ·exact .inr (.inl ⟨w2,h1,h2,hi _ _ h3⟩)
 ·exact .inr (.inr ⟨d,f,args,h1,h2,Calls.mono h3 fun e w2 ⟨v,he,h⟩=>⟨v,he,hi _ _ h⟩⟩)
def gP (l:List Oper) (S:Nat→Bool):Prop:=∀ j o,l[j]? =some o→S j=true→∀ e∈o.after,Region.binds .any e=true→S e.on=true
theorem af {j i:Nat} {o:Oper} (hC:gP l S) (ho:l[j]? =some o) (he:(o.after.toList.any fun e=>Region.binds .any e&&Nat.beq e.on i)=true) (hS:S i=false):S j=false:=by
 rcases hj:S j with _ | _
 ·rfl
 ·obtain ⟨e,h1,h2⟩:=List.any_eq_true.1 he;rw [Bool.and_eq_true] at h2;have:=hC j o ho hj e (by simpa using h1) h2.1;rw [Nat.eq_of_beq_eq_true h2.2,hS] at this;cases this
theorem lB {i:Nat} {o:Oper} (hC:gP l S) (ho:l[i]? =some o) (hE:∀ e∈o.after,Region.binds .any e=true→S e.on=true):gP l (di S i):=fun j o' hj hs e he hb=>by
 have up:∀ k,S k=true→di S i k=true:=fun k hk=>by
  unfold di;split
  ·rfl
  ·exact hk
 by_cases hji:j=i
 ·subst hji;rw [ho] at hj;cases hj;exact up _ (hE e he hb)
 ·exact up _ (hC j o' hj (jn hji hs) e he hb)
def r5 (P:Program) (n:Fr) (L:List (Nat×Value)) (T:PT) (Mu:List Nat) (Mem:(Nat→Bool)→World→Prop) (l:List Oper):Nat→List Oper→Prop
 |_,[]=>True
 |i,o::r=>(∀ S L' w',lh (T.map fun p=>(p.1,p.2.1))→lM Mu T→(∀ S i w1 w2,Mu.elem i=false→ai w1 w2→Mem S w1→Mem (di S i) w2)→lP L T S L' w'→Mem S w'→gP l S→S i=false→gO S o.after.toList→qa P n L T Mem S i o L' w')∧r5 P n L T Mu Mem l (i+1) r
theorem nG {L0:List (Nat×Value)} {l0:List Oper}:∀ {r:List Oper} {k:Nat},r5 P n L0 T Mu Mem l0 k r→lh (T.map fun p=>(p.1,p.2.1))→lM Mu T→(∀ S i w1 w2,Mu.elem i=false→ai w1 w2→Mem S w1→Mem (di S i) w2)→∀ (i:Nat) (o:Oper),r[i]? =some o→∀ S L' w',lP L0 T S L' w'→Mem S w'→gP l0 S→S (k+i)=false→gO S o.after.toList→qa P n L0 T Mem S (k+i) o L' w'
 |[],_,_,_,_,_,i,o,h=>by simp at h
 |x::r,k,⟨h1,h2⟩,a,b,c,0,o,h=>by
  simp only [List.getElem?_cons_zero,Option.some.injEq] at h;subst h;exact fun S L' w'=>h1 S L' w' a b c
 |x::r,k,⟨h1,h2⟩,a,b,c,i+1,o,h=>by
  have:=nG h2 a b c i o (by simpa using h)
  rwa [show k+1+i=k+(i+1) by omega] at this
theorem eE {id:Nat} (T:PT) (Mu:List Nat) (Mem:(Nat→Bool)→World→Prop) (hm:P.follows .mixedOrders=true) (hwf:mU l=true) (hlt:(T.all fun p=>Nat.blt p.1 l.length)=true) (hU:tP (T.map fun p=>(p.1,p.2.1))=true) (hmo:lM Mu T) (hme:∀ S i w1 w2,Mu.elem i=false→ai w1 w2→Mem S w1→Mem (di S i) w2) (h0:Mem (fun _=>false) { w with drawn:=w.drawn+1 })
 (hstep:r5 P n L T Mu Mem l 0 l) (hend:∀ w',Mem (fun i=>decide (i<l.length)) w'→wQ (fun i=>decide (i<l.length)) w' T fun M=>Q .normal (mkA n (M++L)) w'):Cd P (.region id l.toArray true) Q n L w:=
 rP (fun S L' w'=>lP L T S L' w'∧Mem S w'∧gP l S) hm hwf ⟨⟨fun _ _=>rfl,fun _ _ h=>(by cases h),fun _ _ _=>rfl⟩,h0,fun _ _ _ h=>by cases h⟩ (fun i o S L' w' ho ⟨hI,hM,hC⟩ hS hE=>by
  have:=nG hstep (lV hU) hmo hme i o ho S L' w' hI hM hC (by rw [Nat.zero_add];exact hS) (kE fun e he=>hE e (by simpa using he));rw [Nat.zero_add] at this;exact iE.mono (fun L2 w2 h=>⟨h.1,h.2,lB hC ho hE⟩) this) fun L' w' ⟨hI,hM,_⟩=>by
  have hlt':∀ p∈T,p.1<l.length:=fun p hp=>by
   have:=List.all_eq_true.1 hlt p hp;exact Nat.le_of_ble_eq_true this
  have h:=sL (bc L') T (fun p hp=>hI.2.1 p hp (decide_eq_true (hlt' p hp))) (hend w' hM)
  have e:mkA n L'=mkA n (T.map (fun p=>(p.2.1,bc L' p.2.1))++L):=by
   unfold mkA;rw [jO fun t _=>?_];rcases th (bc L') T L t with ⟨_,h2⟩ | ⟨h1,h2⟩
   ·exact h2.symm
   ·rw [h2];exact hI.1 t h1
  rw [e];exact h
end
end Go.Proofs.YtkpooenofjdpmaaGreat
namespace Go.Proofs.YtkpooenofjdpmaaGreat
open Go.Proofs.Tryz (prog)
open Go.RowKit
def GdP (n:Fr) (T:PT) (l0:List Oper):List Oper→Prop
 |[]=>True
 |o::r=>(match o.guard with
  |none=>True
  |some (j,b)=>o.after.toList.any (fun e=>e.on==j&&Region.binds .any e)=true∧∃ t R,(j,t,R)∈T∧jt l0 j=some t∧Nat.blt t n.n=true∧∀ S v w,R S v w→v=.bool b)∧GdP n T l0 r
end Go.Proofs.YtkpooenofjdpmaaGreat
namespace Go.Proofs.YtkpooenofjdpmaaGreat
open Go.Proofs.Tryz (prog)
open Go.RowKit
open Go.ChangeShapes Go.WideShapes Go.ChangeAt
theorem bp:iJ prog 39=some true:=by kernel_rfl
theorem bg:dr prog 39=some 13:=by kernel_rfl
theorem nh:gA prog 48=some (39,13,128,(.agg #[.int .i64 0,.int .i64 0,.int .i64 0,.int .i64 0,.int .i64 0,.int .i64 0,.int .i64 0,.int .i64 0,.bool false,.slice none 0 0,.int .i64 0,.string ⟨#[]⟩,.bool false]:Value)):=by kernel_rfl
theorem ki:iJ prog 48=some false:=by kernel_rfl
theorem ay:cd prog 96 0=some 0:=by kernel_rfl
theorem bE:cd prog 29 3=some 3:=by kernel_rfl
theorem bx:cd prog 39 1=some 1:=by kernel_rfl
theorem ft:cd prog 39 2=some 2:=by kernel_rfl
theorem bG:cd prog 39 3=some 3:=by kernel_rfl
theorem gL:cd prog 96 1=some 22:=by kernel_rfl
theorem sa:dr prog 48=some 1:=by kernel_rfl
theorem tE:prog.underlying 9=some .string:=by kernel_rfl
theorem fi:aN prog 113=true:=by kernel_rfl
theorem ch:cd prog 29 13=some 15:=by kernel_rfl
theorem bj:iJ prog 26=some false:=by kernel_rfl
theorem dc:cd prog 29 15=some 17:=by kernel_rfl
theorem dD:cd prog 29 7=some 9:=by kernel_rfl
theorem bQ:iJ prog 9=some false:=by kernel_rfl
theorem kI:cd prog 24 1=some 1:=by kernel_rfl
theorem eW:cd prog 29 16=some 18:=by kernel_rfl
theorem fy:∀ (a0:Int) (a1:Int) (a2:Int) (a3:Int) (a4:ByteArray) (a5:Bool),prog.built 39 [(0,.int .i64 5),(4,.int .i64 a0),(5,.int .i64 a1),(10,.int .i64 a3),(11,.string a4),(12,.bool a5),(7,.int .i64 a2)]=some #[.int .i64 5,.int .i64 0,.int .i64 0,.int .i64 0,.int .i64 a0,.int .i64 a1,.int .i64 0,.int .i64 a2,.bool false,.slice none 0 0,.int .i64 a3,.string a4,.bool a5]:=by intros;kernel_rfl
theorem qt:aN prog 114=true:=by kernel_rfl
theorem jg:aN prog 83=true:=by kernel_rfl
theorem cC:cd prog 29 8=some 10:=by kernel_rfl
theorem gj:∀ (a0:Int) (a1:Int) (a2:Int) (a3:Int) (a4:Option Addr) (a5 a6:Nat),prog.built 39 [(0,.int .i64 3),(4,.int .i64 a0),(5,.int .i64 a1),(6,.int .i64 a2),(9,.slice a4 a5 a6),(7,.int .i64 a3)]=some #[.int .i64 3,.int .i64 0,.int .i64 0,.int .i64 0,.int .i64 a0,.int .i64 a1,.int .i64 a2,.int .i64 a3,.bool false,.slice a4 a5 a6,.int .i64 0,.string ⟨#[]⟩,.bool false]:=by intros;kernel_rfl
theorem ka (w0:World) (Z:Nat→Prop) (T g:Nat) (p:Sp) (w:World) (h:aF w0 Z w T g p) (tag:Nat→Nat) (a:Ra) (O:Option Addr) (oc:Nat) (L:List Msg) (hs:eN w Z T g tag p a O oc L) (hl:L.length≤1000) (m:Msg) (to:Int) (hE:w.ownsRow 0 99 3 (.slice m.E m.es.length m.c) m.es.length (dV m.es)∧Col tag (1000+2*L.length) m.E) :
 Rt prog 113 [.pointer (some ⟨g,0,none⟩),.int .i64 to,.agg (bT m).toArray] w (fun v w'=>v=.tuple #[]∧aF w0 Z w' T g (p.tell (pl { m with t:=to }))):=by
 refine enter (n:=32) Tryz.func113 rfl rfl rfl (ao (ag (cj (v:=.agg _) rfl ?_)));intro b5 w1 E5 hb5 hk5;have hgb:=hs.b.lt;have h5:g≠b5:=by omega
 have hg5:w.heap.size≤b5:=Nat.le_of_eq hb5.symm;have hb0:=hs.b.from_ (ai.rfl_.next E5);refine aq (ah (ao ?_));have hU2:kg [(0,6,.pointer (some ⟨g,0,none⟩)),(1,7,.pointer (some ⟨g,0,none⟩)),(2,8,.pointer (some ⟨g,0+0,none⟩)),(3,9,.pointer (some ⟨g,0+0+0,none⟩)),(4,10,.pointer (some ⟨g,0+0+0+0,none⟩)),(5,11,.int .i64 p.s.id),(6,12,.int .i64 to),(7,13,.pointer (some ⟨g,0,none⟩)),(8,14,.pointer (some ⟨g,0,none⟩)),(9,15,.pointer (some ⟨g,0+0,none⟩)),(10,16,.pointer (some ⟨g,0+0+0,none⟩)),(11,17,.pointer (some ⟨g,0+0+0+3,none⟩)),(12,18,.int .i64 p.s.term),(13,19,.pointer (some ⟨b5,0+1,none⟩)),(15,20,.pointer (some ⟨b5,0+2,none⟩)),(17,21,.pointer (some ⟨b5,0+3,none⟩))]:=by simp [kg]
 refine l_ [(0,6,.pointer (some ⟨g,0,none⟩)),(1,7,.pointer (some ⟨g,0,none⟩)),(2,8,.pointer (some ⟨g,0+0,none⟩)),(3,9,.pointer (some ⟨g,0+0+0,none⟩)),(4,10,.pointer (some ⟨g,0+0+0+0,none⟩)),(5,11,.int .i64 p.s.id),(6,12,.int .i64 to),(7,13,.pointer (some ⟨g,0,none⟩)),(8,14,.pointer (some ⟨g,0,none⟩)),(9,15,.pointer (some ⟨g,0+0,none⟩)),(10,16,.pointer (some ⟨g,0+0+0,none⟩)),(11,17,.pointer (some ⟨g,0+0+0+3,none⟩)),(12,18,.int .i64 p.s.term),(13,19,.pointer (some ⟨b5,0+1,none⟩)),(15,20,.pointer (some ⟨b5,0+2,none⟩)),(17,21,.pointer (some ⟨b5,0+3,none⟩))] (fun S w'=>Blk w' g T (rfV p.s a++[Value.slice O L.length oc]).toArray∧Blk w' b5 39 #[.int .i64 m.k,.int .i64 (bif S 14 then p.s.id else m.f),.int .i64 (bif S 16 then to else m.t),.int .i64 (bif S 18 then p.s.term else m.tm),.int .i64 m.ix,.int .i64 m.lt,.int .i64 m.cm,.int .i64 m.rd,.bool m.ok,.slice m.E m.es.length m.c,.int .i64 m.a,.string m.d,.bool m.dn]∧ai w w') (by kernel_rfl) (by kernel_rfl) hU2 (by simp) (⟨hb0.from_ ((ai.rfl_).d1),hk5.from_ ((ai.rfl_).d1),((ai.rfl_.next E5)).d1⟩) ?_ ?_
 ·constructor
  ·rintro S L' wS hI hM hS0 ⟨-⟩;have e0:=hI.1 0 (by simp);have hM':=hM;obtain ⟨hgB,hX,hB⟩:=hM';exact bu (aC e0) ⟨hI.put hU2 (.head _),hM⟩
  constructor
  ·rintro S L' wS hI hM hS0 ⟨d0,-⟩;have e6:bc L' 6=.pointer (some ⟨g,0,none⟩):=hI.get (i:=0) (.head _) d0;have hM':=hM;obtain ⟨hgB,hX,hB⟩:=hM';exact bu (av e6) ⟨hI.put hU2 (.tail _ (.head _)),hM⟩
  constructor
  ·rintro S L' wS hI hM hS0 ⟨d1,-⟩;have e7:bc L' 7=.pointer (some ⟨g,0,none⟩):=hI.get (i:=1) (.tail _ (.head _)) d1;have hM':=hM;obtain ⟨hgB,hX,hB⟩:=hM';exact bu (aa ay e7) ⟨hI.put hU2 (gM 2 rfl),hM⟩
  constructor
  ·rintro S L' wS hI hM hS0 ⟨d2,-⟩;have e8:bc L' 8=.pointer (some ⟨g,0+0,none⟩):=hI.get (i:=2) (gM 2 rfl) d2;have hM':=hM;obtain ⟨hgB,hX,hB⟩:=hM';exact bu (aa aw e8) ⟨hI.put hU2 (gM 3 rfl),hM⟩
  constructor
  ·rintro S L' wS hI hM hS0 ⟨d3,-⟩;have e9:bc L' 9=.pointer (some ⟨g,0+0+0,none⟩):=hI.get (i:=3) (gM 3 rfl) d3;have hM':=hM;obtain ⟨hgB,hX,hB⟩:=hM';exact bu (aa dK e9) ⟨hI.put hU2 (gM 4 rfl),hM⟩
  constructor
  ·rintro S L' wS hI hM hS0 ⟨d4,-⟩;have e10:bc L' 10=.pointer (some ⟨g,0+0+0+0,none⟩):=hI.get (i:=4) (gM 4 rfl) d4;have hM':=hM;obtain ⟨hgB,hX,hB⟩:=hM';exact bu (au ak e10 (by exact cB hgB 0 rfl)) ⟨hI.put hU2 (gM 5 rfl),hM⟩
  constructor
  ·rintro S L' wS hI hM hS0 ⟨-,-⟩;have e1:=hI.1 1 (by simp);have hM':=hM;obtain ⟨hgB,hX,hB⟩:=hM';exact bu (aC e1) ⟨hI.put hU2 (gM 6 rfl),hM⟩
  constructor
  ·rintro S L' wS hI hM hS0 ⟨-,-⟩;have e0:=hI.1 0 (by simp);have hM':=hM;obtain ⟨hgB,hX,hB⟩:=hM';exact bu (aC e0) ⟨hI.put hU2 (gM 7 rfl),hM⟩
  constructor
  ·rintro S L' wS hI hM hS0 ⟨d7,-,-⟩;have e13:bc L' 13=.pointer (some ⟨g,0,none⟩):=hI.get (i:=7) (gM 7 rfl) d7;have hM':=hM;obtain ⟨hgB,hX,hB⟩:=hM';exact bu (av e13) ⟨hI.put hU2 (gM 8 rfl),hM⟩
  constructor
  ·rintro S L' wS hI hM hS0 ⟨d8,-,-⟩;have e14:bc L' 14=.pointer (some ⟨g,0,none⟩):=hI.get (i:=8) (gM 8 rfl) d8;have hM':=hM;obtain ⟨hgB,hX,hB⟩:=hM';exact bu (aa ay e14) ⟨hI.put hU2 (gM 9 rfl),hM⟩
  constructor
  ·rintro S L' wS hI hM hS0 ⟨d9,-,-⟩;have e15:bc L' 15=.pointer (some ⟨g,0+0,none⟩):=hI.get (i:=9) (gM 9 rfl) d9;have hM':=hM;obtain ⟨hgB,hX,hB⟩:=hM';exact bu (aa aw e15) ⟨hI.put hU2 (gM 10 rfl),hM⟩
  constructor
  ·rintro S L' wS hI hM hS0 ⟨d10,-,-⟩;have e16:bc L' 16=.pointer (some ⟨g,0+0+0,none⟩):=hI.get (i:=10) (gM 10 rfl) d10;have hM':=hM;obtain ⟨hgB,hX,hB⟩:=hM';exact bu (aa bE e16) ⟨hI.put hU2 (gM 11 rfl),hM⟩
  constructor
  ·rintro S L' wS hI hM hS0 ⟨d11,-,-⟩;have e17:bc L' 17=.pointer (some ⟨g,0+0+0+3,none⟩):=hI.get (i:=11) (gM 11 rfl) d11;have hM':=hM;obtain ⟨hgB,hX,hB⟩:=hM';exact bu (au ak e17 (by exact cB hgB 3 rfl)) ⟨hI.put hU2 (gM 12 rfl),hM⟩
  constructor
  ·rintro S L' wS hI hM hS0 ⟨d0,d1,d2,d3,d4,d5,-,-,-,-,-,-,-,-⟩;have e5:=hI.1 5 (by simp);have hM':=hM;obtain ⟨hgB,hX,hB⟩:=hM';exact bu (aa bx e5) ⟨hI.put hU2 (gM 13 rfl),hM⟩
  constructor
  ·rintro S L' wS hI hM hS0 ⟨d13,d5,d0,d1,d2,d3,d4,d5,-,-,-,-,-,-,-,-⟩;have e11:bc L' 11=.int .i64 p.s.id:=hI.get (i:=5) (gM 5 rfl) d5;have e19:bc L' 19=.pointer (some ⟨b5,0+1,none⟩):=hI.get (i:=13) (gM 13 rfl) d13;have hM':=hM;obtain ⟨hgB,hX,hB⟩:=hM';obtain ⟨w2,hR,hO,hb⟩:=j9 (n:=32) (L:=L') (x:=.tmp 19) (y:=.tmp 11) bh e19 e11 rfl hX (by simp);exact iy hR ⟨hI.skip (by simp),hgB.only hO h5,hb,hB.only hO hg5⟩
  constructor
  ·rintro S L' wS hI hM hS0 ⟨d0,d1,d2,d3,d4,d5,d6,-,-,-,-,-,-,d13,d14,-⟩;have e5:=hI.1 5 (by simp);have hM':=hM;obtain ⟨hgB,hX,hB⟩:=hM';exact bu (aa ft e5) ⟨hI.put hU2 (gM 14 rfl),hM⟩
  constructor
  ·rintro S L' wS hI hM hS0 ⟨d15,d6,d14,d0,d1,d2,d3,d4,d5,d6,-,-,-,-,-,-,d13,d14,-⟩;have e12:bc L' 12=.int .i64 to:=hI.get (i:=6) (gM 6 rfl) d6;have e20:bc L' 20=.pointer (some ⟨b5,0+2,none⟩):=hI.get (i:=15) (gM 14 rfl) d15;have hM':=hM;obtain ⟨hgB,hX,hB⟩:=hM';obtain ⟨w2,hR,hO,hb⟩:=j9 (n:=32) (L:=L') (x:=.tmp 20) (y:=.tmp 12) bh e20 e12 rfl hX (by simp);exact iy hR ⟨hI.skip (by simp),hgB.only hO h5,hb,hB.only hO hg5⟩
  constructor
  ·rintro S L' wS hI hM hS0 ⟨d0,d1,d2,d3,d4,d5,d6,d7,d8,d9,d10,d11,d12,d13,d14,d15,d16,-⟩;have e5:=hI.1 5 (by simp);have hM':=hM;obtain ⟨hgB,hX,hB⟩:=hM';exact bu (aa bG e5) ⟨hI.put hU2 (gM 15 rfl),hM⟩
  constructor
  ·rintro S L' wS hI hM hS0 ⟨d17,d12,d16,d0,d1,d2,d3,d4,d5,d6,d7,d8,d9,d10,d11,d12,d13,d14,d15,d16,-⟩;have e18:bc L' 18=.int .i64 p.s.term:=hI.get (i:=12) (gM 12 rfl) d12;have e21:bc L' 21=.pointer (some ⟨b5,0+3,none⟩):=hI.get (i:=17) (gM 15 rfl) d17;have hM':=hM;obtain ⟨hgB,hX,hB⟩:=hM';obtain ⟨w2,hR,hO,hb⟩:=j9 (n:=32) (L:=L') (x:=.tmp 21) (y:=.tmp 18) bh e21 e18 rfl hX (by simp);exact iy hR ⟨hI.skip (by simp),hgB.only hO h5,hb,hB.only hO hg5⟩
  exact trivial
 ·intro w3 hM;obtain ⟨hgB,hX,hB⟩:=hM;have hB1:=hB;replace hX:Blk w3 b5 39 (bT { m with f:=p.s.id,t:=to,tm:=p.s.term }).toArray:=hX;refine ah ?_;apply vg 8 7 [28] [(22,eqp _),(23,eqp _),(24,eqp _),(25,eqp _),(26,eqp (.slice O L.length oc)),(27,eqp (.agg (bT { m with f:=p.s.id,t:=to,tm:=p.s.term }).toArray)),(28,fun v w'=>∃ q,v=.slice (some ⟨q,0,none⟩) 1 1∧Blk w' q 39 (bT { m with f:=p.s.id,t:=to,tm:=p.s.term }).toArray),(29,fun v w'=>∃ A2 c2,v=.slice A2 (L.length+1) c2∧w'.ownsRow 0 39 13 (.slice A2 (L.length+1) c2) (L.length+1) (L.flatMap bT++bT { m with f:=p.s.id,t:=to,tm:=p.s.term })∧(∀ k,A2.map (·.block)=some k→O.map (·.block)=some k∨(w3).heap.size≤k))] (fun w'=>ai w3 w') (fun w'=>(w3).grownBy w' (O.map (·.block))) (by repeat first | exact bN | refine bM ?_ | refine bB ?_) (by kernel_rfl) (by kernel_rfl) (by kernel_rfl) ⟨ae _,ae _,ae _,ae _,ae _,ae _,(fun _ _ _ hF ⟨q,h1,h2⟩=>⟨q,h1,h2.from_ hF⟩),(fun _ _ _ hF ⟨A2,c2,h1,h2,h3⟩=>⟨A2,c2,h1,h2.kept_from hF,h3⟩),trivial⟩ (ai.rfl_.d1) (ai.rfl_.d1.grown _) (fun _ _ hF h=>h.next hF) (fun _ _ hF h=>eb h (hF.grown _))
  case hop=>
   constructor
   ·rintro-w5 hG5;exact an (aC (v:=.pointer _) rfl) rfl
   constructor
   ·rintro-w6 D6;exact an (aC (v:=.pointer _) rfl) rfl
   constructor
   ·rintro-w7 D7;rintro _ rfl;exact an (av rfl) rfl
   constructor
   ·rintro-w8 D8;rintro _ rfl;exact an (aa gL rfl) rfl
   constructor
   ·rintro-w9 D9;rintro _ rfl;exact an (au ki rfl (show _=some (Value.slice O L.length oc) from (hgB.from_ D9).rd 22 rfl)) rfl
   constructor
   ·rintro-w10 D10;exact an (aR (cs:=bT { m with f:=p.s.id,t:=to,tm:=p.s.term }) bp bg rfl ((hX.from_ D10).whole)) rfl
   constructor
   ·rintro-w11 D11;rintro v11_27 rfl;exact oG (rk (l:=[(0,.tmp 27)]) (cells:=(bT { m with f:=p.s.id,t:=to,tm:=p.s.term }).toArray) nh rfl rfl (by show Instr.fill _ _ [(0,Value.agg (bT { m with f:=p.s.id,t:=to,tm:=p.s.term }).toArray)]=_;kernel_rfl)) (ai.rfl_.new _) ⟨_,rfl,Blk.new _ _ _⟩
   constructor
   ·intro h;cases h
   exact trivial
  case hmu=>
   rintro w13 D13;rintro v13_26 rfl v13_28 ⟨q13,rfl,hq13⟩;show sh ..;refine rA (news:=bT { m with f:=p.s.id,t:=to,tm:=p.s.term }) nh rfl (by decide) rfl ((hs.m.o.kept_from hB).kept_from D13) (Nat.zero_le _) rfl rfl ⟨_,_,rfl,hq13.whole⟩ (by simp [bT,Value.oneCell']) (by omega) (by omega) ?_;intro A3 c3 w3 ho3 hg3 hl3;exact ⟨eb (D13.grown _) hg3,⟨A3,c3,rfl,ho3,fun k hk=>(hl3 k hk).imp id fun e=>Nat.le_trans D13.size e⟩,fun t u ht h=>mM (by repeat first | exact trivial | refine ⟨.inl rfl,?_⟩ | refine ⟨.inr (fun _ h=>h),?_⟩) t u ht h⟩
  case hend=>
   rintro w14 hG14;rintro _ rfl _ rfl _ rfl _ rfl v26 rfl v27 rfl v28 _ v29 ⟨A29,c29,rfl,ho29,hL29⟩;show St ..;have hgD:=hG14;have hgC:=hgB.chg (Chg.of_grown (U:=fun k=>tag k=6) hgD (fun k hk=>hs.m.c k hk)) (fun e=>by rw [hs.gc] at e;cases e);refine ab (av rfl) (ab (aa gL rfl) (fv (v:=.slice _ _ _) sa rfl rfl rfl (hgC) (by show _<23;decide) ?_));intro w15 O2 P2;refine aq (cK (dU rfl (⟨rfl,h.push hs (x:={ m with f:=p.s.id,t:=to,tm:=p.s.term }) hE hB hgD ho29 rfl (fun k hk=>(hL29 k hk).imp id fun e=>Nat.le_trans hB.size e) O2 P2⟩)))
theorem xD (B T i:Int) (A:Option Addr) (n c:Nat) (xs:List Ent) (w:World) (h:cQ w (.slice A n c) xs) (hm:cn B T xs=true) (hi:B+1≤i∧i≤cW B xs+1) :
 Rt prog 114 [.agg #[.int .i64 B,.int .i64 T,.slice A n c],.int .i64 i,.int .i64 16] w fun v w'=>(∃ A' c',v=.tuple #[.slice A' ((xs.drop (i-B-1).toNat).take 16).length c',.int .i64 0]∧w'.ownsRow w.heap.size 99 3 (.slice A' ((xs.drop (i-B-1).toNat).take 16).length c') ((xs.drop (i-B-1).toNat).take 16).length (dV ((xs.drop (i-B-1).toNat).take 16)))∧ai w w':=
 (sZ B T i 16 (.slice A n c) xs w h (by decide)).mono fun e w' ⟨L,he,hg,hF⟩=>by
  have h0:mx B T xs i 16=0:=by
   unfold mx;rw [if_pos hm,if_pos hi,if_neg (by decide)]
  rw [h0] at he hg;have ho:=hg.2 rfl;obtain ⟨A',c',rfl⟩:=fM ho;exact ⟨_,he,⟨A',c',rfl,ho⟩,hF⟩
theorem ri {P:Program} {ρ:Operand→Value} {w:World} {t:TypeId} {x y z:Operand} {k k':IntKind} {s r:ByteArray} {l h:Nat} (ht:P.underlying t=some .string) (hx:ρ x=.string s) (hy:ρ y=.int k (l:Int)) (hz:ρ z=.int k' (h:Int)) (h1:l≤h) (h2:h≤s.size) (hr:s.extract l h=r):RO P ρ (.slice t x (some y) (some z) none) w (.string r) w:=fun _ _ _ _ _=>by
 subst hr;simp only [execOp,hx,hy,hz,Option.map_none,Option.map_some,Sem.run_bind];rw [run_sliceAt_string w t _ _ _ _ ht,run_slice_string_if w t s k k' (l:Int) (h:Int) ht,if_pos (by omega),if_pos (by omega),Result.andThen_ok,Int.toNat_natCast,Int.toNat_natCast];rfl
theorem rf {s:Rf} {to:Int} (h:at1 s.next to≤s.b) {na:Nat} (ha:at1 s.sent to=(na:Int)):kv s to={ zM with k:=5,t:=to,ix:=s.b,lt:=s.t,rd:=s.round,a:=(na:Int),d:=s.snap.extract na (min (na+1024) s.snap.size),dn:=decide (min (na+1024) s.snap.size=s.snap.size) }:=by
 unfold kv;simp only;rw [if_pos h,ha,Int.toNat_natCast]
theorem s5 {s:Rf} {to:Int} (h:¬ at1 s.next to≤s.b):kv s to={ zM with k:=3,t:=to,ix:=at1 s.next to-1,lt:=dz s.b s.t s.es (at1 s.next to-1),cm:=s.commit,rd:=s.round,es:=(s.es.drop (at1 s.next to-s.b-1).toNat).take 16 }:=by
 unfold kv;simp only;rw [if_neg h,show at1 s.next to-1-s.b=at1 s.next to-s.b-1 by omega]
theorem rU {l:List Int} {k:Nat} (h:k<l.length):at1 l ((k:Int)+1)=l[k]:=by
 unfold at1;rw [show ((k:Int)+1-1).toNat=k by omega,List.getD_eq_getElem?_getD,List.getElem?_eq_getElem h];rfl
theorem l5 (w0:World) (Z:Nat→Prop) (T g:Nat) (p:Sp) (w:World) (h:aF w0 Z w T g p) (hF:RfF p.s) (hr:p.s.role=2) (hl:p.out.length≤900) (to:Int) (hto:1≤to∧to≤p.s.nodes) :
 Rt prog 78 [.pointer (some ⟨g,0,none⟩),.int .i64 to] w (fun v w'=>v=.tuple #[]∧aF w0 Z w' T g (p.send to)):=by
 obtain ⟨tag,a,O,oc,L,hs⟩:=h.ex;obtain ⟨E,Ec,V,Vc,X,Xc,M,Mc,S,Sc,Q,Qc,LL⟩:=a;have hb:=hs.b;have hll:L.length=p.out.length:=by rw [←hs.m.l,List.length_map]
 obtain ⟨k,rfl⟩:∃ k:Nat,to=(k:Int)+1:=⟨(to-1).toNat,by omega⟩;have hXl:p.s.next.length=p.s.nodes.toNat:=by rw [hF.nx.1,dP hr]
 have hSl:p.s.sent.length=p.s.nodes.toNat:=by rw [hF.se.1,dP hr]
 have hkX:k<p.s.next.length:=by omega
 have hkS:k<p.s.sent.length:=by omega
 have hnx:=hF.nx.2 _ (List.getElem_mem hkX);have hse:=hF.se.2 _ (List.getElem_mem hkS);obtain ⟨gX,rfl⟩:∃ q,X=some ⟨q,0,none⟩:=du (hs.f.x (by decide)).1 (by omega);have hXo:w.ownsRow 0 3 1 (.slice (some ⟨gX,0,none⟩) p.s.next.length Xc) p.s.next.length (p.s.next.map iV):=(hs.f.x (by decide)).1;have hXc:=gY (l:=p.s.next) hXo k hkX;obtain ⟨gS,rfl⟩:∃ q,S=some ⟨q,0,none⟩:=du (hs.f.n (by decide)).1 (by omega);have hSo:w.ownsRow 0 3 1 (.slice (some ⟨gS,0,none⟩) p.s.sent.length Sc) p.s.sent.length (p.s.sent.map iV):=(hs.f.n (by decide)).1;have hSc:=gY (l:=p.s.sent) hSo k hkS;obtain ⟨na,hna⟩:∃ na:Nat,p.s.sent[k]=(na:Int):=⟨p.s.sent[k].toNat,by omega⟩;have he:cQ w (.slice E p.s.es.length Ec) p.s.es:=hs.f.rd.e;have hzw:=h.zw;have hnn:=hF.n;have hsn:=hF.sn;have hbl:=hF.last;have hlb:cW p.s.b p.s.es=aQ p.s:=rfl;have hpn:=rU hkX;have hpx:=rU hkS;refine enter (n:=127) Tryz.func78 rfl rfl rfl (ao (ag (mvp rfl (ab (av rfl) (ab (aa ay rfl) (ab (aa aw rfl) (ab (aa ch rfl) (ab (au bj rfl (by exact cB (hb.from_ ai.rfl_) 15 rfl)) ?_))))))));refine mvi rfl (ab (dk rfl rfl (by omega)) (er (t:=16) (v:=.int _ _) (v':=.int .i64 (k:Nat)) rfl (by exact aZ (by omega)) ?_));refine ab (bS a_ rfl rfl (by omega)) (ab (au ak rfl (by exact eH ai.rfl_ hXc)) ?_);refine asi rfl (aq (ah (ao (ao (ag (mvi rfl (mvp rfl (ab (av rfl) (ab (aa ay rfl) (ab (aa aw rfl) (ab (aa bd rfl) (ab (aa bY rfl) ?_))))))))))));refine ab (au ak rfl (by exact cB (hb.from_ ai.rfl_) 6 rfl)) ?_;refine ab (fx rfl rfl) (aq (ah (yS rfl (fun Q1=>?_) (fun Q1=>?_))))
 ·refine ao (ag (mvp rfl (ab (av rfl) (ab (aa ay rfl) (ab (aa aw rfl) (ab (aa dc rfl) (ab (au bj rfl (by exact cB (hb.from_ ai.rfl_) 17 rfl)) ?_)))))));refine mvi rfl (ab (dk rfl rfl (by omega)) (er (t:=35) (v:=.int _ _) (v':=.int .i64 (k:Nat)) rfl (by exact aZ (by omega)) ?_));refine ab (bS a_ rfl rfl (by omega)) (ab (au ak rfl (by exact eH ai.rfl_ hSc)) ?_);refine er (t:=37) (v:=.int _ _) (v':=.int .i64 (na:Nat)) rfl (by exact congrArg (Value.int .i64) hna) ?_;refine asi rfl (aq (ah (ao (ag (mvi rfl (ab (cx (b:=1024) rfl rfl (by omega)) (mvp rfl (ab (av rfl) (ab (aa ay rfl) (ab (aa aw rfl) (ab (aa dD rfl) ?_)))))))))));refine ab (au bQ rfl (by exact cB (hb.from_ ai.rfl_) 9 rfl)) ?_;refine ab (dA (by kernel_rfl) rfl) (ab (kT rfl rfl) (er (t:=47) (v:=.int _ _) (v':=.int .i64 ((min (na+1024) p.s.snap.size:Nat):Int)) rfl (by exact aZ (by omega)) ?_));refine asi rfl (aq (ah (ao ?_)));apply eE [(0,48,fun _ v _=>v=_),(1,49,fun _ v _=>v=_),(2,50,fun _ v _=>v=_),(3,51,fun _ v _=>v=_),(4,52,fun _ v _=>v=_),(5,53,fun _ v _=>v=_),(6,54,fun _ v _=>v=_),(7,55,fun _ v _=>v=_),(8,56,fun _ v _=>v=_),(9,57,fun _ v _=>v=_),(10,58,fun _ v _=>v=_),(11,59,fun _ v _=>v=_),(12,60,fun _ v _=>v=_),(13,61,fun _ v _=>v=_),(14,62,fun _ v _=>v=_),(15,63,fun _ v _=>v=_),(16,64,fun _ v _=>v=_),(17,65,fun _ v _=>v=_),(18,66,fun _ v _=>v=_),(19,67,fun _ v _=>v=_),(20,68,fun _ v _=>v=_),(21,69,fun _ v _=>v=_),(22,70,fun _ v _=>v=_),(23,71,fun _ v _=>v=_),(24,72,fun _ v _=>v=_),(25,73,fun _ v _=>v=_),(26,74,fun _ v _=>v=_),(27,75,fun _ v _=>v=_),(28,76,fun _ v _=>v=_),(29,77,fun _ v _=>v=_),(30,78,fun _ v _=>v=_),(31,79,fun _ v _=>v=_),(32,80,fun _ v _=>v=_),(33,81,fun _ v _=>v=_),(34,82,fun _ v _=>v=_),(35,83,fun _ v _=>v=_),(36,84,fun _ v _=>v=_),(37,85,fun _ v _=>v=_),(38,86,fun _ v _=>v=_),(39,87,fun _ v _=>v=_),(40,88,fun _ v _=>v=_),(41,89,fun _ v _=>v=_),(42,90,fun _ v _=>v=_)] [42] (fun S w'=>(S 42=false→ai w w')∧(S 42=true→aF w0 Z w' T g (p.tell (pl { ({ zM with k:=5,ix:=p.s.b,lt:=p.s.t,rd:=p.s.round,a:=(na:Int),d:=p.s.snap.extract na (min (na+1024) p.s.snap.size),dn:=decide (min (na+1024) p.s.snap.size=p.s.snap.size) }:Msg) with t:=(k:Int)+1 })))) (by kernel_rfl) (by kernel_rfl) rfl rfl ⟨fun _ _ _ _ _ _ _ h=>h,fun _ _ _ _ _ _ _ h=>h,fun _ _ _ _ _ _ _ h=>h,fun _ _ _ _ _ _ _ h=>h,fun _ _ _ _ _ _ _ h=>h,fun _ _ _ _ _ _ _ h=>h,fun _ _ _ _ _ _ _ h=>h,fun _ _ _ _ _ _ _ h=>h,fun _ _ _ _ _ _ _ h=>h,fun _ _ _ _ _ _ _ h=>h,fun _ _ _ _ _ _ _ h=>h,fun _ _ _ _ _ _ _ h=>h,fun _ _ _ _ _ _ _ h=>h,fun _ _ _ _ _ _ _ h=>h,fun _ _ _ _ _ _ _ h=>h,fun _ _ _ _ _ _ _ h=>h,fun _ _ _ _ _ _ _ h=>h,fun _ _ _ _ _ _ _ h=>h,fun _ _ _ _ _ _ _ h=>h,fun _ _ _ _ _ _ _ h=>h,fun _ _ _ _ _ _ _ h=>h,fun _ _ _ _ _ _ _ h=>h,fun _ _ _ _ _ _ _ h=>h,fun _ _ _ _ _ _ _ h=>h,fun _ _ _ _ _ _ _ h=>h,fun _ _ _ _ _ _ _ h=>h,fun _ _ _ _ _ _ _ h=>h,fun _ _ _ _ _ _ _ h=>h,fun _ _ _ _ _ _ _ h=>h,fun _ _ _ _ _ _ _ h=>h,fun _ _ _ _ _ _ _ h=>h,fun _ _ _ _ _ _ _ h=>h,fun _ _ _ _ _ _ _ h=>h,fun _ _ _ _ _ _ _ h=>h,fun _ _ _ _ _ _ _ h=>h,fun _ _ _ _ _ _ _ h=>h,fun _ _ _ _ _ _ _ h=>h,fun _ _ _ _ _ _ _ h=>h,fun _ _ _ _ _ _ _ h=>h,fun _ _ _ _ _ _ _ h=>h,fun _ _ _ _ _ _ _ h=>h,fun _ _ _ _ _ _ _ h=>h,fun _ _ _ _ _ _ _ h=>h,trivial⟩ (fun S i w1 w2 hq hF h=>⟨fun h0=>(h.1 (en h0)).next hF,fun h1=>(fun h=>h.from_ hF) (h.2 (jn (show 42≠i by rintro rfl;exact absurd hq (by decide)) h1))⟩) ⟨fun _=>ai.rfl_.d1,fun h=>by cases h⟩
  case hstep=>
   constructor
   ·rintro S L' w2 hU hmo hme hI hM hC hS ⟨-⟩;have hS0:S 42=false:=(af hC (j:=42) rfl (by kernel_rfl) hS);have hM2:=hM.1 hS0;have e0:=hI.1 0 (dy rfl);exact az [(0,_)] hU hmo hme hI hM (.head _) rfl rfl (by kernel_rfl) ⟨e0,trivial⟩ (aC (v:=.pointer _) rfl) ai.rfl_ (rfl)
   constructor
   ·rintro S L' w3 hU hmo hme hI hM hC hS ⟨-⟩;have hS0:S 42=false:=(af hC (j:=42) rfl (by kernel_rfl) hS);have hM3:=hM.1 hS0;have e1:=hI.1 1 (dy rfl);exact az [(1,_)] hU hmo hme hI hM (.tail _ (.head _)) rfl rfl (by kernel_rfl) ⟨e1,trivial⟩ (aC (v:=.int _ _) rfl) ai.rfl_ (rfl)
   constructor
   ·rintro S L' w4 hU hmo hme hI hM hC hS ⟨-⟩;have hS0:S 42=false:=(af hC (j:=42) rfl (by kernel_rfl) (af hC (j:=41) rfl (by kernel_rfl) (af hC (j:=8) rfl (by kernel_rfl) (af hC (j:=7) rfl (by kernel_rfl) (af hC (j:=6) rfl (by kernel_rfl) (af hC (j:=5) rfl (by kernel_rfl) (af hC (j:=4) rfl (by kernel_rfl) (af hC (j:=3) rfl (by kernel_rfl) hS))))))));have hM4:=hM.1 hS0;have e0:=hI.1 0 (dy rfl);exact az [(0,_)] hU hmo hme hI hM (gM 2 rfl) rfl rfl (by kernel_rfl) ⟨e0,trivial⟩ (aC (v:=.pointer _) rfl) ai.rfl_ (rfl)
   constructor
   ·rintro S L' w5 hU hmo hme hI hM hC hS ⟨d2,-⟩;have hS0:S 42=false:=(af hC (j:=42) rfl (by kernel_rfl) (af hC (j:=41) rfl (by kernel_rfl) (af hC (j:=8) rfl (by kernel_rfl) (af hC (j:=7) rfl (by kernel_rfl) (af hC (j:=6) rfl (by kernel_rfl) (af hC (j:=5) rfl (by kernel_rfl) (af hC (j:=4) rfl (by kernel_rfl) hS)))))));have hM5:=hM.1 hS0;obtain ⟨v5_50,e50,h50⟩:=hI.get (i:=2) (gM 2 rfl) d2;obtain rfl:=h50;exact az [(50,_)] hU hmo hme hI hM (gM 3 rfl) rfl rfl (by kernel_rfl) ⟨e50,trivial⟩ (av rfl) ai.rfl_ (rfl)
   constructor
   ·rintro S L' w6 hU hmo hme hI hM hC hS ⟨d3,-⟩;have hS0:S 42=false:=(af hC (j:=42) rfl (by kernel_rfl) (af hC (j:=41) rfl (by kernel_rfl) (af hC (j:=8) rfl (by kernel_rfl) (af hC (j:=7) rfl (by kernel_rfl) (af hC (j:=6) rfl (by kernel_rfl) (af hC (j:=5) rfl (by kernel_rfl) hS))))));have hM6:=hM.1 hS0;obtain ⟨v6_51,e51,h51⟩:=hI.get (i:=3) (gM 3 rfl) d3;obtain rfl:=h51;exact az [(51,_)] hU hmo hme hI hM (gM 4 rfl) rfl rfl (by kernel_rfl) ⟨e51,trivial⟩ (aa ay rfl) ai.rfl_ (rfl)
   constructor
   ·rintro S L' w7 hU hmo hme hI hM hC hS ⟨d4,-⟩;have hS0:S 42=false:=(af hC (j:=42) rfl (by kernel_rfl) (af hC (j:=41) rfl (by kernel_rfl) (af hC (j:=8) rfl (by kernel_rfl) (af hC (j:=7) rfl (by kernel_rfl) (af hC (j:=6) rfl (by kernel_rfl) hS)))));have hM7:=hM.1 hS0;obtain ⟨v7_52,e52,h52⟩:=hI.get (i:=4) (gM 4 rfl) d4;obtain rfl:=h52;exact az [(52,_)] hU hmo hme hI hM (gM 5 rfl) rfl rfl (by kernel_rfl) ⟨e52,trivial⟩ (aa aw rfl) ai.rfl_ (rfl)
   constructor
   ·rintro S L' w8 hU hmo hme hI hM hC hS ⟨d5,-⟩;have hS0:S 42=false:=(af hC (j:=42) rfl (by kernel_rfl) (af hC (j:=41) rfl (by kernel_rfl) (af hC (j:=8) rfl (by kernel_rfl) (af hC (j:=7) rfl (by kernel_rfl) hS))));have hM8:=hM.1 hS0;obtain ⟨v8_53,e53,h53⟩:=hI.get (i:=5) (gM 5 rfl) d5;obtain rfl:=h53;exact az [(53,_)] hU hmo hme hI hM (gM 6 rfl) rfl rfl (by kernel_rfl) ⟨e53,trivial⟩ (aa bd rfl) ai.rfl_ (rfl)
   constructor
   ·rintro S L' w9 hU hmo hme hI hM hC hS ⟨d6,-⟩;have hS0:S 42=false:=(af hC (j:=42) rfl (by kernel_rfl) (af hC (j:=41) rfl (by kernel_rfl) (af hC (j:=8) rfl (by kernel_rfl) hS)));have hM9:=hM.1 hS0;obtain ⟨v9_54,e54,h54⟩:=hI.get (i:=6) (gM 6 rfl) d6;obtain rfl:=h54;exact az [(54,_)] hU hmo hme hI hM (gM 7 rfl) rfl rfl (by kernel_rfl) ⟨e54,trivial⟩ (aa bY rfl) ai.rfl_ (rfl)
   constructor
   ·rintro S L' w10 hU hmo hme hI hM hC hS ⟨d7,-⟩;have hS0:S 42=false:=(af hC (j:=42) rfl (by kernel_rfl) (af hC (j:=41) rfl (by kernel_rfl) hS));have hM10:=hM.1 hS0;obtain ⟨v10_55,e55,h55⟩:=hI.get (i:=7) (gM 7 rfl) d7;obtain rfl:=h55;exact az [(55,_)] hU hmo hme hI hM (gM 8 rfl) rfl rfl (by kernel_rfl) ⟨e55,trivial⟩ (au ak rfl (by exact cB (hb.from_ (ai.rfl_.next hM10)) 6 rfl)) ai.rfl_ (rfl)
   constructor
   ·rintro S L' w11 hU hmo hme hI hM hC hS ⟨-⟩;have hS0:S 42=false:=(af hC (j:=42) rfl (by kernel_rfl) (af hC (j:=41) rfl (by kernel_rfl) (af hC (j:=15) rfl (by kernel_rfl) (af hC (j:=14) rfl (by kernel_rfl) (af hC (j:=13) rfl (by kernel_rfl) (af hC (j:=12) rfl (by kernel_rfl) (af hC (j:=11) rfl (by kernel_rfl) (af hC (j:=10) rfl (by kernel_rfl) hS))))))));have hM11:=hM.1 hS0;have e0:=hI.1 0 (dy rfl);exact az [(0,_)] hU hmo hme hI hM (gM 9 rfl) rfl rfl (by kernel_rfl) ⟨e0,trivial⟩ (aC (v:=.pointer _) rfl) ai.rfl_ (rfl)
   constructor
   ·rintro S L' w12 hU hmo hme hI hM hC hS ⟨d9,-⟩;have hS0:S 42=false:=(af hC (j:=42) rfl (by kernel_rfl) (af hC (j:=41) rfl (by kernel_rfl) (af hC (j:=15) rfl (by kernel_rfl) (af hC (j:=14) rfl (by kernel_rfl) (af hC (j:=13) rfl (by kernel_rfl) (af hC (j:=12) rfl (by kernel_rfl) (af hC (j:=11) rfl (by kernel_rfl) hS)))))));have hM12:=hM.1 hS0;obtain ⟨v12_57,e57,h57⟩:=hI.get (i:=9) (gM 9 rfl) d9;obtain rfl:=h57;exact az [(57,_)] hU hmo hme hI hM (gM 10 rfl) rfl rfl (by kernel_rfl) ⟨e57,trivial⟩ (av rfl) ai.rfl_ (rfl)
   constructor
   ·rintro S L' w13 hU hmo hme hI hM hC hS ⟨d10,-⟩;have hS0:S 42=false:=(af hC (j:=42) rfl (by kernel_rfl) (af hC (j:=41) rfl (by kernel_rfl) (af hC (j:=15) rfl (by kernel_rfl) (af hC (j:=14) rfl (by kernel_rfl) (af hC (j:=13) rfl (by kernel_rfl) (af hC (j:=12) rfl (by kernel_rfl) hS))))));have hM13:=hM.1 hS0;obtain ⟨v13_58,e58,h58⟩:=hI.get (i:=10) (gM 10 rfl) d10;obtain rfl:=h58;exact az [(58,_)] hU hmo hme hI hM (gM 11 rfl) rfl rfl (by kernel_rfl) ⟨e58,trivial⟩ (aa ay rfl) ai.rfl_ (rfl)
   constructor
   ·rintro S L' w14 hU hmo hme hI hM hC hS ⟨d11,-⟩;have hS0:S 42=false:=(af hC (j:=42) rfl (by kernel_rfl) (af hC (j:=41) rfl (by kernel_rfl) (af hC (j:=15) rfl (by kernel_rfl) (af hC (j:=14) rfl (by kernel_rfl) (af hC (j:=13) rfl (by kernel_rfl) hS)))));have hM14:=hM.1 hS0;obtain ⟨v14_59,e59,h59⟩:=hI.get (i:=11) (gM 11 rfl) d11;obtain rfl:=h59;exact az [(59,_)] hU hmo hme hI hM (gM 12 rfl) rfl rfl (by kernel_rfl) ⟨e59,trivial⟩ (aa aw rfl) ai.rfl_ (rfl)
   constructor
   ·rintro S L' w15 hU hmo hme hI hM hC hS ⟨d12,-⟩;have hS0:S 42=false:=(af hC (j:=42) rfl (by kernel_rfl) (af hC (j:=41) rfl (by kernel_rfl) (af hC (j:=15) rfl (by kernel_rfl) (af hC (j:=14) rfl (by kernel_rfl) hS))));have hM15:=hM.1 hS0;obtain ⟨v15_60,e60,h60⟩:=hI.get (i:=12) (gM 12 rfl) d12;obtain rfl:=h60;exact az [(60,_)] hU hmo hme hI hM (gM 13 rfl) rfl rfl (by kernel_rfl) ⟨e60,trivial⟩ (aa bd rfl) ai.rfl_ (rfl)
   constructor
   ·rintro S L' w16 hU hmo hme hI hM hC hS ⟨d13,-⟩;have hS0:S 42=false:=(af hC (j:=42) rfl (by kernel_rfl) (af hC (j:=41) rfl (by kernel_rfl) (af hC (j:=15) rfl (by kernel_rfl) hS)));have hM16:=hM.1 hS0;obtain ⟨v16_61,e61,h61⟩:=hI.get (i:=13) (gM 13 rfl) d13;obtain rfl:=h61;exact az [(61,_)] hU hmo hme hI hM (gM 14 rfl) rfl rfl (by kernel_rfl) ⟨e61,trivial⟩ (aa kI rfl) ai.rfl_ (rfl)
   constructor
   ·rintro S L' w17 hU hmo hme hI hM hC hS ⟨d14,-⟩;have hS0:S 42=false:=(af hC (j:=42) rfl (by kernel_rfl) (af hC (j:=41) rfl (by kernel_rfl) hS));have hM17:=hM.1 hS0;obtain ⟨v17_62,e62,h62⟩:=hI.get (i:=14) (gM 14 rfl) d14;obtain rfl:=h62;exact az [(62,_)] hU hmo hme hI hM (gM 15 rfl) rfl rfl (by kernel_rfl) ⟨e62,trivial⟩ (au ak rfl (by exact cB (hb.from_ (ai.rfl_.next hM17)) 7 rfl)) ai.rfl_ (rfl)
   constructor
   ·rintro S L' w18 hU hmo hme hI hM hC hS ⟨-⟩;have hS0:S 42=false:=(af hC (j:=42) rfl (by kernel_rfl) (af hC (j:=41) rfl (by kernel_rfl) hS));have hM18:=hM.1 hS0;have e5:=hI.1 5 (dy rfl);exact az [(5,_)] hU hmo hme hI hM (gM 16 rfl) rfl rfl (by kernel_rfl) ⟨e5,trivial⟩ (aC (v:=.int _ _) rfl) ai.rfl_ (rfl)
   constructor
   ·rintro S L' w19 hU hmo hme hI hM hC hS ⟨-⟩;have hS0:S 42=false:=(af hC (j:=42) rfl (by kernel_rfl) (af hC (j:=41) rfl (by kernel_rfl) (af hC (j:=25) rfl (by kernel_rfl) (af hC (j:=22) rfl (by kernel_rfl) (af hC (j:=21) rfl (by kernel_rfl) (af hC (j:=20) rfl (by kernel_rfl) (af hC (j:=19) rfl (by kernel_rfl) (af hC (j:=18) rfl (by kernel_rfl) hS))))))));have hM19:=hM.1 hS0;have e0:=hI.1 0 (dy rfl);exact az [(0,_)] hU hmo hme hI hM (gM 17 rfl) rfl rfl (by kernel_rfl) ⟨e0,trivial⟩ (aC (v:=.pointer _) rfl) ai.rfl_ (rfl)
   constructor
   ·rintro S L' w20 hU hmo hme hI hM hC hS ⟨d17,-⟩;have hS0:S 42=false:=(af hC (j:=42) rfl (by kernel_rfl) (af hC (j:=41) rfl (by kernel_rfl) (af hC (j:=25) rfl (by kernel_rfl) (af hC (j:=22) rfl (by kernel_rfl) (af hC (j:=21) rfl (by kernel_rfl) (af hC (j:=20) rfl (by kernel_rfl) (af hC (j:=19) rfl (by kernel_rfl) hS)))))));have hM20:=hM.1 hS0;obtain ⟨v20_65,e65,h65⟩:=hI.get (i:=17) (gM 17 rfl) d17;obtain rfl:=h65;exact az [(65,_)] hU hmo hme hI hM (gM 18 rfl) rfl rfl (by kernel_rfl) ⟨e65,trivial⟩ (av rfl) ai.rfl_ (rfl)
   constructor
   ·rintro S L' w21 hU hmo hme hI hM hC hS ⟨d18,-⟩;have hS0:S 42=false:=(af hC (j:=42) rfl (by kernel_rfl) (af hC (j:=41) rfl (by kernel_rfl) (af hC (j:=25) rfl (by kernel_rfl) (af hC (j:=22) rfl (by kernel_rfl) (af hC (j:=21) rfl (by kernel_rfl) (af hC (j:=20) rfl (by kernel_rfl) hS))))));have hM21:=hM.1 hS0;obtain ⟨v21_66,e66,h66⟩:=hI.get (i:=18) (gM 18 rfl) d18;obtain rfl:=h66;exact az [(66,_)] hU hmo hme hI hM (gM 19 rfl) rfl rfl (by kernel_rfl) ⟨e66,trivial⟩ (aa ay rfl) ai.rfl_ (rfl)
   constructor
   ·rintro S L' w22 hU hmo hme hI hM hC hS ⟨d19,-⟩;have hS0:S 42=false:=(af hC (j:=42) rfl (by kernel_rfl) (af hC (j:=41) rfl (by kernel_rfl) (af hC (j:=25) rfl (by kernel_rfl) (af hC (j:=22) rfl (by kernel_rfl) (af hC (j:=21) rfl (by kernel_rfl) hS)))));have hM22:=hM.1 hS0;obtain ⟨v22_67,e67,h67⟩:=hI.get (i:=19) (gM 19 rfl) d19;obtain rfl:=h67;exact az [(67,_)] hU hmo hme hI hM (gM 20 rfl) rfl rfl (by kernel_rfl) ⟨e67,trivial⟩ (aa aw rfl) ai.rfl_ (rfl)
   constructor
   ·rintro S L' w23 hU hmo hme hI hM hC hS ⟨d20,-⟩;have hS0:S 42=false:=(af hC (j:=42) rfl (by kernel_rfl) (af hC (j:=41) rfl (by kernel_rfl) (af hC (j:=25) rfl (by kernel_rfl) (af hC (j:=22) rfl (by kernel_rfl) hS))));have hM23:=hM.1 hS0;obtain ⟨v23_68,e68,h68⟩:=hI.get (i:=20) (gM 20 rfl) d20;obtain rfl:=h68;exact az [(68,_)] hU hmo hme hI hM (gM 21 rfl) rfl rfl (by kernel_rfl) ⟨e68,trivial⟩ (aa dD rfl) ai.rfl_ (rfl)
   constructor
   ·rintro S L' w24 hU hmo hme hI hM hC hS ⟨d21,-⟩;have hS0:S 42=false:=(af hC (j:=42) rfl (by kernel_rfl) (af hC (j:=41) rfl (by kernel_rfl) (af hC (j:=25) rfl (by kernel_rfl) hS)));have hM24:=hM.1 hS0;obtain ⟨v24_69,e69,h69⟩:=hI.get (i:=21) (gM 21 rfl) d21;obtain rfl:=h69;exact az [(69,_)] hU hmo hme hI hM (gM 22 rfl) rfl rfl (by kernel_rfl) ⟨e69,trivial⟩ (au bQ rfl (by exact cB (hb.from_ (ai.rfl_.next hM24)) 9 rfl)) ai.rfl_ (rfl)
   constructor
   ·rintro S L' w25 hU hmo hme hI hM hC hS ⟨-⟩;have hS0:S 42=false:=(af hC (j:=42) rfl (by kernel_rfl) (af hC (j:=41) rfl (by kernel_rfl) (af hC (j:=25) rfl (by kernel_rfl) hS)));have hM25:=hM.1 hS0;have e5:=hI.1 5 (dy rfl);exact az [(5,_)] hU hmo hme hI hM (gM 23 rfl) rfl rfl (by kernel_rfl) ⟨e5,trivial⟩ (aC (v:=.int _ _) rfl) ai.rfl_ (rfl)
   constructor
   ·rintro S L' w26 hU hmo hme hI hM hC hS ⟨-⟩;have hS0:S 42=false:=(af hC (j:=42) rfl (by kernel_rfl) (af hC (j:=41) rfl (by kernel_rfl) (af hC (j:=25) rfl (by kernel_rfl) hS)));have hM26:=hM.1 hS0;have e6:=hI.1 6 (dy rfl);exact az [(6,_)] hU hmo hme hI hM (gM 24 rfl) rfl rfl (by kernel_rfl) ⟨e6,trivial⟩ (aC (v:=.int _ _) rfl) ai.rfl_ (rfl)
   constructor
   ·rintro S L' w27 hU hmo hme hI hM hC hS ⟨d22,d23,d24,-⟩;have hS0:S 42=false:=(af hC (j:=42) rfl (by kernel_rfl) (af hC (j:=41) rfl (by kernel_rfl) hS));have hM27:=hM.1 hS0;obtain ⟨v27_70,e70,h70⟩:=hI.get (i:=22) (gM 22 rfl) d22;obtain rfl:=h70;obtain ⟨v27_71,e71,h71⟩:=hI.get (i:=23) (gM 23 rfl) d23;obtain rfl:=h71;obtain ⟨v27_72,e72,h72⟩:=hI.get (i:=24) (gM 24 rfl) d24;obtain rfl:=h72;exact az [(70,_),(71,_),(72,_)] hU hmo hme hI hM (gM 25 rfl) rfl rfl (by kernel_rfl) ⟨e70,e71,e72,trivial⟩ ((ri (l:=na) (h:=min (na+1024) p.s.snap.size) tE rfl rfl rfl (by omega) (by omega) rfl)) (ai.rfl_) (rfl)
   constructor
   ·rintro S L' w28 hU hmo hme hI hM hC hS ⟨-⟩;have hS0:S 42=false:=(af hC (j:=42) rfl (by kernel_rfl) (af hC (j:=41) rfl (by kernel_rfl) (af hC (j:=34) rfl (by kernel_rfl) hS)));have hM28:=hM.1 hS0;have e6:=hI.1 6 (dy rfl);exact az [(6,_)] hU hmo hme hI hM (gM 26 rfl) rfl rfl (by kernel_rfl) ⟨e6,trivial⟩ (aC (v:=.int _ _) rfl) ai.rfl_ (rfl)
   constructor
   ·rintro S L' w29 hU hmo hme hI hM hC hS ⟨-⟩;have hS0:S 42=false:=(af hC (j:=42) rfl (by kernel_rfl) (af hC (j:=41) rfl (by kernel_rfl) (af hC (j:=34) rfl (by kernel_rfl) (af hC (j:=33) rfl (by kernel_rfl) (af hC (j:=32) rfl (by kernel_rfl) (af hC (j:=31) rfl (by kernel_rfl) (af hC (j:=30) rfl (by kernel_rfl) (af hC (j:=29) rfl (by kernel_rfl) (af hC (j:=28) rfl (by kernel_rfl) hS)))))))));have hM29:=hM.1 hS0;have e0:=hI.1 0 (dy rfl);exact az [(0,_)] hU hmo hme hI hM (gM 27 rfl) rfl rfl (by kernel_rfl) ⟨e0,trivial⟩ (aC (v:=.pointer _) rfl) ai.rfl_ (rfl)
   constructor
   ·rintro S L' w30 hU hmo hme hI hM hC hS ⟨d27,-⟩;have hS0:S 42=false:=(af hC (j:=42) rfl (by kernel_rfl) (af hC (j:=41) rfl (by kernel_rfl) (af hC (j:=34) rfl (by kernel_rfl) (af hC (j:=33) rfl (by kernel_rfl) (af hC (j:=32) rfl (by kernel_rfl) (af hC (j:=31) rfl (by kernel_rfl) (af hC (j:=30) rfl (by kernel_rfl) (af hC (j:=29) rfl (by kernel_rfl) hS))))))));have hM30:=hM.1 hS0;obtain ⟨v30_75,e75,h75⟩:=hI.get (i:=27) (gM 27 rfl) d27;obtain rfl:=h75;exact az [(75,_)] hU hmo hme hI hM (gM 28 rfl) rfl rfl (by kernel_rfl) ⟨e75,trivial⟩ (av rfl) ai.rfl_ (rfl)
   constructor
   ·rintro S L' w31 hU hmo hme hI hM hC hS ⟨d28,-⟩;have hS0:S 42=false:=(af hC (j:=42) rfl (by kernel_rfl) (af hC (j:=41) rfl (by kernel_rfl) (af hC (j:=34) rfl (by kernel_rfl) (af hC (j:=33) rfl (by kernel_rfl) (af hC (j:=32) rfl (by kernel_rfl) (af hC (j:=31) rfl (by kernel_rfl) (af hC (j:=30) rfl (by kernel_rfl) hS)))))));have hM31:=hM.1 hS0;obtain ⟨v31_76,e76,h76⟩:=hI.get (i:=28) (gM 28 rfl) d28;obtain rfl:=h76;exact az [(76,_)] hU hmo hme hI hM (gM 29 rfl) rfl rfl (by kernel_rfl) ⟨e76,trivial⟩ (aa ay rfl) ai.rfl_ (rfl)
   constructor
   ·rintro S L' w32 hU hmo hme hI hM hC hS ⟨d29,-⟩;have hS0:S 42=false:=(af hC (j:=42) rfl (by kernel_rfl) (af hC (j:=41) rfl (by kernel_rfl) (af hC (j:=34) rfl (by kernel_rfl) (af hC (j:=33) rfl (by kernel_rfl) (af hC (j:=32) rfl (by kernel_rfl) (af hC (j:=31) rfl (by kernel_rfl) hS))))));have hM32:=hM.1 hS0;obtain ⟨v32_77,e77,h77⟩:=hI.get (i:=29) (gM 29 rfl) d29;obtain rfl:=h77;exact az [(77,_)] hU hmo hme hI hM (gM 30 rfl) rfl rfl (by kernel_rfl) ⟨e77,trivial⟩ (aa aw rfl) ai.rfl_ (rfl)
   constructor
   ·rintro S L' w33 hU hmo hme hI hM hC hS ⟨d30,-⟩;have hS0:S 42=false:=(af hC (j:=42) rfl (by kernel_rfl) (af hC (j:=41) rfl (by kernel_rfl) (af hC (j:=34) rfl (by kernel_rfl) (af hC (j:=33) rfl (by kernel_rfl) (af hC (j:=32) rfl (by kernel_rfl) hS)))));have hM33:=hM.1 hS0;obtain ⟨v33_78,e78,h78⟩:=hI.get (i:=30) (gM 30 rfl) d30;obtain rfl:=h78;exact az [(78,_)] hU hmo hme hI hM (gM 31 rfl) rfl rfl (by kernel_rfl) ⟨e78,trivial⟩ (aa dD rfl) ai.rfl_ (rfl)
   constructor
   ·rintro S L' w34 hU hmo hme hI hM hC hS ⟨d31,-⟩;have hS0:S 42=false:=(af hC (j:=42) rfl (by kernel_rfl) (af hC (j:=41) rfl (by kernel_rfl) (af hC (j:=34) rfl (by kernel_rfl) (af hC (j:=33) rfl (by kernel_rfl) hS))));have hM34:=hM.1 hS0;obtain ⟨v34_79,e79,h79⟩:=hI.get (i:=31) (gM 31 rfl) d31;obtain rfl:=h79;exact az [(79,_)] hU hmo hme hI hM (gM 32 rfl) rfl rfl (by kernel_rfl) ⟨e79,trivial⟩ (au bQ rfl (by exact cB (hb.from_ (ai.rfl_.next hM34)) 9 rfl)) ai.rfl_ (rfl)
   constructor
   ·rintro S L' w35 hU hmo hme hI hM hC hS ⟨d32,-⟩;have hS0:S 42=false:=(af hC (j:=42) rfl (by kernel_rfl) (af hC (j:=41) rfl (by kernel_rfl) (af hC (j:=34) rfl (by kernel_rfl) hS)));have hM35:=hM.1 hS0;obtain ⟨v35_80,e80,h80⟩:=hI.get (i:=32) (gM 32 rfl) d32;obtain rfl:=h80;exact az [(80,_)] hU hmo hme hI hM (gM 33 rfl) rfl rfl (by kernel_rfl) ⟨e80,trivial⟩ (dA (by kernel_rfl) rfl) ai.rfl_ (rfl)
   constructor
   ·rintro S L' w36 hU hmo hme hI hM hC hS ⟨d26,d33,-⟩;have hS0:S 42=false:=(af hC (j:=42) rfl (by kernel_rfl) (af hC (j:=41) rfl (by kernel_rfl) hS));have hM36:=hM.1 hS0;obtain ⟨v36_74,e74,h74⟩:=hI.get (i:=26) (gM 26 rfl) d26;obtain rfl:=h74;obtain ⟨v36_81,e81,h81⟩:=hI.get (i:=33) (gM 33 rfl) d33;obtain rfl:=h81;exact az [(74,_),(81,_)] hU hmo hme hI hM (gM 34 rfl) rfl rfl (by kernel_rfl) ⟨e74,e81,trivial⟩ ((fg (bo rfl rfl) (congrArg Value.bool (show (((min (na+1024) p.s.snap.size:Nat):Int)==((p.s.snap.size:Nat):Int))=decide (min (na+1024) p.s.snap.size=p.s.snap.size) by rw [Bool.eq_iff_iff,beq_iff_eq,decide_eq_true_eq];omega)))) (ai.rfl_) (rfl)
   constructor
   ·rintro S L' w37 hU hmo hme hI hM hC hS ⟨-⟩;have hS0:S 42=false:=(af hC (j:=42) rfl (by kernel_rfl) (af hC (j:=41) rfl (by kernel_rfl) (af hC (j:=40) rfl (by kernel_rfl) (af hC (j:=39) rfl (by kernel_rfl) (af hC (j:=38) rfl (by kernel_rfl) (af hC (j:=37) rfl (by kernel_rfl) (af hC (j:=36) rfl (by kernel_rfl) hS)))))));have hM37:=hM.1 hS0;have e0:=hI.1 0 (dy rfl);exact az [(0,_)] hU hmo hme hI hM (gM 35 rfl) rfl rfl (by kernel_rfl) ⟨e0,trivial⟩ (aC (v:=.pointer _) rfl) ai.rfl_ (rfl)
   constructor
   ·rintro S L' w38 hU hmo hme hI hM hC hS ⟨d35,-⟩;have hS0:S 42=false:=(af hC (j:=42) rfl (by kernel_rfl) (af hC (j:=41) rfl (by kernel_rfl) (af hC (j:=40) rfl (by kernel_rfl) (af hC (j:=39) rfl (by kernel_rfl) (af hC (j:=38) rfl (by kernel_rfl) (af hC (j:=37) rfl (by kernel_rfl) hS))))));have hM38:=hM.1 hS0;obtain ⟨v38_83,e83,h83⟩:=hI.get (i:=35) (gM 35 rfl) d35;obtain rfl:=h83;exact az [(83,_)] hU hmo hme hI hM (gM 36 rfl) rfl rfl (by kernel_rfl) ⟨e83,trivial⟩ (av rfl) ai.rfl_ (rfl)
   constructor
   ·rintro S L' w39 hU hmo hme hI hM hC hS ⟨d36,-⟩;have hS0:S 42=false:=(af hC (j:=42) rfl (by kernel_rfl) (af hC (j:=41) rfl (by kernel_rfl) (af hC (j:=40) rfl (by kernel_rfl) (af hC (j:=39) rfl (by kernel_rfl) (af hC (j:=38) rfl (by kernel_rfl) hS)))));have hM39:=hM.1 hS0;obtain ⟨v39_84,e84,h84⟩:=hI.get (i:=36) (gM 36 rfl) d36;obtain rfl:=h84;exact az [(84,_)] hU hmo hme hI hM (gM 37 rfl) rfl rfl (by kernel_rfl) ⟨e84,trivial⟩ (aa ay rfl) ai.rfl_ (rfl)
   constructor
   ·rintro S L' w40 hU hmo hme hI hM hC hS ⟨d37,-⟩;have hS0:S 42=false:=(af hC (j:=42) rfl (by kernel_rfl) (af hC (j:=41) rfl (by kernel_rfl) (af hC (j:=40) rfl (by kernel_rfl) (af hC (j:=39) rfl (by kernel_rfl) hS))));have hM40:=hM.1 hS0;obtain ⟨v40_85,e85,h85⟩:=hI.get (i:=37) (gM 37 rfl) d37;obtain rfl:=h85;exact az [(85,_)] hU hmo hme hI hM (gM 38 rfl) rfl rfl (by kernel_rfl) ⟨e85,trivial⟩ (aa aw rfl) ai.rfl_ (rfl)
   constructor
   ·rintro S L' w41 hU hmo hme hI hM hC hS ⟨d38,-⟩;have hS0:S 42=false:=(af hC (j:=42) rfl (by kernel_rfl) (af hC (j:=41) rfl (by kernel_rfl) (af hC (j:=40) rfl (by kernel_rfl) hS)));have hM41:=hM.1 hS0;obtain ⟨v41_86,e86,h86⟩:=hI.get (i:=38) (gM 38 rfl) d38;obtain rfl:=h86;exact az [(86,_)] hU hmo hme hI hM (gM 39 rfl) rfl rfl (by kernel_rfl) ⟨e86,trivial⟩ (aa eW rfl) ai.rfl_ (rfl)
   constructor
   ·rintro S L' w42 hU hmo hme hI hM hC hS ⟨d39,-⟩;have hS0:S 42=false:=(af hC (j:=42) rfl (by kernel_rfl) (af hC (j:=41) rfl (by kernel_rfl) hS));have hM42:=hM.1 hS0;obtain ⟨v42_87,e87,h87⟩:=hI.get (i:=39) (gM 39 rfl) d39;obtain rfl:=h87;exact az [(87,_)] hU hmo hme hI hM (gM 40 rfl) rfl rfl (by kernel_rfl) ⟨e87,trivial⟩ (au ak rfl (by exact cB (hb.from_ (ai.rfl_.next hM42)) 18 rfl)) ai.rfl_ (rfl)
   constructor
   ·rintro S L' w43 hU hmo hme hI hM hC hS ⟨d8,d15,d16,d25,d34,d40,-⟩;have hS0:S 42=false:=(af hC (j:=42) rfl (by kernel_rfl) hS);have hM43:=hM.1 hS0;obtain ⟨v43_56,e56,h56⟩:=hI.get (i:=8) (gM 8 rfl) d8;obtain rfl:=h56;obtain ⟨v43_63,e63,h63⟩:=hI.get (i:=15) (gM 15 rfl) d15;obtain rfl:=h63;obtain ⟨v43_64,e64,h64⟩:=hI.get (i:=16) (gM 16 rfl) d16;obtain rfl:=h64;obtain ⟨v43_73,e73,h73⟩:=hI.get (i:=25) (gM 25 rfl) d25;obtain rfl:=h73;obtain ⟨v43_82,e82,h82⟩:=hI.get (i:=34) (gM 34 rfl) d34;obtain rfl:=h82;obtain ⟨v43_88,e88,h88⟩:=hI.get (i:=40) (gM 40 rfl) d40;obtain rfl:=h88;exact az [(56,_),(63,_),(64,_),(73,_),(82,_),(88,_)] hU hmo hme hI hM (gM 41 rfl) rfl rfl (by kernel_rfl) ⟨e56,e63,e64,e73,e82,e88,trivial⟩ (dt (l:=[(0,.const (.int .i64 5)),(4,.tmp 56),(5,.tmp 63),(10,.tmp 64),(11,.tmp 73),(12,.tmp 82),(7,.tmp 88)]) (fy _ _ _ _ _ _)) ai.rfl_ (rfl)
   constructor
   ·rintro S L' w44 hU hmo hme hI hM hC hS ⟨d0,d1,d41,-⟩;have hS0:S 42=false:=hS;have hM44:=hM.1 hS0;obtain ⟨v44_48,e48,h48⟩:=hI.get (i:=0) (.head _) d0;obtain rfl:=h48;obtain ⟨v44_49,e49,h49⟩:=hI.get (i:=1) (.tail _ (.head _)) d1;obtain rfl:=h49;obtain ⟨v44_89,e89,h89⟩:=hI.get (i:=41) (gM 41 rfl) d41;obtain rfl:=h89;refine df (al:=[.tmp 48,.tmp 49,.tmp 89]) [(48,_),(49,_),(89,_)] hU hI (gM 42 rfl) (by kernel_rfl) ⟨e48,e49,e89,trivial⟩ fi ((ka w0 Z T g p _ (h.from_ (ai.rfl_.next hM44)) tag _ O oc L (hs.from_ (ai.rfl_.next hM44)) (by omega) { zM with k:=5,ix:=p.s.b,lt:=p.s.t,rd:=p.s.round,a:=(na:Int),d:=p.s.snap.extract na (min (na+1024) p.s.snap.size),dn:=decide (min (na+1024) p.s.snap.size=p.s.snap.size) } ((k:Int)+1) ⟨dB,Col.none⟩).mono ?_);rintro v9 w2 ⟨rfl,hS2⟩;exact ⟨⟨fun h0=>(by rw [dS] at h0;cases h0),fun _=>hS2⟩,rfl,⟨fun _ _ _ h=>h,fun _ _ _ h=>h,fun _ _ _ h=>h,fun _ _ _ h=>h,fun _ _ _ h=>h,fun _ _ _ h=>h,fun _ _ _ h=>h,fun _ _ _ h=>h,fun _ _ _ h=>h,fun _ _ _ h=>h,fun _ _ _ h=>h,fun _ _ _ h=>h,fun _ _ _ h=>h,fun _ _ _ h=>h,fun _ _ _ h=>h,fun _ _ _ h=>h,fun _ _ _ h=>h,fun _ _ _ h=>h,fun _ _ _ h=>h,fun _ _ _ h=>h,fun _ _ _ h=>h,fun _ _ _ h=>h,fun _ _ _ h=>h,fun _ _ _ h=>h,fun _ _ _ h=>h,fun _ _ _ h=>h,fun _ _ _ h=>h,fun _ _ _ h=>h,fun _ _ _ h=>h,fun _ _ _ h=>h,fun _ _ _ h=>h,fun _ _ _ h=>h,fun _ _ _ h=>h,fun _ _ _ h=>h,fun _ _ _ h=>h,fun _ _ _ h=>h,fun _ _ _ h=>h,fun _ _ _ h=>h,fun _ _ _ h=>h,fun _ _ _ h=>h,fun _ _ _ h=>h,fun _ _ _ h=>h,fun _ _ _ h=>h,trivial⟩⟩
   exact trivial
  case hend=>
   intro w45 hM;obtain hS9:=hM.2 rfl;rintro v45_48 rfl v45_49 rfl v45_50 rfl v45_51 rfl v45_52 rfl v45_53 rfl v45_54 rfl v45_55 rfl v45_56 rfl v45_57 rfl v45_58 rfl v45_59 rfl v45_60 rfl v45_61 rfl v45_62 rfl v45_63 rfl v45_64 rfl v45_65 rfl v45_66 rfl v45_67 rfl v45_68 rfl v45_69 rfl v45_70 rfl v45_71 rfl v45_72 rfl v45_73 rfl v45_74 rfl v45_75 rfl v45_76 rfl v45_77 rfl v45_78 rfl v45_79 rfl v45_80 rfl v45_81 rfl v45_82 rfl v45_83 rfl v45_84 rfl v45_85 rfl v45_86 rfl v45_87 rfl v45_88 rfl v45_89 rfl v45_90 rfl;refine dY (ah (aG (aH (dU rfl ?_))))
   have e9:p.send ((k:Int)+1)=p.tell (pl { ({ zM with k:=5,ix:=p.s.b,lt:=p.s.t,rd:=p.s.round,a:=(na:Int),d:=p.s.snap.extract na (min (na+1024) p.s.snap.size),dn:=decide (min (na+1024) p.s.snap.size=p.s.snap.size) }:Msg) with t:=(k:Int)+1 }):=by
    unfold Sp.send;rw [rf (by rw [hpn];omega) (by rw [hpx,hna])];rfl
   rw [e9];exact ⟨rfl,hS9⟩
 refine aI (ah (ao (ag (mvp rfl (ab (av rfl) (ab (aa ay rfl) (ab (aa aw rfl) (ab (aa bd rfl) (ab (aR (cs:=[.int .i64 p.s.b,.int .i64 p.s.t,.slice E p.s.es.length Ec]) cw bD rfl (kV (hb.from_ ai.rfl_))) (mvi rfl ?_))))))))));have hB98:ai w w:=ai.rfl_;have hz98:=hB98.size;refine aE qt (xD p.s.b p.s.t p.s.next[k] E p.s.es.length Ec p.s.es _ (he.from_ ai.rfl_) hF.lg (by omega)) ?_;rintro v99 w46 ⟨⟨A99,c99,rfl,ho99⟩,E99⟩;have hs9:=hs.new hzw (ai.rfl_.next E99) (1000+2*L.length);have hc9:Col (dO w.heap.size (1000+2*L.length) tag) (1000+2*L.length) A99:=fun q hq=>ef (by have:=(fO ho99 q hq).1;omega)
 have h9:=h.from_ (ai.rfl_.next E99);refine mvt rfl (ab (aK rfl rfl) (ab (aK rfl rfl) (ass rfl (asi rfl (aq (ah ?_))))));apply eE [(0,102,fun _ v _=>v=_),(1,103,fun _ v _=>v=_),(2,104,fun _ v _=>v=_),(3,105,fun _ v _=>v=_),(4,106,fun _ v _=>v=_),(5,107,fun _ v _=>v=_),(6,108,fun _ v _=>v=_),(7,109,fun _ v _=>v=_),(8,110,fun _ v _=>v=_),(9,111,fun _ v _=>v=_),(10,112,fun _ v _=>v=_),(11,113,fun _ v _=>v=_),(12,114,fun _ v _=>v=_),(13,115,fun _ v _=>v=_),(14,116,fun _ v _=>v=_),(15,117,fun _ v _=>v=_),(16,118,fun _ v _=>v=_),(17,119,fun _ v _=>v=_),(18,120,fun _ v _=>v=_),(19,121,fun _ v _=>v=_),(20,122,fun _ v _=>v=_),(21,123,fun _ v _=>v=_),(22,124,fun _ v _=>v=_),(23,125,fun _ v _=>v=_),(24,126,fun _ v _=>v=_)] [24] (fun S w'=>(S 24=false→ai w46 w')∧(S 24=true→aF w0 Z w' T g (p.tell (pl { ({ zM with k:=3,ix:=p.s.next[k]-1,lt:=dz p.s.b p.s.t p.s.es (p.s.next[k]-1),cm:=p.s.commit,rd:=p.s.round,E:=A99,c:=c99,es:=(p.s.es.drop (p.s.next[k]-p.s.b-1).toNat).take 16 }:Msg) with t:=(k:Int)+1 })))) (by kernel_rfl) (by kernel_rfl) rfl rfl ⟨fun _ _ _ _ _ _ _ h=>h,fun _ _ _ _ _ _ _ h=>h,fun _ _ _ _ _ _ _ h=>h,fun _ _ _ _ _ _ _ h=>h,fun _ _ _ _ _ _ _ h=>h,fun _ _ _ _ _ _ _ h=>h,fun _ _ _ _ _ _ _ h=>h,fun _ _ _ _ _ _ _ h=>h,fun _ _ _ _ _ _ _ h=>h,fun _ _ _ _ _ _ _ h=>h,fun _ _ _ _ _ _ _ h=>h,fun _ _ _ _ _ _ _ h=>h,fun _ _ _ _ _ _ _ h=>h,fun _ _ _ _ _ _ _ h=>h,fun _ _ _ _ _ _ _ h=>h,fun _ _ _ _ _ _ _ h=>h,fun _ _ _ _ _ _ _ h=>h,fun _ _ _ _ _ _ _ h=>h,fun _ _ _ _ _ _ _ h=>h,fun _ _ _ _ _ _ _ h=>h,fun _ _ _ _ _ _ _ h=>h,fun _ _ _ _ _ _ _ h=>h,fun _ _ _ _ _ _ _ h=>h,fun _ _ _ _ _ _ _ h=>h,fun _ _ _ _ _ _ _ h=>h,trivial⟩ (fun S i w1 w2 hq hF h=>⟨fun h0=>(h.1 (en h0)).next hF,fun h1=>(fun h=>h.from_ hF) (h.2 (jn (show 24≠i by rintro rfl;exact absurd hq (by decide)) h1))⟩) ⟨fun _=>ai.rfl_.d1,fun h=>by cases h⟩
 case hstep=>
  constructor
  ·rintro S L' w47 hU hmo hme hI hM hC hS ⟨-⟩;have hS0:S 24=false:=(af hC (j:=24) rfl (by kernel_rfl) hS);have hM47:=hM.1 hS0;have e0:=hI.1 0 (dy rfl);exact az [(0,_)] hU hmo hme hI hM (.head _) rfl rfl (by kernel_rfl) ⟨e0,trivial⟩ (aC (v:=.pointer _) rfl) ai.rfl_ (rfl)
  constructor
  ·rintro S L' w48 hU hmo hme hI hM hC hS ⟨-⟩;have hS0:S 24=false:=(af hC (j:=24) rfl (by kernel_rfl) hS);have hM48:=hM.1 hS0;have e1:=hI.1 1 (dy rfl);exact az [(1,_)] hU hmo hme hI hM (.tail _ (.head _)) rfl rfl (by kernel_rfl) ⟨e1,trivial⟩ (aC (v:=.int _ _) rfl) ai.rfl_ (rfl)
  constructor
  ·rintro S L' w49 hU hmo hme hI hM hC hS ⟨-⟩;have hS0:S 24=false:=(af hC (j:=24) rfl (by kernel_rfl) (af hC (j:=23) rfl (by kernel_rfl) (af hC (j:=3) rfl (by kernel_rfl) hS)));have hM49:=hM.1 hS0;have e4:=hI.1 4 (dy rfl);exact az [(4,_)] hU hmo hme hI hM (gM 2 rfl) rfl rfl (by kernel_rfl) ⟨e4,trivial⟩ (aC (v:=.int _ _) rfl) ai.rfl_ (rfl)
  constructor
  ·rintro S L' w50 hU hmo hme hI hM hC hS ⟨d2,-⟩;have hS0:S 24=false:=(af hC (j:=24) rfl (by kernel_rfl) (af hC (j:=23) rfl (by kernel_rfl) hS));have hM50:=hM.1 hS0;obtain ⟨v50_104,e104,h104⟩:=hI.get (i:=2) (gM 2 rfl) d2;obtain rfl:=h104;exact az [(104,_)] hU hmo hme hI hM (gM 3 rfl) rfl rfl (by kernel_rfl) ⟨e104,trivial⟩ (dk rfl rfl (by omega)) ai.rfl_ (rfl)
  constructor
  ·rintro S L' w51 hU hmo hme hI hM hC hS ⟨-⟩;have hS0:S 24=false:=(af hC (j:=24) rfl (by kernel_rfl) (af hC (j:=23) rfl (by kernel_rfl) (af hC (j:=9) rfl (by kernel_rfl) (af hC (j:=6) rfl (by kernel_rfl) (af hC (j:=5) rfl (by kernel_rfl) hS)))));have hM51:=hM.1 hS0;have e0:=hI.1 0 (dy rfl);exact az [(0,_)] hU hmo hme hI hM (gM 4 rfl) rfl rfl (by kernel_rfl) ⟨e0,trivial⟩ (aC (v:=.pointer _) rfl) ai.rfl_ (rfl)
  constructor
  ·rintro S L' w52 hU hmo hme hI hM hC hS ⟨d4,-⟩;have hS0:S 24=false:=(af hC (j:=24) rfl (by kernel_rfl) (af hC (j:=23) rfl (by kernel_rfl) (af hC (j:=9) rfl (by kernel_rfl) (af hC (j:=6) rfl (by kernel_rfl) hS))));have hM52:=hM.1 hS0;obtain ⟨v52_106,e106,h106⟩:=hI.get (i:=4) (gM 4 rfl) d4;obtain rfl:=h106;exact az [(106,_)] hU hmo hme hI hM (gM 5 rfl) rfl rfl (by kernel_rfl) ⟨e106,trivial⟩ (av rfl) ai.rfl_ (rfl)
  constructor
  ·rintro S L' w53 hU hmo hme hI hM hC hS ⟨d5,-⟩;have hS0:S 24=false:=(af hC (j:=24) rfl (by kernel_rfl) (af hC (j:=23) rfl (by kernel_rfl) (af hC (j:=9) rfl (by kernel_rfl) hS)));have hM53:=hM.1 hS0;obtain ⟨v53_107,e107,h107⟩:=hI.get (i:=5) (gM 5 rfl) d5;obtain rfl:=h107;exact az [(107,_)] hU hmo hme hI hM (gM 6 rfl) rfl rfl (by kernel_rfl) ⟨e107,trivial⟩ (aa ay rfl) ai.rfl_ (rfl)
  constructor
  ·rintro S L' w54 hU hmo hme hI hM hC hS ⟨-⟩;have hS0:S 24=false:=(af hC (j:=24) rfl (by kernel_rfl) (af hC (j:=23) rfl (by kernel_rfl) (af hC (j:=9) rfl (by kernel_rfl) (af hC (j:=8) rfl (by kernel_rfl) hS))));have hM54:=hM.1 hS0;have e4:=hI.1 4 (dy rfl);exact az [(4,_)] hU hmo hme hI hM (gM 7 rfl) rfl rfl (by kernel_rfl) ⟨e4,trivial⟩ (aC (v:=.int _ _) rfl) ai.rfl_ (rfl)
  constructor
  ·rintro S L' w55 hU hmo hme hI hM hC hS ⟨d7,-⟩;have hS0:S 24=false:=(af hC (j:=24) rfl (by kernel_rfl) (af hC (j:=23) rfl (by kernel_rfl) (af hC (j:=9) rfl (by kernel_rfl) hS)));have hM55:=hM.1 hS0;obtain ⟨v55_109,e109,h109⟩:=hI.get (i:=7) (gM 7 rfl) d7;obtain rfl:=h109;exact az [(109,_)] hU hmo hme hI hM (gM 8 rfl) rfl rfl (by kernel_rfl) ⟨e109,trivial⟩ (dk rfl rfl (by omega)) ai.rfl_ (rfl)
  constructor
  ·rintro S L' w56 hU hmo hme hI hM hC hS ⟨d6,d8,-⟩;have hS0:S 24=false:=(af hC (j:=24) rfl (by kernel_rfl) hS);have hM56:=hM.1 hS0;obtain ⟨v56_108,e108,h108⟩:=hI.get (i:=6) (gM 6 rfl) d6;obtain rfl:=h108;obtain ⟨v56_110,e110,h110⟩:=hI.get (i:=8) (gM 8 rfl) d8;obtain rfl:=h110;refine q7 (al:=[.tmp 108,.tmp 110]) [(108,_),(110,_)] hU hmo hme hI hM (gM 9 rfl) rfl (by kernel_rfl) ⟨e108,e110,trivial⟩ jg ((mi T g p.s _ _ _ (hb.from_ ((ai.rfl_.next E99).next hM56)) (he.from_ ((ai.rfl_.next E99).next hM56)) hF.lg (p.s.next[k]-1) (by omega)).mono ?_);rintro v w2 ⟨rfl,E56'⟩;exact ⟨E56',rfl⟩
  constructor
  ·rintro S L' w57 hU hmo hme hI hM hC hS ⟨-⟩;have hS0:S 24=false:=(af hC (j:=24) rfl (by kernel_rfl) (af hC (j:=23) rfl (by kernel_rfl) (af hC (j:=15) rfl (by kernel_rfl) (af hC (j:=14) rfl (by kernel_rfl) (af hC (j:=13) rfl (by kernel_rfl) (af hC (j:=12) rfl (by kernel_rfl) (af hC (j:=11) rfl (by kernel_rfl) hS)))))));have hM57:=hM.1 hS0;have e0:=hI.1 0 (dy rfl);exact az [(0,_)] hU hmo hme hI hM (gM 10 rfl) rfl rfl (by kernel_rfl) ⟨e0,trivial⟩ (aC (v:=.pointer _) rfl) ai.rfl_ (rfl)
  constructor
  ·rintro S L' w58 hU hmo hme hI hM hC hS ⟨d10,-⟩;have hS0:S 24=false:=(af hC (j:=24) rfl (by kernel_rfl) (af hC (j:=23) rfl (by kernel_rfl) (af hC (j:=15) rfl (by kernel_rfl) (af hC (j:=14) rfl (by kernel_rfl) (af hC (j:=13) rfl (by kernel_rfl) (af hC (j:=12) rfl (by kernel_rfl) hS))))));have hM58:=hM.1 hS0;obtain ⟨v58_112,e112,h112⟩:=hI.get (i:=10) (gM 10 rfl) d10;obtain rfl:=h112;exact az [(112,_)] hU hmo hme hI hM (gM 11 rfl) rfl rfl (by kernel_rfl) ⟨e112,trivial⟩ (av rfl) ai.rfl_ (rfl)
  constructor
  ·rintro S L' w59 hU hmo hme hI hM hC hS ⟨d11,-⟩;have hS0:S 24=false:=(af hC (j:=24) rfl (by kernel_rfl) (af hC (j:=23) rfl (by kernel_rfl) (af hC (j:=15) rfl (by kernel_rfl) (af hC (j:=14) rfl (by kernel_rfl) (af hC (j:=13) rfl (by kernel_rfl) hS)))));have hM59:=hM.1 hS0;obtain ⟨v59_113,e113,h113⟩:=hI.get (i:=11) (gM 11 rfl) d11;obtain rfl:=h113;exact az [(113,_)] hU hmo hme hI hM (gM 12 rfl) rfl rfl (by kernel_rfl) ⟨e113,trivial⟩ (aa ay rfl) ai.rfl_ (rfl)
  constructor
  ·rintro S L' w60 hU hmo hme hI hM hC hS ⟨d12,-⟩;have hS0:S 24=false:=(af hC (j:=24) rfl (by kernel_rfl) (af hC (j:=23) rfl (by kernel_rfl) (af hC (j:=15) rfl (by kernel_rfl) (af hC (j:=14) rfl (by kernel_rfl) hS))));have hM60:=hM.1 hS0;obtain ⟨v60_114,e114,h114⟩:=hI.get (i:=12) (gM 12 rfl) d12;obtain rfl:=h114;exact az [(114,_)] hU hmo hme hI hM (gM 13 rfl) rfl rfl (by kernel_rfl) ⟨e114,trivial⟩ (aa aw rfl) ai.rfl_ (rfl)
  constructor
  ·rintro S L' w61 hU hmo hme hI hM hC hS ⟨d13,-⟩;have hS0:S 24=false:=(af hC (j:=24) rfl (by kernel_rfl) (af hC (j:=23) rfl (by kernel_rfl) (af hC (j:=15) rfl (by kernel_rfl) hS)));have hM61:=hM.1 hS0;obtain ⟨v61_115,e115,h115⟩:=hI.get (i:=13) (gM 13 rfl) d13;obtain rfl:=h115;exact az [(115,_)] hU hmo hme hI hM (gM 14 rfl) rfl rfl (by kernel_rfl) ⟨e115,trivial⟩ (aa cC rfl) ai.rfl_ (rfl)
  constructor
  ·rintro S L' w62 hU hmo hme hI hM hC hS ⟨d14,-⟩;have hS0:S 24=false:=(af hC (j:=24) rfl (by kernel_rfl) (af hC (j:=23) rfl (by kernel_rfl) hS));have hM62:=hM.1 hS0;obtain ⟨v62_116,e116,h116⟩:=hI.get (i:=14) (gM 14 rfl) d14;obtain rfl:=h116;exact az [(116,_)] hU hmo hme hI hM (gM 15 rfl) rfl rfl (by kernel_rfl) ⟨e116,trivial⟩ (au ak rfl (by exact cB (hb.from_ ((ai.rfl_.next E99).next hM62)) 10 rfl)) ai.rfl_ (rfl)
  constructor
  ·rintro S L' w63 hU hmo hme hI hM hC hS ⟨-⟩;have hS0:S 24=false:=(af hC (j:=24) rfl (by kernel_rfl) (af hC (j:=23) rfl (by kernel_rfl) hS));have hM63:=hM.1 hS0;have e7:=hI.1 7 (dy rfl);exact az [(7,_)] hU hmo hme hI hM (gM 16 rfl) rfl rfl (by kernel_rfl) ⟨e7,trivial⟩ (aC (v:=.slice _ _ _) rfl) ai.rfl_ (rfl)
  constructor
  ·rintro S L' w64 hU hmo hme hI hM hC hS ⟨-⟩;have hS0:S 24=false:=(af hC (j:=24) rfl (by kernel_rfl) (af hC (j:=23) rfl (by kernel_rfl) (af hC (j:=22) rfl (by kernel_rfl) (af hC (j:=21) rfl (by kernel_rfl) (af hC (j:=20) rfl (by kernel_rfl) (af hC (j:=19) rfl (by kernel_rfl) (af hC (j:=18) rfl (by kernel_rfl) hS)))))));have hM64:=hM.1 hS0;have e0:=hI.1 0 (dy rfl);exact az [(0,_)] hU hmo hme hI hM (gM 17 rfl) rfl rfl (by kernel_rfl) ⟨e0,trivial⟩ (aC (v:=.pointer _) rfl) ai.rfl_ (rfl)
  constructor
  ·rintro S L' w65 hU hmo hme hI hM hC hS ⟨d17,-⟩;have hS0:S 24=false:=(af hC (j:=24) rfl (by kernel_rfl) (af hC (j:=23) rfl (by kernel_rfl) (af hC (j:=22) rfl (by kernel_rfl) (af hC (j:=21) rfl (by kernel_rfl) (af hC (j:=20) rfl (by kernel_rfl) (af hC (j:=19) rfl (by kernel_rfl) hS))))));have hM65:=hM.1 hS0;obtain ⟨v65_119,e119,h119⟩:=hI.get (i:=17) (gM 17 rfl) d17;obtain rfl:=h119;exact az [(119,_)] hU hmo hme hI hM (gM 18 rfl) rfl rfl (by kernel_rfl) ⟨e119,trivial⟩ (av rfl) ai.rfl_ (rfl)
  constructor
  ·rintro S L' w66 hU hmo hme hI hM hC hS ⟨d18,-⟩;have hS0:S 24=false:=(af hC (j:=24) rfl (by kernel_rfl) (af hC (j:=23) rfl (by kernel_rfl) (af hC (j:=22) rfl (by kernel_rfl) (af hC (j:=21) rfl (by kernel_rfl) (af hC (j:=20) rfl (by kernel_rfl) hS)))));have hM66:=hM.1 hS0;obtain ⟨v66_120,e120,h120⟩:=hI.get (i:=18) (gM 18 rfl) d18;obtain rfl:=h120;exact az [(120,_)] hU hmo hme hI hM (gM 19 rfl) rfl rfl (by kernel_rfl) ⟨e120,trivial⟩ (aa ay rfl) ai.rfl_ (rfl)
  constructor
  ·rintro S L' w67 hU hmo hme hI hM hC hS ⟨d19,-⟩;have hS0:S 24=false:=(af hC (j:=24) rfl (by kernel_rfl) (af hC (j:=23) rfl (by kernel_rfl) (af hC (j:=22) rfl (by kernel_rfl) (af hC (j:=21) rfl (by kernel_rfl) hS))));have hM67:=hM.1 hS0;obtain ⟨v67_121,e121,h121⟩:=hI.get (i:=19) (gM 19 rfl) d19;obtain rfl:=h121;exact az [(121,_)] hU hmo hme hI hM (gM 20 rfl) rfl rfl (by kernel_rfl) ⟨e121,trivial⟩ (aa aw rfl) ai.rfl_ (rfl)
  constructor
  ·rintro S L' w68 hU hmo hme hI hM hC hS ⟨d20,-⟩;have hS0:S 24=false:=(af hC (j:=24) rfl (by kernel_rfl) (af hC (j:=23) rfl (by kernel_rfl) (af hC (j:=22) rfl (by kernel_rfl) hS)));have hM68:=hM.1 hS0;obtain ⟨v68_122,e122,h122⟩:=hI.get (i:=20) (gM 20 rfl) d20;obtain rfl:=h122;exact az [(122,_)] hU hmo hme hI hM (gM 21 rfl) rfl rfl (by kernel_rfl) ⟨e122,trivial⟩ (aa eW rfl) ai.rfl_ (rfl)
  constructor
  ·rintro S L' w69 hU hmo hme hI hM hC hS ⟨d21,-⟩;have hS0:S 24=false:=(af hC (j:=24) rfl (by kernel_rfl) (af hC (j:=23) rfl (by kernel_rfl) hS));have hM69:=hM.1 hS0;obtain ⟨v69_123,e123,h123⟩:=hI.get (i:=21) (gM 21 rfl) d21;obtain rfl:=h123;exact az [(123,_)] hU hmo hme hI hM (gM 22 rfl) rfl rfl (by kernel_rfl) ⟨e123,trivial⟩ (au ak rfl (by exact cB (hb.from_ ((ai.rfl_.next E99).next hM69)) 18 rfl)) ai.rfl_ (rfl)
  constructor
  ·rintro S L' w70 hU hmo hme hI hM hC hS ⟨d3,d9,d15,d16,d22,-⟩;have hS0:S 24=false:=(af hC (j:=24) rfl (by kernel_rfl) hS);have hM70:=hM.1 hS0;obtain ⟨v70_105,e105,h105⟩:=hI.get (i:=3) (gM 3 rfl) d3;obtain rfl:=h105;obtain ⟨v70_111,e111,h111⟩:=hI.get (i:=9) (gM 9 rfl) d9;obtain rfl:=h111;obtain ⟨v70_117,e117,h117⟩:=hI.get (i:=15) (gM 15 rfl) d15;obtain rfl:=h117;obtain ⟨v70_118,e118,h118⟩:=hI.get (i:=16) (gM 16 rfl) d16;obtain rfl:=h118;obtain ⟨v70_124,e124,h124⟩:=hI.get (i:=22) (gM 22 rfl) d22;obtain rfl:=h124;exact az [(105,_),(111,_),(117,_),(118,_),(124,_)] hU hmo hme hI hM (gM 23 rfl) rfl rfl (by kernel_rfl) ⟨e105,e111,e117,e118,e124,trivial⟩ (dt (l:=[(0,.const (.int .i64 3)),(4,.tmp 105),(5,.tmp 111),(6,.tmp 117),(9,.tmp 118),(7,.tmp 124)]) (gj _ _ _ _ _ _ _)) ai.rfl_ (rfl)
  constructor
  ·rintro S L' w71 hU hmo hme hI hM hC hS ⟨d0,d1,d23,d9,-⟩;have hS0:S 24=false:=hS;have hM71:=hM.1 hS0;obtain ⟨v71_102,e102,h102⟩:=hI.get (i:=0) (.head _) d0;obtain rfl:=h102;obtain ⟨v71_103,e103,h103⟩:=hI.get (i:=1) (.tail _ (.head _)) d1;obtain rfl:=h103;obtain ⟨v71_125,e125,h125⟩:=hI.get (i:=23) (gM 23 rfl) d23;obtain rfl:=h125;refine df (al:=[.tmp 102,.tmp 103,.tmp 125]) [(102,_),(103,_),(125,_)] hU hI (gM 24 rfl) (by kernel_rfl) ⟨e102,e103,e125,trivial⟩ fi ((ka w0 Z T g p _ (h9.from_ (ai.rfl_.next hM71)) _ _ O oc L (hs9.from_ (ai.rfl_.next hM71)) (by omega) { zM with k:=3,ix:=p.s.next[k]-1,lt:=dz p.s.b p.s.t p.s.es (p.s.next[k]-1),cm:=p.s.commit,rd:=p.s.round,E:=A99,c:=c99,es:=(p.s.es.drop (p.s.next[k]-p.s.b-1).toNat).take 16 } ((k:Int)+1) ⟨fE (ho99.kept_from (ai.rfl_.next hM71)) (Nat.zero_le _),hc9⟩).mono ?_);rintro v9 w2 ⟨rfl,hS2⟩;exact ⟨⟨fun h0=>(by rw [dS] at h0;cases h0),fun _=>hS2⟩,rfl,⟨fun _ _ _ h=>h,fun _ _ _ h=>h,fun _ _ _ h=>h,fun _ _ _ h=>h,fun _ _ _ h=>h,fun _ _ _ h=>h,fun _ _ _ h=>h,fun _ _ _ h=>h,fun _ _ _ h=>h,fun _ _ _ h=>h,fun _ _ _ h=>h,fun _ _ _ h=>h,fun _ _ _ h=>h,fun _ _ _ h=>h,fun _ _ _ h=>h,fun _ _ _ h=>h,fun _ _ _ h=>h,fun _ _ _ h=>h,fun _ _ _ h=>h,fun _ _ _ h=>h,fun _ _ _ h=>h,fun _ _ _ h=>h,fun _ _ _ h=>h,fun _ _ _ h=>h,fun _ _ _ h=>h,trivial⟩⟩
  exact trivial
 case hend=>
  intro w72 hM;obtain hS9:=hM.2 rfl;rintro v72_102 rfl v72_103 rfl v72_104 rfl v72_105 rfl v72_106 rfl v72_107 rfl v72_108 rfl v72_109 rfl v72_110 rfl v72_111 rfl v72_112 rfl v72_113 rfl v72_114 rfl v72_115 rfl v72_116 rfl v72_117 rfl v72_118 rfl v72_119 rfl v72_120 rfl v72_121 rfl v72_122 rfl v72_123 rfl v72_124 rfl v72_125 rfl v72_126 rfl;refine dY (cK (dU rfl ?_))
  have e9:p.send ((k:Int)+1)=p.tell (pl { ({ zM with k:=3,ix:=p.s.next[k]-1,lt:=dz p.s.b p.s.t p.s.es (p.s.next[k]-1),cm:=p.s.commit,rd:=p.s.round,E:=A99,c:=c99,es:=(p.s.es.drop (p.s.next[k]-p.s.b-1).toNat).take 16 }:Msg) with t:=(k:Int)+1 }):=by
   unfold Sp.send;rw [s5 (by rw [hpn];omega),hpn];rfl
  rw [e9];exact ⟨rfl,hS9⟩
theorem ng:aN prog 77=true:=by kernel_rfl
theorem je:aN prog 78=true:=by kernel_rfl
theorem r6:gA prog 22=some (99,3,32,(.agg #[.int .i64 0,.int .i64 0,.string ⟨#[]⟩])):=by kernel_rfl
theorem lk:∀ (a0:Int) (a1:Int) (a2:ByteArray),prog.built 99 [(0,.int .i64 a0),(1,.int .i64 a1),(2,.string a2)]=some #[.int .i64 a0,.int .i64 a1,.string a2]:=by intros;kernel_rfl
theorem qo:aN prog 112=true:=by kernel_rfl
theorem c6:cd prog 29 2=some 2:=by kernel_rfl
theorem fR:cd prog 29 5=some 5:=by kernel_rfl
theorem ed:cd prog 29 12=some 14:=by kernel_rfl
theorem dm:dr prog 26=some 1:=by kernel_rfl
theorem cM:cd prog 29 14=some 16:=by kernel_rfl
theorem cG:cd prog 29 17=some 19:=by kernel_rfl
theorem kh:dr prog 27=some 1:=by kernel_rfl
theorem jf:cd prog 29 4=some 4:=by kernel_rfl
theorem cg:cd prog 29 18=some 20:=by kernel_rfl
theorem gi:dr prog 9=some 1:=by kernel_rfl
theorem eA:cd prog 29 19=some 21:=by kernel_rfl
theorem qn:aN prog 115=true:=by kernel_rfl
theorem oA (l:List Int) (p:Sp):(p.sends l).s=p.s:=by rw [ku]
theorem s4 (l:List Int) (p:Sp):(p.sends l).out.length=p.out.length+l.length:=by rw [ku];simp
theorem s3 {l:List Int} {i:Nat} (h:i<l.length) (p:Sp):p.sends (l.take (i+1))=(p.sends (l.take i)).send l[i]:=by
 rw [List.take_succ_eq_append_getElem h,nI];rfl
theorem mI (s:Rf):(c_ s).length≤s.nodes.toNat:=sy _ _
theorem ru {s:Rf} {x:Int} (h:x∈c_ s) (hn:0≤s.nodes):1≤x∧x≤s.nodes∧x≠s.id:=by
 have:=uz h;omega
theorem mz (w0:World) (Z:Nat→Prop) (T g:Nat) (p:Sp) (w:World) (h:aF w0 Z w T g p) (hF:RfF p.s) (hr:p.s.role=2) (hl:p.out.length≤800) :
 Rt prog 84 [.pointer (some ⟨g,0,none⟩)] w (fun v w'=>v=.tuple #[]∧aF w0 Z w' T g p.all):=by
 obtain ⟨tag,a,O,oc,L,hs⟩:=h.ex;obtain ⟨E,Ec,V,Vc,X,Xc,M,Mc,S,Sc,Q,Qc,LL⟩:=a;have hb:=hs.b;have hll:L.length=p.out.length:=by rw [←hs.m.l,List.length_map]
 have hn0:=hF.n;refine enter (n:=17) Tryz.func84 rfl rfl rfl (ao (ag (mvp rfl (ab (av rfl) (ab (aa ay rfl) (aE ng (nQ T g p.s _ _ _ (hb.from_ ai.rfl_) (by omega)) ?_))))));rintro v7 w1 ⟨⟨A7,c7,rfl,ho7a⟩,E7⟩
 have h7:=h.at_ (Z':=fun k=>Z k∨A7.map (·.block)=some k) (ai.rfl_.next E7) (fun k hk=>by
  have hz7:=((ai.rfl_.next E7)).size;rcases hk with e | e
  ·exact ⟨Nat.lt_of_lt_of_le (h.zw k e) hz7,.inl e⟩
  ·have:=fO ho7a k e;exact ⟨this.2,.inr (by omega)⟩)
 have hB7:ai w w1:=(ai.rfl_.next E7);have ho7:=ho7a;obtain ⟨Z7,hZ7⟩:∃ Z7,Z7=fun k=>Z k∨A7.map (·.block)=some k:=⟨_,rfl⟩
 rw [←hZ7] at h7;have hzi:∀ k,Z k→Z7 k:=fun k hk=>by rw [hZ7];exact .inl hk
 have hzr:∀ k,A7.map (·.block)=some k→Z7 k:=fun k hk=>by rw [hZ7];exact .inr hk
 have hol:=mI p.s;have hnn:=hF.n;refine ab (b0 bX rfl) (mvi rfl (aq (ah (bk (dC (G:=Nat) [3,10,11,12,13,14,15,16] (fun i=>[(9,.int .i64 (i:Nat))]) (fun i w'=>i≤(c_ p.s).length∧aF w1 Z7 w' T g (p.sends ((c_ p.s).take i))) (fun i=>(c_ p.s).length-i) (0) ⟨rfl,trivial⟩ ?_ ?_)))))
 ·exact ⟨Nat.zero_le _,h7⟩
 rintro i ρ2 w2 ⟨hi,h15⟩;refine ao (ag (ab (cA rfl rfl) (aq (ah (ao (yS rfl (fun Q3=>?_) (fun Q3=>?_)))))))
 ·have hi9:i<(c_ p.s).length:=by omega
  obtain ⟨g7,rfl⟩:=du ho7 (by omega);have ho8:=eK ho7 h15.fr (fun q hq e=>e (hzr q hq));have hc8:=gY (l:=c_ p.s) ho8 i hi9;refine aI (ah (ao (bk (ao (ag (ab (bS a_ rfl rfl (by omega)) (ab (au ak rfl (by exact eH (ai.rfl_ (a:=w2)) hc8)) ?_)))))));refine asi rfl (aq (ah (ag (mvp rfl (mvi rfl ?_)))));refine aE je (l5 _ Z7 T g (p.sends ((c_ p.s).take i)) _ (h15.from_ (ai.rfl_ (a:=w2))) (by rw [oA];exact hF) (by rw [oA];exact hr) (by rw [s4,List.length_take];omega) (c_ p.s)[i] (by rw [oA];have:=ru (List.getElem_mem hi9) (by omega);omega)) ?_;rintro v15 w4 ⟨rfl,h16⟩;refine aq (bI (ah (ag (ab (cx (b:=1) rfl rfl (by omega)) (mvi rfl (aq ?_))))));refine cu (i+1) ⟨(by first | rfl | (refine aZ ?_;omega)),trivial⟩ (by (iterate 18 refine bC rfl ?_);exact bP) ⟨?_,?_⟩
  ·exact ⟨by omega,by rw [s3 hi9];exact h16.from_ (ai.rfl_ (a:=w4))⟩
  ·omega
 refine cL (bw (bw (cr (cK (dU rfl ?_)))));obtain rfl:i=(c_ p.s).length:=by omega
 rw [List.take_length] at h15;exact ⟨rfl,h.back hB7 h15 hzi⟩
theorem wK (s:Rf) (E U:Option Addr) (c u:Nat) (d:ByteArray) (w:World) (hF:RfF s) (hf:gF s=false) (hd:d.size≤4096) (h:cQ w (.slice E s.es.length c) s.es) (hu:cQ w (.slice U 1 u) [⟨aQ s+1,s.term,d⟩]) :
 Rt prog 112 [.agg #[.int .i64 s.b,.int .i64 s.t,.slice E s.es.length c],.slice U 1 u] w fun v w'=>(∃ A' c',v=.tuple #[.agg #[.int .i64 s.b,.int .i64 s.t,.slice A' (s.es.length+1) c'],.int .i64 0]∧w'.ownsRow w.heap.size 99 3 (.slice A' (s.es.length+1) c') (s.es.length+1) (dV (eI s d).es))∧ai w w':=
 (rV s.b s.t (.slice E s.es.length c) (.slice U 1 u) s.es [⟨aQ s+1,s.term,d⟩] w h hu (by show 1≤_;omega)).mono fun e w' ⟨L,he,hg,hF'⟩=>by
  have h1:=(hF.add hf d hd).1;have hl:=hF.last
  have h0:nb s.b s.t s.es [⟨aQ s+1,s.term,d⟩]=0:=by
   unfold nb;rw [if_pos hF.lg,if_pos ?_,if_pos ?_]
   ·have:=(hF.add hf d hd).2.2;have h2:=(gr h1).2.2.2;rw [this] at h2;exact h2
   ·unfold gF at hf;simp only [Bool.or_eq_false_iff,decide_eq_false_iff_not] at hf;show (gG _ (cW s.b s.es) (dE s.t s.es)&&true)=true;rw [Bool.and_true];unfold gG;have hte:=hF.te;have hlt:=hF.lt;simp only [Bool.and_eq_true,decide_eq_true_eq];exact ⟨⟨⟨rfl,eh ⟨by show 1≤aQ s+1;omega,by show aQ s+1≤_;omega⟩⟩,eh ⟨by show max (dE s.t s.es) 0≤s.term;omega,hte.2⟩⟩,hd⟩
  rw [h0] at he hg;obtain ⟨v',hL,ho⟩:=hg.2 rfl;rw [List.length_append] at ho;obtain ⟨A',c',rfl⟩:=fM ho;subst hL;exact ⟨_,he,⟨A',c',rfl,ho⟩,hF'⟩
theorem yd (w0:World) (Z:Nat→Prop) (T g:Nat) (p:Sp) (w:World) (h:aF w0 Z w T g p) (hF:RfF p.s) (hf:gF p.s=false) (d:ByteArray) (hd:d.size≤4096) :
 Rt prog 76 [.pointer (some ⟨g,0,none⟩),.string d] w (fun v w'=>v=.int .i64 (aQ p.s+1)∧aF w0 Z w' T g ⟨eI p.s d,p.out⟩):=by
 obtain ⟨tag,a,O,oc,L,hs⟩:=h.ex;obtain ⟨E,Ec,V,Vc,X,Xc,M,Mc,S,Sc,Q,Qc,LL⟩:=a;have hb:=hs.b;have hll:L.length=p.out.length:=by rw [←hs.m.l,List.length_map]
 have hbl:=hF.last;have hlb:cW p.s.b p.s.es=aQ p.s:=rfl;have he:cQ w (.slice E p.s.es.length Ec) p.s.es:=hs.f.rd.e;have hnn:=hF.n;have hzw:=h.zw;refine enter (n:=42) Tryz.func76 rfl rfl rfl (ao (ag (asi rfl (aq (ah (ao (ag (mvp rfl (aE ey (gv T g p.s _ _ _ (hb.from_ ai.rfl_) (he.from_ ai.rfl_) hF.lg) ?_)))))))));rintro v11 w1 ⟨rfl,E11⟩;refine mvt rfl (ab (aK rfl rfl) (ab (aK rfl rfl) (asi rfl (asi rfl (aq (ah (ao (ag (mvi rfl (ab (cl rfl rfl (by omega)) (asi rfl ?_)))))))))));refine aq (ah (ao (ao ?_)));apply br 19 [(17,eqp _),(18,eqp _),(19,eqp _),(20,eqp _),(21,eqp _),(22,eqp _),(23,eqp _),(24,eqp _),(25,eqp _),(26,eqp _),(27,eqp _),(28,eqp _),(29,eqp _),(30,fun v w'=>∃ b,v=.slice (some ⟨b,0,none⟩) 1 1∧cQ w' (.slice (some ⟨b,0,none⟩) 1 1) [⟨aQ p.s+1,p.s.term,d⟩]),(31,fun v w'=>∃ A' c',v=.tuple #[.agg #[.int .i64 p.s.b,.int .i64 p.s.t,.slice A' (p.s.es.length+1) c'],.int .i64 0]∧w'.ownsRow w.heap.size 99 3 (.slice A' (p.s.es.length+1) c') (p.s.es.length+1) (dV (eI p.s d).es)),(16,fun v w'=>∃ A' c',v=.tuple #[.agg #[.int .i64 p.s.b,.int .i64 p.s.t,.slice A' (p.s.es.length+1) c'],.int .i64 0]∧w'.ownsRow w.heap.size 99 3 (.slice A' (p.s.es.length+1) c') (p.s.es.length+1) (dV (eI p.s d).es)),(32,fun v w'=>∃ A' c',v=.agg #[.int .i64 p.s.b,.int .i64 p.s.t,.slice A' (p.s.es.length+1) c']∧w'.ownsRow w.heap.size 99 3 (.slice A' (p.s.es.length+1) c') (p.s.es.length+1) (dV (eI p.s d).es)),(33,eqp (.int .i64 0)),(7,fun v w'=>∃ b,v=.pointer (some ⟨b,0,none⟩)∧w.heap.size≤b∧Blk w' b 24 #[.int .i64 0,.int .i64 0,.slice none 0 0])] (by repeat first | exact bN | refine bM ?_ | refine bB ?_) (by kernel_rfl) (by kernel_rfl) ⟨ae _,ae _,ae _,ae _,ae _,ae _,ae _,ae _,ae _,ae _,ae _,ae _,ae _,(fun _ _ _ hF ⟨b,h1,h2⟩=>⟨b,h1,h2.from_ hF⟩),(fun _ _ _ hF ⟨a,b,h1,h2⟩=>⟨a,b,h1,h2.kept_from hF⟩),(fun _ _ _ hF ⟨a,b,h1,h2⟩=>⟨a,b,h1,h2.kept_from hF⟩),(fun _ _ _ hF ⟨a,b,h1,h2⟩=>⟨a,b,h1,h2.kept_from hF⟩),ae _,(fun _ _ _ hF ⟨b,h1,h2,h3⟩=>⟨b,h1,h2,h3.from_ hF⟩),trivial⟩
 case hop=>
  constructor
  ·rintro-w3 D3;exact an (aC (v:=.pointer _) rfl) rfl
  constructor
  ·rintro-w4 D4;rintro _ rfl;exact an (av rfl) rfl
  constructor
  ·rintro-w5 D5;rintro _ rfl;exact an (aa aw rfl) rfl
  constructor
  ·rintro-w6 D6;rintro _ rfl;exact an (aa bd rfl) rfl
  constructor
  ·rintro-w7 D7;rintro _ rfl;exact an (aR (cs:=[.int .i64 p.s.b,.int .i64 p.s.t,.slice E p.s.es.length Ec]) cw bD rfl (kV (hb.from_ ((ai.rfl_.next E11).next D7)))) rfl
  constructor
  ·rintro-w8 D8;exact an (aC (v:=.int _ _) rfl) rfl
  constructor
  ·rintro-w9 D9;exact an (aC (v:=.pointer _) rfl) rfl
  constructor
  ·rintro-w10 D10;rintro _ rfl;exact an (av rfl) rfl
  constructor
  ·rintro-w11 D11;rintro _ rfl;exact an (aa aw rfl) rfl
  constructor
  ·rintro-w12 D12;rintro _ rfl;exact an (aa bE rfl) rfl
  constructor
  ·rintro-w13 D13;rintro _ rfl;exact an (au ak rfl (by exact cB (hb.from_ ((ai.rfl_.next E11).next D13)) 3 rfl)) rfl
  constructor
  ·rintro-w14 D14;exact an (aC (v:=.string _) rfl) rfl
  constructor
  ·rintro-w15 D15;rintro _ rfl _ rfl _ rfl;exact an (dt (l:=[(0,.tmp 22),(1,.tmp 27),(2,.tmp 28)]) (lk _ _ _)) rfl
  constructor
  ·rintro-w16 D16;rintro _ rfl;exact oG (rk (l:=[(0,.tmp 29)]) (cells:=#[.int .i64 (aQ p.s+1),.int .i64 p.s.term,.string d]) r6 rfl rfl (by show Instr.fill _ _ [(0,Value.agg #[.int .i64 (aQ p.s+1),.int .i64 p.s.term,.string d])]=_;kernel_rfl)) (ai.rfl_.new _) ⟨_,rfl,uX (e:=⟨aQ p.s+1,p.s.term,d⟩) (Blk.new _ _ _)⟩
  constructor
  ·rintro-w17 D17;rintro _ rfl v17_30 ⟨b30,rfl,hl30⟩;refine iC qo ((wK p.s E _ Ec 1 d _ hF hf hd (he.from_ ((ai.rfl_.next E11).next D17)) hl30).mono ?_);rintro v w9 ⟨⟨a,b,rfl,ho⟩,hF9⟩;exact ⟨hF9,a,b,rfl,fE ho (((ai.rfl_.next E11).next D17)).size⟩
  constructor
  ·rintro-w18 D18;rintro v18_31 ⟨A31,c31,rfl,ho31⟩;exact an (aC (v:=.tuple #[_,_]) rfl) ⟨_,_,rfl,ho31⟩
  constructor
  ·rintro-w19 D19;rintro v19_16 ⟨A16,c16,rfl,ho16⟩;exact an (aK rfl rfl) ⟨_,_,rfl,ho16⟩
  constructor
  ·rintro-w20 D20;rintro v20_16 ⟨A16,c16,rfl,ho16⟩;exact an (aK rfl rfl) rfl
  constructor
  ·rintro-w21 D21;exact oG (py iq) (ai.rfl_.new _) ⟨_,rfl,(((ai.rfl_.next E11).next D21)).size,Blk.new _ _ _⟩
  exact trivial
 case hend=>
  intro w22 D22;rintro _ rfl _ rfl _ rfl _ rfl _ rfl _ rfl _ rfl _ rfl _ rfl _ rfl _ rfl _ rfl _ rfl v30 ⟨b30,rfl,hl30⟩ v31 ⟨A31,c31,rfl,ho31⟩ v16 ⟨A16,c16,rfl,ho16⟩ v32 ⟨A32,c32,rfl,ho32⟩ v33 rfl v7 ⟨b7,rfl,hg7,hk7⟩;show St ..;refine cZ (vs:=[_,_,_]) bD rfl rfl (by simp [Value.oneCell']) (hk7) rfl ?_;intro w23 O3 P3;have ho9:=fY ho32 O3 (oE ho32 hk7 (by decide));refine asi rfl (aq (ah (ao (ag (mvi rfl (ab (dX (bo rfl rfl) rfl) (aq (ah (aW rfl (ag (mvp rfl (ab (aR (cs:=[.int .i64 p.s.b,.int .i64 p.s.t,.slice A32 (p.s.es.length+1) c32]) cw bD rfl ((P3.from_ ai.rfl_).whole)) ?_))))))))))));refine ab (av rfl) (ab (aa aw rfl) (ab (aa bd rfl) ?_));have hB5:ai w w23:=(((ai.rfl_.next E11).next D22).only O3 (hg7));have ho5:=ho9.kept_from ai.rfl_;refine sX (es:=(eI p.s d).es) (by show _=(p.s.es++[_]).length;rw [List.length_append];rfl) bD rfl rfl (hb.from_ (((ai.rfl_.next E11).next D22).only O3 (hg7))) ?_;intro w24 O5 P5;refine aq (ah (ao (ag (mvi rfl (asi rfl (aq (ah (aG (bF (v:=.int _ _) rfl rfl ?_)))))))));have hf5:=(hs.f.but (c:=0) (ai.toChg hB5)).log p.s.b p.s.t (l:=(eI p.s d).es) (by show _=(p.s.es++[_]).length;rw [List.length_append];rfl) (fE ho5 (Nat.zero_le _)) (fun q hq=>ef (fO ho32 q hq).1);exact ⟨rfl,((h.put hs (ai.toChg hB5) (.inl (by decide)) hf5 (O5.toChg rfl) P5).2).from_ (ai.rfl_ (a:=w24))⟩
theorem iR (w0:World) (Z:Nat→Prop) (T g:Nat) (p:Sp) (w:World) (h:aF w0 Z w T g p) (tm:Int) :
 Rt prog 99 [.pointer (some ⟨g,0,none⟩),.int .i64 tm] w (fun v w'=>v=.tuple #[]∧aF w0 Z w' T g ⟨cF p.s tm,p.out⟩):=by
 obtain ⟨s,out⟩:=p;obtain ⟨tag,a,O,oc,L,hs⟩:=h.ex;obtain ⟨E,Ec,V,Vc,X,Xc,M,Mc,S,Sc,Q,Qc,LL⟩:=a;have hb:Blk w g T (rfV s (⟨E,Ec,V,Vc,X,Xc,M,Mc,S,Sc,Q,Qc,LL⟩:Ra)++[Value.slice O L.length oc]).toArray:=hs.b
 have hll:L.length=out.length:=by
  have h9:=congrArg List.length hs.m.l;rw [List.length_map] at h9;exact h9
 have hB0:ai w w:=ai.rfl_;refine enter (n:=56) Tryz.func99 rfl rfl rfl (ao (ag (mvp rfl (mvp rfl (ab (av rfl) (ab (aa aw rfl) (ab (aa c6 rfl) (cY (s':=({ s with role:=0 }:Rf)) (a':=(⟨E,Ec,V,Vc,X,Xc,M,Mc,S,Sc,Q,Qc,LL⟩:Ra)) (v:=.int _ _) bh rfl rfl rfl ((hb.from_ ai.rfl_)) (by exact ⟨by decide,rfl⟩) ?_))))))));intro w1 O0_0 P0_0;have hC1:Chg (fun k=>k=g) w w1:=(ai.toChg hB0).only O0_0 rfl;refine ab (av rfl) (ab (aa aw rfl) (ab (aa fR rfl) (cY (s':=({ s with role:=0,leader:=0 }:Rf)) (a':=(⟨E,Ec,V,Vc,X,Xc,M,Mc,S,Sc,Q,Qc,LL⟩:Ra)) (v:=.int _ _) bh rfl rfl rfl (P0_0) (by exact ⟨by decide,rfl⟩) ?_)));intro w2 O0_1 P0_1;replace hC1:=hC1.only O0_1 rfl;refine aq (ah (ao (ag (mvp rfl (mvp rfl (mvp rfl (mvp rfl (mvp rfl (ab (av rfl) (ab (aa aw rfl) (ab (aa ed rfl) ?_)))))))))));have hM0:ai _ w2:=ai.rfl_;refine cY (s':=({ s with role:=0,leader:=0,votes:=[] }:Rf)) (a':=(⟨E,Ec,none,0,X,Xc,M,Mc,S,Sc,Q,Qc,LL⟩:Ra)) (v:=.slice _ _ _) dm rfl rfl rfl ((P0_1.from_ ai.rfl_)) (by exact ⟨by decide,rfl⟩) ?_;intro w3 O1_0 P1_0;replace hC1:=(hC1.next (ai.toChg hM0)).only O1_0 rfl;refine ab (av rfl) (ab (aa aw rfl) (ab (aa ch rfl) (cY (s':=({ s with role:=0,leader:=0,votes:=[],next:=[] }:Rf)) (a':=(⟨E,Ec,none,0,none,0,M,Mc,S,Sc,Q,Qc,LL⟩:Ra)) (v:=.slice _ _ _) dm rfl rfl rfl (P1_0) (by exact ⟨by decide,rfl⟩) ?_)));intro w4 O1_1 P1_1;replace hC1:=hC1.only O1_1 rfl;refine ab (av rfl) (ab (aa aw rfl) (ab (aa cM rfl) (cY (s':=({ s with role:=0,leader:=0,votes:=[],next:=[],mtch:=[] }:Rf)) (a':=(⟨E,Ec,none,0,none,0,none,0,S,Sc,Q,Qc,LL⟩:Ra)) (v:=.slice _ _ _) dm rfl rfl rfl (P1_1) (by exact ⟨by decide,rfl⟩) ?_)));intro w5 O1_2 P1_2;replace hC1:=hC1.only O1_2 rfl;refine ab (av rfl) (ab (aa aw rfl) (ab (aa dc rfl) (cY (s':=({ s with role:=0,leader:=0,votes:=[],next:=[],mtch:=[],sent:=[] }:Rf)) (a':=(⟨E,Ec,none,0,none,0,none,0,none,0,Q,Qc,LL⟩:Ra)) (v:=.slice _ _ _) dm rfl rfl rfl (P1_2) (by exact ⟨by decide,rfl⟩) ?_)));intro w6 O1_3 P1_3;replace hC1:=hC1.only O1_3 rfl;refine ab (av rfl) (ab (aa aw rfl) (ab (aa cG rfl) (cY (s':=({ s with role:=0,leader:=0,votes:=[],next:=[],mtch:=[],sent:=[],reads:=[] }:Rf)) (a':=(⟨E,Ec,none,0,none,0,none,0,none,0,none,0,[]⟩:Ra)) (v:=.slice _ _ _) kh rfl rfl rfl (P1_3) (by exact ⟨by decide,rfl⟩) ?_)));intro w7 O1_4 P1_4;replace hC1:=hC1.only O1_4 rfl;refine aq (ah (ao (ag (mvi rfl (mvp rfl (ab (av rfl) (ab (aa aw rfl) (ab (aa bE rfl) (ab (au ak rfl (by exact (show _=some (Value.int .i64 s.term) from cB (P1_4.from_ ai.rfl_) 3 rfl))) ?_)))))))));refine ab (ct rfl rfl) (aq (ah (yS rfl (fun Q8=>?_) (fun Q8=>?_))))
 ·refine ag (mvp rfl (mvp rfl (mvp rfl (mvp rfl (mvi rfl (ab (av rfl) (ab (aa aw rfl) (ab (aa bE rfl) ?_))))))));have hM0:ai _ w7:=ai.rfl_;refine cY (s':=({ s with role:=0,leader:=0,votes:=[],next:=[],mtch:=[],sent:=[],reads:=[],term:=tm }:Rf)) (a':=(⟨E,Ec,none,0,none,0,none,0,none,0,none,0,[]⟩:Ra)) (v:=.int _ _) bh rfl rfl rfl ((P1_4.from_ ai.rfl_)) (by exact ⟨by decide,rfl⟩) ?_;intro w9 O3_0 P3_0;replace hC1:=(hC1.next (ai.toChg hM0)).only O3_0 rfl;refine ab (av rfl) (ab (aa aw rfl) (ab (aa jf rfl) (cY (s':=({ s with role:=0,leader:=0,votes:=[],next:=[],mtch:=[],sent:=[],reads:=[],term:=tm,vote:=0 }:Rf)) (a':=(⟨E,Ec,none,0,none,0,none,0,none,0,none,0,[]⟩:Ra)) (v:=.int _ _) bh rfl rfl rfl (P3_0) (by exact ⟨by decide,rfl⟩) ?_)));intro w10 O3_1 P3_1;replace hC1:=hC1.only O3_1 rfl;refine ab (av rfl) (ab (aa aw rfl) (ab (aa cg rfl) (cY (s':=({ s with role:=0,leader:=0,votes:=[],next:=[],mtch:=[],sent:=[],reads:=[],term:=tm,vote:=0,part:=⟨#[]⟩ }:Rf)) (a':=(⟨E,Ec,none,0,none,0,none,0,none,0,none,0,[]⟩:Ra)) (v:=.string _) gi rfl rfl rfl (P3_1) (by exact ⟨by decide,rfl⟩) ?_)));intro w11 O3_2 P3_2;replace hC1:=hC1.only O3_2 rfl;refine ab (av rfl) (ab (aa aw rfl) (ab (aa eA rfl) (cY (s':=({ s with role:=0,leader:=0,votes:=[],next:=[],mtch:=[],sent:=[],reads:=[],term:=tm,vote:=0,part:=⟨#[]⟩,partOf:=0 }:Rf)) (a':=(⟨E,Ec,none,0,none,0,none,0,none,0,none,0,[]⟩:Ra)) (v:=.int _ _) bh rfl rfl rfl (P3_2) (by exact ⟨by decide,rfl⟩) ?_)));intro w12 O3_3 P3_3;replace hC1:=hC1.only O3_3 rfl;refine aq (cK (dU rfl (⟨rfl,?_⟩)));have hf1:=hs.f.alone;unfold cF;simp only
  first
   |(rw [if_pos (show s.term<tm by omega)];exact (h.set (s':=({ s with role:=0,leader:=0,votes:=[],next:=[],mtch:=[],sent:=[],reads:=[],term:=tm,vote:=0,part:=⟨#[]⟩,partOf:=0 }:Rf)) (a':=(⟨E,Ec,none,0,none,0,none,0,none,0,none,0,[]⟩:Ra)) hs hC1 (aY.same hf1 rfl rfl rfl rfl rfl rfl) P3_3).2)
   |(rw [if_neg (show ¬ s.term<tm by omega)];exact (h.set (s':=({ s with role:=0,leader:=0,votes:=[],next:=[],mtch:=[],sent:=[],reads:=[] }:Rf)) (a':=(⟨E,Ec,none,0,none,0,none,0,none,0,none,0,[]⟩:Ra)) hs (hC1.next (ai.toChg ai.rfl_)) (aY.same hf1 rfl rfl rfl rfl rfl rfl) (P1_4.from_ ai.rfl_)).2)
 refine aI (cK (dU rfl (⟨rfl,?_⟩)));have hf1:=hs.f.alone;unfold cF;simp only
 first
  |(rw [if_pos (show s.term<tm by omega)];exact (h.set (s':=({ s with role:=0,leader:=0,votes:=[],next:=[],mtch:=[],sent:=[],reads:=[],term:=tm,vote:=0,part:=⟨#[]⟩,partOf:=0 }:Rf)) (a':=(⟨E,Ec,none,0,none,0,none,0,none,0,none,0,[]⟩:Ra)) hs hC1 (aY.same hf1 rfl rfl rfl rfl rfl rfl) P3_3).2)
  |(rw [if_neg (show ¬ s.term<tm by omega)];exact (h.set (s':=({ s with role:=0,leader:=0,votes:=[],next:=[],mtch:=[],sent:=[],reads:=[] }:Rf)) (a':=(⟨E,Ec,none,0,none,0,none,0,none,0,none,0,[]⟩:Ra)) hs (hC1.next (ai.toChg ai.rfl_)) (aY.same hf1 rfl rfl rfl rfl rfl rfl) (P1_4.from_ ai.rfl_)).2)
theorem zc (A:Option Addr) (c:Nat) (L:List Int) (w:World) (hr:ew iV w A L) (hf:Fit L):Rt prog 115 [.slice A L.length c] w fun v w'=>v=.tuple #[.int .i64 (med L),.int .i64 0]∧ai w w':=
 (uR A c L w hr).mono fun _ _ h=>⟨h.1.elim (fun e=>e.2) (fun e=>absurd hf e.1),h.2⟩
theorem my (l:List Int) (k:Nat) (v:Int):(l.map iV).set k (iV v)=(l.set k v).map iV:=by rw [List.map_set]
theorem nH (w0:World) (Z:Nat→Prop) (T g:Nat) (s:Rf) (out:List Msg) (w:World) (h:aF w0 Z w T g ⟨s,out⟩) (tag:Nat→Nat) (a:Ra) (O:Option Addr) (oc:Nat) (L:List Msg) (hs:eN w Z T g tag ⟨s,out⟩ a O oc L) (hF:RfF s) (hr:s.role=2) :
 Rt prog 79 [.pointer (some ⟨g,0,none⟩)] w (fun v w'=>v=.tuple #[]∧aF w0 Z w' T g ⟨cH s,out⟩∧∃ tag',eN w' Z T g tag' ⟨cH s,out⟩ a O oc L):=by
 obtain ⟨E,Ec,V,Vc,X,Xc,M,Mc,S,Sc,Q,Qc,LL⟩:=a;have hb:Blk w g T (rfV s (⟨E,Ec,V,Vc,X,Xc,M,Mc,S,Sc,Q,Qc,LL⟩:Ra)++[Value.slice O L.length oc]).toArray:=hs.b
 have hll:L.length=out.length:=by
  have h9:=congrArg List.length hs.m.l;rw [List.length_map] at h9;exact h9
 have hbl:=hF.last;have hlb:cW s.b s.es=aQ s:=rfl;have he:cQ w (.slice E s.es.length Ec) s.es:=hs.f.rd.e;have hnn:=hF.n;have hid:=hF.i;have hzw:=h.zw;obtain ⟨k,hk⟩:∃ k:Nat,s.id=(k:Int)+1:=⟨(s.id-1).toNat,by omega⟩;have hMl:s.mtch.length=s.nodes.toNat:=by rw [hF.ma.1,dP hr]
 have hkM:k<s.mtch.length:=by omega
 obtain ⟨gM,rfl⟩:∃ q,M=some ⟨q,0,none⟩:=du (n:=s.mtch.length) (hs.f.m (by decide)).1 (by omega);have hMo:w.ownsRow 0 3 1 (.slice (some ⟨gM,0,none⟩) s.mtch.length Mc) s.mtch.length (s.mtch.map iV):=(hs.f.m (by decide)).1;have hMc:=gY (l:=s.mtch) hMo k hkM;have hFs:=hF.settle hr;have hp1:ck s.mtch s.id (aQ s)=s.mtch.set k (aQ s):=by unfold ck;rw [show (s.id-1).toNat=k by omega]
 have hfit:Fit (ck s.mtch s.id (aQ s)):=⟨by rw [eg];omega,by rw [eg];omega,fun x hx=>(hFs.ma.2 x hx).1⟩;have hmed:0≤med (ck s.mtch s.id (aQ s))∧med (ck s.mtch s.id (aQ s))≤aQ s:=hFs.ma.2 _ (oH hfit.1);have hco:=hF.co;refine enter (n:=57) Tryz.func79 rfl rfl rfl (ao ?_);apply br 16 [(5,eqp _),(6,eqp _),(7,eqp _),(8,eqp _),(9,eqp _),(10,eqp _),(11,eqp _),(12,eqp _),(13,eqp _),(14,eqp _),(15,eqp (.int .i64 (k:Nat))),(16,eqp _),(17,eqp _),(4,eqp _),(18,eqp _),(19,eqp _)] (by repeat first | exact bN | refine bM ?_ | refine bB ?_) (by kernel_rfl) (by kernel_rfl) ⟨ae _,ae _,ae _,ae _,ae _,ae _,ae _,ae _,ae _,ae _,ae _,ae _,ae _,ae _,ae _,ae _,trivial⟩
 case hop=>
  constructor
  ·rintro-w2 D2;exact an (aC (v:=.pointer _) rfl) rfl
  constructor
  ·rintro-w3 D3;rintro _ rfl;exact an (av rfl) rfl
  constructor
  ·rintro-w4 D4;rintro _ rfl;exact an (aa aw rfl) rfl
  constructor
  ·rintro-w5 D5;rintro _ rfl;exact an (aa cM rfl) rfl
  constructor
  ·rintro-w6 D6;rintro _ rfl;exact an (au bj rfl (by exact cB (hb.from_ (ai.rfl_.next D6)) 16 rfl)) rfl
  constructor
  ·rintro-w7 D7;exact an (aC (v:=.pointer _) rfl) rfl
  constructor
  ·rintro-w8 D8;rintro _ rfl;exact an (av rfl) rfl
  constructor
  ·rintro-w9 D9;rintro _ rfl;exact an (aa aw rfl) rfl
  constructor
  ·rintro-w10 D10;rintro _ rfl;exact an (aa dK rfl) rfl
  constructor
  ·rintro-w11 D11;rintro _ rfl;exact an (au ak rfl (by exact cB (hb.from_ (ai.rfl_.next D11)) 0 rfl)) rfl
  constructor
  ·rintro-w12 D12;rintro _ rfl;exact an (fg (dk rfl rfl (by omega)) (aZ (by omega))) rfl
  constructor
  ·rintro-w13 D13;exact an (aC (v:=.pointer _) rfl) rfl
  constructor
  ·rintro-w14 D14;rintro _ rfl;refine iC ey ((gv T g s _ _ _ (hb.from_ (ai.rfl_.next D14)) (he.from_ (ai.rfl_.next D14)) hF.lg).mono ?_);rintro v _ ⟨rfl,E14'⟩;exact ⟨E14',rfl⟩
  constructor
  ·rintro-w15 D15;rintro _ rfl;exact an (aC (v:=.tuple _) rfl) rfl
  constructor
  ·rintro-w16 D16;rintro _ rfl;exact an (aK rfl rfl) rfl
  constructor
  ·rintro-w17 D17;rintro _ rfl;exact an (aK rfl rfl) rfl
  exact trivial
 case hend=>
  intro w18 D18;rintro _ rfl _ rfl _ rfl _ rfl _ rfl _ rfl _ rfl _ rfl _ rfl _ rfl v15 rfl _ rfl _ rfl _ rfl _ rfl _ rfl;show St ..;refine ab (bS a_ rfl rfl (by omega)) ?_;have hB0:ai w w18:=(ai.rfl_.next D18);refine fG (xs:=s.mtch.map iV) bh rfl rfl rfl (hMo.kept_from (ai.rfl_.next D18)) (by omega) ?_;intro w19 O0 P0
  have hMo1:(w19).ownsRow 0 3 1 (.slice (some ⟨gM,0,none⟩) (ck s.mtch s.id (aQ s)).length Mc) (ck s.mtch s.id (aQ s)).length ((ck s.mtch s.id (aQ s)).map iV):=by
   rw [eg,hp1,←my];exact P0
  have hgM7:tag gM=3:=(hs.f.m (by decide)).2 gM rfl;have hC1:Chg (fun k=>tag k=3) w w19:=(ai.toChg hB0).only O0 hgM7
  have hb1:Blk w19 g T (rfV ({ s with mtch:=ck s.mtch s.id (aQ s) }:Rf) (⟨E,Ec,V,Vc,X,Xc,some ⟨gM,0,none⟩,Mc,S,Sc,Q,Qc,LL⟩:Ra)++[Value.slice O L.length oc]).toArray:=by
   have h9:=(hb.from_ hB0).only O0 (fun e=>by have:=hs.gc;rw [e,hgM7] at this;cases this)
   have e9:rfV ({ s with mtch:=ck s.mtch s.id (aQ s) }:Rf) (⟨E,Ec,V,Vc,X,Xc,some ⟨gM,0,none⟩,Mc,S,Sc,Q,Qc,LL⟩:Ra)=rfV s (⟨E,Ec,V,Vc,X,Xc,some ⟨gM,0,none⟩,Mc,S,Sc,Q,Qc,LL⟩:Ra):=by
    unfold rfV;simp only [eg]
   rw [e9];exact h9
  have hf1:=(hs.f.but hC1).mtch (l:=ck s.mtch s.id (aQ s)) rfl hMo1 (fun q hq=>by cases hq;rw [cy (dI hMo _ rfl)];exact hgM7);obtain ⟨hs1,h1⟩:=h.put hs hC1 (.inl (by decide)) hf1 (Chg.rfl_ (U:=fun k=>k=g)) hb1;have he1:cQ w19 (.slice E s.es.length Ec) s.es:=hs1.f.rd.e;refine aq (ah (ao (ag (mvp rfl (ab (av rfl) (ab (aa aw rfl) (ab (aa cM rfl) (ab (au bj rfl (by exact cB (hb1.from_ (ai.rfl_ (a:=w19))) 16 rfl)) ?_))))))));refine aE qn (zc (some ⟨gM,0,none⟩) Mc (ck s.mtch s.id (aQ s)) _ ((ew.own hMo1).2.from_ (ai.rfl_ (a:=w19))) hfit) ?_;rintro v27 w20 ⟨rfl,E27⟩;refine mvt rfl (ab (aK rfl rfl) (ab (aK rfl rfl) (asi rfl (asi rfl (aq (ah (ao ?_)))))));by_cases hgt:s.commit<med (ck s.mtch s.id (aQ s))
  ·apply br 22 [(30,eqp _),(31,eqp _),(32,eqp _),(33,eqp _),(34,eqp _),(35,eqp _),(36,eqp _),(37,eqp _),(38,eqp _),(39,eqp _),(40,eqp _),(41,eqp _),(42,eqp _),(43,eqp _),(44,eqp _),(45,eqp _),(46,eqp _),(47,eqp _),(48,eqp _),(49,eqp _),(50,eqp _),(51,eqp _)] (by repeat first | exact bN | refine bM ?_ | refine bB ?_) (by kernel_rfl) (by kernel_rfl) ⟨ae _,ae _,ae _,ae _,ae _,ae _,ae _,ae _,ae _,ae _,ae _,ae _,ae _,ae _,ae _,ae _,ae _,ae _,ae _,ae _,ae _,ae _,trivial⟩
   case hop=>
    constructor
    ·rintro-w22 D22;exact an (aC (v:=.int _ _) rfl) rfl
    constructor
    ·rintro-w23 D23;rintro _ rfl;exact an (dX (bo rfl rfl) rfl) rfl
    constructor
    ·rintro-w24 D24;rintro _ rfl;exact an (aC (v:=.bool _) rfl) rfl
    constructor
    ·rintro-w25 D25;rintro _ rfl;exact aD rfl (aC (v:=.int _ _) rfl) rfl
    constructor
    ·rintro-w26 D26;rintro _ rfl;exact aD rfl (aC (v:=.pointer _) rfl) rfl
    constructor
    ·rintro-w27 D27;rintro _ rfl _ rfl;exact aD rfl (av rfl) rfl
    constructor
    ·rintro-w28 D28;rintro _ rfl _ rfl;exact aD rfl (aa aw rfl) rfl
    constructor
    ·rintro-w29 D29;rintro _ rfl _ rfl;exact aD rfl (aa cC rfl) rfl
    constructor
    ·rintro-w30 D30;rintro _ rfl _ rfl;exact aD rfl (au ak rfl (by exact (show _=some (Value.int .i64 s.commit) from cB (hb1.from_ (((ai.rfl_ (a:=w19)).next E27).next D30)) 10 rfl))) rfl
    constructor
    ·rintro-w31 D31;rintro _ rfl _ rfl _ rfl;exact aD rfl (dX (ct rfl rfl) (decide_eq_true hgt)) rfl
    constructor
    ·rintro-w32 D32;rintro _ rfl _ rfl;exact an (aJ (v:=.bool _) rfl rfl) rfl
    constructor
    ·rintro-w33 D33;rintro _ rfl;exact an (aC (v:=.bool _) rfl) rfl
    constructor
    ·rintro-w34 D34;rintro _ rfl;exact aD rfl (aC (v:=.pointer _) rfl) rfl
    constructor
    ·rintro-w35 D35;rintro _ rfl;exact aD rfl (aC (v:=.int _ _) rfl) rfl
    constructor
    ·rintro-w36 D36;rintro _ rfl _ rfl _ rfl;refine mL rfl jg ((mi T g ({ s with mtch:=ck s.mtch s.id (aQ s) }:Rf) _ _ _ (hb1.from_ (((ai.rfl_ (a:=w19)).next E27).next D36)) (he1.from_ (((ai.rfl_ (a:=w19)).next E27).next D36)) hF.lg (med (ck s.mtch s.id (aQ s))) (by show s.b≤_∧_≤aQ s;omega)).mono ?_);rintro v _ ⟨rfl,E36'⟩;exact ⟨E36',rfl⟩
    constructor
    ·rintro-w37 D37;rintro _ rfl;exact aD rfl (aC (v:=.pointer _) rfl) rfl
    constructor
    ·rintro-w38 D38;rintro _ rfl _ rfl;exact aD rfl (av rfl) rfl
    constructor
    ·rintro-w39 D39;rintro _ rfl _ rfl;exact aD rfl (aa aw rfl) rfl
    constructor
    ·rintro-w40 D40;rintro _ rfl _ rfl;exact aD rfl (aa bE rfl) rfl
    constructor
    ·rintro-w41 D41;rintro _ rfl _ rfl;exact aD rfl (au ak rfl (by exact (show _=some (Value.int .i64 s.term) from cB (hb1.from_ (((ai.rfl_ (a:=w19)).next E27).next D41)) 3 rfl))) rfl
    constructor
    ·rintro-w42 D42;rintro _ rfl _ rfl _ rfl;exact aD rfl (bo rfl rfl) rfl
    constructor
    ·rintro-w43 D43;rintro _ rfl _ rfl;exact an (aJ (v:=.bool _) rfl rfl) rfl
    exact trivial
   case hend=>
    intro w44 D44;rintro _ rfl _ rfl _ rfl _ rfl _ rfl _ rfl _ rfl _ rfl _ rfl _ rfl _ rfl _ rfl _ rfl _ rfl _ rfl _ rfl _ rfl _ rfl _ rfl _ rfl _ rfl _ rfl;show St ..;refine aq (ah (yS rfl (fun Q45=>?_) (fun Q45=>?_)))
    ·refine ag (mvp rfl (mvi rfl (ab (av rfl) (ab (aa aw rfl) (ab (aa cC rfl) ?_)))));have hB3:ai _ w44:=(((ai.rfl_ (a:=w19)).next E27).next D44);refine cY (s':=({ s with mtch:=ck s.mtch s.id (aQ s),commit:=med (ck s.mtch s.id (aQ s)) }:Rf)) (a':=(⟨E,Ec,V,Vc,X,Xc,some ⟨gM,0,none⟩,Mc,S,Sc,Q,Qc,LL⟩:Ra)) (v:=.int _ _) bh rfl rfl rfl ((hb1.from_ (((ai.rfl_ (a:=w19)).next E27).next D44))) (by exact ⟨by decide,rfl⟩) ?_;intro w46 O3_0 P3_0;refine aq (cK (dU rfl ?_))
     first
      |(have e9:cH s=({ s with mtch:=ck s.mtch s.id (aQ s),commit:=med (ck s.mtch s.id (aQ s)) }:Rf):=by unfold cH;simp only;rw [if_pos ⟨hgt,by assumption⟩]
        rw [e9];obtain ⟨hs2,h2⟩:=h1.set (s':=({ s with mtch:=ck s.mtch s.id (aQ s),commit:=med (ck s.mtch s.id (aQ s)) }:Rf)) (a':=(⟨E,Ec,V,Vc,X,Xc,some ⟨gM,0,none⟩,Mc,S,Sc,Q,Qc,LL⟩:Ra)) hs1 ((ai.toChg hB3).only O3_0 rfl) (aY.same hs1.f rfl rfl rfl rfl rfl rfl) P3_0;exact ⟨rfl,h2,_,hs2⟩)
      |(have e9:cH s=({ s with mtch:=ck s.mtch s.id (aQ s) }:Rf):=by unfold cH;simp only;rw [if_neg (fun e=>by first | exact absurd e.2 (by assumption) | exact absurd e.1 hgt)]
        rw [e9];exact ⟨rfl,h1.from_ (ai.rfl_ (a:=w46)),_,hs1.from_ (ai.rfl_ (a:=w46))⟩)
    refine aI (cK (dU rfl ?_))
    first
     |(have e9:cH s=({ s with mtch:=ck s.mtch s.id (aQ s),commit:=med (ck s.mtch s.id (aQ s)) }:Rf):=by unfold cH;simp only;rw [if_pos ⟨hgt,by assumption⟩]
       rw [e9];obtain ⟨hs2,h2⟩:=h1.set (s':=({ s with mtch:=ck s.mtch s.id (aQ s),commit:=med (ck s.mtch s.id (aQ s)) }:Rf)) (a':=(⟨E,Ec,V,Vc,X,Xc,some ⟨gM,0,none⟩,Mc,S,Sc,Q,Qc,LL⟩:Ra)) hs1 ((ai.toChg hB3).only O3_0 rfl) (aY.same hs1.f rfl rfl rfl rfl rfl rfl) P3_0;exact ⟨rfl,h2,_,hs2⟩)
     |(have e9:cH s=({ s with mtch:=ck s.mtch s.id (aQ s) }:Rf):=by unfold cH;simp only;rw [if_neg (fun e=>by first | exact absurd e.2 (by assumption) | exact absurd e.1 hgt)]
       rw [e9];exact ⟨rfl,h1.from_ (((ai.rfl_ (a:=w19)).next E27).next D44),_,hs1.from_ (((ai.rfl_ (a:=w19)).next E27).next D44)⟩)
  apply br 22 [(30,eqp _),(31,eqp _),(32,eqp _),(33,eqp _),(34,eqp _),(35,eqp _),(36,eqp _),(37,eqp _),(38,eqp _),(39,eqp _),(40,eqp _),(41,eqp _),(42,eqp _),(43,eqp _),(44,eqp _),(45,eqp _),(46,eqp _),(47,eqp _),(48,eqp _),(49,eqp _),(50,eqp _),(51,eqp _)] (by repeat first | exact bN | refine bM ?_ | refine bB ?_) (by kernel_rfl) (by kernel_rfl) ⟨ae _,ae _,ae _,ae _,ae _,ae _,ae _,ae _,ae _,ae _,ae _,ae _,ae _,ae _,ae _,ae _,ae _,ae _,ae _,ae _,ae _,ae _,trivial⟩
  case hop=>
   constructor
   ·rintro-w48 D48;exact an (aC (v:=.int _ _) rfl) rfl
   constructor
   ·rintro-w49 D49;rintro _ rfl;exact an (dX (bo rfl rfl) rfl) rfl
   constructor
   ·rintro-w50 D50;rintro _ rfl;exact an (aC (v:=.bool _) rfl) rfl
   constructor
   ·rintro-w51 D51;rintro _ rfl;exact aD rfl (aC (v:=.int _ _) rfl) rfl
   constructor
   ·rintro-w52 D52;rintro _ rfl;exact aD rfl (aC (v:=.pointer _) rfl) rfl
   constructor
   ·rintro-w53 D53;rintro _ rfl _ rfl;exact aD rfl (av rfl) rfl
   constructor
   ·rintro-w54 D54;rintro _ rfl _ rfl;exact aD rfl (aa aw rfl) rfl
   constructor
   ·rintro-w55 D55;rintro _ rfl _ rfl;exact aD rfl (aa cC rfl) rfl
   constructor
   ·rintro-w56 D56;rintro _ rfl _ rfl;exact aD rfl (au ak rfl (by exact (show _=some (Value.int .i64 s.commit) from cB (hb1.from_ (((ai.rfl_ (a:=w19)).next E27).next D56)) 10 rfl))) rfl
   constructor
   ·rintro-w57 D57;rintro _ rfl _ rfl _ rfl;exact aD rfl (bL (ct rfl rfl) (decide_eq_false hgt)) rfl
   constructor
   ·rintro-w58 D58;rintro _ rfl _ rfl;exact an (aJ (v:=.bool _) rfl rfl) rfl
   constructor
   ·rintro-w59 D59;rintro _ rfl;exact an (aC (v:=.bool _) rfl) rfl
   constructor
   ·rintro-w60 D60;rintro _ rfl;exact bA rfl rfl rfl
   constructor
   ·rintro-w61 D61;rintro _ rfl;exact bA rfl rfl rfl
   constructor
   ·rintro-w62 D62;rintro _ rfl _ rfl _ rfl;exact bA rfl rfl rfl
   constructor
   ·rintro-w63 D63;rintro _ rfl;exact bA rfl rfl rfl
   constructor
   ·rintro-w64 D64;rintro _ rfl _ rfl;exact bA rfl rfl rfl
   constructor
   ·rintro-w65 D65;rintro _ rfl _ rfl;exact bA rfl rfl rfl
   constructor
   ·rintro-w66 D66;rintro _ rfl _ rfl;exact bA rfl rfl rfl
   constructor
   ·rintro-w67 D67;rintro _ rfl _ rfl;exact bA rfl rfl rfl
   constructor
   ·rintro-w68 D68;rintro _ rfl _ rfl _ rfl;exact bA rfl rfl rfl
   constructor
   ·rintro-w69 D69;rintro _ rfl _ rfl;exact an (aB (v:=.bool _) rfl rfl) rfl
   exact trivial
  case hend=>
   intro w70 D70;rintro _ rfl _ rfl _ rfl _ rfl _ rfl _ rfl _ rfl _ rfl _ rfl _ rfl _ rfl _ rfl _ rfl _ rfl _ rfl _ rfl _ rfl _ rfl _ rfl _ rfl _ rfl _ rfl;show St ..;refine aq (ah (aU rfl (aI (cK (dU rfl ?_)))))
   first
    |(have e9:cH s=({ s with mtch:=ck s.mtch s.id (aQ s),commit:=med (ck s.mtch s.id (aQ s)) }:Rf):=by unfold cH;simp only;rw [if_pos ⟨hgt,by assumption⟩]
      rw [e9];obtain ⟨hs2,h2⟩:=h1.set (s':=({ s with mtch:=ck s.mtch s.id (aQ s),commit:=med (ck s.mtch s.id (aQ s)) }:Rf)) (a':=(⟨E,Ec,V,Vc,X,Xc,some ⟨gM,0,none⟩,Mc,S,Sc,Q,Qc,LL⟩:Ra)) hs1 ((ai.toChg hB3).only O3_0 rfl) (aY.same hs1.f rfl rfl rfl rfl rfl rfl) P3_0;exact ⟨rfl,h2,_,hs2⟩)
    |(have e9:cH s=({ s with mtch:=ck s.mtch s.id (aQ s) }:Rf):=by unfold cH;simp only;rw [if_neg (fun e=>by first | exact absurd e.2 (by assumption) | exact absurd e.1 hgt)]
      rw [e9];exact ⟨rfl,h1.from_ (((ai.rfl_ (a:=w19)).next E27).next D70),_,hs1.from_ (((ai.rfl_ (a:=w19)).next E27).next D70)⟩)
end Go.Proofs.YtkpooenofjdpmaaGreat
namespace Go.Proofs.YtkpooenofjdpmaaGreat
open Go.Proofs.Tryz (prog)
open Go.RowKit
abbrev XT (X:Type):=List (Nat×Nat×(X→Value))
abbrev kO {X:Type} (T:XT X) (x:X):List (Nat×Nat×Value):=T.map fun p=>(p.1,p.2.1,p.2.2 x)
theorem oy {X:Type}:∀ {T:XT X} {x:X},lh (T.map fun p=>(p.1,p.2.1))→kg (kO T x)
 |[],_,_=>trivial
 |p::r,x,h=>⟨fun q hq=>by
   obtain ⟨y,hy,rfl⟩:=List.mem_map.1 hq;exact h.1 (y.1,y.2.1) (List.mem_map.2 ⟨y,hy,rfl⟩),oy h.2⟩
def wP {X:Type} (S:Nat→Bool) (x x':X):XT X→Prop
 |[]=>True
 |p::r=>(S p.1=true→p.2.2 x'=p.2.2 x)∧wP S x x' r
theorem sD {X:Type} {S:Nat→Bool} {x x':X}:∀ {T:XT X},wP S x x' T→∀ p∈T,S p.1=true→p.2.2 x'=p.2.2 x
 |_::_,⟨h1,h2⟩,p,hp=>by
  rcases List.mem_cons.1 hp with rfl | hp
  ·exact h1
  ·exact sD h2 p hp
theorem cf {X:Type} {S:Nat→Bool} {x:X}:∀ {T:XT X},wP S x x T
 |[]=>trivial
 |_::_=>⟨fun _=>rfl,cf⟩
section
variable {X:Type} {P:Program} {Q:Exit→Act→World→Prop} {n:Fr} {L L' M:List (Nat×Value)} {w w' w'':World} {l:List Oper} {T:XT X} {I:X→(Nat→Bool)→World→Prop} {S:Nat→Bool} {op:Op} {ty:TypeId} {pos:String} {after:Array Edge} {i d:Nat} {f:X→Value} {x:X}
theorem InvX.get (h:gC L (kO T x) S L') (hp:(i,d,f)∈T) (hs:S i=true):bc L' d=f x:=h.get (i:=i) (d:=d) (List.mem_map.2 ⟨_,hp,rfl⟩) hs
theorem InvX.out {t:Nat} (h:gC L (kO T x) S L') (ht:(T.map fun p=>p.2.1).elem t=false):bc L' t=bc L t:=h.1 t fun p hp e=>by
 obtain ⟨y,hy,rfl⟩:=List.mem_map.1 hp;have:t∈T.map fun p=>p.2.1:=List.mem_map.2 ⟨y,hy,e⟩
 rw [List.elem_eq_mem,decide_eq_false_iff_not] at ht;exact ht this
theorem xZ {i:Nat} (h:(T.map fun p=>p.1).elem i=false):∀ p∈T,p.1≠i:=fun p hp e=>by
 rw [List.elem_eq_mem,decide_eq_false_iff_not] at h;exact h (List.mem_map.2 ⟨p,hp,e⟩)
theorem InvX.chg {x':X} (h:gC L (kO T x) S L') (hc:∀ p∈T,S p.1=true→p.2.2 x'=p.2.2 x):gC L (kO T x') S L':=by
 refine ⟨fun t ht=>h.1 t fun p hp=>?_,fun p hp hs=>?_,fun p hp hs=>?_⟩
 ·obtain ⟨y,hy,rfl⟩:=List.mem_map.1 hp;exact ht (y.1,y.2.1,y.2.2 x') (List.mem_map.2 ⟨y,hy,rfl⟩)
 ·obtain ⟨y,hy,rfl⟩:=List.mem_map.1 hp;have:=h.2.1 (y.1,y.2.1,y.2.2 x) (List.mem_map.2 ⟨y,hy,rfl⟩) hs;rw [this];exact (hc y hy hs).symm
 ·obtain ⟨y,hy,rfl⟩:=List.mem_map.1 hp;exact h.2.2 (y.1,y.2.1,y.2.2 x) (List.mem_map.2 ⟨y,hy,rfl⟩) hs
abbrev sO (P:Program) (n:Fr) (L:List (Nat×Value)) (T:XT X) (I:X→(Nat→Bool)→World→Prop) (S:Nat→Bool) (i:Nat) (o:Oper) (L':List (Nat×Value)) (w':World):Prop:=iE P n o (fun L2 w2=>∃ x,gC L (kO T x) (di S i) L2∧I x (di S i) w2) L' w'
theorem bZ (M:List (Nat×Value)) (x':X) (hU:lh (T.map fun p=>(p.1,p.2.1))) (hI:gC L (kO T x) S L') (hp:(i,d,f)∈T)
 (hs:de op=false) (hk:(((⟨some d,op,ty,pos,after,none⟩:Oper).looksAt #[]).all fun t=>(M.map Prod.fst).elem t)=true) (hag:qU L' M) (hr:RO P (ev n M) op w' (f x') w'') (hc:wP S x x' T) (hM:I x' (di S i) w''):sO P n L T I S i ⟨some d,op,ty,pos,after,none⟩ L' w':=
 .inl ⟨d,f x',w'',rfl,by rw [jx hs hk hag];exact hr _ _ _ _ _,x',(InvX.chg hI (sD hc)).put (oy hU) (List.mem_map.2 ⟨_,hp,rfl⟩),hM⟩
theorem mo (M:List (Nat×Value)) (hI:gC L (kO T x) S L') (hi:∀ p∈T,p.1≠i)
 (hs:de op=false) (hk:(((⟨none,op,ty,pos,after,none⟩:Oper).looksAt #[]).all fun t=>(M.map Prod.fst).elem t)=true) (hag:qU L' M) (hr:RS P (ev n M) op w' w'') (hM:I x (di S i) w''):sO P n L T I S i ⟨none,op,ty,pos,after,none⟩ L' w':=
 .inr (.inl ⟨w'',rfl,by rw [jx hs hk hag];exact hr _ _ _ _ _,x,hI.skip (fun p hp=>by
  obtain ⟨y,hy,rfl⟩:=List.mem_map.1 hp;exact hi y hy),hM⟩)
def r3 (P:Program) (n:Fr) (L:List (Nat×Value)) (T:XT X) (Mu:List Nat) (I:X→(Nat→Bool)→World→Prop) (l:List Oper):Nat→List Oper→Prop
 |_,[]=>True
 |i,o::r=>(∀ S L' w' x,lh (T.map fun p=>(p.1,p.2.1))→(∀ x S i w1 w2,Mu.elem i=false→ai w1 w2→I x S w1→I x (di S i) w2)→gC L (kO T x) S L'→I x S w'→gP l S→S i=false→gO S o.after.toList→sO P n L T I S i o L' w')∧r3 P n L T Mu I l (i+1) r
theorem nE {Mu:List Nat} {L0:List (Nat×Value)} {l0:List Oper}:∀ {r:List Oper} {k:Nat},r3 P n L0 T Mu I l0 k r→lh (T.map fun p=>(p.1,p.2.1))→(∀ x S i w1 w2,Mu.elem i=false→ai w1 w2→I x S w1→I x (di S i) w2)→∀ (i:Nat) (o:Oper),r[i]? =some o→∀ S L' w' x,gC L0 (kO T x) S L'→I x S w'→gP l0 S→S (k+i)=false→gO S o.after.toList→sO P n L0 T I S (k+i) o L' w'
 |[],_,_,_,_,i,o,h=>by simp at h
 |y::r,k,⟨h1,h2⟩,a,b,0,o,h=>by
  simp only [List.getElem?_cons_zero,Option.some.injEq] at h;subst h;exact fun S L' w' x=>h1 S L' w' x a b
 |y::r,k,⟨h1,h2⟩,a,b,i+1,o,h=>by
  have:=nE h2 a b i o (by simpa using h)
  rwa [show k+1+i=k+(i+1) by omega] at this
theorem vh {id:Nat} (T:XT X) (Mu:List Nat) (I:X→(Nat→Bool)→World→Prop) (hm:P.follows .mixedOrders=true) (hwf:mU l=true) (hlt:(T.all fun p=>Nat.blt p.1 l.length)=true) (hU:tP (T.map fun p=>(p.1,p.2.1))=true) (hme:∀ x S i w1 w2,Mu.elem i=false→ai w1 w2→I x S w1→I x (di S i) w2) (h0:∃ x,I x (fun _=>false) { w with drawn:=w.drawn+1 })
 (hstep:r3 P n L T Mu I l 0 l) (hend:∀ x w',I x (fun i=>decide (i<l.length)) w'→Q .normal (mkA n ((kO T x).map (fun p=>(p.2.1,p.2.2))++L)) w'):Cd P (.region id l.toArray true) Q n L w:=
 rP (fun S L' w'=>(∃ x,gC L (kO T x) S L'∧I x S w')∧gP l S) hm hwf ⟨let ⟨x,hx⟩:=h0;⟨x,⟨fun _ _=>rfl,fun _ _ h=>(by cases h),fun _ _ _=>rfl⟩,hx⟩,fun _ _ _ h=>by cases h⟩ (fun i o S L' w' ho ⟨⟨x,hI,hM⟩,hC⟩ hS hE=>by
  have:=nE hstep (lV hU) hme i o ho S L' w' x hI hM hC (by rw [Nat.zero_add];exact hS) (kE fun e he=>hE e (by simpa using he));rw [Nat.zero_add] at this;exact iE.mono (fun L2 w2 h=>⟨h,lB hC ho hE⟩) this) fun L' w' ⟨⟨x,hI,hM⟩,_⟩=>by
  have h:=hend x w' hM
  have hlt':∀ p∈kO T x,decide (p.1<l.length)=true:=fun p hp=>by
   obtain ⟨y,hy,rfl⟩:=List.mem_map.1 hp;exact decide_eq_true (Nat.le_of_ble_eq_true (List.all_eq_true.1 hlt y hy))
  rw [wq (oy (lV hU)) hlt' hI];exact h
end
end Go.Proofs.YtkpooenofjdpmaaGreat
namespace Go.Proofs.YtkpooenofjdpmaaGreat
open Go.Proofs.Tryz (prog)
open Go.RowKit
open Go.ChangeShapes Go.WideShapes Go.ChangeAt
theorem kj:nU prog 26=some (3,8,.int .i64 0):=by kernel_rfl
theorem il:aN prog 99=true:=by kernel_rfl
theorem sd:aN prog 75=true:=by kernel_rfl
theorem sc:aN prog 76=true:=by kernel_rfl
theorem ni:aN prog 84=true:=by kernel_rfl
theorem nj:aN prog 79=true:=by kernel_rfl
theorem rj {P:Program} {ρ:Operand→Value} {w:World} {t:TypeId} {x y:Operand} {e by_ m:Nat} {z:Value} {kl kc:IntKind} (ht:nU P t=some (e,by_,z)) (hz:z.cells=#[z]) (hx:ρ x=.int kl (m:Nat)) (hy:ρ y=.int kc (m:Nat)) (hm:m≤9223372036854775807) (hb:by_*m≤281474976710656) :
 RO P ρ (.makeSlice t x y) w (.slice (some ⟨w.heap.size,0,none⟩) m m) (w.alloc (.cells (List.replicate m z).toArray e)):=by
 unfold nU at ht;split at ht
 ·rename_i e' hu;cases hi:P.info? e' with
  |none=>simp [hi] at ht
  |some i=>
   rw [hi] at ht;simp only [Option.bind_some] at ht;split at ht
   ·rename_i hs;cases hzz:i.zero with
    |none=>simp [hzz] at ht
    |some z'=>
     simp only [hzz,Option.map_some,Option.some.injEq,Prod.mk.injEq] at ht;obtain ⟨rfl,rfl,rfl⟩:=ht
     have hr:=run_make (P:=P) w t e' i z' hu hi hzz kl kc (m:Int) (m:Int) (by omega) (Int.le_refl _) (by
      have:((i.bytes*m:Nat):Int)≤281474976710656:=by omega
      rwa [Int.natCast_mul] at this) (by omega)
     have hcells:madeCells z'.cells ((m:Int).toNat*i.size)=(List.replicate m z').toArray:=by
      rw [hs,Int.toNat_natCast,Nat.mul_one,hz];apply Array.ext_getElem?;intro j;simp only [madeCells,Array.getElem?_map];by_cases hj:j<m
      ·simp [hj,Nat.mod_one]
      ·simp [hj]
     rw [hcells,Int.toNat_natCast] at hr;exact fun _ _ _ _ _=>by simp [execOp,hx,hy,hr]
   ·cases ht
 ·cases ht
structure G3 where
 x:Nat
 m:Nat
 s:Nat
def lv (s:Rf) (a:Ra) (p q r:Value):List Value:=[.int .i64 s.id,.int .i64 s.nodes,.int .i64 s.role,.int .i64 s.term,.int .i64 s.vote,.int .i64 s.leader,.int .i64 s.b,.int .i64 s.t,.slice a.E s.es.length a.Ec,.string s.snap,.int .i64 s.commit,.int .i64 s.elapsed,.int .i64 s.timeout,.int .u64 s.seed,.slice a.V s.votes.length a.Vc,p,q,r,.int .i64 s.round,.slice a.Q a.L.length a.Qc,.string s.part,.int .i64 s.partOf]
def lvX (s:Rf) (a:Ra) (n:Nat) (x:G3) (S:Nat→Bool):List Value:=lv s a (bif S 28 then .slice (some ⟨x.x,0,none⟩) n n else .slice a.X s.next.length a.Xc) (bif S 33 then .slice (some ⟨x.m,0,none⟩) n n else .slice a.M s.mtch.length a.Mc) (bif S 38 then .slice (some ⟨x.s,0,none⟩) n n else .slice a.S s.sent.length a.Sc)
def MK (w0 w:World) (n k:Nat):Prop:=w0.heap.size≤k∧Blk w k 3 (List.replicate n (Value.int .i64 0)).toArray
structure LI (w0:World) (T g n:Nat) (s:Rf) (a:Ra) (R:Value) (x:G3) (S:Nat→Bool) (w:World):Prop where
 c:Chg (fun k=>k=g) w0 w
 b:Blk w g T (lvX s a n x S++[R]).toArray
 h9:S 9=true→MK w0 w n x.x
 h16:S 16=true→MK w0 w n x.m
 h23:S 23=true→MK w0 w n x.s
 a1:S 9=true→S 16=true→x.x≠x.m
 a2:S 9=true→S 23=true→x.x≠x.s
 a3:S 16=true→S 23=true→x.m≠x.s
 lt:g<w0.heap.size
section
variable {w0 w1 w2:World} {T g n i:Nat} {s:Rf} {a:Ra} {R:Value} {x:G3} {S:Nat→Bool}
theorem MK.from_ {k:Nat} (h:MK w0 w1 n k) (hF:ai w1 w2):MK w0 w2 n k:=⟨h.1,h.2.from_ hF⟩
theorem l6 {i:Nat} (h28:i≠28) (h33:i≠33) (h38:i≠38):lvX s a n x (di S i)=lvX s a n x S:=by
 unfold lvX;rw [ek h28.symm,ek h33.symm,ek h38.symm]
theorem LI.rd (h:LI w0 T g n s a R x S w1) (hq:[9,16,23,28,33,38].elem i=false) (hF:ai w1 w2):LI w0 T g n s a R x (di S i) w2:=by
 have hm:i≠9∧i≠16∧i≠23∧i≠28∧i≠33∧i≠38:=by
  refine ⟨?_,?_,?_,?_,?_,?_⟩ <;> rintro rfl <;> exact absurd hq (by decide)
 obtain ⟨m1,m2,m3,m4,m5,m6⟩:=hm;refine ⟨h.c.next hF.toChg,by rw [l6 m4 m5 m6];exact h.b.from_ hF,fun e=>?_,fun e=>?_,fun e=>?_,fun e f=>?_,fun e f=>?_,fun e f=>?_,h.lt⟩
 ·rw [ek m1.symm] at e;exact (h.h9 e).from_ hF
 ·rw [ek m2.symm] at e;exact (h.h16 e).from_ hF
 ·rw [ek m3.symm] at e;exact (h.h23 e).from_ hF
 ·rw [ek m1.symm] at e;rw [ek m2.symm] at f;exact h.a1 e f
 ·rw [ek m1.symm] at e;rw [ek m3.symm] at f;exact h.a2 e f
 ·rw [ek m2.symm] at e;rw [ek m3.symm] at f;exact h.a3 e f
theorem MK.fresh {k:Nat} (h:MK w0 w1 n k):k≠w1.heap.size:=by have:=h.2.lt;omega
theorem LI.mk9 (h:LI w0 T g n s a R x S w1) (h28:S 28=false) (hk:MK w0 w2 n w1.heap.size) (hF:ai w1 w2):LI w0 T g n s a R ⟨w1.heap.size,x.m,x.s⟩ (di S 9) w2:=by
 refine ⟨h.c.next hF.toChg,?_,fun _=>hk,fun e=>?_,fun e=>?_,fun _ f=>?_,fun _ f=>?_,fun e f=>?_,h.lt⟩
 ·rw [l6 (by decide) (by decide) (by decide)];have:=h.b.from_ hF;unfold lvX at this ⊢;rw [h28] at this ⊢;exact this
 ·rw [ek (by decide)] at e;exact (h.h16 e).from_ hF
 ·rw [ek (by decide)] at e;exact (h.h23 e).from_ hF
 ·rw [ek (by decide)] at f;exact (h.h16 f).fresh.symm
 ·rw [ek (by decide)] at f;exact (h.h23 f).fresh.symm
 ·rw [ek (by decide)] at e f;exact h.a3 e f
theorem LI.mk16 (h:LI w0 T g n s a R x S w1) (h33:S 33=false) (hk:MK w0 w2 n w1.heap.size) (hF:ai w1 w2):LI w0 T g n s a R ⟨x.x,w1.heap.size,x.s⟩ (di S 16) w2:=by
 refine ⟨h.c.next hF.toChg,?_,fun e=>?_,fun _=>hk,fun e=>?_,fun e _=>?_,fun e f=>?_,fun _ f=>?_,h.lt⟩
 ·rw [l6 (by decide) (by decide) (by decide)];have:=h.b.from_ hF;unfold lvX at this ⊢;rw [h33] at this ⊢;exact this
 ·rw [ek (by decide)] at e;exact (h.h9 e).from_ hF
 ·rw [ek (by decide)] at e;exact (h.h23 e).from_ hF
 ·rw [ek (by decide)] at e;exact (h.h9 e).fresh
 ·rw [ek (by decide)] at e f;exact h.a2 e f
 ·rw [ek (by decide)] at f;exact (h.h23 f).fresh.symm
theorem LI.mk23 (h:LI w0 T g n s a R x S w1) (h38:S 38=false) (hk:MK w0 w2 n w1.heap.size) (hF:ai w1 w2):LI w0 T g n s a R ⟨x.x,x.m,w1.heap.size⟩ (di S 23) w2:=by
 refine ⟨h.c.next hF.toChg,?_,fun e=>?_,fun e=>?_,fun _=>hk,fun e f=>?_,fun e _=>?_,fun e _=>?_,h.lt⟩
 ·rw [l6 (by decide) (by decide) (by decide)];have:=h.b.from_ hF;unfold lvX at this ⊢;rw [h38] at this ⊢;exact this
 ·rw [ek (by decide)] at e;exact (h.h9 e).from_ hF
 ·rw [ek (by decide)] at e;exact (h.h16 e).from_ hF
 ·rw [ek (by decide)] at e f;exact h.a1 e f
 ·rw [ek (by decide)] at e;exact (h.h9 e).fresh
 ·rw [ek (by decide)] at e;exact (h.h16 e).fresh
theorem MK.only {k:Nat} (h:MK w0 w1 n k) (hO:dw g w1 w2) (hg:g<w0.heap.size):MK w0 w2 n k:=⟨h.1,h.2.only hO (by have:=h.1;omega)⟩
theorem LI.st (h:LI w0 T g n s a R x S w1) (hi:i=28∨i=33∨i=38) (hO:dw g w1 w2) (hb:Blk w2 g T (lvX s a n x (di S i)++[R]).toArray):LI w0 T g n s a R x (di S i) w2:=by
 refine ⟨h.c.next (hO.toChg rfl),hb,fun e=>?_,fun e=>?_,fun e=>?_,fun e f=>?_,fun e f=>?_,fun e f=>?_,h.lt⟩
 ·rw [ek (by omega)] at e;exact (h.h9 e).only hO h.lt
 ·rw [ek (by omega)] at e;exact (h.h16 e).only hO h.lt
 ·rw [ek (by omega)] at e;exact (h.h23 e).only hO h.lt
 ·rw [ek (by omega)] at e f;exact h.a1 e f
 ·rw [ek (by omega)] at e f;exact h.a2 e f
 ·rw [ek (by omega)] at e f;exact h.a3 e f
theorem yH {S:Nat→Bool}:(lvX s a n x S++[R]).toArray.setIfInBounds 15 (.slice (some ⟨x.x,0,none⟩) n n)=(lvX s a n x (di S 28)++[R]).toArray:=by
 unfold lvX;rw [dS,ek (by decide),ek (by decide)];rfl
theorem yG {S:Nat→Bool}:(lvX s a n x S++[R]).toArray.setIfInBounds 16 (.slice (some ⟨x.m,0,none⟩) n n)=(lvX s a n x (di S 33)++[R]).toArray:=by
 unfold lvX;rw [dS,ek (by decide),ek (by decide)];rfl
theorem yF {S:Nat→Bool}:(lvX s a n x S++[R]).toArray.setIfInBounds 17 (.slice (some ⟨x.s,0,none⟩) n n)=(lvX s a n x (di S 38)++[R]).toArray:=by
 unfold lvX;rw [dS,ek (by decide),ek (by decide)];rfl
end
theorem oD {w0 w:World} {n k:Nat} (h:MK w0 w n k) (hn:n≤1000):w.ownsRow 0 3 1 (.slice (some ⟨k,0,none⟩) n n) n ((List.replicate n (0:Int)).map iV):=by
 refine oF (Nat.zero_le _) h.2 (Nat.le_refl _) (by unfold maxLen;omega) (by simp) ?_;simp
theorem aY.three {w0 w:World} {g n:Nat} {tag:Nat→Nat} {s:Rf} {a:Ra} {x:G3} (h:aY w0 tag s a) (hC:Chg (fun k=>k=g) w0 w) (hg:tag g=7) (hn:n≤1000) (h1:MK w0 w n x.x) (h2:MK w0 w n x.m) (h3:MK w0 w n x.s) (a1:x.x≠x.m) (a2:x.x≠x.s) (a3:x.m≠x.s) :
 aY w (fun k=>if k<w0.heap.size then tag k else if k=x.x then 2 else if k=x.m then 3 else 4) { s with next:=List.replicate n 0,mtch:=List.replicate n 0,sent:=List.replicate n 0 } { a with X:=some ⟨x.x,0,none⟩,Xc:=n,M:=some ⟨x.m,0,none⟩,Mc:=n,S:=some ⟨x.s,0,none⟩,Sc:=n }:=by
 have hh:=h.chgG hC hg
 have re:∀ {c:Nat} {A:Option Addr},Col tag c A→(∀ k,A.map (·.block)=some k→k<w0.heap.size)→Col (fun k=>if k<w0.heap.size then tag k else if k=x.x then 2 else if k=x.m then 3 else 4) c A:=fun hc hl k hk=>by
  show (if k<w0.heap.size then tag k else _)=_;rw [if_pos (hl k hk)];exact hc k hk
 have l:(List.replicate n (0:Int)).length=n:=List.length_replicate;refine ⟨fun hx=>⟨(hh.e hx).1,re (h.e hx).2 (dI (h.e hx).1)⟩,fun hx=>⟨(hh.v hx).1,re (h.v hx).2 (dI (h.v hx).1)⟩,fun _=>⟨by show World.ownsRow _ _ _ _ (.slice _ (List.replicate n (0:Int)).length _) (List.replicate n (0:Int)).length _;rw [l];exact oD h1 hn,fun k hk=>?_⟩,fun _=>⟨by show World.ownsRow _ _ _ _ (.slice _ (List.replicate n (0:Int)).length _) (List.replicate n (0:Int)).length _;rw [l];exact oD h2 hn,fun k hk=>?_⟩,fun _=>⟨by show World.ownsRow _ _ _ _ (.slice _ (List.replicate n (0:Int)).length _) (List.replicate n (0:Int)).length _;rw [l];exact oD h3 hn,fun k hk=>?_⟩,hh.r,fun hx=>⟨(hh.q hx).1,re (h.q hx).2 (dI (h.q hx).1)⟩,fun i hi hx=>⟨(hh.k i hi hx).1,re (h.k i hi hx).2 (dI (h.k i hi hx).1)⟩⟩
 ·cases hk;have:=h1.1;show (if x.x<w0.heap.size then _ else _)=2;rw [if_neg (by omega),if_pos rfl]
 ·cases hk;have:=h2.1;show (if x.m<w0.heap.size then _ else _)=3;rw [if_neg (by omega),if_neg (Ne.symm a1),if_pos rfl]
 ·cases hk;have:=h3.1;show (if x.s<w0.heap.size then _ else _)=4;rw [if_neg (by omega),if_neg (Ne.symm a2),if_neg (Ne.symm a3)]
theorem aF.three {wa w0 w:World} {Z:Nat→Prop} {T g n oc:Nat} {tag:Nat→Nat} {s:Rf} {out:List Msg} {O:Option Addr} {L:List Msg} {a:Ra} {x:G3} (h:aF wa Z w0 T g ⟨s,out⟩) (hs:eN w0 Z T g tag ⟨s,out⟩ a O oc L) (hC:Chg (fun k=>k=g) w0 w) (hn:n≤1000) (h1:MK w0 w n x.x) (h2:MK w0 w n x.m) (h3:MK w0 w n x.s) (a1:x.x≠x.m) (a2:x.x≠x.s) (a3:x.m≠x.s)
 (hb:Blk w g T (rfV { s with next:=List.replicate n 0,mtch:=List.replicate n 0,sent:=List.replicate n 0 } { a with X:=some ⟨x.x,0,none⟩,Xc:=n,M:=some ⟨x.m,0,none⟩,Mc:=n,S:=some ⟨x.s,0,none⟩,Sc:=n }++[Value.slice O L.length oc]).toArray) :
 aF wa Z w T g ⟨{ s with next:=List.replicate n 0,mtch:=List.replicate n 0,sent:=List.replicate n 0 },out⟩∧∃ tag',eN w Z T g tag' ⟨{ s with next:=List.replicate n 0,mtch:=List.replicate n 0,sent:=List.replicate n 0 },out⟩ { a with X:=some ⟨x.x,0,none⟩,Xc:=n,M:=some ⟨x.m,0,none⟩,Mc:=n,S:=some ⟨x.s,0,none⟩,Sc:=n } O oc L:=by
 have hm:=hs.m.chgG hC hs.gc;have hz:=h.zw
 have re:∀ {c:Nat} {A:Option Addr},Col tag c A→(∀ k,A.map (·.block)=some k→k<w0.heap.size)→Col (fun k=>if k<w0.heap.size then tag k else if k=x.x then 2 else if k=x.m then 3 else 4) c A:=fun hc hl k hk=>by
  show (if k<w0.heap.size then tag k else _)=_;rw [if_pos (hl k hk)];exact hc k hk
 have h9:eN w Z T g (fun k=>if k<w0.heap.size then tag k else if k=x.x then 2 else if k=x.m then 3 else 4) ⟨{ s with next:=List.replicate n 0,mtch:=List.replicate n 0,sent:=List.replicate n 0 },out⟩ { a with X:=some ⟨x.x,0,none⟩,Xc:=n,M:=some ⟨x.m,0,none⟩,Mc:=n,S:=some ⟨x.s,0,none⟩,Sc:=n } O oc L:=
  ⟨hb,hs.f.three hC hs.gc hn h1 h2 h3 a1 a2 a3,⟨hm.o,hm.l,fun j hj=>⟨(hm.e j hj).1,re (hm.e j hj).2 (dI (hs.m.e j hj).1)⟩,re hm.c (dI hs.m.o)⟩,(if_pos hs.b.lt).trans hs.gc,fun k hk=>(if_pos (hz k hk)).trans (hs.z k hk)⟩
 refine ⟨⟨⟨_,_,_,_,_,h9⟩,h.zl,h.fr.next (hC.wide fun k hk=>.inl fun hz1=>?_)⟩,_,h9⟩;have:=hs.z k hz1;rw [show k=g from hk,hs.gc] at this;cases this
theorem aY.novotes {w:World} {tag:Nat→Nat} {s:Rf} {a:Ra} (h:aY w tag s a):aY w tag { s with votes:=[] } { a with V:=none,Vc:=0 }:=
 ⟨fun _=>h.e (by decide),fun _=>⟨dB,Col.none⟩,fun _=>h.x (by decide),fun _=>h.m (by decide),fun _=>h.n (by decide),fun _=>h.r (by decide),fun _=>h.q (by decide),fun i hi _=>h.k i hi (by omega)⟩
theorem aY.noreads {w:World} {tag:Nat→Nat} {s:Rf} {a:Ra} (h:aY w tag s a):aY w tag { s with reads:=[] } { a with Q:=none,Qc:=0,L:=[] }:=
 ⟨fun _=>h.e (by decide),fun _=>h.v (by decide),fun _=>h.x (by decide),fun _=>h.m (by decide),fun _=>h.n (by decide),fun _=>rfl,fun _=>⟨dB,Col.none⟩,fun i hi _=>absurd hi (Nat.not_lt_zero _)⟩
def gH (n i:Nat) (v:Int):List Int:=List.replicate i v++List.replicate (n-i) 0
theorem pz {n i:Nat} {v:Int} (h:i≤n):(gH n i v).length=n:=by unfold gH;rw [List.length_append,List.length_replicate,List.length_replicate];omega
theorem uo {n i:Nat} {v:Int} (h:i<n):(gH n i v).set i v=gH n (i+1) v:=by
 unfold gH;rw [List.set_append_right _ _ (by rw [List.length_replicate];exact Nat.le_refl _),List.length_replicate,Nat.sub_self,show n-i=(n-(i+1))+1 by omega,List.replicate_succ,List.set_cons_zero,List.replicate_succ',List.append_assoc];rfl
theorem uq {n:Nat} {v:Int}:gH n 0 v=List.replicate n 0:=by unfold gH;rw [Nat.sub_zero];rfl
theorem xM {n:Nat} {v:Int}:gH n n v=List.replicate n v:=by unfold gH;rw [Nat.sub_self];simp
theorem wj (w0:World) (Z:Nat→Prop) (T g:Nat) (p:Sp) (w:World) (h:aF w0 Z w T g p) (hF:RfF p.s) (hl:p.out.length≤700) :
 Rt prog 161 [.pointer (some ⟨g,0,none⟩)] w (fun v w'=>v=.tuple #[]∧aF w0 Z w' T g (pL p)):=by
 obtain ⟨s,out⟩:=p;obtain ⟨tag,a,O,oc,L,hs⟩:=h.ex;obtain ⟨E,Ec,V,Vc,X,Xc,M,Mc,Sn,Sc,Q,Qc,LL⟩:=a;have hb:Blk w g T (rfV s (⟨E,Ec,V,Vc,X,Xc,M,Mc,Sn,Sc,Q,Qc,LL⟩:Ra)++[Value.slice O L.length oc]).toArray:=hs.b
 have hll:L.length=out.length:=by
  have h9:=congrArg List.length hs.m.l;rw [List.length_map] at h9;exact h9
 have hF:RfF s:=hF;have hl:out.length≤700:=hl;have hB0:ai w w:=ai.rfl_;have hbl:=hF.last;have hlb:cW s.b s.es=aQ s:=rfl;have he:cQ w (.slice E s.es.length Ec) s.es:=hs.f.rd.e;have hnn:=hF.n;have hid:=hF.i;have hzw:=h.zw;obtain ⟨n,hn0⟩:∃ n,n=s.nodes.toNat:=⟨_,rfl⟩;have hn:s.nodes=((n:Nat):Int):=by omega
 refine enter (n:=124) Tryz.func161 rfl rfl rfl (ao (ao (ag (mvp rfl (ab (av rfl) (ab (aa ay rfl) (aE sd (wu T g s _ _ _ (hb.from_ ai.rfl_) (he.from_ ai.rfl_) hF.lg) ?_)))))));rintro v8 w1 ⟨rfl,E8⟩;refine aq (ah (aO rfl (fun Q2=>?_) (fun Q2=>?_)))
 ·have h8t:gF s=true:=Q2;refine ao ?_;apply eE [(0,9,fun _ v _=>v=_),(1,10,fun _ v _=>v=_),(2,11,fun _ v _=>v=_),(3,12,fun _ v _=>v=_),(4,13,fun _ v _=>v=_),(5,14,fun _ v _=>v=_),(6,15,fun _ v _=>v=_),(7,16,fun _ v _=>v=_),(8,17,fun _ v _=>v=_),(9,18,fun _ v _=>v=_)] [9] (fun S w'=>(S 9=false→ai w1 w')∧(S 9=true→aF w0 Z w' T g ⟨cF s s.term,out⟩)) (by kernel_rfl) (by kernel_rfl) rfl rfl ⟨fun _ _ _ _ _ _ _ h=>h,fun _ _ _ _ _ _ _ h=>h,fun _ _ _ _ _ _ _ h=>h,fun _ _ _ _ _ _ _ h=>h,fun _ _ _ _ _ _ _ h=>h,fun _ _ _ _ _ _ _ h=>h,fun _ _ _ _ _ _ _ h=>h,fun _ _ _ _ _ _ _ h=>h,fun _ _ _ _ _ _ _ h=>h,fun _ _ _ _ _ _ _ h=>h,trivial⟩ (fun S i w1 w2 hq hF h=>⟨fun h0=>(h.1 (en h0)).next hF,fun h1=>(fun h=>h.from_ hF) (h.2 (jn (show 9≠i by rintro rfl;exact absurd hq (by decide)) h1))⟩) ⟨fun _=>ai.rfl_.d1,fun h=>by cases h⟩
  case hstep=>
   constructor
   ·rintro S L' w3 hU hmo hme hI hM hC hS ⟨-⟩;have hS0:S 9=false:=(af hC (j:=9) rfl (by kernel_rfl) (af hC (j:=2) rfl (by kernel_rfl) (af hC (j:=1) rfl (by kernel_rfl) hS)));have hM3:=hM.1 hS0;have e0:=hI.1 0 (dy rfl);exact az [(0,_)] hU hmo hme hI hM (.head _) rfl rfl (by kernel_rfl) ⟨e0,trivial⟩ (aC (v:=.pointer _) rfl) ai.rfl_ (rfl)
   constructor
   ·rintro S L' w4 hU hmo hme hI hM hC hS ⟨d0,-⟩;have hS0:S 9=false:=(af hC (j:=9) rfl (by kernel_rfl) (af hC (j:=2) rfl (by kernel_rfl) hS));have hM4:=hM.1 hS0;obtain ⟨v4_9,e9,h9⟩:=hI.get (i:=0) (.head _) d0;obtain rfl:=h9;exact az [(9,_)] hU hmo hme hI hM (.tail _ (.head _)) rfl rfl (by kernel_rfl) ⟨e9,trivial⟩ (av rfl) ai.rfl_ (rfl)
   constructor
   ·rintro S L' w5 hU hmo hme hI hM hC hS ⟨d1,-⟩;have hS0:S 9=false:=(af hC (j:=9) rfl (by kernel_rfl) hS);have hM5:=hM.1 hS0;obtain ⟨v5_10,e10,h10⟩:=hI.get (i:=1) (.tail _ (.head _)) d1;obtain rfl:=h10;exact az [(10,_)] hU hmo hme hI hM (gM 2 rfl) rfl rfl (by kernel_rfl) ⟨e10,trivial⟩ (aa ay rfl) ai.rfl_ (rfl)
   constructor
   ·rintro S L' w6 hU hmo hme hI hM hC hS ⟨-⟩;have hS0:S 9=false:=(af hC (j:=9) rfl (by kernel_rfl) (af hC (j:=8) rfl (by kernel_rfl) (af hC (j:=7) rfl (by kernel_rfl) (af hC (j:=6) rfl (by kernel_rfl) (af hC (j:=5) rfl (by kernel_rfl) (af hC (j:=4) rfl (by kernel_rfl) hS))))));have hM6:=hM.1 hS0;have e0:=hI.1 0 (dy rfl);exact az [(0,_)] hU hmo hme hI hM (gM 3 rfl) rfl rfl (by kernel_rfl) ⟨e0,trivial⟩ (aC (v:=.pointer _) rfl) ai.rfl_ (rfl)
   constructor
   ·rintro S L' w7 hU hmo hme hI hM hC hS ⟨d3,-⟩;have hS0:S 9=false:=(af hC (j:=9) rfl (by kernel_rfl) (af hC (j:=8) rfl (by kernel_rfl) (af hC (j:=7) rfl (by kernel_rfl) (af hC (j:=6) rfl (by kernel_rfl) (af hC (j:=5) rfl (by kernel_rfl) hS)))));have hM7:=hM.1 hS0;obtain ⟨v7_12,e12,h12⟩:=hI.get (i:=3) (gM 3 rfl) d3;obtain rfl:=h12;exact az [(12,_)] hU hmo hme hI hM (gM 4 rfl) rfl rfl (by kernel_rfl) ⟨e12,trivial⟩ (av rfl) ai.rfl_ (rfl)
   constructor
   ·rintro S L' w8 hU hmo hme hI hM hC hS ⟨d4,-⟩;have hS0:S 9=false:=(af hC (j:=9) rfl (by kernel_rfl) (af hC (j:=8) rfl (by kernel_rfl) (af hC (j:=7) rfl (by kernel_rfl) (af hC (j:=6) rfl (by kernel_rfl) hS))));have hM8:=hM.1 hS0;obtain ⟨v8_13,e13,h13⟩:=hI.get (i:=4) (gM 4 rfl) d4;obtain rfl:=h13;exact az [(13,_)] hU hmo hme hI hM (gM 5 rfl) rfl rfl (by kernel_rfl) ⟨e13,trivial⟩ (aa ay rfl) ai.rfl_ (rfl)
   constructor
   ·rintro S L' w9 hU hmo hme hI hM hC hS ⟨d5,-⟩;have hS0:S 9=false:=(af hC (j:=9) rfl (by kernel_rfl) (af hC (j:=8) rfl (by kernel_rfl) (af hC (j:=7) rfl (by kernel_rfl) hS)));have hM9:=hM.1 hS0;obtain ⟨v9_14,e14,h14⟩:=hI.get (i:=5) (gM 5 rfl) d5;obtain rfl:=h14;exact az [(14,_)] hU hmo hme hI hM (gM 6 rfl) rfl rfl (by kernel_rfl) ⟨e14,trivial⟩ (aa aw rfl) ai.rfl_ (rfl)
   constructor
   ·rintro S L' w10 hU hmo hme hI hM hC hS ⟨d6,-⟩;have hS0:S 9=false:=(af hC (j:=9) rfl (by kernel_rfl) (af hC (j:=8) rfl (by kernel_rfl) hS));have hM10:=hM.1 hS0;obtain ⟨v10_15,e15,h15⟩:=hI.get (i:=6) (gM 6 rfl) d6;obtain rfl:=h15;exact az [(15,_)] hU hmo hme hI hM (gM 7 rfl) rfl rfl (by kernel_rfl) ⟨e15,trivial⟩ (aa bE rfl) ai.rfl_ (rfl)
   constructor
   ·rintro S L' w11 hU hmo hme hI hM hC hS ⟨d7,-⟩;have hS0:S 9=false:=(af hC (j:=9) rfl (by kernel_rfl) hS);have hM11:=hM.1 hS0;obtain ⟨v11_16,e16,h16⟩:=hI.get (i:=7) (gM 7 rfl) d7;obtain rfl:=h16;exact az [(16,_)] hU hmo hme hI hM (gM 8 rfl) rfl rfl (by kernel_rfl) ⟨e16,trivial⟩ (au ak rfl (by exact (show _=some (Value.int .i64 s.term) from cB (hb.from_ ((ai.rfl_.next E8).next hM11)) 3 rfl))) ai.rfl_ (rfl)
   constructor
   ·rintro S L' w12 hU hmo hme hI hM hC hS ⟨d2,d8,-⟩;have hS0:S 9=false:=hS;have hM12:=hM.1 hS0;obtain ⟨v12_11,e11,h11⟩:=hI.get (i:=2) (gM 2 rfl) d2;obtain rfl:=h11;obtain ⟨v12_17,e17,h17⟩:=hI.get (i:=8) (gM 8 rfl) d8;obtain rfl:=h17;refine df (al:=[.tmp 11,.tmp 17]) [(11,_),(17,_)] hU hI (gM 9 rfl) (by kernel_rfl) ⟨e11,e17,trivial⟩ il ((iR w0 Z T g ⟨s,out⟩ _ (h.from_ ((ai.rfl_.next E8).next hM12)) s.term).mono ?_);rintro v9 w2 ⟨rfl,hS2⟩;exact ⟨⟨fun h0=>(by rw [dS] at h0;cases h0),fun _=>hS2⟩,rfl,⟨fun _ _ _ h=>h,fun _ _ _ h=>h,fun _ _ _ h=>h,fun _ _ _ h=>h,fun _ _ _ h=>h,fun _ _ _ h=>h,fun _ _ _ h=>h,fun _ _ _ h=>h,fun _ _ _ h=>h,fun _ _ _ h=>h,trivial⟩⟩
   exact trivial
  case hend=>
   intro w13 hM;obtain hS9:=hM.2 rfl;rintro v13_9 rfl v13_10 rfl v13_11 rfl v13_12 rfl v13_13 rfl v13_14 rfl v13_15 rfl v13_16 rfl v13_17 rfl v13_18 rfl;refine dY (ah (aG (aH (dU rfl ?_))));unfold pL
   first
    |(rw [if_pos h8t];exact ⟨rfl,hS9.from_ ai.rfl_⟩)
    |(rw [if_neg (by show ¬ gF s=true;rw [h8];decide)]
      refine ⟨rfl,?_⟩;show aF w0 Z _ T g ⟨cH (Sp.all ⟨eI (dN s) ⟨#[]⟩,out⟩).s,(Sp.all ⟨eI (dN s) ⟨#[]⟩,out⟩).out⟩;rw [show (Sp.all ⟨eI (dN s) ⟨#[]⟩,out⟩).s=eI (dN s) ⟨#[]⟩ by rw [nc]];exact h12.from_ (ai.rfl_ (a:=w1)))
 have h8:gF s=false:=by simpa using Q2
 refine aI (ah (ao (ag (mvp rfl (ab (av rfl) (ab (aa ay rfl) (aE ey (gv T g s _ _ _ (hb.from_ (ai.rfl_.next E8)) (he.from_ (ai.rfl_.next E8)) hF.lg) ?_)))))));rintro v23 w14 ⟨rfl,E23⟩;refine mvt rfl (ab (aK rfl rfl) (ab (aK rfl rfl) (asi rfl (asi rfl (aq (ah (ao (ag (mvp rfl (mvp rfl (mvp rfl ?_)))))))))));refine mvp rfl (mvp rfl (ab (av rfl) (ab (aa ay rfl) (ab (aa aw rfl) (ab (aa dK rfl) (ab (au ak rfl (by exact (show _=some (Value.int .i64 s.id) from cB (hb.from_ ((ai.rfl_.next E8).next E23)) 0 rfl))) ?_))))));refine ab (av rfl) (ab (aa ay rfl) (ab (aa aw rfl) (ab (aa c6 rfl) ?_)));have hB0:ai w w14:=((ai.rfl_.next E8).next E23);refine cY (s':=({ s with role:=2 }:Rf)) (a':=(⟨E,Ec,V,Vc,X,Xc,M,Mc,Sn,Sc,Q,Qc,LL⟩:Ra)) (v:=.int _ _) bh rfl rfl rfl ((hb.from_ ((ai.rfl_.next E8).next E23))) (by exact ⟨by decide,rfl⟩) ?_;intro w15 O3_0 P3_0;have hC1:Chg (fun k=>k=g) w w15:=(ai.toChg hB0).only O3_0 rfl;refine ab (av rfl) (ab (aa ay rfl) (ab (aa aw rfl) (ab (aa fR rfl) (cY (s':=({ s with role:=2,leader:=s.id }:Rf)) (a':=(⟨E,Ec,V,Vc,X,Xc,M,Mc,Sn,Sc,Q,Qc,LL⟩:Ra)) (v:=.int _ _) bh rfl rfl rfl (P3_0) (by exact ⟨by decide,rfl⟩) ?_))));intro w16 O3_1 P3_1;replace hC1:=hC1.only O3_1 rfl;refine ab (av rfl) (ab (aa ay rfl) (ab (aa aw rfl) (ab (aa ed rfl) (cY (s':=({ s with role:=2,leader:=s.id,votes:=[] }:Rf)) (a':=(⟨E,Ec,none,0,X,Xc,M,Mc,Sn,Sc,Q,Qc,LL⟩:Ra)) (v:=.slice _ _ _) dm rfl rfl rfl (P3_1) (by exact ⟨by decide,rfl⟩) ?_))));intro w17 O3_2 P3_2;replace hC1:=hC1.only O3_2 rfl;refine ab (av rfl) (ab (aa ay rfl) (ab (aa aw rfl) (ab (aa dJ rfl) (cY (s':=({ s with role:=2,leader:=s.id,votes:=[],elapsed:=0 }:Rf)) (a':=(⟨E,Ec,none,0,X,Xc,M,Mc,Sn,Sc,Q,Qc,LL⟩:Ra)) (v:=.int _ _) bh rfl rfl rfl (P3_2) (by exact ⟨by decide,rfl⟩) ?_))));intro w18 O3_3 P3_3;replace hC1:=hC1.only O3_3 rfl;obtain ⟨hs3,h3⟩:=h.set (s':=({ s with role:=2,leader:=s.id,votes:=[],elapsed:=0 }:Rf)) (a':=(⟨E,Ec,none,0,X,Xc,M,Mc,Sn,Sc,Q,Qc,LL⟩:Ra)) hs hC1 (aY.same hs.f.novotes rfl rfl rfl rfl rfl rfl) P3_3;refine aq (ah (ao (vh (X:=G3) [(0,52,fun x=>.pointer (some ⟨g,0,none⟩)),(1,53,fun x=>.pointer (some ⟨g,0,none⟩)),(2,54,fun x=>.pointer (some ⟨g,0,none⟩)),(3,55,fun x=>.pointer (some ⟨g,0,none⟩)),(4,56,fun x=>.pointer (some ⟨g,0,none⟩)),(5,57,fun x=>.pointer (some ⟨g,0+0,none⟩)),(6,58,fun x=>.pointer (some ⟨g,0+0+0,none⟩)),(7,59,fun x=>.pointer (some ⟨g,0+0+0+1,none⟩)),(8,60,fun x=>.int .i64 (n:Nat)),(9,61,fun x=>.slice (some ⟨x.x,0,none⟩) n n),(10,62,fun x=>.pointer (some ⟨g,0,none⟩)),(11,63,fun x=>.pointer (some ⟨g,0,none⟩)),(12,64,fun x=>.pointer (some ⟨g,0+0,none⟩)),(13,65,fun x=>.pointer (some ⟨g,0+0+0,none⟩)),(14,66,fun x=>.pointer (some ⟨g,0+0+0+1,none⟩)),(15,67,fun x=>.int .i64 (n:Nat)),(16,68,fun x=>.slice (some ⟨x.m,0,none⟩) n n),(17,69,fun x=>.pointer (some ⟨g,0,none⟩)),(18,70,fun x=>.pointer (some ⟨g,0,none⟩)),(19,71,fun x=>.pointer (some ⟨g,0+0,none⟩)),(20,72,fun x=>.pointer (some ⟨g,0+0+0,none⟩)),(21,73,fun x=>.pointer (some ⟨g,0+0+0+1,none⟩)),(22,74,fun x=>.int .i64 (n:Nat)),(23,75,fun x=>.slice (some ⟨x.s,0,none⟩) n n),(24,76,fun x=>.pointer (some ⟨g,0,none⟩)),(25,77,fun x=>.pointer (some ⟨g,0+0,none⟩)),(26,78,fun x=>.pointer (some ⟨g,0+0+0,none⟩)),(27,79,fun x=>.pointer (some ⟨g,0+0+0+15,none⟩)),(29,80,fun x=>.pointer (some ⟨g,0,none⟩)),(30,81,fun x=>.pointer (some ⟨g,0+0,none⟩)),(31,82,fun x=>.pointer (some ⟨g,0+0+0,none⟩)),(32,83,fun x=>.pointer (some ⟨g,0+0+0+16,none⟩)),(34,84,fun x=>.pointer (some ⟨g,0,none⟩)),(35,85,fun x=>.pointer (some ⟨g,0+0,none⟩)),(36,86,fun x=>.pointer (some ⟨g,0+0+0,none⟩)),(37,87,fun x=>.pointer (some ⟨g,0+0+0+17,none⟩))] [9,16,23,28,33,38] (fun x S w'=>LI w18 T g n ({ s with role:=2,leader:=s.id,votes:=[],elapsed:=0 }:Rf) (⟨E,Ec,none,0,X,Xc,M,Mc,Sn,Sc,Q,Qc,LL⟩:Ra) (Value.slice O L.length oc) x S w') (by kernel_rfl) (by kernel_rfl) rfl rfl (fun x S i w1 w2 hq hF h=>LI.rd h hq hF) (⟨⟨0,0,0⟩,⟨ai.rfl_.d1.toChg,(hs3.b.from_ ((ai.rfl_).d1)),fun h=>(by cases h),fun h=>(by cases h),fun h=>(by cases h),fun h=>(by cases h),fun h=>(by cases h),fun h=>(by cases h),(hs3.b.from_ ai.rfl_).lt⟩⟩) ?_ ?_)))
 ·constructor
  ·rintro S L' w19 x hU hme hI hM hC hS ⟨-⟩;have hM':=hM;obtain ⟨hc19,hb19,u919,u1619,u2319,q119,q219,q319,lt19⟩:=hM';have e0:=InvX.out hI (t:=0) rfl;exact bZ [(0,_)] x hU hI (.head _) rfl (by kernel_rfl) ⟨e0,trivial⟩ (aC (v:=.pointer _) rfl) cf (hme _ _ _ _ _ rfl ai.rfl_ hM)
  constructor
  ·rintro S L' w20 x hU hme hI hM hC hS ⟨-,-⟩;have hM':=hM;obtain ⟨hc20,hb20,u920,u1620,u2320,q120,q220,q320,lt20⟩:=hM';have e0:=InvX.out hI (t:=0) rfl;exact bZ [(0,_)] x hU hI (.tail _ (.head _)) rfl (by kernel_rfl) ⟨e0,trivial⟩ (aC (v:=.pointer _) rfl) cf (hme _ _ _ _ _ rfl ai.rfl_ hM)
  constructor
  ·rintro S L' w21 x hU hme hI hM hC hS ⟨-,-⟩;have hM':=hM;obtain ⟨hc21,hb21,u921,u1621,u2321,q121,q221,q321,lt21⟩:=hM';have e0:=InvX.out hI (t:=0) rfl;exact bZ [(0,_)] x hU hI (gM 2 rfl) rfl (by kernel_rfl) ⟨e0,trivial⟩ (aC (v:=.pointer _) rfl) cf (hme _ _ _ _ _ rfl ai.rfl_ hM)
  constructor
  ·rintro S L' w22 x hU hme hI hM hC hS ⟨-⟩;have hM':=hM;obtain ⟨hc22,hb22,u922,u1622,u2322,q122,q222,q322,lt22⟩:=hM';have e0:=InvX.out hI (t:=0) rfl;exact bZ [(0,_)] x hU hI (gM 3 rfl) rfl (by kernel_rfl) ⟨e0,trivial⟩ (aC (v:=.pointer _) rfl) cf (hme _ _ _ _ _ rfl ai.rfl_ hM)
  constructor
  ·rintro S L' w23 x hU hme hI hM hC hS ⟨d3,-⟩;have hM':=hM;obtain ⟨hc23,hb23,u923,u1623,u2323,q123,q223,q323,lt23⟩:=hM';have e55:=InvX.get hI (i:=3) (gM 3 rfl) d3;exact bZ [(55,_)] x hU hI (gM 4 rfl) rfl (by kernel_rfl) ⟨e55,trivial⟩ (av rfl) cf (hme _ _ _ _ _ rfl ai.rfl_ hM)
  constructor
  ·rintro S L' w24 x hU hme hI hM hC hS ⟨d4,-⟩;have hM':=hM;obtain ⟨hc24,hb24,u924,u1624,u2324,q124,q224,q324,lt24⟩:=hM';have e56:=InvX.get hI (i:=4) (gM 4 rfl) d4;exact bZ [(56,_)] x hU hI (gM 5 rfl) rfl (by kernel_rfl) ⟨e56,trivial⟩ (aa ay rfl) cf (hme _ _ _ _ _ rfl ai.rfl_ hM)
  constructor
  ·rintro S L' w25 x hU hme hI hM hC hS ⟨d5,-⟩;have hM':=hM;obtain ⟨hc25,hb25,u925,u1625,u2325,q125,q225,q325,lt25⟩:=hM';have e57:=InvX.get hI (i:=5) (gM 5 rfl) d5;exact bZ [(57,_)] x hU hI (gM 6 rfl) rfl (by kernel_rfl) ⟨e57,trivial⟩ (aa aw rfl) cf (hme _ _ _ _ _ rfl ai.rfl_ hM)
  constructor
  ·rintro S L' w26 x hU hme hI hM hC hS ⟨d6,-⟩;have hM':=hM;obtain ⟨hc26,hb26,u926,u1626,u2326,q126,q226,q326,lt26⟩:=hM';have e58:=InvX.get hI (i:=6) (gM 6 rfl) d6;exact bZ [(58,_)] x hU hI (gM 7 rfl) rfl (by kernel_rfl) ⟨e58,trivial⟩ (aa cN rfl) cf (hme _ _ _ _ _ rfl ai.rfl_ hM)
  constructor
  ·rintro S L' w27 x hU hme hI hM hC hS ⟨d7,-⟩;have hM':=hM;obtain ⟨hc27,hb27,u927,u1627,u2327,q127,q227,q327,lt27⟩:=hM';have e59:=InvX.get hI (i:=7) (gM 7 rfl) d7;exact bZ [(59,_)] x hU hI (gM 8 rfl) rfl (by kernel_rfl) ⟨e59,trivial⟩ (fg (au ak rfl (show _=some (Value.int .i64 s.nodes) from hM.b.rd 1 rfl)) (aZ hn)) cf (hme _ _ _ _ _ rfl ai.rfl_ hM)
  constructor
  ·rintro S L' w28 x hU hme hI hM hC hS ⟨d8,d8,-⟩;have hM':=hM;obtain ⟨hc28,hb28,u928,u1628,u2328,q128,q228,q328,lt28⟩:=hM';have e60:=InvX.get hI (i:=8) (gM 8 rfl) d8;have h28:S 28=false:=af hC (j:=28) rfl (by kernel_rfl) hS;exact bZ [(60,_)] ⟨w28.heap.size,x.m,x.s⟩ hU hI (gM 9 rfl) rfl (by kernel_rfl) ⟨e60,trivial⟩ (rj kj rfl rfl rfl (by omega) (by omega)) ⟨fun _=>rfl,fun _=>rfl,fun _=>rfl,fun _=>rfl,fun _=>rfl,fun _=>rfl,fun _=>rfl,fun _=>rfl,fun _=>rfl,fun h=>(by rw [hS] at h;cases h),fun _=>rfl,fun _=>rfl,fun _=>rfl,fun _=>rfl,fun _=>rfl,fun _=>rfl,fun _=>rfl,fun _=>rfl,fun _=>rfl,fun _=>rfl,fun _=>rfl,fun _=>rfl,fun _=>rfl,fun _=>rfl,fun _=>rfl,fun _=>rfl,fun _=>rfl,fun _=>rfl,fun _=>rfl,fun _=>rfl,fun _=>rfl,fun _=>rfl,fun _=>rfl,fun _=>rfl,fun _=>rfl,fun _=>rfl,trivial⟩ (LI.mk9 hM h28 ⟨hM.c.size,Blk.new _ _ _⟩ (ai.rfl_.new _))
  constructor
  ·rintro S L' w29 x hU hme hI hM hC hS ⟨-⟩;have hM':=hM;obtain ⟨hc29,hb29,u929,u1629,u2329,q129,q229,q329,lt29⟩:=hM';have e0:=InvX.out hI (t:=0) rfl;exact bZ [(0,_)] x hU hI (gM 10 rfl) rfl (by kernel_rfl) ⟨e0,trivial⟩ (aC (v:=.pointer _) rfl) cf (hme _ _ _ _ _ rfl ai.rfl_ hM)
  constructor
  ·rintro S L' w30 x hU hme hI hM hC hS ⟨d10,-⟩;have hM':=hM;obtain ⟨hc30,hb30,u930,u1630,u2330,q130,q230,q330,lt30⟩:=hM';have e62:=InvX.get hI (i:=10) (gM 10 rfl) d10;exact bZ [(62,_)] x hU hI (gM 11 rfl) rfl (by kernel_rfl) ⟨e62,trivial⟩ (av rfl) cf (hme _ _ _ _ _ rfl ai.rfl_ hM)
  constructor
  ·rintro S L' w31 x hU hme hI hM hC hS ⟨d11,-⟩;have hM':=hM;obtain ⟨hc31,hb31,u931,u1631,u2331,q131,q231,q331,lt31⟩:=hM';have e63:=InvX.get hI (i:=11) (gM 11 rfl) d11;exact bZ [(63,_)] x hU hI (gM 12 rfl) rfl (by kernel_rfl) ⟨e63,trivial⟩ (aa ay rfl) cf (hme _ _ _ _ _ rfl ai.rfl_ hM)
  constructor
  ·rintro S L' w32 x hU hme hI hM hC hS ⟨d12,-⟩;have hM':=hM;obtain ⟨hc32,hb32,u932,u1632,u2332,q132,q232,q332,lt32⟩:=hM';have e64:=InvX.get hI (i:=12) (gM 12 rfl) d12;exact bZ [(64,_)] x hU hI (gM 13 rfl) rfl (by kernel_rfl) ⟨e64,trivial⟩ (aa aw rfl) cf (hme _ _ _ _ _ rfl ai.rfl_ hM)
  constructor
  ·rintro S L' w33 x hU hme hI hM hC hS ⟨d13,-⟩;have hM':=hM;obtain ⟨hc33,hb33,u933,u1633,u2333,q133,q233,q333,lt33⟩:=hM';have e65:=InvX.get hI (i:=13) (gM 13 rfl) d13;exact bZ [(65,_)] x hU hI (gM 14 rfl) rfl (by kernel_rfl) ⟨e65,trivial⟩ (aa cN rfl) cf (hme _ _ _ _ _ rfl ai.rfl_ hM)
  constructor
  ·rintro S L' w34 x hU hme hI hM hC hS ⟨d14,-⟩;have hM':=hM;obtain ⟨hc34,hb34,u934,u1634,u2334,q134,q234,q334,lt34⟩:=hM';have e66:=InvX.get hI (i:=14) (gM 14 rfl) d14;exact bZ [(66,_)] x hU hI (gM 15 rfl) rfl (by kernel_rfl) ⟨e66,trivial⟩ (fg (au ak rfl (show _=some (Value.int .i64 s.nodes) from hM.b.rd 1 rfl)) (aZ hn)) cf (hme _ _ _ _ _ rfl ai.rfl_ hM)
  constructor
  ·rintro S L' w35 x hU hme hI hM hC hS ⟨d15,d15,-⟩;have hM':=hM;obtain ⟨hc35,hb35,u935,u1635,u2335,q135,q235,q335,lt35⟩:=hM';have e67:=InvX.get hI (i:=15) (gM 15 rfl) d15;have h28:S 33=false:=af hC (j:=33) rfl (by kernel_rfl) hS;exact bZ [(67,_)] ⟨x.x,w35.heap.size,x.s⟩ hU hI (gM 16 rfl) rfl (by kernel_rfl) ⟨e67,trivial⟩ (rj kj rfl rfl rfl (by omega) (by omega)) ⟨fun _=>rfl,fun _=>rfl,fun _=>rfl,fun _=>rfl,fun _=>rfl,fun _=>rfl,fun _=>rfl,fun _=>rfl,fun _=>rfl,fun _=>rfl,fun _=>rfl,fun _=>rfl,fun _=>rfl,fun _=>rfl,fun _=>rfl,fun _=>rfl,fun h=>(by rw [hS] at h;cases h),fun _=>rfl,fun _=>rfl,fun _=>rfl,fun _=>rfl,fun _=>rfl,fun _=>rfl,fun _=>rfl,fun _=>rfl,fun _=>rfl,fun _=>rfl,fun _=>rfl,fun _=>rfl,fun _=>rfl,fun _=>rfl,fun _=>rfl,fun _=>rfl,fun _=>rfl,fun _=>rfl,fun _=>rfl,trivial⟩ (LI.mk16 hM h28 ⟨hM.c.size,Blk.new _ _ _⟩ (ai.rfl_.new _))
  constructor
  ·rintro S L' w36 x hU hme hI hM hC hS ⟨-⟩;have hM':=hM;obtain ⟨hc36,hb36,u936,u1636,u2336,q136,q236,q336,lt36⟩:=hM';have e0:=InvX.out hI (t:=0) rfl;exact bZ [(0,_)] x hU hI (gM 17 rfl) rfl (by kernel_rfl) ⟨e0,trivial⟩ (aC (v:=.pointer _) rfl) cf (hme _ _ _ _ _ rfl ai.rfl_ hM)
  constructor
  ·rintro S L' w37 x hU hme hI hM hC hS ⟨d17,-⟩;have hM':=hM;obtain ⟨hc37,hb37,u937,u1637,u2337,q137,q237,q337,lt37⟩:=hM';have e69:=InvX.get hI (i:=17) (gM 17 rfl) d17;exact bZ [(69,_)] x hU hI (gM 18 rfl) rfl (by kernel_rfl) ⟨e69,trivial⟩ (av rfl) cf (hme _ _ _ _ _ rfl ai.rfl_ hM)
  constructor
  ·rintro S L' w38 x hU hme hI hM hC hS ⟨d18,-⟩;have hM':=hM;obtain ⟨hc38,hb38,u938,u1638,u2338,q138,q238,q338,lt38⟩:=hM';have e70:=InvX.get hI (i:=18) (gM 18 rfl) d18;exact bZ [(70,_)] x hU hI (gM 19 rfl) rfl (by kernel_rfl) ⟨e70,trivial⟩ (aa ay rfl) cf (hme _ _ _ _ _ rfl ai.rfl_ hM)
  constructor
  ·rintro S L' w39 x hU hme hI hM hC hS ⟨d19,-⟩;have hM':=hM;obtain ⟨hc39,hb39,u939,u1639,u2339,q139,q239,q339,lt39⟩:=hM';have e71:=InvX.get hI (i:=19) (gM 19 rfl) d19;exact bZ [(71,_)] x hU hI (gM 20 rfl) rfl (by kernel_rfl) ⟨e71,trivial⟩ (aa aw rfl) cf (hme _ _ _ _ _ rfl ai.rfl_ hM)
  constructor
  ·rintro S L' w40 x hU hme hI hM hC hS ⟨d20,-⟩;have hM':=hM;obtain ⟨hc40,hb40,u940,u1640,u2340,q140,q240,q340,lt40⟩:=hM';have e72:=InvX.get hI (i:=20) (gM 20 rfl) d20;exact bZ [(72,_)] x hU hI (gM 21 rfl) rfl (by kernel_rfl) ⟨e72,trivial⟩ (aa cN rfl) cf (hme _ _ _ _ _ rfl ai.rfl_ hM)
  constructor
  ·rintro S L' w41 x hU hme hI hM hC hS ⟨d21,-⟩;have hM':=hM;obtain ⟨hc41,hb41,u941,u1641,u2341,q141,q241,q341,lt41⟩:=hM';have e73:=InvX.get hI (i:=21) (gM 21 rfl) d21;exact bZ [(73,_)] x hU hI (gM 22 rfl) rfl (by kernel_rfl) ⟨e73,trivial⟩ (fg (au ak rfl (show _=some (Value.int .i64 s.nodes) from hM.b.rd 1 rfl)) (aZ hn)) cf (hme _ _ _ _ _ rfl ai.rfl_ hM)
  constructor
  ·rintro S L' w42 x hU hme hI hM hC hS ⟨d22,d22,-⟩;have hM':=hM;obtain ⟨hc42,hb42,u942,u1642,u2342,q142,q242,q342,lt42⟩:=hM';have e74:=InvX.get hI (i:=22) (gM 22 rfl) d22;have h28:S 38=false:=af hC (j:=38) rfl (by kernel_rfl) hS;exact bZ [(74,_)] ⟨x.x,x.m,w42.heap.size⟩ hU hI (gM 23 rfl) rfl (by kernel_rfl) ⟨e74,trivial⟩ (rj kj rfl rfl rfl (by omega) (by omega)) ⟨fun _=>rfl,fun _=>rfl,fun _=>rfl,fun _=>rfl,fun _=>rfl,fun _=>rfl,fun _=>rfl,fun _=>rfl,fun _=>rfl,fun _=>rfl,fun _=>rfl,fun _=>rfl,fun _=>rfl,fun _=>rfl,fun _=>rfl,fun _=>rfl,fun _=>rfl,fun _=>rfl,fun _=>rfl,fun _=>rfl,fun _=>rfl,fun _=>rfl,fun _=>rfl,fun h=>(by rw [hS] at h;cases h),fun _=>rfl,fun _=>rfl,fun _=>rfl,fun _=>rfl,fun _=>rfl,fun _=>rfl,fun _=>rfl,fun _=>rfl,fun _=>rfl,fun _=>rfl,fun _=>rfl,fun _=>rfl,trivial⟩ (LI.mk23 hM h28 ⟨hM.c.size,Blk.new _ _ _⟩ (ai.rfl_.new _))
  constructor
  ·rintro S L' w43 x hU hme hI hM hC hS ⟨d0,d0,-,-,d3,d4,d5,d6,d7,d8,d9,-,-,-,-,-,d15,-,-,-,-,-,-,d22,-,-⟩;have hM':=hM;obtain ⟨hc43,hb43,u943,u1643,u2343,q143,q243,q343,lt43⟩:=hM';have e52:=InvX.get hI (i:=0) (.head _) d0;exact bZ [(52,_)] x hU hI (gM 24 rfl) rfl (by kernel_rfl) ⟨e52,trivial⟩ (av rfl) cf (hme _ _ _ _ _ rfl ai.rfl_ hM)
  constructor
  ·rintro S L' w44 x hU hme hI hM hC hS ⟨d24,d0,-,-,d3,d4,d5,d6,d7,d8,d9,-,-,-,-,-,d15,-,-,-,-,-,-,d22,-,-⟩;have hM':=hM;obtain ⟨hc44,hb44,u944,u1644,u2344,q144,q244,q344,lt44⟩:=hM';have e76:=InvX.get hI (i:=24) (gM 24 rfl) d24;exact bZ [(76,_)] x hU hI (gM 25 rfl) rfl (by kernel_rfl) ⟨e76,trivial⟩ (aa ay rfl) cf (hme _ _ _ _ _ rfl ai.rfl_ hM)
  constructor
  ·rintro S L' w45 x hU hme hI hM hC hS ⟨d25,d0,-,-,d3,d4,d5,d6,d7,d8,d9,-,-,-,-,-,d15,-,-,-,-,-,-,d22,-,-⟩;have hM':=hM;obtain ⟨hc45,hb45,u945,u1645,u2345,q145,q245,q345,lt45⟩:=hM';have e77:=InvX.get hI (i:=25) (gM 25 rfl) d25;exact bZ [(77,_)] x hU hI (gM 26 rfl) rfl (by kernel_rfl) ⟨e77,trivial⟩ (aa aw rfl) cf (hme _ _ _ _ _ rfl ai.rfl_ hM)
  constructor
  ·rintro S L' w46 x hU hme hI hM hC hS ⟨d26,d0,-,-,d3,d4,d5,d6,d7,d8,d9,-,-,-,-,-,d15,-,-,-,-,-,-,d22,-,-⟩;have hM':=hM;obtain ⟨hc46,hb46,u946,u1646,u2346,q146,q246,q346,lt46⟩:=hM';have e78:=InvX.get hI (i:=26) (gM 26 rfl) d26;exact bZ [(78,_)] x hU hI (gM 27 rfl) rfl (by kernel_rfl) ⟨e78,trivial⟩ (aa ch rfl) cf (hme _ _ _ _ _ rfl ai.rfl_ hM)
  constructor
  ·rintro S L' w47 x hU hme hI hM hC hS ⟨d27,d9,d0,-,-,d3,d4,d5,d6,d7,d8,d9,-,-,-,-,-,d15,-,-,-,-,-,-,d22,-,-⟩;have hM':=hM;obtain ⟨hc47,hb47,u947,u1647,u2347,q147,q247,q347,lt47⟩:=hM';have e61:=InvX.get hI (i:=9) (gM 9 rfl) d9;have e79:=InvX.get hI (i:=27) (gM 27 rfl) d27;obtain ⟨w2,hR,hO,hb2⟩:=j9 (n:=124) (L:=[(61,_),(79,_)]) (x:=.tmp 79) (y:=.tmp 61) (v:=.slice (some ⟨x.x,0,none⟩) n n) dm rfl rfl rfl hM.b (show 15<23 by decide)
   have hb3:Blk w2 g T (lvX ({ s with role:=2,leader:=s.id,votes:=[],elapsed:=0 }:Rf) (⟨E,Ec,none,0,X,Xc,M,Mc,Sn,Sc,Q,Qc,LL⟩:Ra) n x (di S 28)++[Value.slice O L.length oc]).toArray:=by
    rw [←yH];exact hb2
   exact mo [(61,_),(79,_)] hI (xZ rfl) rfl (by kernel_rfl) ⟨e61,e79,trivial⟩ hR (LI.st hM (.inl rfl) hO hb3)
  constructor
  ·rintro S L' w48 x hU hme hI hM hC hS ⟨d1,d0,d1,-,d3,d4,d5,d6,d7,d8,d9,d10,d11,d12,d13,d14,d15,d16,-,-,-,-,-,d22,-,d24,d25,d26,d27,d28,-⟩;have hM':=hM;obtain ⟨hc48,hb48,u948,u1648,u2348,q148,q248,q348,lt48⟩:=hM';have e53:=InvX.get hI (i:=1) (.tail _ (.head _)) d1;exact bZ [(53,_)] x hU hI (gM 28 rfl) rfl (by kernel_rfl) ⟨e53,trivial⟩ (av rfl) cf (hme _ _ _ _ _ rfl ai.rfl_ hM)
  constructor
  ·rintro S L' w49 x hU hme hI hM hC hS ⟨d29,d0,d1,-,d3,d4,d5,d6,d7,d8,d9,d10,d11,d12,d13,d14,d15,d16,-,-,-,-,-,d22,-,d24,d25,d26,d27,d28,-⟩;have hM':=hM;obtain ⟨hc49,hb49,u949,u1649,u2349,q149,q249,q349,lt49⟩:=hM';have e80:=InvX.get hI (i:=29) (gM 28 rfl) d29;exact bZ [(80,_)] x hU hI (gM 29 rfl) rfl (by kernel_rfl) ⟨e80,trivial⟩ (aa ay rfl) cf (hme _ _ _ _ _ rfl ai.rfl_ hM)
  constructor
  ·rintro S L' w50 x hU hme hI hM hC hS ⟨d30,d0,d1,-,d3,d4,d5,d6,d7,d8,d9,d10,d11,d12,d13,d14,d15,d16,-,-,-,-,-,d22,-,d24,d25,d26,d27,d28,-⟩;have hM':=hM;obtain ⟨hc50,hb50,u950,u1650,u2350,q150,q250,q350,lt50⟩:=hM';have e81:=InvX.get hI (i:=30) (gM 29 rfl) d30;exact bZ [(81,_)] x hU hI (gM 30 rfl) rfl (by kernel_rfl) ⟨e81,trivial⟩ (aa aw rfl) cf (hme _ _ _ _ _ rfl ai.rfl_ hM)
  constructor
  ·rintro S L' w51 x hU hme hI hM hC hS ⟨d31,d0,d1,-,d3,d4,d5,d6,d7,d8,d9,d10,d11,d12,d13,d14,d15,d16,-,-,-,-,-,d22,-,d24,d25,d26,d27,d28,-⟩;have hM':=hM;obtain ⟨hc51,hb51,u951,u1651,u2351,q151,q251,q351,lt51⟩:=hM';have e82:=InvX.get hI (i:=31) (gM 30 rfl) d31;exact bZ [(82,_)] x hU hI (gM 31 rfl) rfl (by kernel_rfl) ⟨e82,trivial⟩ (aa cM rfl) cf (hme _ _ _ _ _ rfl ai.rfl_ hM)
  constructor
  ·rintro S L' w52 x hU hme hI hM hC hS ⟨d32,d16,d28,d0,d1,-,d3,d4,d5,d6,d7,d8,d9,d10,d11,d12,d13,d14,d15,d16,-,-,-,-,-,d22,-,d24,d25,d26,d27,d28,-⟩;have hM':=hM;obtain ⟨hc52,hb52,u952,u1652,u2352,q152,q252,q352,lt52⟩:=hM';have e68:=InvX.get hI (i:=16) (gM 16 rfl) d16;have e83:=InvX.get hI (i:=32) (gM 31 rfl) d32;obtain ⟨w2,hR,hO,hb2⟩:=j9 (n:=124) (L:=[(68,_),(83,_)]) (x:=.tmp 83) (y:=.tmp 68) (v:=.slice (some ⟨x.m,0,none⟩) n n) dm rfl rfl rfl hM.b (show 16<23 by decide)
   have hb3:Blk w2 g T (lvX ({ s with role:=2,leader:=s.id,votes:=[],elapsed:=0 }:Rf) (⟨E,Ec,none,0,X,Xc,M,Mc,Sn,Sc,Q,Qc,LL⟩:Ra) n x (di S 33)++[Value.slice O L.length oc]).toArray:=by
    rw [←yG];exact hb2
   exact mo [(68,_),(83,_)] hI (xZ rfl) rfl (by kernel_rfl) ⟨e68,e83,trivial⟩ hR (LI.st hM (.inr (.inl rfl)) hO hb3)
  constructor
  ·rintro S L' w53 x hU hme hI hM hC hS ⟨d2,d0,d1,d2,d3,d4,d5,d6,d7,d8,d9,d10,d11,d12,d13,d14,d15,d16,d17,d18,d19,d20,d21,d22,d23,d24,d25,d26,d27,d28,d29,d30,d31,d32,d33,-⟩;have hM':=hM;obtain ⟨hc53,hb53,u953,u1653,u2353,q153,q253,q353,lt53⟩:=hM';have e54:=InvX.get hI (i:=2) (gM 2 rfl) d2;exact bZ [(54,_)] x hU hI (gM 32 rfl) rfl (by kernel_rfl) ⟨e54,trivial⟩ (av rfl) cf (hme _ _ _ _ _ rfl ai.rfl_ hM)
  constructor
  ·rintro S L' w54 x hU hme hI hM hC hS ⟨d34,d0,d1,d2,d3,d4,d5,d6,d7,d8,d9,d10,d11,d12,d13,d14,d15,d16,d17,d18,d19,d20,d21,d22,d23,d24,d25,d26,d27,d28,d29,d30,d31,d32,d33,-⟩;have hM':=hM;obtain ⟨hc54,hb54,u954,u1654,u2354,q154,q254,q354,lt54⟩:=hM';have e84:=InvX.get hI (i:=34) (gM 32 rfl) d34;exact bZ [(84,_)] x hU hI (gM 33 rfl) rfl (by kernel_rfl) ⟨e84,trivial⟩ (aa ay rfl) cf (hme _ _ _ _ _ rfl ai.rfl_ hM)
  constructor
  ·rintro S L' w55 x hU hme hI hM hC hS ⟨d35,d0,d1,d2,d3,d4,d5,d6,d7,d8,d9,d10,d11,d12,d13,d14,d15,d16,d17,d18,d19,d20,d21,d22,d23,d24,d25,d26,d27,d28,d29,d30,d31,d32,d33,-⟩;have hM':=hM;obtain ⟨hc55,hb55,u955,u1655,u2355,q155,q255,q355,lt55⟩:=hM';have e85:=InvX.get hI (i:=35) (gM 33 rfl) d35;exact bZ [(85,_)] x hU hI (gM 34 rfl) rfl (by kernel_rfl) ⟨e85,trivial⟩ (aa aw rfl) cf (hme _ _ _ _ _ rfl ai.rfl_ hM)
  constructor
  ·rintro S L' w56 x hU hme hI hM hC hS ⟨d36,d0,d1,d2,d3,d4,d5,d6,d7,d8,d9,d10,d11,d12,d13,d14,d15,d16,d17,d18,d19,d20,d21,d22,d23,d24,d25,d26,d27,d28,d29,d30,d31,d32,d33,-⟩;have hM':=hM;obtain ⟨hc56,hb56,u956,u1656,u2356,q156,q256,q356,lt56⟩:=hM';have e86:=InvX.get hI (i:=36) (gM 34 rfl) d36;exact bZ [(86,_)] x hU hI (gM 35 rfl) rfl (by kernel_rfl) ⟨e86,trivial⟩ (aa dc rfl) cf (hme _ _ _ _ _ rfl ai.rfl_ hM)
  constructor
  ·rintro S L' w57 x hU hme hI hM hC hS ⟨d37,d23,d33,d0,d1,d2,d3,d4,d5,d6,d7,d8,d9,d10,d11,d12,d13,d14,d15,d16,d17,d18,d19,d20,d21,d22,d23,d24,d25,d26,d27,d28,d29,d30,d31,d32,d33,-⟩;have hM':=hM;obtain ⟨hc57,hb57,u957,u1657,u2357,q157,q257,q357,lt57⟩:=hM';have e75:=InvX.get hI (i:=23) (gM 23 rfl) d23;have e87:=InvX.get hI (i:=37) (gM 35 rfl) d37;obtain ⟨w2,hR,hO,hb2⟩:=j9 (n:=124) (L:=[(75,_),(87,_)]) (x:=.tmp 87) (y:=.tmp 75) (v:=.slice (some ⟨x.s,0,none⟩) n n) dm rfl rfl rfl hM.b (show 17<23 by decide)
   have hb3:Blk w2 g T (lvX ({ s with role:=2,leader:=s.id,votes:=[],elapsed:=0 }:Rf) (⟨E,Ec,none,0,X,Xc,M,Mc,Sn,Sc,Q,Qc,LL⟩:Ra) n x (di S 38)++[Value.slice O L.length oc]).toArray:=by
    rw [←yF];exact hb2
   exact mo [(75,_),(87,_)] hI (xZ rfl) rfl (by kernel_rfl) ⟨e75,e87,trivial⟩ hR (LI.st hM (.inr (.inr rfl)) hO hb3)
  exact trivial
 ·intro x58 w58 hM;obtain ⟨hc58,hb58,u958,u1658,u2358,q158,q258,q358,lt58⟩:=hM;obtain ⟨xx,xm,xs⟩:=x58;have hbr:=hb58
  have hb4:Blk w58 g T (rfV ({ s with role:=2,leader:=s.id,votes:=[],elapsed:=0,next:=List.replicate n 0,mtch:=List.replicate n 0,sent:=List.replicate n 0 }:Rf) (⟨E,Ec,none,0,some ⟨xx,0,none⟩,n,some ⟨xm,0,none⟩,n,some ⟨xs,0,none⟩,n,Q,Qc,LL⟩:Ra)++[Value.slice O L.length oc]).toArray:=by
   unfold rfV;simp only [List.length_replicate];exact hb58
  obtain ⟨h4,tag4,hs4⟩:=h3.three hs3 hc58 (by omega) (u958 rfl) (u1658 rfl) (u2358 rfl) (q158 rfl rfl) (q258 rfl rfl) (q358 rfl rfl) hb4;refine ah (ao (ao (ag (mvp rfl (ab (av rfl) (ab (aa ay rfl) (ab (aa aw rfl) (ab (aa ch rfl) (ab (au bj rfl (by exact (show _=some (Value.slice (some ⟨xx,0,none⟩) n n) from (hbr.from_ ai.rfl_).rd 15 rfl))) ?_)))))))));refine ab (b0 bX rfl) (mvi rfl (aq (ah (bk (dC (G:=Nat×(Nat→Nat)) [4,96,97,98,99,100,101,102,103,104,105,106,107,108] (fun (i,_)=>[(95,.int .i64 (i:Nat))]) (fun (i,tg) w'=>i≤n∧aF w0 Z w' T g ⟨({ s with role:=2,leader:=s.id,votes:=[],elapsed:=0,next:=gH n i (aQ s+1),mtch:=List.replicate n 0,sent:=List.replicate n 0 }:Rf),out⟩∧eN w' Z T g tg ⟨({ s with role:=2,leader:=s.id,votes:=[],elapsed:=0,next:=gH n i (aQ s+1),mtch:=List.replicate n 0,sent:=List.replicate n 0 }:Rf),out⟩ (⟨E,Ec,none,0,some ⟨xx,0,none⟩,n,some ⟨xm,0,none⟩,n,some ⟨xs,0,none⟩,n,Q,Qc,LL⟩:Ra) O oc L) (fun (i,_)=>n-i) ((0,tag4)) ⟨rfl,trivial⟩ ?_ ?_)))))
  ·exact ⟨Nat.zero_le _,(by rw [uq];exact h4.from_ (ai.rfl_ (a:=w58))),(by rw [uq];exact hs4.from_ (ai.rfl_ (a:=w58)))⟩
  rintro ⟨i,tg⟩ ρ59 w59 ⟨hi,h5,hs5⟩;refine ao (ag (ab (cA rfl rfl) (aq (ah (ao (yS rfl (fun Q60=>?_) (fun Q60=>?_)))))))
  ·have hb5:=hs5.b;have hil:(gH n i (aQ s+1)).length=n:=pz hi
   have hr15:∀ w9,ai w59 w9→w9.cell? ⟨g,15,none⟩=some (.slice (some ⟨xx,0,none⟩) n n):=fun w9 hF9=>by
    have h9:=cB (hb5.from_ hF9) 15 rfl;rw [show ({ s with role:=2,leader:=s.id,votes:=[],elapsed:=0,next:=gH n i (aQ s+1),mtch:=List.replicate n 0,sent:=List.replicate n 0 }:Rf).next.length=n from hil] at h9;exact h9
   have hxo:(w59).ownsRow 0 3 1 (.slice (some ⟨xx,0,none⟩) n n) n ((gH n i (aQ s+1)).map iV):=by
    have h9:=(hs5.f.x (by decide)).1;rw [show (Sp.s ⟨({ s with role:=2,leader:=s.id,votes:=[],elapsed:=0,next:=gH n i (aQ s+1),mtch:=List.replicate n 0,sent:=List.replicate n 0 }:Rf),out⟩).next.length=n from hil] at h9;exact h9
   refine aI (ah (ao (bk (ao (ag (mvi rfl (asi rfl (aq (ah (ag (mvp rfl (ab (av rfl) (ab (aa ay rfl) (ab (aa aw rfl) (ab (aa ch rfl) ?_)))))))))))))));refine ab (au bj rfl (by exact hr15 _ (ai.rfl_ (a:=w59)))) ?_;refine mvi rfl (mvi rfl (ab (cl rfl rfl (by omega)) (ab (bS a_ rfl rfl (by omega)) ?_)));have hB8:ai _ w59:=(ai.rfl_ (a:=w59));refine fG (xs:=(gH n i (aQ s+1)).map iV) bh rfl rfl rfl (hxo.kept_from (ai.rfl_ (a:=w59))) (by omega) ?_;intro w61 O8 P8;have hgx:tg xx=2:=(hs5.f.x (by decide)).2 xx rfl;have hC8:Chg (fun k=>tg k=2) _ w61:=(ai.toChg hB8).only O8 hgx;have hil2:(gH n (i+1) (aQ s+1)).length=n:=pz (by omega)
   have hxo8:(w61).ownsRow 0 3 1 (.slice (some ⟨xx,0,none⟩) n n) n ((gH n (i+1) (aQ s+1)).map iV):=by
    rw [←uo (by omega),←my];exact P8
   have hb8:Blk w61 g T (rfV ({ s with role:=2,leader:=s.id,votes:=[],elapsed:=0,next:=gH n (i+1) (aQ s+1),mtch:=List.replicate n 0,sent:=List.replicate n 0 }:Rf) (⟨E,Ec,none,0,some ⟨xx,0,none⟩,n,some ⟨xm,0,none⟩,n,some ⟨xs,0,none⟩,n,Q,Qc,LL⟩:Ra)++[Value.slice O L.length oc]).toArray:=by
    have h9:=(hb5.from_ hB8).only O8 (fun e=>by have:=hs5.gc;rw [e,hgx] at this;cases this)
    have e9:rfV ({ s with role:=2,leader:=s.id,votes:=[],elapsed:=0,next:=gH n (i+1) (aQ s+1),mtch:=List.replicate n 0,sent:=List.replicate n 0 }:Rf) (⟨E,Ec,none,0,some ⟨xx,0,none⟩,n,some ⟨xm,0,none⟩,n,some ⟨xs,0,none⟩,n,Q,Qc,LL⟩:Ra)=rfV ({ s with role:=2,leader:=s.id,votes:=[],elapsed:=0,next:=gH n i (aQ s+1),mtch:=List.replicate n 0,sent:=List.replicate n 0 }:Rf) (⟨E,Ec,none,0,some ⟨xx,0,none⟩,n,some ⟨xm,0,none⟩,n,some ⟨xs,0,none⟩,n,Q,Qc,LL⟩:Ra):=by
     unfold rfV;simp only [hil,hil2]
    rw [e9];exact h9
   have hf8:=(hs5.f.but hC8).next (l:=gH n (i+1) (aQ s+1)) hil2.symm hxo8 (fun q hq=>by cases hq;rw [cy (dI hxo _ rfl)];exact hgx);obtain ⟨hs6a,h6⟩:=h5.put (s':=({ s with role:=2,leader:=s.id,votes:=[],elapsed:=0,next:=gH n (i+1) (aQ s+1),mtch:=List.replicate n 0,sent:=List.replicate n 0 }:Rf)) (a':=(⟨E,Ec,none,0,some ⟨xx,0,none⟩,n,some ⟨xm,0,none⟩,n,some ⟨xs,0,none⟩,n,Q,Qc,LL⟩:Ra)) hs5 hC8 (.inl (by decide)) hf8 (Chg.rfl_ (U:=fun k=>k=g)) hb8;obtain ⟨tg6,hs6⟩:∃ t,eN w61 Z T g t ⟨({ s with role:=2,leader:=s.id,votes:=[],elapsed:=0,next:=gH n (i+1) (aQ s+1),mtch:=List.replicate n 0,sent:=List.replicate n 0 }:Rf),out⟩ (⟨E,Ec,none,0,some ⟨xx,0,none⟩,n,some ⟨xm,0,none⟩,n,some ⟨xs,0,none⟩,n,Q,Qc,LL⟩:Ra) O oc L:=⟨_,hs6a⟩;refine aq (bI (ah (ag (ab (cl rfl rfl (by omega)) (mvi rfl (aq ?_))))));refine cu ((i+1,tg6)) ⟨(by first | rfl | (refine aZ ?_;omega)),trivial⟩ (by (iterate 30 refine bC rfl ?_);exact bP) ⟨?_,?_⟩
   ·exact ⟨by omega,h6.from_ (ai.rfl_ (a:=w61)),hs6.from_ (ai.rfl_ (a:=w61))⟩
   ·show n-(i+1)<n-i;omega
  have hin:i=n:=by omega
  rw [hin,xM] at h5 hs5;have hb7:=hs5.b;refine cL (bw (bw (cr (ah (ao (ag (mvp rfl (ab (av rfl) (ab (aa ay rfl) (ab (aa aw rfl) (ab (aa cG rfl) ?_)))))))))));have hB7:ai _ w59:=(ai.rfl_ (a:=w59));refine cY (s':=({ s with role:=2,leader:=s.id,votes:=[],elapsed:=0,next:=List.replicate n (aQ s+1),mtch:=List.replicate n 0,reads:=[],sent:=List.replicate n 0 }:Rf)) (a':=(⟨E,Ec,none,0,some ⟨xx,0,none⟩,n,some ⟨xm,0,none⟩,n,some ⟨xs,0,none⟩,n,none,0,[]⟩:Ra)) (v:=.slice _ _ _) kh rfl rfl rfl ((hb7.from_ (ai.rfl_ (a:=w59)))) (by exact ⟨by decide,rfl⟩) ?_;intro w62 O10_0 P10_0;obtain ⟨hs7,h7a⟩:=h5.set (s':=({ s with role:=2,leader:=s.id,votes:=[],elapsed:=0,next:=List.replicate n (aQ s+1),mtch:=List.replicate n 0,reads:=[],sent:=List.replicate n 0 }:Rf)) (a':=(⟨E,Ec,none,0,some ⟨xx,0,none⟩,n,some ⟨xm,0,none⟩,n,some ⟨xs,0,none⟩,n,none,0,[]⟩:Ra)) hs5 ((ai.toChg hB7).only O10_0 rfl) (aY.same hs5.f.noreads rfl rfl rfl rfl rfl rfl) P10_0;rw [hn0] at h7a;have h7:aF w0 Z w62 T g ⟨dN s,out⟩:=h7a;refine aq (ah (ao (ag (mvp rfl (ab (av rfl) (ab (aa ay rfl) (aE sc (yd w0 Z T g ⟨(dN s),out⟩ _ (h7.from_ (ai.rfl_ (a:=w62))) hF.chief h8 ⟨#[]⟩ (by decide)) ?_)))))));rintro v117 w63 ⟨rfl,h9⟩;refine aq (ah (ao (ag (mvp rfl (aE ni (mz w0 Z T g ⟨eI (dN s) ⟨#[]⟩,out⟩ _ (h9.from_ (ai.rfl_ (a:=w63))) (hF.lead h8) rfl (show out.length≤800 by omega)) ?_)))));rintro v119 w64 ⟨rfl,h10⟩;refine aq (ah (ag (mvp rfl (ab (av rfl) (ab (aa ay rfl) ?_)))))
  have h11:aF w0 Z w64 T g ⟨eI (dN s) ⟨#[]⟩,((⟨eI (dN s) ⟨#[]⟩,out⟩:Sp).all).out⟩:=by
   have e9:(⟨eI (dN s) ⟨#[]⟩,out⟩:Sp).all=⟨eI (dN s) ⟨#[]⟩,((⟨eI (dN s) ⟨#[]⟩,out⟩:Sp).all).out⟩:=by rw [nc]
   rw [←e9];exact h10.from_ (ai.rfl_ (a:=w64))
  obtain ⟨tag11,a11,O11,oc11,L11,hs11⟩:=h11.ex;refine aE nj (nH w0 Z T g (eI (dN s) ⟨#[]⟩) ((⟨eI (dN s) ⟨#[]⟩,out⟩:Sp).all).out _ (h11.from_ (ai.rfl_ (a:=w64))) _ _ _ _ _ (hs11.from_ (ai.rfl_ (a:=w64))) (hF.lead h8) rfl) ?_;rintro v123 w65 ⟨rfl,h12,_⟩;refine aq (cK (dU rfl ?_));unfold pL
  first
   |(rw [if_pos h8t];exact ⟨rfl,hS9.from_ ai.rfl_⟩)
   |(rw [if_neg (by show ¬ gF s=true;rw [h8];decide)]
     refine ⟨rfl,?_⟩;show aF w0 Z _ T g ⟨cH (Sp.all ⟨eI (dN s) ⟨#[]⟩,out⟩).s,(Sp.all ⟨eI (dN s) ⟨#[]⟩,out⟩).out⟩;rw [show (Sp.all ⟨eI (dN s) ⟨#[]⟩,out⟩).s=eI (dN s) ⟨#[]⟩ by rw [nc]];exact h12.from_ (ai.rfl_ (a:=w65)))
end Go.Proofs.YtkpooenofjdpmaaGreat
