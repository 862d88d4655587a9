/- The law NetExact. -/
import Derived.Test.YtinogeaabocbkaaSlNxLaw2

set_option maxRecDepth 100000
set_option maxHeartbeats 4000000
namespace Go.Proofs.Ytinogeaabocbkaa
open Go.Proofs.Try (prog)
open Go.RowKit
open Go.ChangeShapes Go.WideShapes Go.ChangeAt
theorem ji:bw prog 60 2=some 2:=by kernel_rfl
theorem ky:aB prog 18=true:=by kernel_rfl
theorem hM:(bW prog 22).isSome=true:=by kernel_rfl
theorem dF:bW prog 22=some (35,16):=by kernel_rfl
theorem dz:bw prog 35 1=some 1:=by kernel_rfl
theorem bS:bw prog 35 2=some 14:=by kernel_rfl
theorem hD:prog.underlying 24=some (.pointer (prog.pointee 24)):=by kernel_rfl
theorem jh:aB prog 5=true:=by kernel_rfl
theorem cZ:prog.built 33 [(0,.int .i64 1)]=some #[.int .i64 1,.int .i64 0,.int .i64 0,.int .i64 0,.int .i64 0,.int .i64 0,.int .i64 0,.int .i64 0,.bool false,.slice none 0 0,.int .i64 0,.string ⟨#[]⟩,.bool false]:=by kernel_rfl
theorem hN:aB prog 13=true:=by kernel_rfl
theorem gm:aB prog 7=true:=by kernel_rfl
theorem gl:aB prog 8=true:=by kernel_rfl
abbrev nh:Ty:=.pr (.int .i64) (.pr (.int .i64) (.pr .str .unit))
abbrev nd:Ty:=.pr (.int .i64) (.pr (.int .i64) (.pr (.int .i64) (.pr (.int .i64) (.pr (.int .i64) (.pr (.int .i64) (.pr (.int .i64) (.pr (.int .i64) (.pr .bool (.pr (.sl nh) (.pr (.int .i64) (.pr .str (.pr .bool .unit))))))))))))
abbrev fW:Ty:=.pr (.int .i64) (.pr nd (.pr (.int .i64) (.pr (.int .i64) .unit)))
def gn (w:World) (A:Option Addr) (n:Nat):Prop:=0<n→∃ b o,A=some ⟨b,o,none⟩∧∀ j,j<n→∃ s:ByteArray,w.cell? ⟨b,o+j*3+2,none⟩=some (.string s)∧s.size≤140737488351232
theorem gn.from_ {w w':World} {A:Option Addr} {n:Nat} (h:gn w A n) (hF:al w w'):gn w' A n:=fun h0=>
 let ⟨b,o,hA,hc⟩:=h h0
 ⟨b,o,hA,fun j hj=>let ⟨s,h1,h2⟩:=hc j hj;⟨s,ed hF h1,h2⟩⟩
theorem gn.of_ents {w:World} {A:Option Addr} {n c:Nat} {es:List Ent} (h:cw w (.slice A n c) es) (hs:∀ e∈es,e.Ok):gn w A n:=fun h0=>by
 obtain ⟨A',c',hv,_,_,_,hp⟩:=h;simp only [Value.slice.injEq] at hv;obtain ⟨rfl,rfl,rfl⟩:=hv;obtain ⟨b,o,hA,_,hc⟩:=hp h0;exact ⟨b,o,hA,fun j hj=>⟨es[j].d,(hc j hj).2.2,(hs _ (List.getElem_mem hj)).2.2.2.2⟩⟩
structure AcR where
 dx:Int
 m:Msg
 nw:Int
 pk:Int
def acV (x:AcR):List Value:=[.int .i64 x.dx,.int .i64 x.m.k,.int .i64 x.m.f,.int .i64 x.m.t,.int .i64 x.m.tm,.int .i64 x.m.ix,.int .i64 x.m.lt,.int .i64 x.m.cm,.int .i64 x.m.rd,.bool x.m.ok,.slice x.m.E x.m.es.length x.m.c,.int .i64 x.m.a,.string x.m.d,.bool x.m.dn,.int .i64 x.nw,.int .i64 x.pk]
def nc (w:World) (b a:Nat) (x:AcR):Prop:=w.rangeAt b a (acV x)∧cw w (.slice x.m.E x.m.es.length x.m.c) x.m.es∧(∀ e∈x.m.es,e.Ok)∧x.m.es.length≤140737488351232∧x.m.d.size≤140737488351232∧(-9223372036854775808≤x.pk∧x.pk≤9223372036854775807)
def mI (w:World) (A:Option Addr) (n:Nat) (X:Nat→AcR):Prop:=0<n→∃ b o,A=some ⟨b,o,none⟩∧∀ i,i<n→nc w b (o+i*16) (X i)
theorem lh {w:World} {b o:Nat} {x:fW.den} (h:fW.At w (fun j=>w.cell? ⟨b,o+j,none⟩) x):∃ X:AcR,nc w b o X:=by
 obtain ⟨x0,⟨xk,xf,xt,xtm,xix,xlt,xcm,xrd,xok,xE,xa,xd,xdn,_⟩,xnw,xpk,_⟩:=x;obtain ⟨g0,⟨g1,g2,g3,g4,g5,g6,g7,g8,g9,gE,g11,g12,g13,_⟩,g14,g15,_⟩:=h;obtain ⟨v,es,e0,e1,e2,e3⟩:=l3 gE;have e1':=e1;obtain ⟨E,c,rfl,_⟩:=e1';refine ⟨⟨x0,⟨xk,xf,xt,xtm,xix,xlt,xcm,xrd,xok,xa,xd,xdn,E,c,es⟩,xnw,xpk⟩,fun j v hv=>?_,e1,e2,by show es.length≤_;omega,g12.2,mg g15.2⟩
 match j,hv with
 |0,hv=>cases hv;exact g0.1
 |1,hv=>cases hv;exact g1.1
 |2,hv=>cases hv;exact g2.1
 |3,hv=>cases hv;exact g3.1
 |4,hv=>cases hv;exact g4.1
 |5,hv=>cases hv;exact g5.1
 |6,hv=>cases hv;exact g6.1
 |7,hv=>cases hv;exact g7.1
 |8,hv=>cases hv;exact g8.1
 |9,hv=>cases hv;exact g9
 |10,hv=>cases hv;exact e0
 |11,hv=>cases hv;exact g11.1
 |12,hv=>cases hv;exact g12.1
 |13,hv=>cases hv;exact g13
 |14,hv=>cases hv;exact g14.1
 |15,hv=>cases hv;exact g15.1
 |j+16,hv=>simp [acV] at hv
def acZ:AcR:=⟨0,mZ 0,0,0⟩
theorem l6 {w:World} {A:Option Addr} {xs:List fW.den} (h:0<xs.length→∃ b o,A=some ⟨b,o,none⟩∧∀ (i:Nat) (hi:i<xs.length),fW.At w (fun j=>w.cell? ⟨b,o+i*fW.size+j,none⟩) xs[i]):∃ X,mI w A xs.length X:=by
 rcases Nat.eq_zero_or_pos xs.length with hz | hz
 ·exact ⟨fun _=>acZ,fun h0=>by omega⟩
 ·obtain ⟨b,o,hA,hx⟩:=h hz;refine ⟨fun i=>if hi:i<xs.length then Classical.choose (lh (hx i hi)) else acZ,fun _=>⟨b,o,hA,fun i hi=>?_⟩⟩;simp only [dif_pos hi];exact Classical.choose_spec (lh (hx i hi))
theorem gu (A:Option Addr) (c n:Nat) (w:World) (hr:gn w A n) (hl:n≤140737488351232) :
 Rt prog 18 [.slice A n c] w (fun v w'=>(∃ m:Nat,v=.int .i64 (m:Nat)∧n≤m∧m≤562949953421312)∧w=w'):=by
 refine enter (n:=26) Try.func18 rfl rfl rfl (ag (ab (asi rfl (ah (af (ag (ab (mvs rfl (aa (bf cc rfl) (asi rfl (ah (af (ag (ag (ab (asi rfl ?_))))))))))))))));refine ah (af (aO (cg (G:=Nat×Nat) [7,8,9,10,11,12,13,14,15,16,17,18,19,20,21,22,23,24] (fun (m,k)=>[(3,.int .i64 (m:Nat)),(4,.int .i64 (k:Nat))]) (fun (m,k) w'=>k≤n∧n≤m∧m≤562949953421312∧w=w') (fun (_,k)=>n-k) ((n,0)) ⟨rfl,rfl,trivial⟩ ?_ ?_)))
 ·exact ⟨Nat.zero_le _,Nat.le_refl _,by omega,rfl⟩
 rintro ⟨m,k⟩ ρ1 w1 ⟨hk,hnm,hm,rfl⟩;refine ag (ag (ab (mvi rfl (mvs rfl (aa (bf cc rfl) (aa (bC rfl rfl) (mvb rfl (mM (t:=11) rfl (fun Q2=>?_) (fun Q2=>?_)))))))))
 ·refine ak rfl (mvi rfl (ak rfl (aa (bC rfl rfl) (aa (bh (v:=.bool _) rfl rfl) (ah (af (m7 rfl (fun Q3=>?_) (fun Q3=>?_))))))))
  ·obtain ⟨ba,oa,hA,hcs⟩:=hr (by omega);subst hA;obtain ⟨s,hs1,hs2⟩:=hcs k (by omega);refine aE (af (ag (aO (ab (mvi rfl (mvs rfl (mvi rfl (aa (aH cT rfl rfl (by omega)) (aa (ai ji rfl) (aa (aq fx rfl (by exact hs1)) ?_))))))))));refine aa (jM (by kernel_rfl) rfl) (aa (bA rfl rfl (by omega)) (asi rfl (ah (aQ (af (ab (mvi rfl (aa (bA (b:=1) rfl rfl (by omega)) (asi rfl (ah ?_))))))))));refine bL ((m+s.size,k+1)) ⟨(by first | rfl | (refine aU ?_;omega)),(by first | rfl | (refine aU ?_;omega)),trivial⟩ (by (iterate 41 refine a_ rfl ?_);exact bl) ⟨?_,?_⟩
   ·exact ⟨by omega,by omega,by omega,rfl⟩
   ·show n-(k+1)<n-k;omega
  refine bE (aN (aN (bk (af (ag (ab (mvi rfl (asi rfl (ah (af (aA (bu (v:=.int _ _) rfl rfl (⟨⟨_,rfl,hnm,hm⟩,rfl⟩)))))))))))))
 refine ae rfl rfl (ae rfl rfl (aa (an (v:=.bool _) rfl rfl) (ah (af (cB rfl (bE (aN (aN (bk (af (ag (ab (mvi rfl (asi rfl ?_))))))))))))));refine ah (af (aA (bu (v:=.int _ _) rfl rfl (⟨⟨_,rfl,hnm,hm⟩,rfl⟩))))
theorem kg (A:Option Addr) (c n:Nat) (X:Nat→AcR) (w:World) (hr:mI w A n X) (hl:n≤140737488351232) :
 Rt prog 4 [.slice A n c] w (fun v w'=>(∃ b,v=.bool b∧(b=false→∀ j,j<n→j<60→(X j).m.es.length≤10000∧0≤(X j).nw∧(X j).nw≤1099511627776))∧al w w'):=by
 refine enter (n:=48) Try.func4 rfl rfl rfl (ag (ab (asb rfl (ah (af (ag (ab (asi rfl (ah (af (ag (ag (ab (asi rfl (ah (af (aO (cg (G:=Nat×Nat) [2,5,6,7,8,9,10,11,12,13,14,15,16,17,18,19,20,21,22,23,24,25,26,27,28,29,30,31,32,33,34,35,36,37,38,39,40,41,42,43,44,45] (fun (m,k)=>[(3,.int .i64 (m:Nat)),(4,.int .i64 (k:Nat))]) (fun (m,k) w'=>k≤n∧k≤60∧m≤k*1125899906842624∧(∀ j,j<k→(X j).m.es.length≤m∧0≤(X j).nw∧(X j).nw≤1099511627776)∧al w w') (fun (_,k)=>n-k) ((0,0)) ⟨rfl,rfl,trivial⟩ ?_ ?_))))))))))))))))))
 ·exact ⟨Nat.zero_le _,by omega,by omega,fun j h=>absurd h (by omega),al.rfl_⟩
 rintro ⟨m,k⟩ ρ1 w1 ⟨hk,hk6,hm,hj,hB⟩;refine ag (ag (ab (mvi rfl (mvs rfl (aa (bf hM rfl) (aa (bC rfl rfl) (mvb rfl (mM (t:=9) rfl (fun Q2=>?_) (fun Q2=>?_)))))))))
 ·refine ak rfl (mvi rfl (ak rfl (aa (bC rfl rfl) (aa (bh (v:=.bool _) rfl rfl) (ah (af (m7 rfl (fun Q3=>?_) (fun Q3=>?_))))))))
  ·have hkn:k<n:=by omega
   obtain ⟨ba,oa,hA,hcs⟩:=hr (by omega);subst hA;obtain ⟨hrg,hes,hds,hel,hdl,hpk⟩:=hcs k hkn;have c10:=hrg 10 _ rfl;have c12:=hrg 12 _ rfl;have c14:=hrg 14 _ rfl;have hen:=gn.of_ents hes hds;refine aE (af (ag (aO (ag ?_))));apply bY 18 [(15,eqp _),(16,eqp _),(17,eqp _),(18,eqp _),(19,eqp _),(20,eqp _),(21,eqp (.string (X k).m.d)),(22,eqp _),(23,eqp (.int .i64 ((m+(X k).m.d.size:Nat):Int))),(24,eqp _),(25,eqp _),(26,eqp _),(27,eqp _),(28,eqp _),(29,eqp (.slice (X k).m.E (X k).m.es.length (X k).m.c)),(30,fun v _=>∃ q:Nat,v=.int .i64 (q:Nat)∧(X k).m.es.length≤q∧q≤562949953421312),(31,fun v _=>∃ q:Nat,v=.int .i64 (q:Nat)∧q≤(k+1)*1125899906842624∧m≤q∧(X k).m.es.length≤q),(3,fun v _=>∃ q:Nat,v=.int .i64 (q:Nat)∧q≤(k+1)*1125899906842624∧m≤q∧(X k).m.es.length≤q)] (by repeat first | exact cq | refine cp ?_ | refine bU ?_) (by kernel_rfl) (by kernel_rfl) ⟨aj _,aj _,aj _,aj _,aj _,aj _,aj _,aj _,aj _,aj _,aj _,aj _,aj _,aj _,aj _,(fun _ _ _ _ h=>h),(fun _ _ _ _ h=>h),(fun _ _ _ _ h=>h),trivial⟩
   case hop=>
    constructor
    ·rintro-w5 D5;exact ao (av (v:=.int _ _) rfl) rfl
    constructor
    ·rintro-w6 D6;exact ao (av (v:=.slice _ _ _) rfl) rfl
    constructor
    ·rintro-w7 D7;exact ao (av (v:=.int _ _) rfl) rfl
    constructor
    ·rintro-w8 D8;rintro _ rfl _ rfl;exact ao (aH dF rfl rfl (by omega)) rfl
    constructor
    ·rintro-w9 D9;rintro _ rfl;exact ao (ai dz rfl) rfl
    constructor
    ·rintro-w10 D10;rintro _ rfl;exact ao (ai ei rfl) rfl
    constructor
    ·rintro-w11 D11;rintro _ rfl;exact ao (aq fx rfl (ed (hB.next D11) c12)) rfl
    constructor
    ·rintro-w12 D12;rintro v12_21 rfl;exact ao (jM (by kernel_rfl) rfl) rfl
    constructor
    ·rintro-w13 D13;rintro _ rfl _ rfl;exact ao (bA rfl rfl (by omega)) rfl
    constructor
    ·rintro-w14 D14;exact ao (av (v:=.slice _ _ _) rfl) rfl
    constructor
    ·rintro-w15 D15;exact ao (av (v:=.int _ _) rfl) rfl
    constructor
    ·rintro-w16 D16;rintro _ rfl _ rfl;exact ao (aH dF rfl rfl (by omega)) rfl
    constructor
    ·rintro-w17 D17;rintro _ rfl;exact ao (ai dz rfl) rfl
    constructor
    ·rintro-w18 D18;rintro _ rfl;exact ao (ai bn rfl) rfl
    constructor
    ·rintro-w19 D19;rintro _ rfl;exact ao (aq cd rfl (ed (hB.next D19) c10)) rfl
    constructor
    ·rintro-w20 D20;rintro v20_29 rfl;refine eP ky ((gu _ _ _ _ (hen.from_ (hB.next D20)) hel).mono ?_);rintro v w2 ⟨⟨q,rfl,hp,hq⟩,rfl⟩;exact ⟨al.rfl_,q,rfl,hp,hq⟩
    constructor
    ·rintro-w21 D21;rintro v21_23 rfl v21_30 ⟨q21,rfl,hp21,hq21⟩;exact ao (bA rfl rfl (by omega)) ⟨_,rfl,by omega,by omega,by omega⟩
    constructor
    ·rintro-w22 D22;rintro v22_31 ⟨q22,rfl,hq22,hqm22,hqe22⟩;exact ao (cF rfl) ⟨_,rfl,hq22,hqm22,hqe22⟩
    exact trivial
   case hend=>
    intro w23 D23;rintro _ rfl _ rfl _ rfl _ rfl _ rfl _ rfl v21 rfl _ rfl v23 rfl _ rfl _ rfl _ rfl _ rfl _ rfl v29 rfl v30 ⟨q23,rfl,hp23,hq23⟩ v31 ⟨q23,rfl,hq23,hqm23,hqe23⟩ v3 ⟨q3,rfl,hq3,hqm3,hqe3⟩;show St ..;refine ah (af (ag (ab (mvs rfl (mvi rfl (aa (aH dF rfl rfl (by omega)) (aa (ai bS rfl) (aa (aq ar rfl (by exact ed (hB.next D23) c14)) ?_))))))));refine aa (bC rfl rfl) (mvb rfl (mM (t:=38) rfl (fun Q24=>?_) (fun Q24=>?_)))
    ·refine ae rfl rfl (ae rfl rfl (ae rfl rfl (ae rfl rfl (ae rfl rfl (ae rfl rfl (aa (bh (v:=.bool _) rfl rfl) (ah (af (fV rfl ?_)))))))));refine ag (ab (asb rfl (ah (af (aA (cP (bd (bd (cP (bd (bu (v:=.bool _) rfl rfl (⟨⟨_,rfl,fun h=>by cases h⟩,(hB.next D23)⟩))))))))))))
    refine ak rfl (mvs rfl (ak rfl (mvi rfl (ak rfl (aa (aH dF rfl rfl (by omega)) (ak rfl (aa (ai bS rfl) (ak rfl ?_))))))));refine aa (aq ar rfl (by exact ed (hB.next D23) c14)) ?_;refine ak rfl (aa (dK rfl rfl) (aa (an (v:=.bool _) rfl rfl) (ah (af (m7 rfl (fun Q25=>?_) (fun Q25=>?_))))))
    ·refine ag (ab (asb rfl (ah (af (aA (cP (bd (bd (cP (bd (bu (v:=.bool _) rfl rfl (⟨⟨_,rfl,fun h=>by cases h⟩,(hB.next D23)⟩))))))))))))
    refine aE (aQ (af (ab (mvi rfl (aa (bA (b:=1) rfl rfl (by omega)) (asi rfl (ah ?_)))))));refine bL ((q3,k+1)) ⟨(by first | rfl | (refine aU ?_;omega)),(by first | rfl | (refine aU ?_;omega)),trivial⟩ (by (iterate 89 refine a_ rfl ?_);exact bl) ⟨?_,?_⟩
    ·refine ⟨by omega,by omega,hq3,fun j hjk=>?_,(hB.next D23)⟩;rcases Nat.lt_or_ge j k with a | a
     ·have:=hj j a;omega
     ·obtain rfl:j=k:=by omega
      omega
    ·show n-(k+1)<n-k;omega
  refine bE (aN (aN (bk (af (ag (ab (mvi rfl (aa (dK rfl rfl) (asb rfl (ah (af (aA (bu (v:=.bool _) rfl rfl (⟨⟨_,rfl,fun h j h1 h2=>?_⟩,hB⟩))))))))))))));have hm1:¬ ((m:Nat):Int)>10000:=dF_ h;have:=hj j (by omega);omega
 refine ae rfl rfl (ae rfl rfl (aa (an (v:=.bool _) rfl rfl) (ah (af (cB rfl (bE (aN (aN (bk (af (ag (ab (mvi rfl (aa (dK rfl rfl) ?_))))))))))))));refine asb rfl (ah (af (aA (bu (v:=.bool _) rfl rfl (⟨⟨_,rfl,fun h j h1 h2=>?_⟩,hB⟩)))));have hm1:¬ ((m:Nat):Int)>10000:=dF_ h;have:=hj j (by omega);omega
theorem jk (i:Int) (n:Nat) (w:World) (hn:0<n∧n≤1000) :
 Rt prog 6 [.int .i64 i,.int .i64 (n:Nat)] w (fun v w'=>(∃ m:Nat,m<n∧v=.int .i64 (m:Nat))∧w=w'):=by
 obtain ⟨a,ha,ha2⟩:∃ a:Nat,IntKind.u64.wrap i=(a:Int)∧a<18446744073709551616:=⟨(IntKind.u64.wrap i).toNat,by rw [IntKind.wrap_u64];omega,by rw [IntKind.wrap_u64];omega⟩;have hm:a%n<n:=Nat.mod_lt _ hn.1;refine enter (n:=11) Try.func6 rfl rfl rfl (ag (ab (asi rfl (ah (af (ag (ab (mvi rfl (aa (jO eI eg rfl) (fD (t:=6) (v:=.int _ _) (v':=.int .u64 (a:Nat)) rfl (by rw [ha]) ?_))))))))));refine mvi rfl (aa (gG eI eg rfl (by omega)) (aa (h8 rfl rfl (by omega)) ?_));refine fD (t:=9) (v:=.int _ _) (v':=.int .u64 ((a%n:Nat):Int)) rfl (by rw [Int.tmod_eq_emod_of_nonneg (by omega)];rfl) ?_;refine aa (iJ fj fX rfl (by omega)) (asi rfl (ah (af (aA (bu (v:=.int _ _) rfl rfl (⟨⟨a%n,hm,rfl⟩,rfl⟩))))))
theorem jo:bg []:=fun i j hi=>absurd hi (by simp)
theorem jR {w:World} {base:Nat}:EOK w base []:=⟨fun x h=>absurd h (by simp),List.Pairwise.nil⟩
theorem ee.own_blk1 {w:World} {g t:Nat} {x:Msg} (h:Blk w g t (aM x).toArray):ee 13 aM w (some ⟨g,0,none⟩) [x]:=fun _=>⟨g,0,rfl,fun i hi=>by
 simp only [List.length_singleton] at hi;obtain rfl:i=0:=by omega
 exact h.whole⟩
theorem c0 {w:World} {base n c:Nat} {A:Option Addr} {K:List Msg} (h:w.ownsRow base 33 13 (.slice A n c) n (K.flatMap aM)):K.length=n∧ee 13 aM w A K:=ee.own dP (by decide) h
theorem mh (base b:Nat) (A:Option Addr) (c:Nat) (L:aG) (w:World) (hn:bB w base b A c L) (hl:L.length≤4096) (hs:bg L) (now:Int) (n:Nat) (hd:aK L now=n) :
 Rt prog 7 [.pointer (some ⟨b,0,none⟩),.int .i64 now] w fun v w'=>(∃ A' c',v=.slice A' n c'∧w'.ownsRow w.heap.size 33 13 (.slice A' n c') n (((L.take n).map (·.1)).flatMap aM))∧(∃ A' c',bB w' base b A' c' (L.drop n))∧Kp base b w w':=by
 subst hd;exact hP base b A c L w hn hl hs now
theorem mz {L:aG} {x:Msg} {a:Int} (h:plP L=[(x,a)]):∃ y,L=[(y,a)]∧pl y=x:=by
 have hl:L.length=1:=by rw [←cK,h];rfl
 obtain ⟨⟨y,a'⟩,rfl⟩:=List.length_eq_one_iff.1 hl;have e:(pl y,a')=(x,a):=(List.cons.inj h).1;simp only [Prod.mk.injEq] at e;exact ⟨y,by rw [e.2],e.1⟩
theorem j9 (x:Msg):b9 x (bN 0 0) []=[(x,1)]:=by
 simp [bN,b9,bF,aK]
theorem kj (x:Msg) (a:Int):aK [(x,a)] a=1:=by simp [aK]
theorem gz (w:World) :
 Rt prog 17 [] w (fun v w'=>v=.bool true∧al w w'):=by
 refine enter (n:=13) Try.func17 rfl rfl rfl (ag (ab (asb rfl (ah (af (ag (ab (aC jh (kQ _) ?_))))))));rintro v2 w1 ⟨⟨b,rfl,hn2⟩,E2⟩;refine asp rfl (ah (af (ag (ag (ab (mvp rfl (aa (fI (gF hD rfl rfl) rfl) (ah (af (cB rfl (aE (af (ag (ab (mvp rfl (aa (cl (l:=[(0,.const (.int .i64 1))]) (cZ)) ?_))))))))))))))));refine aC hN (kJ w.heap.size b none 0 [] _ hn2 (by simp) jo (mZ 1) 0 0 (by decide) (by decide) (World.ownsRow_nil _ _ _ _) jR (by decide)) ?_;rintro v7 w2 ⟨rfl,⟨A7,c7,L7,hn7,hp7,he7,hs7,hf7⟩,hK7⟩;rw [show plP []=[] from rfl,j9] at hp7;obtain ⟨y7,rfl,hy7⟩:=mz hp7;have hye:y7.es=[]:=(show (pl y7).es=[] by rw [hy7];rfl);refine ah (af (ag (ab (mvp rfl (aC gm (mh w.heap.size b A7 c7 [(y7,1)] _ hn7 (by simp) hs7 1 1 (kj _ 1)) ?_)))));rintro v9 w3 ⟨⟨A9,c9,rfl,ho9⟩,⟨A10,c10,hn9⟩,hK9⟩;have e9:(([(y7,(1:Int))]:aG).take 1).map (·.1)=[y7]:=rfl;rw [e9] at ho9;have hr9:=(c0 ho9).2;have he9:E1 w3 w.heap.size y7:=(he7.kp hK9 hn7.2.1).1 y7 (by simp);refine aa (cl (l:=[(0,.const (.int .i64 1))]) (cZ)) (dA (cells:=(aM (mZ 1)).toArray) aT rfl rfl (gP (mZ 1)) ?_);intro b11 w4 E11 hb11 hk11;refine aC gl (fT A9 _ c9 1 1 [y7] [mZ 1] _ (hr9.from_ E11) (ee.own_blk1 hk11) rfl rfl (by rw [List.map_singleton,hy7];rfl) (fun x hx=>by obtain rfl:=List.mem_singleton.1 hx;exact (he9.from_ E11).ents) (fun x hx=>by obtain rfl:=List.mem_singleton.1 hx;exact cw.nil_ _) (fun x hx=>by obtain rfl:=List.mem_singleton.1 hx;rw [hye];decide) (by decide)) ?_;rintro v12 w5 ⟨rfl,E12⟩;refine asb rfl (ah (af (aA (bu (v:=.bool _) rfl rfl (⟨rfl,(((hK9.from_ (hK7.from_ (al.rfl_.next E2) (Nat.le_refl _)) (Nat.le_refl _)).next E11).next E12)⟩)))))
def jZ (R:aG):Prop:=∀ p∈R,p.1.es.length≤10000
def Inv (w:World) (N b:Nat) (A:Option Addr) (c:Nat) (L:aG) (rb:Nat) (A1:Option Addr) (c1:Nat) (A2:Option Addr) (c2:Nat) (ms:List Msg) (ats:List Int):Prop:=
 bB w N b A c L∧EOK w N (L.map (·.1))∧bP w N rb A1 c1 A2 c2 ms ats∧plP L=srt (rz ms ats)∧(∀ x∈L.map (·.1),∀ y∈ms,Ap x y)∧ms.length≤4096∧jZ (rz ms ats)
section
variable {w w0 w1 w2 w3 w4 w':World} {N b c rb c1 c2:Nat} {A A1 A2:Option Addr} {L:aG} {ms:List Msg} {ats:List Int} {U:Nat→Prop}
theorem Inv.from_ (h:Inv w N b A c L rb A1 c1 A2 c2 ms ats) (hF:al w w'):Inv w' N b A c L rb A1 c1 A2 c2 ms ats:=⟨h.1.from_ hF,h.2.1.from_ hF,h.2.2.1.from_ hF,h.2.2.2⟩
theorem Inv.len (h:Inv w N b A c L rb A1 c1 A2 c2 ms ats):L.length=ms.length:=by
 have e:=congrArg List.length h.2.2.2.1
 rwa [cK,el _ (by rw [dI h.2.2.1.2.2.2.2.1];exact h.2.2.2.2.2.1),dI h.2.2.1.2.2.2.2.1] at e
theorem Inv.sorted (h:Inv w N b A c L rb A1 c1 A2 c2 ms ats):bg L:=jx.1 (by rw [h.2.2.2.1];exact dH _)
theorem jJ:∀ (R:aG),R.length≤4096→∀ p,p∈srt R→p∈R:=fun R=>by
 induction R using eb with
 |nil=>intro _ p hp;exact hp
 |append_singleton r q ih=>
  intro h p hp;rw [List.length_append,List.length_singleton] at h;rw [ck] at hp;have:=(en (by rw [el _ (by omega)];omega)).mem_iff.1 hp;rcases List.mem_cons.1 this with rfl | hp
  ·simp
  ·exact List.mem_append_left _ (ih (by omega) p hp)
theorem Inv.lens (h:Inv w N b A c L rb A1 c1 A2 c2 ms ats):∀ x∈L.map (·.1),x.es.length≤10000:=fun x hx=>by
 obtain ⟨p,hp,rfl⟩:=List.mem_map.1 hx;have h1:(pl p.1,p.2)∈srt (rz ms ats):=by rw [←h.2.2.2.1];exact List.mem_map.2 ⟨p,hp,rfl⟩
 have h2:=jJ _ (by rw [dI h.2.2.1.2.2.2.2.1];exact h.2.2.2.2.2.1) (pl p.1,p.2) h1;exact h.2.2.2.2.2.2 (pl p.1,p.2) h2
theorem bP.kp {cs:Array Value} (h:bP w N rb A1 c1 A2 c2 ms ats) (k:Kp N b w w') (hb:Blk w b 48 cs):bP w' N rb A1 c1 A2 c2 ms ats:=
 ⟨h.1,k.blk _ _ _ (dC h.2.1 hb (by decide)) (by decide) h.2.1,eF h.2.2.1 k hb (by decide) (by decide),eF h.2.2.2.1 k hb (by decide) (by decide),h.2.2.2.2.1,fun x hx=>eF (h.2.2.2.2.2 x hx) k hb (by decide) (by decide)⟩
theorem bP.ch (h:bP w N rb A1 c1 A2 c2 ms ats) (k:Ch U w w') (hb:¬ U rb) (h1:∀ q,A1.map (·.block)=some q→¬ U q) (h2:∀ q,A2.map (·.block)=some q→¬ U q) (hE:∀ x∈ms,∀ q,dB x=some q→¬ U q):bP w' N rb A1 c1 A2 c2 ms ats:=
 ⟨h.1,h.2.1.ch k hb,dM h.2.2.1 k h1,dM h.2.2.2.1 k h2,h.2.2.2.2.1,fun x hx=>E1.ch (h.2.2.2.2.2 x hx) k (hE x hx)⟩
theorem bB.ch (h:bB w N b A c L) (k:Ch U w w') (hb:¬ U b) (h1:∀ q,A.map (·.block)=some q→¬ U q):bB w' N b A c L:=⟨h.1,h.2.1.ch k hb,dM h.2.2 k h1⟩
theorem EOK.ch {X:List Msg} (h:EOK w N X) (k:Ch U w w') (hE:∀ x∈X,∀ q,dB x=some q→¬ U q):EOK w' N X:=⟨fun x hx=>E1.ch (h.1 x hx) k (hE x hx),h.2⟩
theorem bB.kr {cs:Array Value} (h:bB w N b A c L) (k:Kr N rb w w') (hb:Blk w rb 30 cs):bB w' N b A c L:=
 ⟨h.1,k.blk _ _ _ (dC h.2.1 hb (by decide)) (by decide) (by decide) h.2.1,ij h.2.2 k hb (by decide) (by decide) (by decide)⟩
theorem EOK.kr {X:List Msg} {cs:Array Value} (h:EOK w N X) (k:Kr N rb w w') (hb:Blk w rb 30 cs):EOK w' N X:=⟨fun x hx=>ij (h.1 x hx) k hb (by decide) (by decide) (by decide),h.2⟩
theorem lk {R:aG} {p:Msg×Int} (h:R.length≤4096):(e7 R p).length≤4096:=by
 unfold e7;split
 ·rw [List.length_append,List.length_singleton];omega
 ·exact h
theorem kB {R:aG} {p:Msg×Int} (h:R.length≤4096):srt (e7 R p)=bF (srt R) p:=by
 unfold e7;split
 ·exact ck R p
 ·unfold bF;rw [if_pos (by rw [el _ h];omega)]
theorem fG (x:Msg):∀ (ts:List Int) (R:aG),R.length≤4096→srt (dS x ts R)=b9 x ts (srt R)
 |[],_,_=>rfl
 |a::ts,R,h=>by
  show srt (dS x ts (e7 R (x,a)))=b9 x ts (bF (srt R) (x,a));rw [fG x ts _ (lk h),kB h]
theorem gL {x:Msg} (hx:x.es.length≤10000):∀ (ts:List Int) (R:aG),jZ R→jZ (dS x ts R)
 |[],_,h=>h
 |a::ts,R,h=>gL hx ts _ (by
  show jZ (e7 R (x,a));unfold e7;split
  ·intro p hp;rcases List.mem_append.1 hp with hp | hp
   ·exact h p hp
   ·obtain rfl:=List.mem_singleton.1 hp;exact hx
  ·exact h)
theorem nf {x:Msg} {cs:Array Value} (h:bP w1 N rb A1 c1 A2 c2 ms ats) (hK:Kp N b w1 w2) (hb:Blk w1 b 48 cs) (hx:E1 w2 N x) (hg:w2.grownBy w3 (x.E.map (·.block))) (hfx:∀ y∈ms,Ap x y):bP w3 N rb A1 c1 A2 c2 ms ats:=by
 have h2:=h.kp hK hb;exact h2.ch (Ch.of_grown (U:=fun q=>dB x=some q) hg fun _ h=>h) (fun e=>E1.off hx h2.2.1 (by decide) e) (fun q hq e=>cr hx h2.2.2.1 (by decide) q e q hq rfl) (fun q hq e=>cr hx h2.2.2.2.1 (by decide) q e q hq rfl) (fun y hy q hq e=>hfx y hy q e hq)
theorem lV {x:Msg} {ts:List Int} {A':Option Addr} {c':Nat} {L':aG} {B1 B2:Option Addr} {d1 d2:Nat} {ms':List Msg} {ats':List Int} (h0:Inv w0 N b A c L rb A1 c1 A2 c2 ms ats) (hx0:∀ q,dB x=some q→w0.heap.size≤q∧q<w1.heap.size) (hF:al w0 w1) (hn2:bB w2 N b A' c' L') (hp2:plP L'=b9 (pl x) ts (plP L)) (he2:EOK w2 N (L'.map (·.1))) (hf2:FR w1 L L') (hK2:Kp N b w1 w2) (hx2:E1 w2 N x)
 (hg:w2.grownBy w3 (x.E.map (·.block))) (hr4:bP w4 N rb B1 d1 B2 d2 ms' ats') (hz4:rz ms' ats'=dS (pl x) ts (rz ms ats)) (hf4:FM w3 ms ms') (hl4:ms'.length≤4096) (hK4:Kr N rb w3 w4) (hb3:bP w3 N rb A1 c1 A2 c2 ms ats) (hxl:x.es.length≤10000):Inv w4 N b A' c' L' rb B1 d1 B2 d2 ms' ats':=by
 have hlt:∀ y∈ms,∀ q,dB y=some q→q<w0.heap.size:=fun y hy q hq=>((h0.2.2.1.2.2.2.2.2 y hy).at q hq).2
 have hltL:∀ y∈L.map (·.1),∀ q,dB y=some q→q<w0.heap.size:=fun y hy q hq=>((h0.2.1.1 y hy).at q hq).2
 have hC:Ch (fun q=>dB x=some q) w2 w3:=Ch.of_grown hg fun _ h=>h
 have hxL:∀ y∈L'.map (·.1),∀ q,dB y=some q→¬ dB x=some q:=fun y hy q hq e=>by
  obtain ⟨p,hp,rfl⟩:=List.mem_map.1 hy;have h1:=hx0 q e;rcases hf2 p hp with h2 | h2
  ·have:=hltL _ h2 q hq;omega
  ·have:=h2 q hq;omega
 have hn3:=hn2.ch hC (fun e=>E1.off hx2 hn2.2.1 (by decide) e) (fun q hq e=>cr hx2 hn2.2.2 (by decide) q e q hq rfl);have he3:=he2.ch hC hxL;have h32:w1.heap.size≤w3.heap.size:=Nat.le_trans hK2.size hg.size;refine ⟨hn3.kr hK4 hb3.2.1,he3.kr hK4 hb3.2.1,hr4,?_,fun y hy z hz q hq e=>?_,hl4,?_⟩
 ·rw [hp2,h0.2.2.2.1,hz4,fG _ _ _ (by rw [dI h0.2.2.1.2.2.2.2.1];exact h0.2.2.2.2.2.1)]
 ·have hy3:=((he3.1 y hy).at q hq).2;rcases hf4 z hz with h1 | h1
  ·have h2:=hlt z h1 q e;obtain ⟨p,hp,rfl⟩:=List.mem_map.1 hy;rcases hf2 p hp with h3 | h3
   ·exact h0.2.2.2.2.1 _ h3 z h1 q hq e
   ·have:=h3 q hq;have:=hF.size;omega
  ·have:=h1 q e;omega
 ·rw [hz4];exact gL (by exact hxl) _ _ h0.2.2.2.2.2.2
theorem kA (Q:aG):(Q.map (·.1)).zip (Q.map (·.2))=Q:=by
 induction Q with
 |nil=>rfl
 |cons a r ih=>simp [ih]
theorem fH (ms:List Msg) (ats:List Int):rz ms ats=plP (ms.zip ats):=by
 unfold rz plP;rw [List.zip_map_left];rfl
theorem dL (Q:aG) (P:Int→Bool):plP (Q.filter fun p=>P p.2)=(plP Q).filter fun p=>P p.2:=by
 unfold plP;rw [List.filter_map];rfl
theorem lN:∀ (Q:aG),plP (srt Q)=srt (plP Q):=fun Q=>by
 induction Q using eb with
 |nil=>rfl
 |append_singleton r q ih=>
  rw [ck,iM,ih];unfold plP;rw [List.map_append];exact (ck _ _).symm
theorem eT (h:Inv w N b A c L rb A1 c1 A2 c2 ms ats) (now:Int):((L.take (aK L now)).map (·.1)).map pl=((dm now (ms.zip ats)).map (·.1)).map pl∧(dm now (ms.zip ats)).length=aK L now∧plP (L.drop (aK L now))=srt (rz ((cV now (ms.zip ats)).map (·.1)) ((cV now (ms.zip ats)).map (·.2))):=by
 have hR:(rz ms ats).length≤4096:=by rw [dI h.2.2.1.2.2.2.2.1];exact h.2.2.2.2.2.1
 obtain ⟨t1,t2⟩:=iF h.sorted now
 have e1:plP (L.take (aK L now))=plP (dm now (ms.zip ats)):=by
  unfold dm;rw [lN,dL (ms.zip ats) (fun t=>decide (t≤now)),←fH,←mi now _ hR,←h.2.2.2.1,t1,dL L (fun t=>decide (t≤now))]
 have e2:plP (L.drop (aK L now))=srt (plP (cV now (ms.zip ats))):=by
  unfold cV;rw [dL (ms.zip ats) (fun t=>decide (now<t)),←fH,←mj now _ hR,←h.2.2.2.1,t2,dL L (fun t=>decide (now<t))]
 refine ⟨?_,?_,?_⟩
 ·have:=congrArg (List.map (·.1)) e1;unfold plP at this;rw [List.map_map,List.map_map] at this;rw [List.map_map,List.map_map];exact this
 ·have:=congrArg List.length e1;rw [cK,cK,List.length_take,Nat.min_eq_left (show aK L now≤L.length from List.countP_le_length)] at this;exact this.symm
 ·rw [e2,fH,kA]
theorem iS {now:Int} {A6 A':Option Addr} {c6 c':Nat} {B1 B2:Option Addr} {d1 d2:Nat} (h:Inv w1 N b A c L rb A1 c1 A2 c2 ms ats) (hn2:bB w2 N b A' c' (L.drop (aK L now))) (hK2:Kp N b w1 w2) (ho2:w2.ownsRow w1.heap.size 33 13 (.slice A6 (aK L now) c6) (aK L now) (((L.take (aK L now)).map (·.1)).flatMap aM))
 (hr3:bP w3 N rb B1 d1 B2 d2 ((cV now (ms.zip ats)).map (·.1)) ((cV now (ms.zip ats)).map (·.2))) (hB:∀ q,B1.map (·.block)=some q→w2.heap.size≤q) (hC3:Ch (fun q=>q=rb) w2 w3) (hC4:Ch (spU A6 ((L.take (aK L now)).map (·.1))) w3 w4):Inv w4 N b A' c' (L.drop (aK L now)) rb B1 d1 B2 d2 ((cV now (ms.zip ats)).map (·.1)) ((cV now (ms.zip ats)).map (·.2)):=by
 obtain ⟨m1,m2,m3⟩:=eT h now;have hr2:=h.2.2.1.kp hK2 h.1.2.1;have hE2:=h.2.1.kp hK2 h.1.2.1;have hrb:∀ (x:Msg),E1 w2 N x→∀ q,dB x=some q→¬ q=rb:=fun x hx q hq e=>E1.off hx hr2.2.1 (by decide) (e ▸ hq)
 have hE3:=hE2.ch hC3 (fun x hx=>hrb x (hE2.1 x hx));have hn3:=hn2.ch hC3 (fun e=>dC hn2.2.1 hr2.2.1 (by decide) e) (fun q hq e=>aD hn2.2.2 hr2.2.1 (by decide) q hq e);have ho3:=dM ho2 hC3 (fun q hq e=>aD ho2 hr2.2.1 (by decide) q hq e)
 have hsub:∀ x∈(L.take (aK L now)).map (·.1),x∈L.map (·.1):=fun x hx=>by
  obtain ⟨p,hp,rfl⟩:=List.mem_map.1 hx;exact List.mem_map_of_mem (List.mem_of_mem_take hp)
 have hsub2:∀ x∈(L.drop (aK L now)).map (·.1),x∈L.map (·.1):=fun x hx=>by
  obtain ⟨p,hp,rfl⟩:=List.mem_map.1 hx;exact List.mem_map_of_mem (List.mem_of_mem_drop hp)
 have hsub3:∀ x∈(cV now (ms.zip ats)).map (·.1),x∈ms:=fun x hx=>by
  obtain ⟨p,hp,rfl⟩:=List.mem_map.1 hx;exact (List.of_mem_zip (List.mem_filter.1 hp).1).1
 have hpw:∀ x∈(L.take (aK L now)).map (·.1),∀ y∈(L.drop (aK L now)).map (·.1),Ap x y:=by
  have:=h.2.1.2;rw [←List.take_append_drop (aK L now) L,List.map_append,List.pairwise_append] at this;exact this.2.2
 have nb:∀ {g t:Nat} {cs:Array Value},Blk w3 g t cs→33≠t→60≠t→¬ spU A6 ((L.take (aK L now)).map (·.1)) g:=fun hg h1 h2 e=>by
  rcases e with e | ⟨x,hx,e⟩
  ·exact aD ho3 hg (Ne.symm h1) _ e rfl
  ·exact E1.off (hE3.1 x (hsub x hx)) hg (Ne.symm h2) e
 have nr:∀ {base e s n c:Nat} {B:Option Addr} {xs:List Value},w3.ownsRow base e s (.slice B n c) n xs→33≠e→60≠e→∀ q,B.map (·.block)=some q→¬ spU A6 ((L.take (aK L now)).map (·.1)) q:=fun hg h1 h2 q hq e=>by
  rcases e with e | ⟨x,hx,e⟩
  ·exact cr ho3 hg h1 q e q hq rfl
  ·exact cr (hE3.1 x (hsub x hx)) hg h2 q e q hq rfl
 refine ⟨hn3.ch hC4 (nb hn3.2.1 (by decide) (by decide)) (nr hn3.2.2 (by decide) (by decide)),?_,?_,m3,fun x hx y hy=>h.2.2.2.2.1 x (hsub2 x hx) y (hsub3 y hy),?_,?_⟩
 ·have hEd:EOK w3 N ((L.drop (aK L now)).map (·.1)):=⟨fun x hx=>hE3.1 x (hsub2 x hx),hE3.2.sublist ((List.drop_sublist _ _).map _)⟩;refine hEd.ch hC4 (fun x hx q hq e=>?_);rcases e with e | ⟨y,hy,e⟩
  ·exact cr ho3 (hEd.1 x hx) (by decide) q e q hq rfl
  ·exact hpw y hy x hx q e hq
 ·refine hr3.ch hC4 (nb hr3.2.1 (by decide) (by decide)) (fun q hq e=>?_) (nr hr3.2.2.2.1 (by decide) (by decide)) (fun x hx q hq e=>?_)
  ·rcases e with e | ⟨y,hy,e⟩
   ·have:=(aS ho2 q e).2;have:=hB q hq;omega
   ·exact cr (hE3.1 y (hsub y hy)) hr3.2.2.1 (by decide) q e q hq rfl
  ·rcases e with e | ⟨y,hy,e⟩
   ·exact cr ho3 (hr3.2.2.2.2.2 x hx) (by decide) q e q hq rfl
   ·exact h.2.2.2.2.1 y (hsub y hy) x (hsub3 x hx) q e hq
 ·rw [List.length_map];unfold cV;refine Nat.le_trans (List.length_filter_le _ _) ?_;rw [List.length_zip];have:=h.2.2.2.2.2.1;omega
 ·intro p hp;rw [fH,kA] at hp;unfold plP at hp;obtain ⟨p',hp',rfl⟩:=List.mem_map.1 hp;refine h.2.2.2.2.2.2 (pl p'.1,p'.2) ?_;rw [fH];exact List.mem_map.2 ⟨p',(List.mem_filter.1 hp').1,rfl⟩
end
theorem jY {w:World} {b a:Nat} {x:AcR} (h:w.rangeAt b a (acV x)):w.rangeAt b (a+1) (aM x.m):=fun j v hv=>by
 have hj:j<13:=(List.getElem?_eq_some_iff.1 hv).1
 have h1:(acV x)[j+1]? =some v:=by
  show (aM x.m++[Value.int .i64 x.nw,.int .i64 x.pk])[j]? =some v;rw [List.getElem?_append_left (show j<(aM x.m).length from hj)];exact hv
 have:=h (j+1) v h1
 rwa [show a+(j+1)=a+1+j by omega] at this
end Go.Proofs.Ytinogeaabocbkaa
namespace Go.Proofs.Ytinogeaabocbkaa
open Go.Proofs.Try (prog)
open Go.RowKit
open Go.ChangeShapes Go.WideShapes Go.ChangeAt
theorem kx:ez prog 35=some true:=by kernel_rfl
theorem gY:b7 prog 35=some 16:=by kernel_rfl
theorem jf:aB prog 9=true:=by kernel_rfl
theorem lr:aB prog 4=true:=by kernel_rfl
theorem fZ:prog.built 30 []=some #[.slice none 0 0,.slice none 0 0]:=by kernel_rfl
theorem ks:fz prog 35=some (.agg #[.int .i64 0,.int .i64 0,.int .i64 0,.int .i64 0,.int .i64 0,.int .i64 0,.int .i64 0,.int .i64 0,.int .i64 0,.bool false,.slice none 0 0,.int .i64 0,.string ⟨#[]⟩,.bool false,.int .i64 0,.int .i64 0]):=by kernel_rfl
theorem jg:bw prog 35 0=some 0:=by kernel_rfl
theorem lq:aB prog 6=true:=by kernel_rfl
theorem g_:aB prog 10=true:=by kernel_rfl
theorem kv:aB prog 11=true:=by kernel_rfl
theorem fp:bw prog 35 3=some 15:=by kernel_rfl
theorem ku:aB prog 15=true:=by kernel_rfl
theorem kt:aB prog 16=true:=by kernel_rfl
theorem gZ:aB prog 17=true:=by kernel_rfl
theorem jL (base b:Nat) (A1:Option Addr) (c1:Nat) (A2:Option Addr) (c2:Nat) (ms:List Msg) (ats:List Int) (w:World) (hr:bP w base b A1 c1 A2 c2 ms ats) (hml:ms.length≤4096) (now:Int) (d:Nat) (hd:(dm now (ms.zip ats)).length=d) :
 Rt prog 9 [.pointer (some ⟨b,0,none⟩),.int .i64 now] w fun v w'=>(∃ A' c',v=.slice A' d c'∧w'.ownsRow w.heap.size 33 13 (.slice A' d c') d (((dm now (ms.zip ats)).map (·.1)).flatMap aM))∧(∃ A1' c1' A2' c2',bP w' base b A1' c1' A2' c2' ((cV now (ms.zip ats)).map (·.1)) ((cV now (ms.zip ats)).map (·.2))∧∀ q,A1'.map (·.block)=some q→w.heap.size≤q)∧Ch (fun q=>q=b) w w':=by
 subst hd;exact kE base b A1 c1 A2 c2 ms ats w hr hml now
theorem mT {w:World} {N b rb:Nat} (hn:bB w N b none 0 []) (hb:N≤rb) (hk:Blk w rb 30 #[.slice none 0 0,.slice none 0 0]):Inv w N b none 0 [] rb none 0 none 0 [] []:=
 ⟨hn,jR,⟨hb,hk,World.ownsRow_nil _ _ _ _,World.ownsRow_nil _ _ _ _,rfl,fun x hx=>absurd hx (by simp)⟩,rfl,fun x hx=>absurd hx (by simp),by simp,fun p hp=>absurd hp (by simp [rz])⟩
theorem jQ {now:Int} {ms:List Msg} {ats:List Int} (hl:ms.length≤4096) {x:Msg} (h:x∈(dm now (ms.zip ats)).map (·.1)):x∈ms:=by
 obtain ⟨p,hp,rfl⟩:=List.mem_map.1 h;unfold dm at hp
 have h1:=jJ _ (by
  refine Nat.le_trans (List.length_filter_le _ _) ?_;rw [List.length_zip];omega) p hp
 exact (List.of_mem_zip (List.mem_filter.1 h1).1).1
theorem il (A:Option Addr) (c n:Nat) (X:Nat→AcR) (w:World) (hr:mI w A n X) (hl:n≤140737488351232) :
 Rt prog 3 [.slice A n c] w (fun v w'=>v=.bool true∧al w w'):=by
 refine enter (n:=85) Try.func3 rfl rfl rfl (ag (ab (asb rfl (ah (af (ag (ag (ab (mvs rfl (aC lr (kg A c n X _ hr hl) ?_))))))))));rintro v10 w1 ⟨⟨b10,rfl,hh10⟩,E10⟩;refine ah (af (aw rfl (fun Q2=>?_) (fun Q2=>?_)))
 ·refine ag (ab (asb rfl (ah (af (aA (bd (bu (v:=.bool _) rfl rfl (⟨rfl,(al.rfl_.next E10)⟩))))))))
 have hH:=hh10 (by simpa using Q2);refine aE (af (ag (ab ?_)));have hF11:=(al.rfl_.next E10);refine aC jh (kQ _) ?_;rintro v11 w3 ⟨⟨b,rfl,hn11⟩,E11⟩;have hn0:bB w3 w.heap.size b none 0 []:=⟨Nat.le_trans hF11.size hn11.1,hn11.2.1,World.ownsRow_nil _ _ _ _⟩;refine asp rfl (ah (af (ag (ag (ab (mvp rfl (aa (fI (gF hD rfl rfl) rfl) (ah (af (cB rfl (aE (af (ag (ab (aa (cl (l:=[]) (fZ)) (dg (v:=.agg _) rfl ?_))))))))))))))));intro b15 w4 E15 hb15 hk15;have hI0:=mT (hn0.from_ E15) (by rw [hb15];exact (((al.rfl_.next E10).next E11)).size) hk15;refine asp rfl (ah (af (ag (ag (ab (asi rfl (ah (af (aO (cg (G:=Nat×(Option Addr×Nat×aG)×Nat×(Option Addr×Nat)×(Option Addr×Nat)×List Msg×List Int) (2::6::7::8::16::17::18::19::20::21::22::23::24::25::26::27::28::29::30::31::32::33::34::35::36::37::38::39::40::41::42::43::44::45::46::47::48::49::50::51::52::53::54::55::56::57::58::59::60::61::62::63::64::65::66::67::68::69::70::71::72::73::74::75::76::77::78::79::80::81::82::83::[]) (fun (k,_,rb,_)=>[(4,.pointer (some ⟨rb,0,none⟩)),(5,.int .i64 (k:Nat))]) (fun (k,(A',c',L),rb,(A1,c1),(A2,c2),ms,ats) w'=>Inv w' w.heap.size b A' c' L rb A1 c1 A2 c2 ms ats∧al w w') (fun (k,_)=>60-k) ((0,(none,0,[]),b15,(none,0),(none,0),[],[])) ⟨rfl,rfl,trivial⟩ ?_ ?_))))))))))
 ·exact ⟨hI0,(((al.rfl_.next E10).next E11).next E15)⟩
 rintro ⟨k,⟨A',c',L⟩,rb,⟨A1,c1⟩,⟨A2,c2⟩,ms,ats⟩ ρ5 w5 ⟨hI,hB⟩;refine ag (ag (ab (mvi rfl (mvs rfl (aa (bf hM rfl) (aa (bC rfl rfl) (mvb rfl (mM (t:=20) rfl (fun Q6=>?_) (fun Q6=>?_)))))))))
 ·refine ak rfl (mvi rfl (ak rfl (aa (bC rfl rfl) (aa (bh (v:=.bool _) rfl rfl) (ah (af (m7 rfl (fun Q7=>?_) (fun Q7=>?_))))))))
  ·have hkn:k<n:=by omega
   have hk60:k<60:=by omega
   obtain ⟨ba,oa,hA,hcs⟩:=hr (by omega);subst hA;obtain ⟨hrg,hes,hds,hel,hdl,hpk⟩:=hcs k hkn;obtain ⟨hl0,hnw0,hnw1⟩:=hH k hkn hk60;refine aE (af (ag (aO (ag (ab (mvs rfl (mvi rfl (aa (aH dF rfl rfl (by omega)) (aa (aP (cs:=acV (X k)) kx gY rfl (cj hB hrg)) (dD ks ?_))))))))));intro b6 w8 E6 hb6 hk6;refine ej (vs:=[_,_,_,_,_,_,_,_,_,_,_,_,_,_,_,_]) gY rfl rfl (by simp [Value.oneCell']) (hk6) rfl ?_;intro w9 O10 P10;have hF10:=E6.only O10 (Nat.le_of_eq hb6.symm);have hI10:=hI.from_ hF10;have hP6:Blk w9 b6 35 (acV (X k)).toArray:=P10;have hzN:=(((hB.next E6).only O10 ((by rw [hb6];exact hB.size)))).size;refine ah (af (lg (G:=(Option Addr×Nat×aG)×Nat×(Option Addr×Nat)×(Option Addr×Nat)×List Msg×List Int) [2,7,8,30,31,32,33,34,35,36,37,38,39,40,41,42,43,44,45,46,47,48,49,50,51,52,53,54,55,56,57,58,59,60,61,62,63,64,65,66,67,68,69,70,71,72,73,74,75] (fun (_,rb,_)=>[(4,.pointer (some ⟨rb,0,none⟩))]) (fun ((A',c',L),rb,(A1,c1),(A2,c2),ms,ats) w'=>Inv w' w.heap.size b A' c' L rb A1 c1 A2 c2 ms ats∧al w w') ?_ ?_))
   ·refine ag (ab (aa (ai jg rfl) (aa (aq ar rfl (by exact hP6.rd 0 rfl)) ?_)));refine aC lq (jk (X k).dx 9 _ (by decide)) ?_;rintro v32 w10 ⟨⟨r,hr9,rfl⟩,rfl⟩;refine ah (af (aO (ag (ag (ab (aa (bz rfl rfl) (asb rfl (ah (af (m6 rfl (fun Q11=>?_) (fun Q11=>?_)))))))))))
    ·refine aE (af (m6 rfl (fun Q12=>?_) (fun Q12=>?_)));rotate_left
     ·exfalso;omega
     refine ag (ab (mvp rfl (aa (ai bS rfl) (aa (aq ar rfl (by exact hP6.rd 14 rfl)) ?_))));refine aC gm (hP w.heap.size b A' c' L _ hI10.1 (by rw [hI10.len];exact hI10.2.2.2.2.2.1) hI10.sorted (X k).nw) ?_;rintro v60 w22 ⟨⟨A60,c60,rfl,ho60⟩,⟨A61,c61,hn61⟩,hK60⟩;have hr60:=hI10.2.2.1.kp hK60 hI10.1.2.1;have hP60:=hK60.blk b6 35 _ (dC hP6 hI10.1.2.1 (by decide)) (by decide) hP6;have hb6r:¬ b6=rb:=dC hP60 hr60.2.1 (by decide);have hE60:=hI10.2.1.kp hK60 hI10.1.2.1;obtain ⟨m1,m2,m3⟩:=eT hI10 (X k).nw
     have hsub:∀ x∈((L.take (aK L (X k).nw)).map (·.1)),x∈L.map (·.1):=fun x hx=>by
      obtain ⟨p,hp,rfl⟩:=List.mem_map.1 hx;exact List.mem_map_of_mem (List.mem_of_mem_take hp)
     have hEX:EOK w22 w.heap.size ((L.take (aK L (X k).nw)).map (·.1)):=⟨fun x hx=>hE60.1 x (hsub x hx),hE60.2.sublist ((List.take_sublist _ _).map _)⟩;have hdl:(aK L (X k).nw)≤4096:=Nat.le_trans (show (aK L (X k).nw)≤L.length from List.countP_le_length) (by rw [hI10.len];exact hI10.2.2.2.2.2.1);have hXl:((L.take (aK L (X k).nw)).map (·.1)).length=(aK L (X k).nw):=(c0 ho60).1;refine ass rfl (ah (af (ag (ag (ab (mvs rfl (mvp rfl (aa (ai bS rfl) (aa (aq ar rfl (by exact hP60.rd 14 rfl)) ?_)))))))));refine aC jf (jL w.heap.size rb A1 c1 A2 c2 ms ats _ hr60 hI10.2.2.2.2.2.1 (X k).nw (aK L (X k).nw) m2) ?_;rintro v65 w23 ⟨⟨A5,c5,rfl,ho5⟩,⟨B1,d1,B2,d2,hR5,hN5⟩,hC5⟩;refine aC gl (fT A60 _ c60 _ (aK L (X k).nw) ((L.take (aK L (X k).nw)).map (·.1)) ((dm (X k).nw (ms.zip ats)).map (·.1)) _ (c0 (dM ho60 hC5 (fun q hq e=>aD ho60 hr60.2.1 (by decide) q hq e))).2 (c0 ho5).2 hXl (c0 ho5).1 m1 (fun x hx=>E1.ents (E1.ch (hEX.1 x hx) hC5 (fun q hq e=>E1.off (hEX.1 x hx) hr60.2.1 (by decide) (e ▸ hq)))) (fun x hx=>have hy:=hr60.2.2.2.2.2 x (jQ hI10.2.2.2.2.2.1 hx);E1.ents (E1.ch hy hC5 (fun q hq e=>E1.off hy hr60.2.1 (by decide) (e ▸ hq)))) (fun x hx=>Nat.le_trans (hI10.lens x (hsub x hx)) (by decide)) (by omega)) ?_;rintro v66 w24 ⟨rfl,E66⟩;have hC19:=hC5.trans (Ch.of_from E66);replace hR5:=hR5.from_ E66;refine aa (h_ rfl) (ah (af (m5 rfl (fun Q25=>?_) (fun Q25=>?_))))
     ·exfalso;contradiction
     refine aE (af (ab (mvs rfl ?_)));have ho69:=dM ho60 hC19 (fun q hq e=>aD ho60 hr60.2.1 (by decide) q hq e);have hE69:=hEX.ch hC19 (fun x hx q hq e=>E1.off (hEX.1 x hx) hr60.2.1 (by decide) (e ▸ hq));have hge69:∀ i,spU A60 ((L.take (aK L (X k).nw)).map (·.1)) i→w.heap.size≤i:=fun i e=>e.elim (fun e=>Nat.le_trans hzN (aS ho60 i e).1) (fun ⟨x,hx,e⟩=>((hEX.1 x hx).at i e).1)
     refine aC g_ (gA _ w.heap.size A60 c60 (aK L (X k).nw) ((L.take (aK L (X k).nw)).map (·.1)) _ ho69 hXl (Nat.le_trans hK60.size hC19.size) (((Ch.from_ (hK60.from_ ((hB.next E6).only O10 ((by rw [hb6];exact hB.size))) (Nat.le_refl _)) hC5 (fun i e=>by rw [e];exact hr60.1)).next E66).size) hE69.1 hEX.2 (by omega) (fun x hx=>Nat.le_trans (hI10.lens x (hsub x hx)) (by decide))) ?_;rintro v69 w26 ⟨rfl,hC69⟩;have hIy:=iS hI10 hn61 hK60 ho60 hR5 hN5 hC19 hC69;refine ah (aQ ?_);refine bL (((A61,c61,L.drop (aK L (X k).nw)),rb,(B1,d1),(B2,d2),((cV (X k).nw (ms.zip ats)).map (·.1)),((cV (X k).nw (ms.zip ats)).map (·.2)))) ⟨(by first | rfl | (refine aU ?_;omega)),trivial⟩ (by (iterate 19 refine a_ rfl ?_);exact bl) ?_;exact ⟨hIy,(Ch.from_ ((Ch.from_ (hK60.from_ ((hB.next E6).only O10 ((by rw [hb6];exact hB.size))) (Nat.le_refl _)) hC5 (fun i e=>by rw [e];exact hr60.1)).next E66) hC69 hge69)⟩
    refine ab (aa (bz rfl rfl) (asb rfl (ah (af (m6 rfl (fun Q27=>?_) (fun Q27=>?_))))))
    ·refine ag (ab (mvp rfl (aa (ai bS rfl) (aa (aq ar rfl (by exact hP6.rd 14 rfl)) ?_))));refine aC gm (hP w.heap.size b A' c' L _ hI10.1 (by rw [hI10.len];exact hI10.2.2.2.2.2.1) hI10.sorted (X k).nw) ?_;rintro v60 w28 ⟨⟨A60,c60,rfl,ho60⟩,⟨A61,c61,hn61⟩,hK60⟩;have hr60:=hI10.2.2.1.kp hK60 hI10.1.2.1;have hP60:=hK60.blk b6 35 _ (dC hP6 hI10.1.2.1 (by decide)) (by decide) hP6;have hb6r:¬ b6=rb:=dC hP60 hr60.2.1 (by decide);have hE60:=hI10.2.1.kp hK60 hI10.1.2.1;obtain ⟨m1,m2,m3⟩:=eT hI10 (X k).nw
     have hsub:∀ x∈((L.take (aK L (X k).nw)).map (·.1)),x∈L.map (·.1):=fun x hx=>by
      obtain ⟨p,hp,rfl⟩:=List.mem_map.1 hx;exact List.mem_map_of_mem (List.mem_of_mem_take hp)
     have hEX:EOK w28 w.heap.size ((L.take (aK L (X k).nw)).map (·.1)):=⟨fun x hx=>hE60.1 x (hsub x hx),hE60.2.sublist ((List.take_sublist _ _).map _)⟩;have hdl:(aK L (X k).nw)≤4096:=Nat.le_trans (show (aK L (X k).nw)≤L.length from List.countP_le_length) (by rw [hI10.len];exact hI10.2.2.2.2.2.1);have hXl:((L.take (aK L (X k).nw)).map (·.1)).length=(aK L (X k).nw):=(c0 ho60).1;refine ass rfl (ah (af (ag (ag (ab (mvs rfl (mvp rfl (aa (ai bS rfl) (aa (aq ar rfl (by exact hP60.rd 14 rfl)) ?_)))))))));refine aC jf (jL w.heap.size rb A1 c1 A2 c2 ms ats _ hr60 hI10.2.2.2.2.2.1 (X k).nw (aK L (X k).nw) m2) ?_;rintro v65 w29 ⟨⟨A5,c5,rfl,ho5⟩,⟨B1,d1,B2,d2,hR5,hN5⟩,hC5⟩;refine aC gl (fT A60 _ c60 _ (aK L (X k).nw) ((L.take (aK L (X k).nw)).map (·.1)) ((dm (X k).nw (ms.zip ats)).map (·.1)) _ (c0 (dM ho60 hC5 (fun q hq e=>aD ho60 hr60.2.1 (by decide) q hq e))).2 (c0 ho5).2 hXl (c0 ho5).1 m1 (fun x hx=>E1.ents (E1.ch (hEX.1 x hx) hC5 (fun q hq e=>E1.off (hEX.1 x hx) hr60.2.1 (by decide) (e ▸ hq)))) (fun x hx=>have hy:=hr60.2.2.2.2.2 x (jQ hI10.2.2.2.2.2.1 hx);E1.ents (E1.ch hy hC5 (fun q hq e=>E1.off hy hr60.2.1 (by decide) (e ▸ hq)))) (fun x hx=>Nat.le_trans (hI10.lens x (hsub x hx)) (by decide)) (by omega)) ?_;rintro v66 w30 ⟨rfl,E66⟩;have hC19:=hC5.trans (Ch.of_from E66);replace hR5:=hR5.from_ E66;refine aa (h_ rfl) (ah (af (m5 rfl (fun Q31=>?_) (fun Q31=>?_))))
     ·exfalso;contradiction
     refine aE (af (ab (mvs rfl ?_)));have ho69:=dM ho60 hC19 (fun q hq e=>aD ho60 hr60.2.1 (by decide) q hq e);have hE69:=hEX.ch hC19 (fun x hx q hq e=>E1.off (hEX.1 x hx) hr60.2.1 (by decide) (e ▸ hq));have hge69:∀ i,spU A60 ((L.take (aK L (X k).nw)).map (·.1)) i→w.heap.size≤i:=fun i e=>e.elim (fun e=>Nat.le_trans hzN (aS ho60 i e).1) (fun ⟨x,hx,e⟩=>((hEX.1 x hx).at i e).1)
     refine aC g_ (gA _ w.heap.size A60 c60 (aK L (X k).nw) ((L.take (aK L (X k).nw)).map (·.1)) _ ho69 hXl (Nat.le_trans hK60.size hC19.size) (((Ch.from_ (hK60.from_ ((hB.next E6).only O10 ((by rw [hb6];exact hB.size))) (Nat.le_refl _)) hC5 (fun i e=>by rw [e];exact hr60.1)).next E66).size) hE69.1 hEX.2 (by omega) (fun x hx=>Nat.le_trans (hI10.lens x (hsub x hx)) (by decide))) ?_;rintro v69 w32 ⟨rfl,hC69⟩;have hIy:=iS hI10 hn61 hK60 ho60 hR5 hN5 hC19 hC69;refine ah (aQ ?_);refine bL (((A61,c61,L.drop (aK L (X k).nw)),rb,(B1,d1),(B2,d2),((cV (X k).nw (ms.zip ats)).map (·.1)),((cV (X k).nw (ms.zip ats)).map (·.2)))) ⟨(by first | rfl | (refine aU ?_;omega)),trivial⟩ (by (iterate 21 refine a_ rfl ?_);exact bl) ?_;exact ⟨hIy,(Ch.from_ ((Ch.from_ (hK60.from_ ((hB.next E6).only O10 ((by rw [hb6];exact hB.size))) (Nat.le_refl _)) hC5 (fun i e=>by rw [e];exact hr60.1)).next E66) hC69 hge69)⟩
    refine ag (ab (aa (bz rfl rfl) (asb rfl (ah (af (m6 rfl (fun Q33=>?_) (fun Q33=>?_)))))))
    ·refine ag (ab (mvp rfl (aC kv (ld w.heap.size b A' c' L _ hI10.1) ?_)));rintro v73 w34 ⟨rfl,hn73,hK73⟩;refine ah (af (ab (aa (cl (l:=[]) (fZ)) (dg (v:=.agg _) rfl ?_))));intro b75 w35 E75 hb75 hk75;have hIy:=mT (hn73.from_ E75) (by rw [hb75];exact ((hK73.from_ ((hB.next E6).only O10 ((by rw [hb6];exact hB.size))) (Nat.le_refl _))).size) hk75;refine asp rfl (ah (aQ ?_));refine bL (((none,0,[]),b75,(none,0),(none,0),[],[])) ⟨(by first | rfl | (refine aU ?_;omega)),trivial⟩ (by (iterate 14 refine a_ rfl ?_);exact bl) ?_;exact ⟨hIy,((hK73.from_ ((hB.next E6).only O10 ((by rw [hb6];exact hB.size))) (Nat.le_refl _)).next E75)⟩
    refine ag (ab (aa (ai dz rfl) (aa (aP (cs:=aM (X k).m) aI ay rfl (jY (a:=0) hP6.whole)) (aC gV (i_ (X k).m _ (hes.from_ ((hB.next E6).only O10 ((by rw [hb6];exact hB.size)))) (by omega)) ?_))));rintro v35 w36 ⟨⟨A35,c35,rfl,hE35⟩,E35⟩;refine dD ef ?_;intro b8 w37 E8 hb8 hk8;refine ej (vs:=[_,_,_,_,_,_,_,_,_,_,_,_,_]) ay rfl rfl (by simp [Value.oneCell']) (hk8) rfl ?_;intro w38 O12 P12;have hF12:=(E35.next E8).only O12 (by rw [hb8];exact E35.size);have hI12:=hI10.from_ hF12;have hP12:=hP6.from_ hF12;have hE12:=aL (hE35.from_ E8) O12 (aD (hE35.from_ E8) hk8 (by decide));have hxN:E1 w38 w.heap.size (mA (X k).m A35 c35):=cW hE12 hzN;have hPm:Blk w38 b8 33 (aM (mA (X k).m A35 c35)).toArray:=P12;refine ah (af (ag (ab (mvp rfl (aa (aP (cs:=aM (mA (X k).m A35 c35)) aI ay rfl hPm.whole) (aa (ai bS rfl) (aa (aq ar rfl (by exact hP12.rd 14 rfl)) ?_)))))));refine aa (ai fp rfl) (aa (aq ar rfl (by exact hP12.rd 15 rfl)) ?_);refine aC hN (kJ w.heap.size b A' c' L _ hI12.1 (by rw [hI12.len];exact hI12.2.2.2.2.2.1) hI12.sorted (mA (X k).m A35 c35) (X k).nw (X k).pk (by omega) hpk hxN hI12.2.1 (by show (X k).m.es.length≤1000000;omega)) ?_;rintro v42 w39 ⟨rfl,⟨A42,c42,L42,hn42,hp42,he42,hs42,hf42⟩,hK42⟩;have hPm42:=hK42.blk b8 33 _ (dC hPm hI12.1.2.1 (by decide)) (by decide) hPm;have hP42:=hK42.blk b6 35 _ (dC hP12 hI12.1.2.1 (by decide)) (by decide) hP12;have hx42:E1 w39 w.heap.size (mA (X k).m A35 c35):=eF hxN hK42 hI12.1.2.1 (by decide) (by decide);refine ah (af (ag (ab (aa (ai bn rfl) (aa (aq cd rfl (by exact hPm42.rd 9 rfl)) ?_)))));refine aC fm (gB w.heap.size A35 c35 (X k).m.es.length (db (X k).m.es) _ hx42 ((hK42.from_ (((((hB.next E6).only O10 ((by rw [hb6];exact hB.size))).next E35).next E8).only O12 ((by rw [hb8];exact Nat.le_trans hzN E35.size))) (Nat.le_refl _)).size) (by omega)) ?_;rintro v45 w40 ⟨rfl,hg45⟩
    have hr45:=nf hI12.2.2.1 hK42 hI12.1.2.1 hx42 hg45 (fun y hy q hq e=>by
     have h1:=(aS hE12 q hq).1;have h2:=((hI10.2.2.1.2.2.2.2.2 y hy).at q e).2;omega)
    have hP45:=hP42.grown hg45 (aD hx42 hP42 (by decide));refine ah (af (ab (mvp rfl (aa (ai dz rfl) (aa (aP (cs:=aM (X k).m) aI ay rfl (jY (a:=0) hP45.whole)) (aa (ai bS rfl) (aa (aq ar rfl (by exact hP45.rd 14 rfl)) ?_)))))));refine aa (ai fp rfl) (aa (aq ar rfl (by exact hP45.rd 15 rfl)) ?_);refine aC ku (lF w.heap.size rb A1 c1 A2 c2 ms ats _ hr45 w (X k).m hes (Nat.le_refl _) (((hK42.from_ (((((hB.next E6).only O10 ((by rw [hb6];exact hB.size))).next E35).next E8).only O12 ((by rw [hb8];exact Nat.le_trans hzN E35.size))) (Nat.le_refl _))).grew hg45 (fun q hq=>(aS hx42 q hq).1)) (by omega) hI10.2.2.2.2.2.1 (X k).nw (X k).pk (by omega) hpk) ?_;rintro v53 w41 ⟨rfl,⟨B1,d1,B2,d2,ms2,ats2,hr53,hz53,hf53,hl53⟩,hK53⟩;have hIy:=lV (x:=(mA (X k).m A35 c35)) hI10 (fun q hq=>⟨(aS hE12 q hq).1,(aS hE12 q hq).2⟩) hF12 hn42 hp42 he42 hf42 hK42 hx42 hg45 hr53 hz53 hf53 hl53 hK53 hr45 hl0;refine ah (aQ ?_);refine bL (((A42,c42,L42),rb,(B1,d1),(B2,d2),ms2,ats2)) ⟨(by first | rfl | (refine aU ?_;omega)),trivial⟩ (by (iterate 31 refine a_ rfl ?_);exact bl) ?_;exact ⟨hIy,(hK53.from_ (((hK42.from_ (((((hB.next E6).only O10 ((by rw [hb6];exact hB.size))).next E35).next E8).only O12 ((by rw [hb8];exact Nat.le_trans hzN E35.size))) (Nat.le_refl _))).grew hg45 (fun q hq=>(aS hx42 q hq).1)) (Nat.le_refl _))⟩
   rintro ⟨⟨Az,cz,Lz⟩,rbz,⟨B1z,d1z⟩,⟨B2z,d2z⟩,msz,atsz⟩ ρ42 w42 ⟨hIz,hB⟩;refine ag ?_;apply bY 8 [(76,eqp _),(77,eqp _),(78,eqp _),(79,eqp _),(80,eqp _),(81,eqp _),(82,eqp _),(83,eqp (.bool false))] (by repeat first | exact cq | refine cp ?_ | refine bU ?_) (by kernel_rfl) (by kernel_rfl) ⟨aj _,aj _,aj _,aj _,aj _,aj _,aj _,aj _,trivial⟩
   case hop=>
    constructor
    ·rintro-w44 D44;exact ao (av (v:=.pointer _) rfl) rfl
    constructor
    ·rintro-w45 D45;rintro _ rfl;refine eP kt ((k9 w.heap.size b Az cz Lz _ (hIz.1.from_ D45) (by have:=hIz.len;have:=hIz.2.2.2.2.2.1;omega)).mono ?_);rintro v _ ⟨rfl,rfl⟩;exact ⟨al.rfl_,rfl⟩
    constructor
    ·rintro-w46 D46;exact ao (av (v:=.pointer _) rfl) rfl
    constructor
    ·rintro-w47 D47;rintro _ rfl;exact ao (ax rfl) rfl
    constructor
    ·rintro-w48 D48;rintro _ rfl;exact ao (ai bI rfl) rfl
    constructor
    ·rintro-w49 D49;rintro _ rfl;exact ao (aq cI rfl ((hIz.2.2.1.2.1.from_ D49).rd 0 rfl)) rfl
    constructor
    ·rintro-w50 D50;rintro _ rfl;exact ao (bf cU rfl) rfl
    constructor
    ·rintro-w51 D51;rintro _ rfl _ rfl;exact ao (fI (ia rfl rfl) (by rw [hIz.len];exact bne_self_eq_false _)) rfl
    exact trivial
   case hend=>
    intro w52 D52;rintro _ rfl _ rfl _ rfl _ rfl _ rfl _ rfl _ rfl v83 rfl;show St ..;refine ah (af (aw rfl (fun Q53=>?_) (fun Q53=>?_)))
    ·exfalso;contradiction
    refine aE (aQ (af (ab (mvi rfl (aa (bA (b:=1) rfl rfl (by omega)) (asi rfl (ah ?_)))))));refine bL ((k+1,(Az,cz,Lz),rbz,(B1z,d1z),(B2z,d2z),msz,atsz)) ⟨(by first | rfl | (refine aU ?_;omega)),(by first | rfl | (refine aU ?_;omega)),trivial⟩ (by (iterate 149 refine a_ rfl ?_);exact bl) ⟨?_,?_⟩
    ·exact ⟨hIz.from_ (al.rfl_.next D52),(hB.next D52)⟩
    ·show 60-(k+1)<60-k;omega
  refine bE (aN (aN (bk (af (ag (ab (aC gZ (gz _) ?_)))))));rintro v84 w54 ⟨rfl,E84⟩;refine asb rfl (ah (af (aA (bu (v:=.bool _) rfl rfl (⟨rfl,(hB.next E84)⟩)))))
 refine ae rfl rfl (ae rfl rfl (aa (an (v:=.bool _) rfl rfl) (ah (af (cB rfl (bE (aN (aN (bk (af (ag (ab (aC gZ (gz _) ?_)))))))))))));rintro v84 w55 ⟨rfl,E84⟩;refine asb rfl (ah (af (aA (bu (v:=.bool _) rfl rfl (⟨rfl,(hB.next E84)⟩)))))
theorem im (A:Option Addr) (c:Nat) (xs:List fW.den) (w:World) (hb:xs.length*fW.bytes≤140737488351232) (h:0<xs.length→∃ b o,A=some ⟨b,o,none⟩∧∀ (i:Nat) (hi:i<xs.length),fW.At w (fun j=>w.cell? ⟨b,o+i*fW.size+j,none⟩) xs[i]) :
 Rt prog 3 [.slice A xs.length c] w fun v w'=>v=.bool true∧al w w':=by
 obtain ⟨X,hX⟩:=l6 h;exact il A c xs.length X w hX (Nat.le_trans (Nat.le_mul_of_pos_right _ (by decide:0<fW.bytes)) hb)
theorem ft (os:Os) (started:os.Started) (H:Type) (enc:TypeId×Value→H) :
 ReturnsInHanded {} Try.checked os 3 .any (Rows.netExactSpec.pre6 enc prog Try.f3 Rows.netExactRow.domain false) (Rows.netExactSpec.post enc prog Try.f3 false true false false):=by
 refine returnsInHanded_of_change_sized (C:=Try.checked) Try.own started (by kernel_rfl) Try.func3
  (ChangeSpec.witness6 (enc:=enc) (C:=Try.checked) false ⟨#[],#[.slice none 0 0],[]⟩ 8 (by kernel_rfl) (by kernel_rfl) (by kernel_rfl) (by kernel_rfl)) ?_
 intro W base args ds gs before hval hW _ hsz _;exact kV 3 Try.f3 22 4 Rows.netExactSpec Try.params3 (by kernel_rfl) Try.underlying4 rfl (fun _=>rfl) (by kernel_rfl) (dT_ (by kernel_rfl)) (ly fW (by kernel_rfl) im) W base args ds gs before hval hW hsz
theorem NetExact_holds:Rows.NetExactSaid:=
 OpenClaim.holds_of_wide 3 Try.f3 rfl rfl rfl rfl rfl rfl rfl ⟨rfl,rfl,rfl,rfl,rfl⟩ rfl rfl rfl rfl rfl (by kernel_rfl) Try.func3 (by kernel_rfl)
  (dT_ (by kernel_rfl)) (by unfold Func.isWrapper;first | (rw [if_pos (by decide+kernel)];kernel_rfl) | (rw [if_neg (by decide+kernel)];exact ⟨rfl,rfl⟩))
  (fun os started H enc _=>ft os started H enc)
end Go.Proofs.Ytinogeaabocbkaa
