/- The law DiskNames. -/
import Derived.Test.YtmbcbinocebodaaSlDkLawN2

set_option maxRecDepth 100000
set_option maxHeartbeats 4000000
namespace Go.Proofs.Ytmbcbinocebodaa
open Go.Proofs.Try (prog)
open Go.RowKit
open Go.ChangeShapes Go.WideShapes Go.ChangeAt
theorem fb:dJ prog 35=some false:=by kernel_rfl
theorem bN:bT prog 25 0=some 0:=by kernel_rfl
theorem ch:dJ prog 22=some false:=by kernel_rfl
theorem bj:bT prog 25 1=some 1:=by kernel_rfl
theorem bB:dJ prog 23=some false:=by kernel_rfl
theorem dy:(bU prog 23).isSome=true:=by kernel_rfl
theorem cE:bU prog 23=some (37,6):=by kernel_rfl
theorem dQ:bT prog 37 4=some 4:=by kernel_rfl
theorem dP:bT prog 37 5=some 5:=by kernel_rfl
theorem fa:(bU prog 35).isSome=true:=by kernel_rfl
theorem fc:bU prog 32=some (5,1):=by kernel_rfl
theorem fS:dJ prog 5=some false:=by kernel_rfl
theorem fR:prog.underlying 5=some (.int .u8):=by kernel_rfl
theorem ei:aO prog 8=true:=by kernel_rfl
theorem bm:aO prog 9=true:=by kernel_rfl
theorem dz:aO prog 10=true:=by kernel_rfl
theorem iv:aO prog 18=true:=by kernel_rfl
theorem iu:aO prog 20=true:=by kernel_rfl
theorem kB (A B:Option Addr) (ca cb:Nat) (fs:List Af) (L:List Ak) (w:World) (ha:jY w A B fs L) :
 Rt prog 7 [.agg #[.slice A fs.length ca,.slice B L.length cb]] w (fun v w'=>(∃ hv:Bool,v=.bool hv∧(hv=false→fs.length≤40∧(∀ j (h:j<fs.length),fs[j].bs.length≤10000)∧∀ j (h:j<L.length),j<40→L[j].xs.length≤10000∧L[j].ys.length≤10000))∧ak w w'):=by
 have hlF:=ha.lenF;have hlL:=ha.lenL;refine enter (n:=62) Try.func7 rfl rfl rfl (ai (ag (gB (v:=.agg _) rfl ?_)));intro b1 w1 E1 hb1 hk1;refine asb rfl (ah (ae (ai (ag (asi rfl (ah (ae (ai (ai (ag (asi rfl (ah (ae (a7 (cJ (G:=Nat×Nat) [6,7,8,9,10,11,12,13,14,15,16,17,18,19,20,21,22,23,24,25] (fun (m,i)=>[(3,.int .i64 (m:Nat)),(4,.int .i64 (i:Nat))]) (fun (m,i) w'=>i≤fs.length∧i≤40∧(∀ j (h:j<fs.length),j<i→fs[j].bs.length≤m)∧m≤i*1000000000000000∧Blk w' b1 25 #[.slice A fs.length ca,.slice B L.length cb]∧ak w w') (fun (_,i)=>fs.length-i) ((0,0)) ⟨rfl,rfl,trivial⟩ ?_ ?_)))))))))))))))
 ·exact ⟨Nat.zero_le _,Nat.zero_le _,fun j _ h=>absurd h (Nat.not_lt_zero _),by omega,hk1.from_ ak.rfl_,(ak.rfl_.next E1)⟩
 rintro ⟨m,i⟩ ρ2 w2 ⟨hi,hi40,hmx,hmb,hP,hB⟩;refine ai (ai (ag (mvi rfl (aa (aj bN rfl) (aa (ar ch rfl (by exact (hP.from_ ak.rfl_).rd 0 rfl)) ?_)))));refine aa (aX cx rfl) (aa (bG rfl rfl) (mvb rfl (mj (t:=11) rfl (fun Q3=>?_) (fun Q3=>?_))))
 ·refine ab rfl (mvi rfl (ab rfl (aa (bG rfl rfl) (aa (ax (v:=.bool _) rfl rfl) (ah (ae (mC rfl (fun Q4=>?_) (fun Q4=>?_))))))))
  ·have hil:i<fs.length:=by omega
   obtain ⟨bF,oF,rfl,hcF⟩:=ha.rowF (by omega);have hce:=hcF i hil;have hbf:=(ha.okF _ (List.getElem_mem hil)).2.2;refine aD (ae (ai (a7 (ag (mvi rfl (aa (aj bN rfl) (aa (ar ch rfl (by exact (hP.from_ ak.rfl_).rd 0 rfl)) ?_)))))));refine mvi rfl (aa (aJ dF rfl rfl (by omega)) (aa (aj bX rfl) (aa (ar a8 rfl (by exact cg hB (hce 1 _ rfl))) ?_)));refine aa (aX bq rfl) (aa (aW rfl rfl (by omega)) (asi rfl (ah (bk (ae (ag (mvi rfl (aa (aW (b:=1) rfl rfl (by omega)) (asi rfl (ah ?_))))))))));refine bo ((m+fs[i].bs.length,i+1)) ⟨(by first | rfl | (refine bw ?_;omega)),(by first | rfl | (refine bw ?_;omega)),trivial⟩ (by (iterate 45 refine aR rfl ?_);exact aZ) ⟨?_,?_⟩
   ·refine ⟨by omega,by omega,fun j h hj=>?_,by omega,hP.from_ ak.rfl_,hB⟩;rcases Nat.eq_or_lt_of_le (Nat.le_of_lt_succ hj) with e | e
    ·subst e;omega
    ·have:=hmx j h e;omega
   ·show fs.length-(i+1)<fs.length-i;omega
  refine bY (aS (aS (bx (ae (ai (ai (ag (asi rfl (ah (ae (a7 (cJ (G:=Nat×Nat) [26,27,28,29,30,31,32,33,34,35,36,37,38,39,40,41,42,43,44,45,46,47,48,49,50,51,52,53] (fun (m,k)=>[(3,.int .i64 (m:Nat)),(5,.int .i64 (k:Nat))]) (fun (m,k) w'=>k≤L.length∧k≤40∧(∀ j (h:j<fs.length),j<40→fs[j].bs.length≤m)∧(∀ j (h:j<L.length),j<k→L[j].xs.length≤m∧L[j].ys.length≤m)∧m≤40000000000000000+k*1000000000000000∧Blk w' b1 25 #[.slice A fs.length ca,.slice B L.length cb]∧ak w w') (fun (_,k)=>L.length-k) ((m,0)) ⟨rfl,rfl,trivial⟩ ?_ ?_))))))))))))
  ·exact ⟨Nat.zero_le _,Nat.zero_le _,fun j h h2=>hmx j h (by omega),fun j _ h=>absurd h (Nat.not_lt_zero _),by omega,hP.from_ ak.rfl_,hB⟩
  rintro ⟨m,k⟩ ρ5 w5 ⟨hk,hk40,hmf,hml,hmb,hP,hB⟩;refine ai (ai (ag (mvi rfl (aa (aj bj rfl) (aa (ar bB rfl (by exact (hP.from_ ak.rfl_).rd 1 rfl)) ?_)))));refine aa (aX dy rfl) (aa (bG rfl rfl) (mvb rfl (mj (t:=31) rfl (fun Q6=>?_) (fun Q6=>?_))))
  ·refine ab rfl (mvi rfl (ab rfl (aa (bG rfl rfl) (aa (ax (v:=.bool _) rfl rfl) (ah (ae (mC rfl (fun Q7=>?_) (fun Q7=>?_))))))))
   ·have hkl:k<L.length:=by omega
    obtain ⟨bL,oL,rfl,hcL⟩:=ha.rowL (by omega);have hce:=hcL k hkl;have hbx:=(ha.okL _ (List.getElem_mem hkl)).lx;have hby:=(ha.okL _ (List.getElem_mem hkl)).ly;refine aD (ae (ai (a7 ?_)));apply bZ 18 [(37,eqp _),(38,eqp _),(39,eqp _),(40,eqp _),(41,eqp _),(42,eqp _),(43,eqp (.slice L[k].X L[k].xs.length L[k].xc)),(44,eqp _),(45,eqp _),(46,eqp _),(47,eqp _),(48,eqp _),(49,eqp _),(50,eqp _),(51,eqp (.slice L[k].Y L[k].ys.length L[k].yc)),(52,eqp _),(53,eqp _),(3,eqp _)] (by repeat first | exact ck | refine cj ?_ | refine bS ?_) (by kernel_rfl) (by kernel_rfl) ⟨af _,af _,af _,af _,af _,af _,af _,af _,af _,af _,af _,af _,af _,af _,af _,af _,af _,af _,trivial⟩
    case hop=>
     constructor
     ·rintro-w9 D9;exact al (av (v:=.int _ _) rfl) rfl
     constructor
     ·rintro-w10 D10;exact al (aj bj rfl) rfl
     constructor
     ·rintro-w11 D11;rintro _ rfl;exact al (ar bB rfl (by exact (hP.from_ (ak.rfl_.next D11)).rd 1 rfl)) rfl
     constructor
     ·rintro-w12 D12;exact al (av (v:=.int _ _) rfl) rfl
     constructor
     ·rintro-w13 D13;rintro _ rfl _ rfl;exact al (aJ cE rfl rfl (by omega)) rfl
     constructor
     ·rintro-w14 D14;rintro _ rfl;exact al (aj dQ rfl) rfl
     constructor
     ·rintro-w15 D15;rintro _ rfl;exact al (ar (v:=.slice L[k].X L[k].xs.length L[k].xc) a8 rfl (cg (hB.next D15) (hce 4 _ rfl))) rfl
     constructor
     ·rintro-w16 D16;rintro v16_43 rfl;exact al (aX bq rfl) rfl
     constructor
     ·rintro-w17 D17;rintro _ rfl _ rfl;exact al (aW rfl rfl (by omega)) rfl
     constructor
     ·rintro-w18 D18;exact al (aj bj rfl) rfl
     constructor
     ·rintro-w19 D19;rintro _ rfl;exact al (ar bB rfl (by exact (hP.from_ (ak.rfl_.next D19)).rd 1 rfl)) rfl
     constructor
     ·rintro-w20 D20;exact al (av (v:=.int _ _) rfl) rfl
     constructor
     ·rintro-w21 D21;rintro _ rfl _ rfl;exact al (aJ cE rfl rfl (by omega)) rfl
     constructor
     ·rintro-w22 D22;rintro _ rfl;exact al (aj dP rfl) rfl
     constructor
     ·rintro-w23 D23;rintro _ rfl;exact al (ar (v:=.slice L[k].Y L[k].ys.length L[k].yc) fb rfl (cg (hB.next D23) (hce 5 _ rfl))) rfl
     constructor
     ·rintro-w24 D24;rintro v24_51 rfl;exact al (aX fa rfl) rfl
     constructor
     ·rintro-w25 D25;rintro _ rfl _ rfl;exact al (aW rfl rfl (by omega)) rfl
     constructor
     ·rintro-w26 D26;rintro _ rfl;exact al (ct (v:=.int _ _) rfl) rfl
     exact trivial
    case hend=>
     intro w27 D27;rintro _ rfl _ rfl _ rfl _ rfl _ rfl _ rfl v43 rfl _ rfl _ rfl _ rfl _ rfl _ rfl _ rfl _ rfl v51 rfl _ rfl _ rfl _ rfl;show St ..;refine ah (bk (ae (ag (mvi rfl (aa (aW (b:=1) rfl rfl (by omega)) (asi rfl (ah ?_)))))));refine bo ((m+L[k].xs.length+L[k].ys.length,k+1)) ⟨(by first | rfl | (refine bw ?_;omega)),(by first | rfl | (refine bw ?_;omega)),trivial⟩ (by (iterate 61 refine aR rfl ?_);exact aZ) ⟨?_,?_⟩
     ·refine ⟨by omega,by omega,fun j h hj=>by have:=hmf j h hj;omega,fun j h hj=>?_,by omega,hP.from_ (ak.rfl_.next D27),(hB.next D27)⟩;rcases Nat.eq_or_lt_of_le (Nat.le_of_lt_succ hj) with e | e
      ·subst e;omega
      ·have:=hml j h e;omega
     ·show L.length-(k+1)<L.length-k;omega
   refine bY (aS (aS (bx (ae (ai (ag (mvi rfl (aa (bh rfl rfl) (mvb rfl (mj (t:=56) rfl (fun Q28=>?_) (fun Q28=>?_)))))))))))
   ·refine ao rfl rfl (ao rfl rfl (ao rfl rfl (ao rfl rfl (aa (ax (v:=.bool _) rfl rfl) (asb rfl (ah (ae (aA (a_ (v:=.bool _) rfl rfl (⟨⟨_,rfl,fun h=>?_⟩,hB⟩))))))))))
    first
     |(cases h;done)
     |(have hq:=dF_ h
       exact ⟨by omega,fun j h=>by have:=hmf j h (by omega);omega,fun j h h40=>by have:=hml j h (by omega);omega⟩)
   refine ab rfl (aa (aj bN rfl) (ab rfl (aa (ar ch rfl (by exact (hP.from_ ak.rfl_).rd 0 rfl)) ?_)));refine ab rfl (aa (aX cx rfl) (ab rfl (aa (bh rfl rfl) (aa (aq (v:=.bool _) rfl rfl) (asb rfl (ah (ae (aA (a_ (v:=.bool _) rfl rfl (⟨⟨_,rfl,fun h=>?_⟩,hB⟩))))))))))
   first
    |(cases h;done)
    |(have hq:=dF_ h
      exact ⟨by omega,fun j h=>by have:=hmf j h (by omega);omega,fun j h h40=>by have:=hml j h (by omega);omega⟩)
  refine ao rfl rfl (ao rfl rfl (aa (aq (v:=.bool _) rfl rfl) (ah (ae (bA rfl (bY (aS (aS (bx (ae (ai (ag (mvi rfl (aa (bh rfl rfl) ?_))))))))))))));refine mvb rfl (mj (t:=56) rfl (fun Q29=>?_) (fun Q29=>?_))
  ·refine ao rfl rfl (ao rfl rfl (ao rfl rfl (ao rfl rfl (aa (ax (v:=.bool _) rfl rfl) (asb rfl (ah (ae (aA (a_ (v:=.bool _) rfl rfl (⟨⟨_,rfl,fun h=>?_⟩,hB⟩))))))))))
   first
    |(cases h;done)
    |(have hq:=dF_ h
      exact ⟨by omega,fun j h=>by have:=hmf j h (by omega);omega,fun j h h40=>by have:=hml j h (by omega);omega⟩)
  refine ab rfl (aa (aj bN rfl) (ab rfl (aa (ar ch rfl (by exact (hP.from_ ak.rfl_).rd 0 rfl)) ?_)));refine ab rfl (aa (aX cx rfl) (ab rfl (aa (bh rfl rfl) (aa (aq (v:=.bool _) rfl rfl) (asb rfl (ah (ae (aA (a_ (v:=.bool _) rfl rfl (⟨⟨_,rfl,fun h=>?_⟩,hB⟩))))))))))
  first
   |(cases h;done)
   |(have hq:=dF_ h
     exact ⟨by omega,fun j h=>by have:=hmf j h (by omega);omega,fun j h h40=>by have:=hml j h (by omega);omega⟩)
 refine ao rfl rfl (ao rfl rfl (aa (aq (v:=.bool _) rfl rfl) (ah (ae (bA rfl (bY (aS (aS (bx (ae (ai (ai (ag (asi rfl (ah (ae (a7 ?_)))))))))))))))));refine cJ (G:=Nat×Nat) [26,27,28,29,30,31,32,33,34,35,36,37,38,39,40,41,42,43,44,45,46,47,48,49,50,51,52,53] (fun (m,k)=>[(3,.int .i64 (m:Nat)),(5,.int .i64 (k:Nat))]) (fun (m,k) w'=>k≤L.length∧k≤40∧(∀ j (h:j<fs.length),j<40→fs[j].bs.length≤m)∧(∀ j (h:j<L.length),j<k→L[j].xs.length≤m∧L[j].ys.length≤m)∧m≤40000000000000000+k*1000000000000000∧Blk w' b1 25 #[.slice A fs.length ca,.slice B L.length cb]∧ak w w') (fun (_,k)=>L.length-k) ((m,0)) ⟨rfl,rfl,trivial⟩ ?_ ?_
 ·exact ⟨Nat.zero_le _,Nat.zero_le _,fun j h h2=>hmx j h (by omega),fun j _ h=>absurd h (Nat.not_lt_zero _),by omega,hP.from_ ak.rfl_,hB⟩
 rintro ⟨m,k⟩ ρ30 w30 ⟨hk,hk40,hmf,hml,hmb,hP,hB⟩;refine ai (ai (ag (mvi rfl (aa (aj bj rfl) (aa (ar bB rfl (by exact (hP.from_ ak.rfl_).rd 1 rfl)) ?_)))));refine aa (aX dy rfl) (aa (bG rfl rfl) (mvb rfl (mj (t:=31) rfl (fun Q31=>?_) (fun Q31=>?_))))
 ·refine ab rfl (mvi rfl (ab rfl (aa (bG rfl rfl) (aa (ax (v:=.bool _) rfl rfl) (ah (ae (mC rfl (fun Q32=>?_) (fun Q32=>?_))))))))
  ·have hkl:k<L.length:=by omega
   obtain ⟨bL,oL,rfl,hcL⟩:=ha.rowL (by omega);have hce:=hcL k hkl;have hbx:=(ha.okL _ (List.getElem_mem hkl)).lx;have hby:=(ha.okL _ (List.getElem_mem hkl)).ly;refine aD (ae (ai (a7 ?_)));apply bZ 18 [(37,eqp _),(38,eqp _),(39,eqp _),(40,eqp _),(41,eqp _),(42,eqp _),(43,eqp (.slice L[k].X L[k].xs.length L[k].xc)),(44,eqp _),(45,eqp _),(46,eqp _),(47,eqp _),(48,eqp _),(49,eqp _),(50,eqp _),(51,eqp (.slice L[k].Y L[k].ys.length L[k].yc)),(52,eqp _),(53,eqp _),(3,eqp _)] (by repeat first | exact ck | refine cj ?_ | refine bS ?_) (by kernel_rfl) (by kernel_rfl) ⟨af _,af _,af _,af _,af _,af _,af _,af _,af _,af _,af _,af _,af _,af _,af _,af _,af _,af _,trivial⟩
   case hop=>
    constructor
    ·rintro-w34 D34;exact al (av (v:=.int _ _) rfl) rfl
    constructor
    ·rintro-w35 D35;exact al (aj bj rfl) rfl
    constructor
    ·rintro-w36 D36;rintro _ rfl;exact al (ar bB rfl (by exact (hP.from_ (ak.rfl_.next D36)).rd 1 rfl)) rfl
    constructor
    ·rintro-w37 D37;exact al (av (v:=.int _ _) rfl) rfl
    constructor
    ·rintro-w38 D38;rintro _ rfl _ rfl;exact al (aJ cE rfl rfl (by omega)) rfl
    constructor
    ·rintro-w39 D39;rintro _ rfl;exact al (aj dQ rfl) rfl
    constructor
    ·rintro-w40 D40;rintro _ rfl;exact al (ar (v:=.slice L[k].X L[k].xs.length L[k].xc) a8 rfl (cg (hB.next D40) (hce 4 _ rfl))) rfl
    constructor
    ·rintro-w41 D41;rintro v41_43 rfl;exact al (aX bq rfl) rfl
    constructor
    ·rintro-w42 D42;rintro _ rfl _ rfl;exact al (aW rfl rfl (by omega)) rfl
    constructor
    ·rintro-w43 D43;exact al (aj bj rfl) rfl
    constructor
    ·rintro-w44 D44;rintro _ rfl;exact al (ar bB rfl (by exact (hP.from_ (ak.rfl_.next D44)).rd 1 rfl)) rfl
    constructor
    ·rintro-w45 D45;exact al (av (v:=.int _ _) rfl) rfl
    constructor
    ·rintro-w46 D46;rintro _ rfl _ rfl;exact al (aJ cE rfl rfl (by omega)) rfl
    constructor
    ·rintro-w47 D47;rintro _ rfl;exact al (aj dP rfl) rfl
    constructor
    ·rintro-w48 D48;rintro _ rfl;exact al (ar (v:=.slice L[k].Y L[k].ys.length L[k].yc) fb rfl (cg (hB.next D48) (hce 5 _ rfl))) rfl
    constructor
    ·rintro-w49 D49;rintro v49_51 rfl;exact al (aX fa rfl) rfl
    constructor
    ·rintro-w50 D50;rintro _ rfl _ rfl;exact al (aW rfl rfl (by omega)) rfl
    constructor
    ·rintro-w51 D51;rintro _ rfl;exact al (ct (v:=.int _ _) rfl) rfl
    exact trivial
   case hend=>
    intro w52 D52;rintro _ rfl _ rfl _ rfl _ rfl _ rfl _ rfl v43 rfl _ rfl _ rfl _ rfl _ rfl _ rfl _ rfl _ rfl v51 rfl _ rfl _ rfl _ rfl;show St ..;refine ah (bk (ae (ag (mvi rfl (aa (aW (b:=1) rfl rfl (by omega)) (asi rfl (ah ?_)))))));refine bo ((m+L[k].xs.length+L[k].ys.length,k+1)) ⟨(by first | rfl | (refine bw ?_;omega)),(by first | rfl | (refine bw ?_;omega)),trivial⟩ (by (iterate 61 refine aR rfl ?_);exact aZ) ⟨?_,?_⟩
    ·refine ⟨by omega,by omega,fun j h hj=>by have:=hmf j h hj;omega,fun j h hj=>?_,by omega,hP.from_ (ak.rfl_.next D52),(hB.next D52)⟩;rcases Nat.eq_or_lt_of_le (Nat.le_of_lt_succ hj) with e | e
     ·subst e;omega
     ·have:=hml j h e;omega
    ·show L.length-(k+1)<L.length-k;omega
  refine bY (aS (aS (bx (ae (ai (ag (mvi rfl (aa (bh rfl rfl) (mvb rfl (mj (t:=56) rfl (fun Q53=>?_) (fun Q53=>?_)))))))))))
  ·refine ao rfl rfl (ao rfl rfl (ao rfl rfl (ao rfl rfl (aa (ax (v:=.bool _) rfl rfl) (asb rfl (ah (ae (aA (a_ (v:=.bool _) rfl rfl (⟨⟨_,rfl,fun h=>?_⟩,hB⟩))))))))))
   first
    |(cases h;done)
    |(have hq:=dF_ h
      exact ⟨by omega,fun j h=>by have:=hmf j h (by omega);omega,fun j h h40=>by have:=hml j h (by omega);omega⟩)
  refine ab rfl (aa (aj bN rfl) (ab rfl (aa (ar ch rfl (by exact (hP.from_ ak.rfl_).rd 0 rfl)) ?_)));refine ab rfl (aa (aX cx rfl) (ab rfl (aa (bh rfl rfl) (aa (aq (v:=.bool _) rfl rfl) (asb rfl (ah (ae (aA (a_ (v:=.bool _) rfl rfl (⟨⟨_,rfl,fun h=>?_⟩,hB⟩))))))))))
  first
   |(cases h;done)
   |(have hq:=dF_ h
     exact ⟨by omega,fun j h=>by have:=hmf j h (by omega);omega,fun j h h40=>by have:=hml j h (by omega);omega⟩)
 refine ao rfl rfl (ao rfl rfl (aa (aq (v:=.bool _) rfl rfl) (ah (ae (bA rfl (bY (aS (aS (bx (ae (ai (ag (mvi rfl (aa (bh rfl rfl) ?_))))))))))))));refine mvb rfl (mj (t:=56) rfl (fun Q54=>?_) (fun Q54=>?_))
 ·refine ao rfl rfl (ao rfl rfl (ao rfl rfl (ao rfl rfl (aa (ax (v:=.bool _) rfl rfl) (asb rfl (ah (ae (aA (a_ (v:=.bool _) rfl rfl (⟨⟨_,rfl,fun h=>?_⟩,hB⟩))))))))))
  first
   |(cases h;done)
   |(have hq:=dF_ h
     exact ⟨by omega,fun j h=>by have:=hmf j h (by omega);omega,fun j h h40=>by have:=hml j h (by omega);omega⟩)
 refine ab rfl (aa (aj bN rfl) (ab rfl (aa (ar ch rfl (by exact (hP.from_ ak.rfl_).rd 0 rfl)) ?_)));refine ab rfl (aa (aX cx rfl) (ab rfl (aa (bh rfl rfl) (aa (aq (v:=.bool _) rfl rfl) (asb rfl (ah (ae (aA (a_ (v:=.bool _) rfl rfl (⟨⟨_,rfl,fun h=>?_⟩,hB⟩))))))))))
 first
  |(cases h;done)
  |(have hq:=dF_ h
    exact ⟨by omega,fun j h=>by have:=hmf j h (by omega);omega,fun j h h40=>by have:=hml j h (by omega);omega⟩)
theorem gm (w:World):Rt prog 8 [.slice none 0 0] w fun v w'=>(∃ d,v=.tuple #[.pointer (some ⟨d,0,none⟩),.int .i64 0]∧dk w' (fun k=>w.heap.size≤k∧k<w'.heap.size) d [] 0 false)∧ak w w':=
 (kl none 0 0 [] w (fun h=>absurd h (Nat.lt_irrefl _)) rfl (fun f hf=>by cases hf)).mono fun v w' h=>by
  obtain ⟨h,hF⟩:=h;rcases h with ⟨h,_⟩ | ⟨_,d,h,hd⟩
  ·exact absurd ⟨Nat.zero_le _,fun j hj=>absurd hj (Nat.not_lt_zero _)⟩ h
  ·exact ⟨⟨d,h,hd.wide fun k h1 h2=>⟨h1,h2⟩⟩,hF⟩
theorem my {α:Type} {a b:List α} {k:Nat} (hl:a.length=b.length) (hk:¬ k<a.length) (h:a.take k=b.take k):a=b:=by
 rw [List.take_of_length_le (by omega),List.take_of_length_le (by omega)] at h;exact h
theorem kW {α:Type} {a b:List α} {k:Nat} (ha:k<a.length) (hb:k<b.length) (h:a.take k=b.take k) (he:a[k]=b[k]):a.take (k+1)=b.take (k+1):=by
 rw [List.take_succ_eq_append_getElem ha,List.take_succ_eq_append_getElem hb,h,he]
theorem lU:okN ⟨#[97]⟩=true:=by decide
theorem mm:dI [] 0 false ⟨#[97]⟩ [97,98,99].length=0:=by unfold dI bE;rw [lU];rfl
theorem mI:ec [] 0 false ⟨#[97]⟩ [97,98,99]=[(⟨#[97]⟩,[97,98,99],[])]:=by unfold ec;rw [mm];rfl
theorem mH:dX (okN ⟨#[97]⟩) 0 false=false:=by rw [lU];rfl
theorem lN:dh [(⟨#[97]⟩,[97,98,99],[])] false ⟨#[97]⟩=0:=by unfold dh;rw [lU];rfl
theorem ml:cV [(⟨#[97]⟩,[97,98,99],[])] false ⟨#[97]⟩=[97,98,99]:=by unfold cV;rw [lN];rfl
theorem iU (A B:Option Addr) (ca cb:Nat) (a b:List Nat) (w:World) (ha:cr bV w A a) (hb:cr bV w B b) (hla:a.length*1≤140737488351232) :
 Rt prog 20 [.slice A a.length ca,.slice B b.length cb] w (fun v w'=>v=.bool (decide (a=b))∧ak w w'):=by
 refine enter (n:=26) Try.func20 rfl rfl rfl (ai (ag (asb rfl (ah (ae (ai (ai (ag (mvs rfl (aa (aX bq rfl) (mvs rfl (aa (aX bq rfl) (aa (bD rfl rfl) ?_)))))))))))));refine ah (ae (aE rfl (fun Q1=>?_) (fun Q1=>?_)))
 ·replace Q1:=c1 Q1;replace Q1:=gI Q1;refine ai (ag (asb rfl (ah (ae (aA (az (a_ (v:=.bool _) rfl rfl ?_)))))));exact ⟨by rw [decide_eq_false];rintro rfl;omega,ak.rfl_⟩
 replace Q1:=c3 Q1;replace Q1:=gH Q1;refine aD (ae (ai (ai (ag (asi rfl (ah (ae (a7 (cJ (G:=Nat) [4,11,12,13,14,15,16,17,18,19,20,21,22,23,24,25] (fun k=>[(5,.int .i64 (k:Nat))]) (fun k w'=>k≤a.length∧a.take k=b.take k∧ak w w') (fun k=>a.length-k) (0) ⟨rfl,trivial⟩ ?_ ?_)))))))))
 ·exact ⟨Nat.zero_le _,rfl,ak.rfl_⟩
 rintro k ρ2 w2 ⟨hk,ht,hB⟩;refine ai (ai (ag (mvi rfl (mvs rfl (aa (aX bq rfl) (aa (bG rfl rfl) (ah (ae (mC rfl (fun Q3=>?_) (fun Q3=>?_))))))))))
 ·obtain ⟨ba,oa,rfl,ca⟩:=ha (by omega);obtain ⟨bb,ob,rfl,cb⟩:=hb (by omega);refine aD (ae (ai (a7 (ai ?_))));apply kL 9 [(17,eqp _),(18,eqp _),(19,eqp _),(20,eqp _),(21,eqp _),(22,eqp _),(23,eqp _),(24,eqp _),(25,eqp _)] (by kernel_rfl) (by kernel_rfl) ⟨af _,af _,af _,af _,af _,af _,af _,af _,af _,trivial⟩
  case hop=>
   constructor
   ·intro w5 D5;exact al (av (v:=.slice _ _ _) rfl) rfl
   constructor
   ·intro w6 D6;exact al (av (v:=.int _ _) rfl) rfl
   constructor
   ·intro w7 D7;rintro _ rfl _ rfl;exact al (cy fc rfl rfl (by omega)) rfl
   constructor
   ·intro w8 D8;rintro _ rfl;exact al (ar fS rfl (by first | (exact cg (hB.next D8) (ca k (by omega))) | (exact cg (hB.next D8) (cb k (by omega))))) rfl
   constructor
   ·intro w9 D9;exact al (av (v:=.slice _ _ _) rfl) rfl
   constructor
   ·intro w10 D10;exact al (av (v:=.int _ _) rfl) rfl
   constructor
   ·intro w11 D11;rintro _ rfl _ rfl;exact al (cy fc rfl rfl (by omega)) rfl
   constructor
   ·intro w12 D12;rintro _ rfl;exact al (ar fS rfl (by first | (exact cg (hB.next D12) (ca k (by omega))) | (exact cg (hB.next D12) (cb k (by omega))))) rfl
   constructor
   ·intro w13 D13;rintro _ rfl _ rfl;exact al (bD rfl rfl) rfl
   exact trivial
  case hend=>
   intro w14 D14;rintro _ rfl _ rfl _ rfl _ rfl _ rfl _ rfl _ rfl _ rfl _ rfl;show St ..;refine ah (ae (aE rfl (fun Q15=>?_) (fun Q15=>?_)))
   ·replace Q15:=c1 Q15;replace Q15:=gI Q15;refine ai (ag (asb rfl (ah (ae (aA (aU (az (az (aU (az (a_ (v:=.bool _) rfl rfl ?_)))))))))));exact ⟨by rw [decide_eq_false];rintro rfl;exact absurd rfl (by assumption),(hB.next D14)⟩
   replace Q15:=c3 Q15;replace Q15:=gH Q15;refine aD (bk (ae (ag (mvi rfl (aa (eo rfl rfl (by omega)) (asi rfl (ah ?_)))))));refine bo (k+1) ⟨(by first | rfl | (refine bw ?_;omega)),trivial⟩ (by (iterate 33 refine aR rfl ?_);exact aZ) ⟨?_,?_⟩
   ·exact ⟨by omega,kW (by omega) (by omega) ht (by omega),(hB.next D14)⟩
   ·omega
 refine bY (aS (aS (bx (ae (ai (ag (asb rfl (ah (ae (aA (a_ (v:=.bool _) rfl rfl (⟨by rw [decide_eq_true (my (by omega) (by omega) ht)],hB⟩))))))))))))
theorem gP (w:World) :
 Rt prog 23 [] w (fun v w'=>v=.bool true∧ak w w'):=by
 refine enter (n:=38) Try.func23 rfl rfl rfl (ai (ag (asb rfl (ah (ae (ai (ag (aG ei (gm _) ?_))))))));rintro v6 w1 ⟨⟨d,rfl,hd6⟩,E6⟩;refine mvt rfl (aa (aI rfl rfl) (aa (aI rfl rfl) (asp rfl (asi rfl (ah (ae (ai (ai (ag (mvi rfl (aG bm (cl _ _) ?_)))))))))));rintro v10 w2 ⟨rfl,rfl⟩;refine aa (cG (bD rfl rfl) (bne_self_eq_false _)) (mvb rfl (ab rfl (mvp rfl (ab rfl (aa (cG (eF (by kernel_rfl) rfl rfl) rfl) (aa (aq (v:=.bool _) rfl rfl) (mvb rfl (ab rfl ?_))))))));refine mvp rfl (ab rfl ?_);have hB18:ak w w1:=(ak.rfl_.next E6);have hM18:ak _ w1:=(ak.rfl_.next E6);refine jj [.const (.int .u8 97),.const (.int .u8 98),.const (.int .u8 99)] [.int .u8 97,.int .u8 98,.int .u8 99] dG rfl rfl rfl rfl (by simp [Value.cells]) ?_;intro b18 w3 E18 hb18 hk18;refine ab rfl (gR (l:=[97,98,99]) eQ fR rfl hk18 (by decide) (by decide) ?_);intro w4 O19 hr19;have hd19:=(hd6.from_ E18).chg (O19.toChg (U:=fun k=>k=b18) rfl) (fun k h1 h2=>by have h3:k<_:=h1.2;have h4:k=b18:=h2;omega);refine ab rfl (aG dz (eO _ d [] 0 false _ hd19 ⟨#[97]⟩ (by decide) (some ⟨b18,0,none⟩) 3 3 [97,98,99] hr19 rfl (by decide) (fun q hq h=>by have h3:q<_:=h.2;have h4:b18=q:=Option.some.inj hq;omega)) ?_);rintro v20 w5 ⟨rfl,hd20,hC20⟩;rw [mm];rw [mI,mH] at hd20;refine ab rfl (aG bm (cl _ _) ?_);rintro v21 w6 ⟨rfl,rfl⟩;refine ab rfl (aa (cG (bD rfl rfl) (bne_self_eq_false _)) (aa (aq (v:=.bool _) rfl rfl) (ah (ae (bA rfl (aD (ae (ai (ag (mvp rfl (aG iv (lf _ d _ _ _ _ hd20 ⟨#[97]⟩ (by decide)) ?_)))))))))));rintro v26 w7 ⟨⟨A26,c26,rfl,ho26⟩,E26⟩;rw [ml] at ho26 ⊢;rw [lN];refine mvt rfl (aa (aI rfl rfl) (aa (aI rfl rfl) (ass rfl (asi rfl (ah (ae (ai (ag (mvi rfl (aG bm (cl _ _) ?_))))))))));rintro v30 w8 ⟨rfl,rfl⟩;refine aa (fv (bO rfl rfl) rfl) (mvb rfl (ab rfl (mvs rfl (ab rfl ?_))));have hB34:ak w w7:=(((((((ak.rfl_.next E6).next E18)).only O19 (by rw [hb18];exact hB18.size))).chg hC20 (fun k hk=>hk.1)).next E26);have hM34:ak _ w7:=ak.rfl_;refine jj [.const (.int .u8 97),.const (.int .u8 98),.const (.int .u8 99)] [.int .u8 97,.int .u8 98,.int .u8 99] dG rfl rfl rfl rfl (by simp [Value.cells]) ?_;intro b34 w9 E34 hb34 hk34;refine ab rfl (gR (l:=[97,98,99]) eQ fR rfl hk34 (by decide) (by decide) ?_);intro w10 O35 hr35;refine ab rfl (aG iu (iU A26 (some ⟨b34,0,none⟩) c26 3 [97,98,99] [97,98,99] _ ((cr.own ho26).2.from_ (((ak.rfl_.next E34)).only O35 (by rw [hb34];exact hM34.size))) hr35.row (by decide)) ?_);rintro v36 w11 ⟨rfl,E36⟩;refine aa (ax (v:=.bool _) rfl rfl) (asb rfl (ah (ae (aA (a_ (v:=.bool _) rfl rfl (⟨rfl,(((((((((((ak.rfl_.next E6).next E18)).only O19 (by rw [hb18];exact hB18.size))).chg hC20 (fun k hk=>hk.1)).next E26).next E34)).only O35 (by rw [hb34];exact hB34.size)).next E36)⟩))))))
theorem jd:cF prog 22=some (53,2,40,(.agg #[.string ⟨#[]⟩,.slice none 0 0])):=by kernel_rfl
theorem je:dJ prog 25=some true:=by kernel_rfl
theorem jc:b8 prog 25=some 2:=by kernel_rfl
theorem jW:aO prog 7=true:=by kernel_rfl
theorem gK:bT prog 37 1=some 1:=by kernel_rfl
theorem gL:∀ (a0:ByteArray),prog.built 53 [(0,.string a0)]=some #[.string a0,.slice none 0 0]:=by intros;kernel_rfl
theorem fO:aO prog 24=true:=by kernel_rfl
theorem fN:prog.underlying 27=some (.pointer (prog.pointee 27)):=by kernel_rfl
theorem fQ:aO prog 11=true:=by kernel_rfl
theorem fP:aO prog 23=true:=by kernel_rfl
theorem jJ {b:Nat} {nm:ByteArray} (w:World) (hs:nm.size≤140737488351232) (hb:Blk w b 53 #[.string nm,.slice none 0 0]):Rt prog 8 [.slice (some ⟨b,0,none⟩) 1 1] w fun v w'=>((okN nm=true∧∃ x,v=.tuple #[.pointer (some ⟨x,0,none⟩),.int .i64 0])∨(okN nm=false∧v=.tuple #[.pointer none,.int .i64 1]))∧ak w w':=
 (kl (some ⟨b,0,none⟩) 1 1 [⟨nm,none,0,[]⟩] w (fun _=>⟨b,0,rfl,fun i hi=>by match i,hi with | 0,_=>exact hb.whole⟩) rfl (fun f hf=>by rw [List.mem_singleton.1 hf];exact ⟨RB.nil_ w,hs,Nat.zero_le _⟩)).mono fun v w' h=>by
  obtain ⟨h,hF⟩:=h;refine ⟨?_,hF⟩;rcases h with ⟨h,rfl⟩ | ⟨h,d,rfl,_⟩
  ·refine .inr ⟨?_,rfl⟩;rcases hok:okN nm with _ | _
   ·rfl
   ·exact absurd ⟨by show 1≤16;omega,fun j hj=>by obtain rfl:j=0:=Nat.lt_one_iff.1 hj;exact ⟨hok,Nat.zero_le _,fun h=>absurd h (Nat.lt_irrefl _)⟩⟩ h
  ·exact .inl ⟨(h.2 0 Nat.zero_lt_one).1,d,rfl⟩
theorem kG {U:Nat→Prop} {w w':World} {d fu N:Nat} {D:List Fe} {off:Bool} (_:dk w' (Nx U w w') d D fu off) (hU:∀ k,U k→N≤k) (hz:N≤w.heap.size):∀ k,Nx U w w' k→N≤k:=fun k hk=>hk.elim (hU k) fun h=>Nat.le_trans hz h.1
theorem mc {nm:ByteArray} (h:okN nm=true):dI [] 0 false nm ([]:List Nat).length=0:=by unfold dI bE;rw [h];rfl
theorem mE {nm:ByteArray} (h:okN nm=false):dI [] 0 false nm ([]:List Nat).length=1:=by unfold dI bE;rw [h];rfl
theorem mR {nm:ByteArray} (h:okN nm=true):ec [] 0 false nm []=[(nm,[],[])]:=by
 unfold ec;rw [if_pos (mc h)];simp [dZ,eL,jE,cX]
theorem mK {nm:ByteArray} (h:okN nm=true):opE (ec [] 0 false nm []) (okN nm) (fuB (okN nm) 0) (dX (okN nm) 0 false) nm=0:=by
 rw [mR h];unfold opE;rw [h];simp [bE,fuB,dX,dZ]
theorem mL {nm:ByteArray} (h:okN nm=false):opE (ec [] 0 false nm []) (okN nm) (fuB (okN nm) 0) (dX (okN nm) 0 false) nm=1:=by
 unfold opE bE;rw [h];rfl
theorem fV (A B:Option Addr) (ca cb:Nat) (fs:List Af) (L:List Ak) (w:World) (ha:jY w A B fs L) :
 Rt prog 4 [.agg #[.slice A fs.length ca,.slice B L.length cb]] w (fun v w'=>v=.bool true∧ak w w'):=by
 have hlF:=ha.lenF;have hlL:=ha.lenL;refine enter (n:=91) Try.func4 rfl rfl rfl (ai (ag (gB (v:=.agg _) rfl ?_)));intro b1 w1 E1 hb1 hk1;refine asb rfl (ah (ae (ai (ai (ag (aa (el (cs:=[_,_]) je jc rfl (by exact (hk1.from_ ak.rfl_).whole)) ?_))))));refine aG jW (kB A B ca cb fs L _ (ha.from_ (ak.rfl_.next E1))) ?_;rintro v11 w2 ⟨⟨hv,rfl,hli⟩,E11⟩;replace hk1:=hk1.from_ E11;refine ah (ae (aE rfl (fun Q3=>?_) (fun Q3=>?_)))
 ·refine ai (ag (asb rfl (ah (ae (aA (az (a_ (v:=.bool _) rfl rfl (⟨rfl,((ak.rfl_.next E1).next E11)⟩))))))))
 refine aD (ae (ai (ai (ag (asi rfl (ah (ae (a7 (cJ (G:=Nat) (2::4::5::6::7::8::9::12::13::14::15::16::17::18::19::20::21::22::23::24::25::26::27::28::29::30::31::32::33::34::35::36::37::38::39::40::41::42::43::44::45::46::47::48::49::50::51::52::53::54::55::56::57::58::59::60::61::62::63::64::65::66::67::68::69::70::71::72::73::74::75::76::77::78::79::80::81::82::83::84::85::86::87::88::89::[]) (fun i=>[(3,.int .i64 (i:Nat))]) (fun i w'=>i≤L.length∧Blk w' b1 25 #[.slice A fs.length ca,.slice B L.length cb]∧ak w w') (fun i=>L.length-i) (0) ⟨rfl,trivial⟩ ?_ ?_)))))))))
 ·exact ⟨Nat.zero_le _,hk1.from_ ak.rfl_,((ak.rfl_.next E1).next E11)⟩
 rintro i ρ4 w4 ⟨hi,hP,hB⟩;refine ai (ai (ag (mvi rfl (aa (aj bj rfl) (aa (ar bB rfl (by exact (hP.from_ ak.rfl_).rd 1 rfl)) ?_)))));refine aa (aX dy rfl) (aa (bG rfl rfl) (mvb rfl (mj (t:=17) rfl (fun Q5=>?_) (fun Q5=>?_))))
 ·refine ab rfl (mvi rfl (ab rfl (aa (bG rfl rfl) (aa (ax (v:=.bool _) rfl rfl) (ah (ae (mC rfl (fun Q6=>?_) (fun Q6=>?_))))))))
  ·have hil:i<L.length:=by omega
   obtain ⟨bL,oL,rfl,hcL⟩:=ha.rowL (by omega);have hce:=hcL i hil;have hok:=ha.okL _ (List.getElem_mem hil);refine aD (ae (ai (a7 (ai (ag (aa (aj bj rfl) (aa (ar bB rfl (by exact (hP.from_ ak.rfl_).rd 1 rfl)) ?_)))))));refine mvi rfl (aa (aJ cE rfl rfl (by omega)) (aa (aj gK rfl) (aa (ar bl rfl (by exact cg hB (hce 1 _ rfl))) ?_)));refine asg rfl (ah (ae (ai (ag ?_))));obtain ⟨N,hN⟩:∃ N,N=(w4).heap.size:=⟨_,rfl⟩;have hNw:w.heap.size≤N:=by rw [hN];exact (hB).size
   have hP30:=hP.from_ (ak.rfl_);have hNb:b1<N:=by rw [hN];exact hP30.lt
   refine aG ei (gm _) ?_;rintro v30 w7 ⟨⟨d,rfl,hd30⟩,E30⟩;rw [←hN] at hd30;have hz30:N≤(w7).heap.size:=by rw [hN];exact E30.size
   replace hP:=hP30.from_ E30;refine mvt rfl (aa (aI rfl rfl) (aa (aI rfl rfl) (asp rfl (asi rfl (ah (ae (ai (ag (mvg rfl (aa (cM (l:=[(0,.tmp 34)]) (gL _)) (j6 jd rfl rfl rfl ?_)))))))))));intro b36 w8 E36 hb36 hk36;refine aG ei (jJ _ hok.a hk36) ?_;rintro v37 w9 ⟨hn37,E37⟩;rcases hn37 with ⟨hnm,x,rfl⟩ | ⟨hnm,rfl⟩
   ·refine mvt rfl (aa (aI rfl rfl) (aa (aI rfl rfl) (asp rfl (asi rfl (ah (ae (ai (ai (ag (mvi rfl (aG bm (cl _ _) ?_)))))))))));rintro v41 w10 ⟨rfl,rfl⟩;refine aa (cG (bD rfl rfl) (bne_self_eq_false _)) (mvb rfl (ab rfl (mvp rfl (ab rfl (aa (cG (eF (by kernel_rfl) rfl rfl) rfl) (aa (aq (v:=.bool _) rfl rfl) (ah (ae (bA rfl ?_)))))))));refine aD (ae (ai (ag (mvg rfl (aG fO (fx L[i].A _ hok.a) ?_)))));rintro v48 w11 ⟨rfl,E48⟩;rw [hnm];refine asb rfl (ah (ae (ai (ag (mvb rfl (mvi rfl (aG bm (cl _ _) ?_)))))));rintro v51 w12 ⟨rfl,rfl⟩;refine aa (bO rfl rfl) (aa (dD (by kernel_rfl) rfl rfl) (mvb rfl (aw (t:=54) rfl (fun Q13=>?_) (fun Q13=>?_))))
    ·with_reducible (replace Q13:=c1 Q13;replace Q13:=dF_ Q13)
     exfalso;contradiction
    with_reducible (replace Q13:=c3 Q13;replace Q13:=dT_ Q13)
    refine ab rfl (mvb rfl (ab rfl (mvp rfl (ab rfl (aa (ga fN rfl rfl) (ab rfl (aa (dD (by kernel_rfl) rfl rfl) (aa (aq (v:=.bool _) rfl rfl) ?_))))))));refine mvb rfl (aw (t:=60) rfl (fun Q14=>?_) (fun Q14=>?_))
    ·with_reducible (replace Q14:=c1 Q14;replace Q14:=dF_ Q14)
     exfalso;contradiction
    with_reducible (replace Q14:=c3 Q14;replace Q14:=dT_ Q14)
    refine ab rfl (mvb rfl (ab rfl (mvp rfl (ab rfl (mvg rfl (ab rfl ?_))))));have hP64:=hP.from_ ((((ak.rfl_.next E36).next E37).next E48));have hz64:N≤(w11).heap.size:=Nat.le_trans hz30 ((((ak.rfl_.next E36).next E37).next E48)).size;refine aG dz (eO _ d [] 0 false _ (hd30.from_ (((ak.rfl_.next E36).next E37).next E48)) L[i].A hok.a none 0 0 [] (RB.nil_ _) rfl (by decide) (fun q hq=>by cases hq)) ?_;rintro v64 w15 ⟨rfl,hd64,hC64⟩;replace hP:=hP64.chg hC64 (fun h=>by have h3:N≤b1:=h.1;omega);have hU64:=kG hd64 (fun k hk=>hk.1) hz64
    first | rw [mc hnm] | rw [mE hnm]
    refine ab rfl (aG bm (cl _ _) ?_);rintro v65 w16 ⟨rfl,rfl⟩;refine ab rfl (aa (bO rfl rfl) (ab rfl (aa (dD (by kernel_rfl) rfl rfl) (aa (aq (v:=.bool _) rfl rfl) (mvb rfl (aw (t:=69) rfl (fun Q17=>?_) (fun Q17=>?_)))))))
    ·with_reducible (replace Q17:=c1 Q17;replace Q17:=dF_ Q17)
     exfalso;contradiction
    with_reducible (replace Q17:=c3 Q17;replace Q17:=dT_ Q17)
    refine ab rfl (mvb rfl (ab rfl (aa (bg rfl) (ab rfl (mvb rfl (mh (t:=72) rfl (fun Q18=>?_) (fun Q18=>?_)))))))
    ·exfalso;contradiction
    refine ao rfl rfl (ao rfl rfl (ao rfl rfl (ao rfl rfl (ao rfl rfl (ab rfl (aa (aq (v:=.bool _) rfl rfl) (aa (aq (v:=.bool _) rfl rfl) (mvb rfl ?_))))))));refine ab rfl (mvb rfl (ab rfl (mvb rfl (aw (t:=82) rfl (fun Q26=>?_) (fun Q26=>?_)))));rotate_left
    ·exfalso;contradiction
    refine ab rfl (mvp rfl (ab rfl (mvg rfl (ab rfl ?_))));have hP85:=hP.from_ (ak.rfl_);refine aG fQ (jh _ d _ _ _ _ (hd64.from_ ak.rfl_) L[i].A hok.a) ?_;rintro v85 w27 ⟨rfl,hd85,hC85⟩;replace hP:=hP85.chg hC85 (fun h=>by have h3:=hU64 _ h;omega);rw [mK hnm];refine ab rfl (aG bm (cl _ _) ?_);rintro v86 w28 ⟨rfl,rfl⟩;refine ab rfl (aa (bD rfl rfl) (ab rfl (aa (ax (v:=.bool _) rfl rfl) (aa (aq (v:=.bool _) rfl rfl) (ah (ae (mz rfl (fun Q29=>?_) (fun Q29=>?_))))))))
    ·exfalso;omega
    refine aD (bk (ae (ag (mvi rfl (aa (aW (b:=1) rfl rfl (by omega)) (asi rfl (ah ?_)))))));refine bo (i+1) ⟨(by first | rfl | (refine bw ?_;omega)),trivial⟩ (by (iterate 177 refine aR rfl ?_);exact aZ) ⟨?_,?_⟩
    ·exact ⟨by omega,hP.from_ ak.rfl_,((((((((hB.next E30).next E36).next E37).next E48)).chg hC64 (fun k hk=>Nat.le_trans hNw hk.1))).chg hC85 (fun k hk=>Nat.le_trans hNw (hU64 k hk)))⟩
    ·show L.length-(i+1)<L.length-i;omega
   refine mvt rfl (aa (aI rfl rfl) (aa (aI rfl rfl) (asp rfl (asi rfl (ah (ae (ai (ai (ag (mvi rfl (aG bm (cl _ _) ?_)))))))))));rintro v41 w30 ⟨rfl,rfl⟩;refine aa (cG (bD rfl rfl) (bne_self_eq_false _)) (mvb rfl (ab rfl (mvp rfl (ab rfl (aa (cG (eF (by kernel_rfl) rfl rfl) rfl) (aa (aq (v:=.bool _) rfl rfl) (ah (ae (bA rfl ?_)))))))));refine aD (ae (ai (ag (mvg rfl (aG fO (fx L[i].A _ hok.a) ?_)))));rintro v48 w31 ⟨rfl,E48⟩;rw [hnm];refine asb rfl (ah (ae (ai (ag (mvb rfl (mvi rfl (aG bm (cl _ _) ?_)))))));rintro v51 w32 ⟨rfl,rfl⟩;refine aa (bO rfl rfl) (aa (dD (by kernel_rfl) rfl rfl) (mvb rfl (aw (t:=54) rfl (fun Q33=>?_) (fun Q33=>?_))))
   ·with_reducible (replace Q33:=c1 Q33;replace Q33:=dF_ Q33)
    exfalso;contradiction
   with_reducible (replace Q33:=c3 Q33;replace Q33:=dT_ Q33)
   refine ab rfl (mvb rfl (ab rfl (mvp rfl (ab rfl (aa (ga fN rfl rfl) (ab rfl (aa (dD (by kernel_rfl) rfl rfl) (aa (aq (v:=.bool _) rfl rfl) ?_))))))));refine mvb rfl (aw (t:=60) rfl (fun Q34=>?_) (fun Q34=>?_))
   ·with_reducible (replace Q34:=c1 Q34;replace Q34:=dF_ Q34)
    exfalso;contradiction
   with_reducible (replace Q34:=c3 Q34;replace Q34:=dT_ Q34)
   refine ab rfl (mvb rfl (ab rfl (mvp rfl (ab rfl (mvg rfl (ab rfl ?_))))));have hP64:=hP.from_ ((((ak.rfl_.next E36).next E37).next E48));have hz64:N≤(w31).heap.size:=Nat.le_trans hz30 ((((ak.rfl_.next E36).next E37).next E48)).size;refine aG dz (eO _ d [] 0 false _ (hd30.from_ (((ak.rfl_.next E36).next E37).next E48)) L[i].A hok.a none 0 0 [] (RB.nil_ _) rfl (by decide) (fun q hq=>by cases hq)) ?_;rintro v64 w35 ⟨rfl,hd64,hC64⟩;replace hP:=hP64.chg hC64 (fun h=>by have h3:N≤b1:=h.1;omega);have hU64:=kG hd64 (fun k hk=>hk.1) hz64
   first | rw [mc hnm] | rw [mE hnm]
   refine ab rfl (aG bm (cl _ _) ?_);rintro v65 w36 ⟨rfl,rfl⟩;refine ab rfl (aa (bO rfl rfl) (ab rfl (aa (dD (by kernel_rfl) rfl rfl) (aa (aq (v:=.bool _) rfl rfl) (mvb rfl (aw (t:=69) rfl (fun Q37=>?_) (fun Q37=>?_)))))))
   ·with_reducible (replace Q37:=c1 Q37;replace Q37:=dF_ Q37)
    exfalso;contradiction
   with_reducible (replace Q37:=c3 Q37;replace Q37:=dT_ Q37)
   refine ab rfl (mvb rfl (ab rfl (aa (bg rfl) (ab rfl (mvb rfl (mh (t:=72) rfl (fun Q38=>?_) (fun Q38=>?_)))))));rotate_left
   ·exfalso;contradiction
   refine ab rfl (mvp rfl (ab rfl (mvg rfl (ab rfl ?_))));have hP75:=hP.from_ (ak.rfl_);refine aG fQ (jh _ d _ _ _ _ (hd64.from_ ak.rfl_) L[i].A hok.a) ?_;rintro v75 w43 ⟨rfl,hd75,hC75⟩;replace hP:=hP75.chg hC75 (fun h=>by have h3:=hU64 _ h;omega);rw [mL hnm];refine ab rfl (aG bm (cl _ _) ?_);rintro v76 w44 ⟨rfl,rfl⟩;refine ab rfl (aa (bD rfl rfl) (ab rfl (aa (ax (v:=.bool _) rfl rfl) (aa (aq (v:=.bool _) rfl rfl) (mvb rfl (mg (t:=80) rfl (fun Q45=>?_) (fun Q45=>?_)))))))
   ·exfalso;omega
   refine ab rfl (mvb rfl (ab rfl (mvb rfl (aw (t:=82) rfl (fun Q46=>?_) (fun Q46=>?_)))))
   ·exfalso;contradiction
   refine ao rfl rfl (ao rfl rfl (ao rfl rfl (ao rfl rfl (ao rfl rfl (ab rfl (aa (aq (v:=.bool _) rfl rfl) (aa (aq (v:=.bool _) rfl rfl) (ah (ae ?_)))))))));refine bA rfl (aD (bk (ae (ag (mvi rfl (aa (aW (b:=1) rfl rfl (by omega)) (asi rfl (ah ?_))))))));refine bo (i+1) ⟨(by first | rfl | (refine bw ?_;omega)),trivial⟩ (by (iterate 178 refine aR rfl ?_);exact aZ) ⟨?_,?_⟩
   ·exact ⟨by omega,hP.from_ ak.rfl_,((((((((hB.next E30).next E36).next E37).next E48)).chg hC64 (fun k hk=>Nat.le_trans hNw hk.1))).chg hC75 (fun k hk=>Nat.le_trans hNw (hU64 k hk)))⟩
   ·show L.length-(i+1)<L.length-i;omega
  refine bY (aS (aS (bx (ae (ai (ag (aG fP (gP _) ?_)))))));rintro v90 w50 ⟨rfl,E90⟩;refine asb rfl (ah (ae (aA (a_ (v:=.bool _) rfl rfl (⟨rfl,(hB.next E90)⟩)))))
 refine ao rfl rfl (ao rfl rfl (aa (aq (v:=.bool _) rfl rfl) (ah (ae (bA rfl (bY (aS (aS (bx (ae (ai (ag (aG fP (gP _) ?_)))))))))))));rintro v90 w51 ⟨rfl,E90⟩;refine asb rfl (ah (ae (aA (a_ (v:=.bool _) rfl rfl (⟨rfl,(hB.next E90)⟩)))))
theorem fW (cs:Array Value) (x:k6.den) (w:World) (hs:cs.size=2) (h:k6.At w (fun j=>cs[j]?) x):Rt prog 4 [.agg cs] w fun v w'=>v=.bool true∧ak w w':=by
 obtain ⟨A,B,ca,cb,fs,L,rfl,ha⟩:=kN hs h;exact fV A B ca cb fs L w ha
theorem eS (os:Os) (started:os.Started) (H:Type) (enc:TypeId×Value→H) :
 ReturnsInHanded {} Try.checked os 4 .any (Rows.diskNamesSpec.pre6 enc prog Try.f4 Rows.diskNamesRow.domain false) (Rows.diskNamesSpec.post enc prog Try.f4 false true false false):=by
 refine returnsInHanded_of_change_sized (C:=Try.checked) Try.own started (by kernel_rfl) Try.func4
  (ChangeSpec.witness6 (enc:=enc) (C:=Try.checked) false ⟨#[],#[.agg #[.slice none 0 0,.slice none 0 0]],[]⟩ 8 (by kernel_rfl) (by kernel_rfl) (by kernel_rfl) (by kernel_rfl)) ?_
 intro W base args ds gs before hval hW _ hsz _;exact kv 4 Try.f4 25 4 Rows.diskNamesSpec Try.params4 (by kernel_rfl) Try.underlying4 rfl (fun _=>rfl) (by kernel_rfl) (dT_ (by kernel_rfl)) (gO (.sl jr) (.pr (.sl lK) .unit) (by kernel_rfl) fW) W base args ds gs before hval hW hsz
theorem DiskNames_holds:Rows.DiskNamesSaid:=
 OpenClaim.holds_of_wide 4 Try.f4 rfl rfl rfl rfl rfl rfl rfl ⟨rfl,rfl,rfl,rfl,rfl⟩ rfl rfl rfl rfl rfl (by kernel_rfl) Try.func4 (by kernel_rfl)
  (dT_ (by kernel_rfl)) (by unfold Func.isWrapper;first | (rw [if_pos (by decide+kernel)];kernel_rfl) | (rw [if_neg (by decide+kernel)];exact ⟨rfl,rfl⟩))
  (fun os started H enc _=>eS os started H enc)
end Go.Proofs.Ytmbcbinocebodaa
