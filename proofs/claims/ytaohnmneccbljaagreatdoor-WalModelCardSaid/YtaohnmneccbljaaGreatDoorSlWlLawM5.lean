/- texts that the claim stands on. -/
import Derived.Test.YtaohnmneccbljaaGreatDoorSlWlLawM4
import Derived.Handy
set_option maxRecDepth 100000
set_option maxHeartbeats 4000000
namespace Go.Proofs.YtaohnmneccbljaaGreatDoor
open Go.Proofs.Tryz (prog)
open Go.RowKit
open Go.ChangeShapes Go.WideShapes Go.ChangeAt
open Go.Lib
theorem sk:aH prog 49=true:=by kernel_rfl
theorem sj:aH prog 50=true:=by kernel_rfl
theorem eh:ch prog 59 3=some 3:=by kernel_rfl
theorem ef:ch prog 59 4=some 4:=by kernel_rfl
theorem zo {D:List Fe} {e:Fe} (h:D=[e]):((if false=true then [] else D).map (·.1))=[e.1]:=by rw [h];rfl
theorem xk (U:Nat→Prop) (D:List Fe) (d p rb wb g0 su0:Nat) (la0 sz0 to0:Int) (ok:Bool) (w:World) (hd:cP w U d D 0 false) (hP:Blk w p 62 (wlV (some ⟨d,0,none⟩) g0 la0 sz0 to0 su0 0 0 none 0 0 ok).toArray) (M:Lg) (recs:List Rc) (g:Nat) (y:List Nat) (hg:g<100) (hD:D=[(aX g 0,(ax (sG g) recs).1,y)]) (hR:Blk w rb 36 (lgV 0 0 none 0 0).toArray) (hW:Blk w wb 29 #[.pointer (some ⟨p,0,none⟩)]) (hk:∀ r∈recs,r.Ok) (hfin:iN recs recs.length) (hap:cI lg0 recs M) (hT:cO w) (hTr:TB≠rb) (hTp:TB≠p) (hUp:¬ U p) (hUr:¬ U rb) :
 Rt prog 24 [.pointer (some ⟨p,0,none⟩),.func (.func 25) #[] #[.pointer (some ⟨rb,0,none⟩),.pointer (some ⟨wb,0,none⟩)]] w (fun v w'=>v=.int .i64 0∧(∃ E n c,Blk w' p 62 (wlV (some ⟨d,0,none⟩) g 0 ((ax (sG g) recs).1.length:Nat) ((ax (sG g) recs).1.length:Nat) (ax (sG g) recs).2.toNat M.b M.t E n c ok).toArray∧dp w' w.heap.size E n c M.es)∧Chg (fun k=>k=rb∨k=p) w w'):=by
 have hRp:=gn hR hP (by decide);have hWp:=gn hW hP (by decide);have hRw:=gn hR hW (by decide);have hRlt:=hR.lt;have hPlt:=hP.lt;have hok:=i_ hg;have hns:=lY hg;obtain ⟨hre,hrv⟩:=AS hD hok;have hxl:(ax (sG g) recs).1.length≤1048576:=(hd.ok.2.2 _ (by rw [hD];exact List.mem_singleton.2 rfl)).1;have hsg:=wV hg;refine enter (n:=94) Tryz.func24 rfl rfl rfl (af (ab (asi rfl (ah (ae (af (ab (mvp rfl (aa (au rfl) (aa (ai cz rfl) (aa (ao cW rfl (by exact (hP.from_ ag.rfl_).rd 0 rfl)) ?_)))))))))));refine av jS (qo U d D 0 false _ (hd.from_ ag.rfl_)) ?_;rintro v14 w1 ⟨⟨A14,c14,n14,rfl,hn14,ho14⟩,E14⟩;have hN:=kE (D:=if false=true then [] else D) ho14;have hL1:((if false=true then [] else D).map (·.1))=[aX g 0]:=zo hD;have ho14x:=cJ.of_own ho14;refine mvt rfl (aa (ar rfl rfl) (aa (ar rfl rfl) (ass rfl (asi rfl (ah (ae (af (af (ab (mvi rfl (aa (bh (cv rfl rfl) rfl) (ah (ae ?_)))))))))))));refine aI rfl (aE (ae (af ?_)));apply lA 9 [(20,eqp _),(21,eqp _),(22,eqp _),(23,eqp _),(24,eqp _),(25,eqp _),(26,eqp _),(27,eqp _),(28,eqp _)] (by kernel_rfl) (by kernel_rfl) ⟨aj _,aj _,aj _,aj _,aj _,aj _,aj _,aj _,aj _,trivial⟩
 case hop=>
  constructor
  ·intro w3 D3;exact an (aB (v:=.pointer _) rfl) rfl
  constructor
  ·intro w4 D4;exact an (aB (v:=.pointer _) rfl) rfl
  constructor
  ·intro w5 D5;rintro _ rfl;exact an (au rfl) rfl
  constructor
  ·intro w6 D6;rintro _ rfl;exact an (ai cz rfl) rfl
  constructor
  ·intro w7 D7;rintro _ rfl;exact an (ao cW rfl (by exact (hP.from_ ((ag.rfl_.next E14).next D7)).rd 0 rfl)) rfl
  constructor
  ·intro w8 D8;exact an (aB (v:=.slice _ _ _) rfl) rfl
  constructor
  ·intro w9 D9;rintro _ rfl;refine cX oy ((uW A14 c14 n14 g _ _ hg hL1 (hN.2.from_ (ag.rfl_.next D9)) hN.1).mono ?_);rintro v _ ⟨rfl,E9'⟩;exact ⟨E9',rfl⟩
  constructor
  ·intro w10 D10;rintro _ rfl _ rfl;refine cX jo ((ir (some ⟨d,0,none⟩) g _ hg).mono ?_);rintro v _ ⟨rfl,E10'⟩;exact ⟨E10',rfl⟩
  constructor
  ·intro w11 D11;rintro _ rfl;exact an (au rfl) rfl
  exact trivial
 case hend=>
  intro w12 D12;rintro _ rfl _ rfl _ rfl _ rfl _ rfl _ rfl _ rfl _ rfl _ rfl;show St ..;have hM4:ag _ w12:=(ag.rfl_.next D12);refine ik (vs:=wfV (some ⟨d,0,none⟩) g (-1) 0 0 g) (i:=0) (cs:=wlV (some ⟨d,0,none⟩) g0 la0 sz0 to0 su0 0 0 none 0 0 ok) gY rfl rfl (by simp [wfV,Value.oneCell']) (hP.from_ ((ag.rfl_.next E14).next D12)) (by show 0+6≤10;decide) ?_;intro w13 O4 P4;have hFp4:ag w _:=((ag.rfl_.next E14).next D12);have P4b:Blk w13 p 62 (wlV (some ⟨d,0,none⟩) g (-1) 0 0 g 0 0 none 0 0 ok).toArray:=P4;have hC4:Chg (fun k=>k=p) w w13:=hFp4.toChg.next (O4.toChg rfl)
  have hne4:∀ q,A14.map (·.block)=some q→q≠p∧q≠rb:=fun q hq=>by
   have:=(ho14x.at_ q hq).1;omega
  have ho4:=eX (ho14.kept_from hM4) (O4.toChg (U:=fun k=>k=p) rfl) (fun q hq=>(hne4 q hq).1);have hR4:=(hR.from_ hFp4).only O4 hRp;have hW4:=(hW.from_ hFp4).only O4 hWp;have hd4:=(hd.from_ hFp4).chg (O4.toChg (U:=fun k=>k=p) rfl) (fun k hk e=>hUp (by rw [←show k=p from e];exact hk));have hT4:=hT.chg hC4 hTp;refine ah (ae (af (aP (cH (G:=Nat) (4::7::8::29::30::31::32::33::34::35::36::37::38::39::40::41::42::43::44::45::46::47::48::49::50::51::52::53::54::55::56::57::58::59::60::61::62::63::64::65::66::67::68::69::70::71::72::73::74::75::76::77::78::79::80::81::82::83::84::85::86::87::88::89::90::[]) (fun _=>[(6,.int .i64 0)]) (fun q w'=>q≤1∧Blk w' wb 29 #[.pointer (some ⟨p,0,none⟩)]∧Chg (fun k=>k=rb∨k=p) w13 w'∧(q=0→Blk w' p 62 (wlV (some ⟨d,0,none⟩) g (-1) 0 0 g 0 0 none 0 0 ok).toArray∧Blk w' rb 36 (lgV 0 0 none 0 0).toArray)∧(q=1→∃ E n c,Blk w' p 62 (wlV (some ⟨d,0,none⟩) g 0 ((ax (sG g) recs).1.length:Nat) ((ax (sG g) recs).1.length:Nat) (ax (sG g) recs).2.toNat M.b M.t E n c ok).toArray∧dp w' w.heap.size E n c M.es)∧∃ cs,Blk w' p 62 (.pointer (some ⟨d,0,none⟩)::.int .i64 ((g:Nat):Int)::.int .i64 ((q:Int)-1)::cs).toArray) (fun q=>1-q) (0) ⟨rfl,trivial⟩ ?_ ?_))))
  ·exact ⟨Nat.zero_le _,hW4.from_ ag.rfl_,(ag.rfl_).toChg,fun _=>⟨P4b.from_ ag.rfl_,hR4.from_ ag.rfl_⟩,fun h=>absurd h (by decide),_,P4b.from_ ag.rfl_⟩
  rintro q ρ14 w14 ⟨hq1,hWq,hCq,hq0,hq1b,csq,hPq⟩;have hB0:=ag.rfl_ (a:=w14);have hZq:=hCq.size;have hoq:=eX ho4 hCq (fun q hq e=>by rcases e with e | e;exact (hne4 q hq).2 e;exact (hne4 q hq).1 e);have hNq:=(kE (D:=if false=true then [] else D) hoq).2;have hdq:=hd4.chg hCq (fun k hk e=>by rcases e with e | e;exact hUr (by rw [←e];exact hk);exact hUp (by rw [←e];exact hk));have hTq:=hT4.chg hCq (fun e=>by rcases e with e | e;exact hTr e;exact hTp e);refine af (af (ab (mvs rfl (mvp rfl (mvp rfl (aa (au rfl) (aa (ai bR rfl) (aa (ao aD rfl (by exact (hPq.from_ hB0).rd 2 rfl)) ?_))))))));refine aa (bH (br rfl rfl (by omega)) (congrArg (Value.int .i64) (show (q:Int)-1+1=((q:Nat):Int) by omega))) ?_;refine av eN (er 62 p g q _ _ _ (hPq.from_ hB0) hg (by omega)) ?_;rintro v36 w15 ⟨rfl,E36⟩;refine av ox (tz A14 c14 n14 g q _ _ hL1 (hNq.from_ (hB0.next E36)) hN.1 hg hq1) ?_;rintro v37 w16 ⟨rfl,rfl⟩;refine ah (ae (BM rfl (fun Q17=>?_) (fun Q17=>?_)))
  ·obtain rfl:q=0:=by simpa using Q17
   obtain ⟨hP0,hR0⟩:=hq0 rfl;have hs37:=((hB0.next E36)).size;refine aE (ae (aP (af ?_)));apply bO 17 [(39,eqp _),(40,eqp _),(41,eqp _),(42,eqp _),(43,eqp _),(44,eqp _),(45,eqp _),(46,eqp _),(47,eqp _),(48,eqp _),(49,eqp _),(50,fun v w'=>∃ A' c',v=.tuple #[.slice A' (ax (sG g) recs).1.length c',.int .i64 0]∧w'.ownsRow (w15).heap.size 5 1 (.slice A' (ax (sG g) recs).1.length c') (ax (sG g) recs).1.length (aK (ax (sG g) recs).1)),(38,fun v w'=>∃ A' c',v=.tuple #[.slice A' (ax (sG g) recs).1.length c',.int .i64 0]∧w'.ownsRow (w15).heap.size 5 1 (.slice A' (ax (sG g) recs).1.length c') (ax (sG g) recs).1.length (aK (ax (sG g) recs).1)),(51,fun v w'=>∃ A' c',v=.slice A' (ax (sG g) recs).1.length c'∧w'.ownsRow (w15).heap.size 5 1 (.slice A' (ax (sG g) recs).1.length c') (ax (sG g) recs).1.length (aK (ax (sG g) recs).1)),(52,eqp _),(7,fun v w'=>∃ A' c',v=.slice A' (ax (sG g) recs).1.length c'∧w'.ownsRow (w15).heap.size 5 1 (.slice A' (ax (sG g) recs).1.length c') (ax (sG g) recs).1.length (aK (ax (sG g) recs).1)),(8,eqp _)] (by repeat first | exact cr | refine cq ?_ | refine bU ?_) (by kernel_rfl) (by kernel_rfl) ⟨aj _,aj _,aj _,aj _,aj _,aj _,aj _,aj _,aj _,aj _,aj _,(fun _ _ _ hF ⟨a,b,h1,h2⟩=>⟨a,b,h1,h2.kept_from hF⟩),(fun _ _ _ hF ⟨a,b,h1,h2⟩=>⟨a,b,h1,h2.kept_from hF⟩),(fun _ _ _ hF ⟨a,b,h1,h2⟩=>⟨a,b,h1,h2.kept_from hF⟩),aj _,(fun _ _ _ hF ⟨a,b,h1,h2⟩=>⟨a,b,h1,h2.kept_from hF⟩),aj _,trivial⟩
   case hop=>
    constructor
    ·rintro-w19 D19;exact an (aB (v:=.pointer _) rfl) rfl
    constructor
    ·rintro-w20 D20;rintro _ rfl;exact an (au rfl) rfl
    constructor
    ·rintro-w21 D21;rintro _ rfl;exact an (ai cz rfl) rfl
    constructor
    ·rintro-w22 D22;rintro _ rfl;exact an (ao cW rfl (by exact (hP0.from_ ((hB0.next E36).next D22)).rd 0 rfl)) rfl
    constructor
    ·rintro-w23 D23;exact an (aB (v:=.pointer _) rfl) rfl
    constructor
    ·rintro-w24 D24;exact an (aB (v:=.pointer _) rfl) rfl
    constructor
    ·rintro-w25 D25;rintro _ rfl;exact an (au rfl) rfl
    constructor
    ·rintro-w26 D26;rintro _ rfl;exact an (ai bR rfl) rfl
    constructor
    ·rintro-w27 D27;rintro _ rfl;exact an (ao aD rfl (by exact (hP0.from_ ((hB0.next E36).next D27)).rd 2 rfl)) rfl
    constructor
    ·rintro-w28 D28;rintro _ rfl;exact an (bH (br rfl rfl (by decide)) (congrArg (Value.int .i64) (show (-1:Int)+1=((0:Nat):Int) by omega))) rfl
    constructor
    ·rintro-w29 D29;rintro _ rfl _ rfl;refine cX eN ((er 62 p g 0 _ _ _ (hP0.from_ ((hB0.next E36).next D29)) hg (by decide)).mono ?_);rintro v _ ⟨rfl,E29'⟩;exact ⟨E29',rfl⟩
    constructor
    ·rintro-w30 D30;rintro _ rfl _ rfl;refine cX sk ((zg U d D 0 false _ (hdq.from_ ((hB0.next E36).next D30)) (aX g 0) (by omega)).mono ?_);rw [hrv,hre];rintro v _ ⟨⟨a,b,rfl,h⟩,hF⟩;exact ⟨hF,a,b,rfl,dI h D30.size⟩
    constructor
    ·rintro-w31 D31;rintro v31_50 ⟨A31,c31,rfl,ho31⟩;exact an (aB (v:=.tuple #[_,_]) rfl) ⟨_,_,rfl,ho31⟩
    constructor
    ·rintro-w32 D32;rintro v32_38 ⟨A32,c32,rfl,ho32⟩;exact an (ar rfl rfl) ⟨_,_,rfl,ho32⟩
    constructor
    ·rintro-w33 D33;rintro v33_38 ⟨A33,c33,rfl,ho33⟩;exact an (ar rfl rfl) rfl
    constructor
    ·rintro-w34 D34;rintro v34_51 ⟨A34,c34,rfl,ho34⟩;exact an (bn (v:=.slice _ _ _) rfl) ⟨_,_,rfl,ho34⟩
    constructor
    ·rintro-w35 D35;rintro _ rfl;exact an (bn (v:=.int _ _) rfl) rfl
    exact trivial
   case hend=>
    intro w36 D36;rintro _ rfl _ rfl _ rfl _ rfl _ rfl _ rfl _ rfl _ rfl _ rfl _ rfl _ rfl v50 ⟨A36,c36,rfl,ho36⟩ v38 ⟨A36,c36,rfl,ho36⟩ v51 ⟨A36,c36,rfl,ho36⟩ _ rfl v7 ⟨A50,c50,rfl,ho50⟩ _ rfl;show St ..;have hB6:ag _ w36:=((hB0.next E36).next D36);have hx50:=cJ.of_own ho50
    have hA50:∀ q,A50.map (·.block)=some q→q<(w36).heap.size∧q≠rb∧q≠p:=fun q hq=>by
     have h1:=hx50.at_ q hq;have h2:=hR0.lt;have h3:=hP0.lt;exact ⟨h1.2,by omega,by omega⟩
    have hr50:=(RB.own ho50 (lz _ _)).2;refine ah (ae (af (af (ab (mvi rfl (aa (bh (cv rfl rfl) rfl) (ah (ae (aI rfl (aE (ae (af (ab (mvp rfl (aa (au rfl) (aa (ai bR rfl) ?_))))))))))))))));refine aa (ao aD rfl (by exact (hP0.from_ ((hB0.next E36).next D36)).rd 2 rfl)) ?_;refine aa (bH (br rfl rfl (by decide)) (congrArg (Value.int .i64) (show (-1:Int)+1=(0:Int) by omega))) ?_;refine aa (au rfl) (aa (ai bR rfl) ?_);have hB9:ag _ w36:=((hB0.next E36).next D36);have hM69:=ag.rfl_ (a:=w36);refine cT (v:=.int _ _) en rfl rfl rfl ((hP0.from_ ((hB0.next E36).next D36))) (by show 0+2<10;decide) ?_;intro w37 O9 P9;have hM9:=hB9;have P9b:Blk w37 p 62 (wlV (some ⟨d,0,none⟩) g 0 0 0 g 0 0 none 0 0 ok).toArray:=P9;have hC9:=(hCq.next hB9.toChg).next (O9.toChg (.inr rfl));have hR9:=(hR0.from_ hB9).only O9 hRp;have hW9:=(hWq.from_ hB9).only O9 hWp;have hr9:=(hr50.from_ hM69).chg (O9.toChg (U:=fun k=>k=p) rfl) (fun q hq e=>(hA50 q hq).2.2 e);have hT9:=(hTq.from_ hB9).chg (O9.toChg (U:=fun k=>k=p) rfl) hTp;have hA9:∀ q,A50.map (·.block)=some q→q<(w37).heap.size∧q≠rb∧q≠p:=fun q hq=>⟨by rw [O9.size];exact Nat.lt_of_lt_of_le (hA50 q hq).1 hM69.size,(hA50 q hq).2⟩
    refine ah (ae (af (ab (mvp rfl (mvp rfl (mvs rfl (aa (aB (v:=.func _ _ _) rfl) ?_)))))));have hM67:ag _ w37:=ag.rfl_;have hz67:=hM67.size;refine av sj (vb M recs (sG g) rb wb p A50 c50 (ax (sG g) recs).1.length (some ⟨d,0,none⟩) g 0 0 0 ok _ (hR9.from_ ag.rfl_) (hW9.from_ ag.rfl_) (by rw [hsg];exact P9b.from_ ag.rfl_) (hr9.from_ ag.rfl_) rfl (by omega) hk hfin hap (hT9.from_ ag.rfl_) hTr hTp (fun q hq=>⟨Nat.lt_of_lt_of_le (hA9 q hq).1 (ag.rfl_).size,(hA9 q hq).2⟩)) ?_;rintro v67 w38 ⟨rfl,⟨E7,n7,c7,hP67,ho67⟩,hC67⟩;have hC10:=(hC9.next hM67.toChg).next hC67;have hW10:=(hW9.from_ hM67).chg hC67 (fun e=>by rcases e with e | e;exact hRw e.symm;exact hWp e);refine aa (au rfl) (aa (ai eh rfl) ?_);have hM10:ag _ w38:=ag.rfl_;refine cT (v:=.int _ _) en rfl rfl rfl ((hP67.from_ ag.rfl_)) (by show 0+3<10;decide) ?_;intro w39 O10 P10;have P10b:Blk w39 p 62 (wlV (some ⟨d,0,none⟩) g 0 ((ax (sG g) recs).1.length:Nat) 0 (ax (sG g) recs).2.toNat M.b M.t E7 n7 c7 ok).toArray:=P10;have hC10b:=(hC10.next hM10.toChg).next (O10.toChg (.inr rfl));have ho10:=(ho67.from_ hM10).only O10 (hP67.from_ hM10) (by decide);have hW10b:=(hW10.from_ hM10).only O10 hWp;refine ah (ae (af ?_));apply bO 11 [(70,eqp _),(71,eqp _),(72,eqp _),(73,eqp _),(74,eqp _),(75,eqp _),(76,eqp _),(77,eqp _),(78,eqp _),(79,eqp _),(80,eqp _)] (by repeat first | exact cr | refine cq ?_ | refine bU ?_) (by kernel_rfl) (by kernel_rfl) ⟨aj _,aj _,aj _,aj _,aj _,aj _,aj _,aj _,aj _,aj _,aj _,trivial⟩
    case hop=>
     constructor
     ·rintro-w41 D41;exact an (aB (v:=.pointer _) rfl) rfl
     constructor
     ·rintro-w42 D42;rintro _ rfl;exact an (au rfl) rfl
     constructor
     ·rintro-w43 D43;rintro _ rfl;exact an (ai ef rfl) rfl
     constructor
     ·rintro-w44 D44;rintro _ rfl;exact an (ao aD rfl (by exact (P10b.from_ (ag.rfl_.next D44)).rd 4 rfl)) rfl
     constructor
     ·rintro-w45 D45;exact an (aB (v:=.pointer _) rfl) rfl
     constructor
     ·rintro-w46 D46;rintro _ rfl;exact an (au rfl) rfl
     constructor
     ·rintro-w47 D47;rintro _ rfl;exact an (ai eh rfl) rfl
     constructor
     ·rintro-w48 D48;rintro _ rfl;exact an (ao aD rfl (by exact (P10b.from_ (ag.rfl_.next D48)).rd 3 rfl)) rfl
     constructor
     ·rintro-w49 D49;rintro _ rfl _ rfl;exact an (bH (br rfl rfl (by omega)) (congrArg (Value.int .i64) (show (0:Int)+(((ax (sG g) recs).1.length:Nat):Int)=(((ax (sG g) recs).1.length:Nat):Int) by omega))) rfl
     constructor
     ·rintro-w50 D50;rintro _ rfl;exact an (au rfl) rfl
     constructor
     ·rintro-w51 D51;rintro _ rfl;exact an (ai ef rfl) rfl
     exact trivial
    case hend=>
     intro w52 D52;rintro _ rfl _ rfl _ rfl _ rfl _ rfl _ rfl _ rfl _ rfl _ rfl _ rfl _ rfl;show St ..;have hM11:ag _ w52:=(ag.rfl_.next D52);refine cT (v:=.int _ _) en rfl rfl rfl ((P10b.from_ (ag.rfl_.next D52))) (by show 0+4<10;decide) ?_;intro w53 O11 P11;have P11b:Blk w53 p 62 (wlV (some ⟨d,0,none⟩) g 0 ((ax (sG g) recs).1.length:Nat) ((ax (sG g) recs).1.length:Nat) (ax (sG g) recs).2.toNat M.b M.t E7 n7 c7 ok).toArray:=P11;have hC11:=(hC10b.next hM11.toChg).next (O11.toChg (.inr rfl));have ho11:=((ho10.from_ hM11).only O11 (P10b.from_ hM11) (by decide)).le (Nat.le_trans hC4.size (Nat.le_trans hCq.size (Nat.le_trans hB9.size (by rw [←O9.size];exact hz67))));have hW11:=(hW10b.from_ hM11).only O11 hWp;refine ah (ae (af (ab (mvp rfl (aa (au rfl) (aa (ai eh rfl) (aa (ao aD rfl (by exact (P11b.from_ ag.rfl_).rd 3 rfl)) ?_)))))));refine mvs rfl (aa (bb bZ rfl) (aa (bh (cl rfl rfl) (decide_eq_false (by omega))) (ah (ae (aI rfl (aE (bI ?_)))))));refine bW (1) ⟨rfl,trivial⟩ (by (iterate 126 refine bg rfl ?_);exact bw) ⟨?_,?_⟩
     ·exact ⟨Nat.le_refl _,hW11.from_ ag.rfl_,hC11.next (ag.rfl_).toChg,fun h=>absurd h (by decide),fun _=>⟨E7,n7,c7,P11b.from_ ag.rfl_,ho11.from_ ag.rfl_⟩,_,P11b.from_ ag.rfl_⟩
     ·omega
  have hqn:¬ q=0:=by simpa using Q17
  obtain rfl:q=1:=by omega
  obtain ⟨E1,n1,c1,hP1,ho1⟩:=hq1b rfl;refine cx (bc (bc (bX (ae (af (ab (mvp rfl (mvs rfl (av ow (nE 62 p (some ⟨d,0,none⟩) 0 _ A14 c14 n14 g _ _ (hNq.from_ (hB0.next E36)) hN.1 (by rw [hN.1,hL1];simp) hg (by rw [hL1];exact fun s hs=>List.mem_singleton.1 hs) (fun _=>rfl) (hP1.from_ (hB0.next E36))) ?_)))))))));rintro v93 w54 ⟨rfl,E93⟩;refine asi rfl (ah (ae (aC (bz (v:=.int _ _) rfl rfl (⟨rfl,⟨E1,n1,c1,hP1.from_ ((hB0.next E36).next E93),ho1.from_ ((hB0.next E36).next E93)⟩,((hC4.wide (fun i hi=>.inl (.inr hi))).next hCq).next (((hB0.next E36).next E93)).toChg⟩)))))
theorem iQ:∀ (a0:Option Addr) (a1:Int) (a2:Int) (a3:Int) (a4:Int) (a5:Int),prog.built 62 [(0,.agg #[.pointer a0,.int .i64 a1,.int .i64 a2,.int .i64 a3,.int .i64 a4,.int .u32 a5]),(2,.bool true)]=some #[.pointer a0,.int .i64 a1,.int .i64 a2,.int .i64 a3,.int .i64 a4,.int .u32 a5,.int .i64 0,.int .i64 0,.slice none 0 0,.bool true]:=by intros;kernel_rfl
theorem tI:ij prog 29=some (.pointer none):=by kernel_rfl
theorem tH:cS prog 29=some 1:=by kernel_rfl
theorem sq:prog.built 36 []=some #[.int .i64 0,.int .i64 0,.slice none 0 0]:=by kernel_rfl
theorem gE:ch prog 62 0=some 0:=by kernel_rfl
theorem tJ:aH prog 24=true:=by kernel_rfl
theorem ey:aH prog 27=true:=by kernel_rfl
def DkL (D:List Fe) (g:Nat) (recs:List Rc) (la:Int):Prop:=(la=-1∧g=0∧recs=[]∧D=[])∨(la=0∧∃ y,D=[(aX g 0,(ax (sG g) recs).1,y)])
theorem xj (U:Nat→Prop) (D:List Fe) (d p rb wb g0 su0:Nat) (la0 sz0 to0:Int) (ok:Bool) (w:World) (hd:cP w U d D 0 false) (hP:Blk w p 62 (wlV (some ⟨d,0,none⟩) g0 la0 sz0 to0 su0 0 0 none 0 0 ok).toArray) (M:Lg) (recs:List Rc) (g:Nat) (la:Int) (hg:g<100) (hD:DkL D g recs la) (hR:Blk w rb 36 (lgV 0 0 none 0 0).toArray) (hW:Blk w wb 29 #[.pointer (some ⟨p,0,none⟩)]) (hk:∀ r∈recs,r.Ok) (hfin:iN recs recs.length) (hap:cI lg0 recs M) (hT:cO w) (hTr:TB≠rb) (hTp:TB≠p) (hUp:¬ U p) (hUr:¬ U rb) :
 Rt prog 24 [.pointer (some ⟨p,0,none⟩),.func (.func 25) #[] #[.pointer (some ⟨rb,0,none⟩),.pointer (some ⟨wb,0,none⟩)]] w fun v w'=>v=.int .i64 0∧(∃ E n c,Blk w' p 62 (wlV (some ⟨d,0,none⟩) g la ((ax (sG g) recs).1.length:Nat) ((ax (sG g) recs).1.length:Nat) (ax (sG g) recs).2.toNat M.b M.t E n c ok).toArray∧dp w' w.heap.size E n c M.es)∧Chg (fun k=>k=rb∨k=p) w w':=by
 rcases hD with ⟨rfl,rfl,rfl,rfl⟩ | ⟨rfl,y,hD⟩
 ·obtain rfl:lg0=M:=hap;refine (xl U [] d p rb wb g0 su0 la0 sz0 to0 ok w hd hP rfl).mono fun v w' ⟨h1,h2,h3⟩=>⟨h1,⟨none,0,0,h2,⟨rfl,Nat.le_refl _,by unfold maxLen;omega,.inl ⟨rfl,rfl,rfl⟩⟩⟩,h3.wide fun i hi=>.inl (.inr hi)⟩
 ·exact xk U D d p rb wb g0 su0 la0 sz0 to0 ok w hd hP M recs g y hg hD hR hW hk hfin hap hT hTr hTp hUp hUr
structure WAt (w:World) (U:Nat→Prop) (p d g:Nat) (recs:List Rc) (M:Lg) (qs:Bool):Prop where
 ex:∃ la E n c D,Blk w p 62 (wlV (some ⟨d,0,none⟩) g la ((ax (sG g) recs).1.length:Nat) ((ax (sG g) recs).1.length:Nat) (ax (sG g) recs).2.toNat M.b M.t E n c true).toArray∧DkL D g recs la∧(qs=true→∀ e∈D,e.2.1=e.2.2)∧cP w U d D 0 false∧bm w (.slice E n c) M.es∧∀ q,E.map (·.block)=some q→q<w.heap.size∧¬ U q∧q≠p
 nU:¬ U p
 lt:∀ x,U x→x<w.heap.size
 ok:dh M
 rk:∀ r∈recs,r.Ok
 fin:iN recs recs.length
 ap:cI lg0 recs M
 g9:g<100
def LR (w:World) (p q:Nat):Prop:=∃ (d:Option Addr) (g:Nat) (la sz to:Int) (su:Nat) (b t:Int) (E:Option Addr) (n c:Nat) (ok:Bool),Blk w p 62 (wlV d g la sz to su b t E n c ok).toArray∧E.map (·.block)=some q
theorem ln {w:World} {p q:Nat} {d:Option Addr} {g:Nat} {la sz to:Int} {su:Nat} {b t:Int} {E:Option Addr} {n c:Nat} {ok:Bool} (hb:Blk w p 62 (wlV d g la sz to su b t E n c ok).toArray) (h:LR w p q):E.map (·.block)=some q:=by
 obtain ⟨d',g',la',sz',to',su',b',t',E',n',c',ok',h1,h2⟩:=h;have h3:=hb.symm.trans h1;simp only [Option.some.injEq,Obj.cells.injEq,wlV,wfV,List.cons_append,List.nil_append,List.toArray_eq_iff,List.cons.injEq,Value.slice.injEq] at h3;rw [←h2];obtain ⟨h3,_⟩:=h3
 simp_all
theorem LR.back {w w':World} {p q:Nat} {d:Option Addr} {g:Nat} {la sz to:Int} {su:Nat} {b t:Int} {E:Option Addr} {n c:Nat} {ok:Bool} (hb:Blk w p 62 (wlV d g la sz to su b t E n c ok).toArray) (hF:ag w w') (h:LR w' p q):LR w p q:=⟨d,g,la,sz,to,su,b,t,E,n,c,ok,hb,ln (hb.from_ hF) h⟩
theorem iG {w:World} {p g su n c:Nat} {d E:Option Addr} {la sz to b t:Int} {ok:Bool} (h:Blk w p 62 (wlV d g la sz to su b t E n c ok).toArray):w.rangeAt p (0+6) (lgV b t E n c):=h.range 6 _ (fun j v hj=>by
 match j,hj with
 |0,hj=>exact hj
 |1,hj=>exact hj
 |2,hj=>exact hj
 |j+3,hj=>simp [lgV] at hj)
theorem nf (U:Nat→Prop) (d g:Nat) (recs:List Rc) (M:Lg) (D:List Fe) (la:Int) (w:World) (hd:cP w U d D 0 false) (hD:DkL D g recs la) (hq9:∀ e∈D,e.2.1=e.2.2) (hU9:∀ x,U x→x<w.heap.size) (hg:g<100) (hM:dh M) (hk:∀ r∈recs,r.Ok) (hfin:iN recs recs.length) (hap:cI lg0 recs M) (hT:cO w) :
 Rt prog 7 [.pointer (some ⟨d,0,none⟩)] w (fun v w'=>(∃ p,v=.tuple #[.pointer (some ⟨p,0,none⟩),.int .i64 0]∧w.heap.size≤p∧WAt w' U p d g recs M true∧∀ q,LR w' p q→w.heap.size≤q)∧ag w w'):=by
 have hTl:=hT.lt;refine enter (n:=31) Tryz.func7 rfl rfl rfl (af (ab (asp rfl (asi rfl (ah (ae (af (af (ab (mvp rfl (aa (bh (fb (by kernel_rfl) rfl rfl) rfl) (ah (ae (aI rfl ?_))))))))))))));refine aE (ae (af (ab (mvp rfl (av jo (ir (some ⟨d,0,none⟩) 0 _ (by decide)) ?_)))));rintro v10 w1 ⟨rfl,E10⟩;refine aa (bN (l:=[(0,.tmp 10),(2,.const (.bool true))]) (iQ _ _ _ _ _ _)) (bu (v:=.agg _) rfl ?_);intro b12 w2 E12 hb12 hk12;have hg12:w.heap.size≤b12:=by rw [hb12];exact ((ag.rfl_.next E10)).size
 have hp12:Blk w2 b12 62 (wlV (some ⟨d,0,none⟩) 0 (-1) 0 0 0 0 0 none 0 0 true).toArray:=hk12;refine aZ tI ?_;intro b4 w3 E4 hb4 hk4;have hg4:w.heap.size≤b4:=by rw [hb4];exact (((ag.rfl_.next E10).next E12)).size
 have h124:=gn (hp12.from_ E4) hk4 (by decide);replace hp12:=hp12.from_ E4;refine cT (v:=.pointer _) tH rfl rfl rfl (hk4) (by show 0<1;decide) ?_;intro w4 O3 P3;replace hp12:=hp12.only O3 h124;replace P3:Blk w4 b4 29 #[.pointer (some ⟨b12,0,none⟩)]:=P3;refine ah (ae (af (ab (aa (bN (l:=[]) (sq)) ?_))));have hM5:ag _ w4:=ag.rfl_;refine aZ bA ?_;intro b5 w5 E5 hb5 hk5;have hg5:w.heap.size≤b5:=by rw [hb5];exact (((((ag.rfl_.next E10).next E12).next E4).only O3 (hg4))).size
 replace hp12:=hp12.from_ (hM5.next E5);replace P3:=P3.from_ (hM5.next E5);have h512:=gn hp12 hk5 (by decide);have h54:=gn P3 hk5 (by decide);refine aV (vs:=[_,_,_]) aq rfl rfl (by simp [Value.oneCell']) (hk5) rfl ?_;intro w6 O4 P4;have P4b:Blk w6 b5 36 (lgV 0 0 none 0 0).toArray:=P4;replace hp12:=hp12.only O4 (h512);have P3b:=P3.only O4 (h54);refine ah (ae (af (ab (aa (ao iR rfl (by exact (P3b.from_ ag.rfl_).rd 0 rfl)) ?_))));refine aa (au rfl) (aa (ai gE rfl) (aa (ra (l1:=[]) (l2:=[.tmp 5,.tmp 4])) ?_));have hM18:ag _ w6:=ag.rfl_;have hB18:ag w w6:=((((((ag.rfl_.next E10).next E12).next E4).only O3 (hg4)).next E5).only O4 (hg5));have hz18:=hB18.size;refine av tJ (xj U D d b12 b5 b4 0 0 (-1) 0 0 true _ (hd.from_ ((((((ag.rfl_.next E10).next E12).next E4).only O3 (hg4)).next E5).only O4 (hg5))) (hp12.from_ ag.rfl_) M recs g la hg hD (P4b.from_ ag.rfl_) (P3b.from_ ag.rfl_) hk hfin hap (hT.from_ ((((((ag.rfl_.next E10).next E12).next E4).only O3 (hg4)).next E5).only O4 (hg5))) (by omega) (by omega) (fun h=>by have:=hU9 _ h;omega) (fun h=>by have:=hU9 _ h;omega)) ?_;rintro v18 w7 ⟨rfl,⟨E1,n1,c1,hP18,ho18⟩,hC18⟩;have hF18:=hB18.chg hC18 (fun k hk=>by rcases hk with hk | hk;rw [show k=b5 from hk];exact hg5;rw [show k=b12 from hk];exact hg12);have hP4x:=(P3b.from_ hM18).chg hC18 (fun e=>by rcases e with e | e;exact h54 e;exact h124 e.symm);have hd18:=(hd.from_ hB18).chg hC18 (fun k hk e=>by have:=hU9 k hk;rcases e with e | e <;> omega);have ho18n:=ho18.len;have hz19:=hF18.size;refine asi rfl (ah (ae (af (af (ab (mvi rfl (aa (bh (cv rfl rfl) rfl) (ah (ae (aI rfl (aE (ae (af ?_)))))))))))));apply bO 8 [(22,eqp _),(23,eqp _),(24,eqp _),(25,eqp _),(26,eqp _),(27,fun v w'=>∃ A' c',v=.agg (lgV M.b M.t A' n1 c').toArray∧w'.ownsRow w.heap.size 49 3 (.slice A' n1 c') n1 (bJ M.es)),(28,eqp _),(29,eqp _)] (by repeat first | exact cr | refine cq ?_ | refine bU ?_) (by kernel_rfl) (by kernel_rfl) ⟨aj _,aj _,aj _,aj _,aj _,(fun _ _ _ hF ⟨a,b,h1,h2⟩=>⟨a,b,h1,h2.kept_from hF⟩),aj _,aj _,trivial⟩
 case hop=>
  constructor
  ·rintro-w9 D9;exact an (ao iR rfl (by exact (hP4x.from_ (ag.rfl_.next D9)).rd 0 rfl)) rfl
  constructor
  ·rintro-w10 D10;exact an (ao iR rfl (by exact (hP4x.from_ (ag.rfl_.next D10)).rd 0 rfl)) rfl
  constructor
  ·rintro-w11 D11;rintro _ rfl;exact an (au rfl) rfl
  constructor
  ·rintro-w12 D12;rintro _ rfl;exact an (ai bS rfl) rfl
  constructor
  ·rintro-w13 D13;rintro _ rfl;exact an (aG (cs:=lgV M.b M.t E1 n1 c1) az aq rfl (iG (hP18.from_ (ag.rfl_.next D13)))) rfl
  constructor
  ·rintro-w14 D14;rintro _ rfl;refine cX ey ((eO M.b M.t E1 c1 n1 M.es _ (ho18.ents.from_ (ag.rfl_.next D14)) ho18n (by have:=hM.f.n;omega)).mono ?_);rintro v _ ⟨⟨a,b,rfl,h⟩,hF⟩;exact ⟨hF,a,b,rfl,dI h ((hF18.next D14)).size⟩
  constructor
  ·rintro-w15 D15;rintro _ rfl;exact an (au rfl) rfl
  constructor
  ·rintro-w16 D16;rintro _ rfl;exact an (ai bS rfl) rfl
  exact trivial
 case hend=>
  intro w17 D17;rintro _ rfl _ rfl _ rfl _ rfl _ rfl v27 ⟨A27,c27,rfl,ho27⟩ _ rfl _ rfl;show St ..;have hB8:ag w w17:=(hF18.next D17);have hM8:ag _ w17:=(ag.rfl_.next D17);refine ik (vs:=lgV M.b M.t A27 n1 c27) (i:=0+6) (cs:=wlV (some ⟨d,0,none⟩) g la ((ax (sG g) recs).1.length:Nat) ((ax (sG g) recs).1.length:Nat) (ax (sG g) recs).2.toNat M.b M.t E1 n1 c1 true) aq rfl rfl (by simp [lgV,Value.oneCell']) (hP18.from_ (ag.rfl_.next D17)) (by show 0+6+3≤10;decide) ?_;intro w18 O8 P8;have P8b:Blk w18 b12 62 (wlV (some ⟨d,0,none⟩) g la ((ax (sG g) recs).1.length:Nat) ((ax (sG g) recs).1.length:Nat) (ax (sG g) recs).2.toNat M.b M.t A27 n1 c27 true).toArray:=P8;have hF8:=hB8.only O8 hg12;have hx27:=cJ.of_own ho27;have ho8:=hx27.only O8 (hP18.from_ hM8) (by decide);have hd8:=(hd18.from_ hM8).chg (O8.toChg (U:=fun k=>k=b12) rfl) (fun k hk e=>by have:=hU9 k hk;have:k=b12:=e;omega);have hP4y:=(hP4x.from_ hM8).only O8 (Ne.symm h124);refine ah (ae (af (ab (aa (ao iR rfl (by exact (hP4y.from_ ag.rfl_).rd 0 rfl)) ?_))));refine asp rfl (asi rfl (ah (ae (aC (gj (v:=.pointer _) (v':=.int _ _) rfl rfl rfl ?_)))));have hx8:=ho8.from_ ag.rfl_;exact ⟨⟨b12,rfl,hg12,⟨⟨la,A27,n1,c27,D,P8b.from_ ag.rfl_,hD,fun _=>hq9,hd8.from_ ag.rfl_,dp.ents hx8,fun q hq=>⟨(hx8.at_ q hq).2,fun h=>by have:=hU9 _ h;have:=(hx8.at_ q hq).1;omega,hx8.off (P8b.from_ ag.rfl_) (by decide) q hq⟩⟩,fun h=>by have:=hU9 _ h;omega,fun x hx=>Nat.lt_of_lt_of_le (hU9 x hx) (hF8).size,hM,hk,hfin,hap,hg⟩,fun q hq=>(hx8.at_ q (ln (P8b.from_ ag.rfl_) hq)).1⟩,hF8⟩
theorem ou:aH prog 60=true:=by kernel_rfl
theorem ot:aH prog 62=true:=by kernel_rfl
theorem tF:aH prog 42=true:=by kernel_rfl
theorem kJ:aH prog 41=true:=by kernel_rfl
theorem sD {ok:Bool}:fuB ok 0=0:=by cases ok <;> rfl
theorem sC {ok:Bool}:kk ok 0 false=false:=by cases ok <;> rfl
theorem BX {U:Nat→Prop} {w w1 w2:World} {k:Nat} (h:Nx U w1 w2 k) (hz:w.heap.size≤w1.heap.size):Nx U w w2 k:=h.imp id fun h=>⟨Nat.le_trans hz h.1,h.2⟩
theorem bm.chg {V:Nat→Prop} {w w':World} {A:Option Addr} {n c:Nat} {xs:List Ent} (h:bm w (.slice A n c) xs) (hC:Chg V w w') (hA:∀ q,A.map (·.block)=some q→¬ V q):bm w' (.slice A n c) xs:=by
 obtain ⟨A',c',hv,h1,h2,h3,hp⟩:=h;refine ⟨A',c',hv,h1,h2,h3,fun h0=>?_⟩;obtain ⟨b,o,hA',hb,hc⟩:=hp h0;simp only [Value.slice.injEq] at hv;have hk:=hC.block b hb (hA b (by rw [hv.1,hA'];rfl));have he:∀ j,w'.cell? ⟨b,j,none⟩=w.cell? ⟨b,j,none⟩:=fun j=>by unfold World.cell?;rw [hk]
 exact ⟨b,o,hA',Nat.lt_of_lt_of_le hb hC.size,fun i hi=>⟨(he _).trans (hc i hi).1,(he _).trans (hc i hi).2.1,(he _).trans (hc i hi).2.2⟩⟩
section
variable {w w':World} {U:Nat→Prop} {p d g:Nat} {recs:List Rc} {M:Lg} {qs:Bool}
theorem WAt.from_ (h:WAt w U p d g recs M qs) (hF:ag w w'):WAt w' U p d g recs M qs:=by
 obtain ⟨la,E,n,c,D,h1,h2,h3,h4,h5,h6⟩:=h.ex;exact ⟨⟨la,E,n,c,D,h1.from_ hF,h2,h3,h4.from_ hF,h5.from_ hF,fun q hq=>⟨Nat.lt_of_lt_of_le (h6 q hq).1 hF.size,(h6 q hq).2⟩⟩,h.nU,fun x hx=>Nat.lt_of_lt_of_le (h.lt x hx) hF.size,h.ok,h.rk,h.fin,h.ap,h.g9⟩
end
theorem AH {D:List Fe} {nm:ByteArray} {x y:List Nat} (hD:D=[(nm,x,y)]) (ok:okN nm=true):opE D (okN nm) 0 false nm=0∧gO D 0 false nm=[(nm,x,x)]:=by
 subst hD
 have h:opE [(nm,x,y)] (okN nm) 0 false nm=0:=by
  unfold opE;rw [ok,if_neg (by decide)];unfold gv;simp
 refine ⟨h,?_⟩;unfold gO;rw [if_pos h];unfold s3 eB;simp
theorem wK (U:Nat→Prop) (d:Nat) (D:List Fe) (w:World) (hd:cP w U d D 0 false) (nm:ByteArray) (hn:nm.size≤140737488351232) (x y:List Nat) (hD:D=[(nm,x,y)]) (ok:okN nm=true):Rt prog 62 [.pointer (some ⟨d,0,none⟩),.string nm] w fun v w'=>v=.int .i64 0∧cP w' (Nx U w w') d [(nm,x,x)] 0 false∧Chg U w w':=by
 obtain ⟨h1,h2⟩:=AH hD ok;refine (uc U d D 0 false w hd nm hn).mono fun v w' ⟨a,b,c⟩=>?_
 rw [h1] at a;rw [h2,sD,sC] at b;exact ⟨a,b,c⟩
theorem pq (T:TypeId) (p:Nat) (cs:List Value) (U:Nat→Prop) (d:Nat) (D:List Fe) (w:World) (hb:Blk w p T (.pointer (some ⟨d,0,none⟩)::cs).toArray) (ha:cP w U d D 0 false):Rt prog 60 [.pointer (some ⟨p,0,none⟩)] w fun v w'=>v=.int .i64 0∧ag w w':=xo T p cs U d D 0 false w hb ha
theorem pW (U:Nat→Prop) (p d g:Nat) (recs:List Rc) (M:Lg) (qs:Bool) (w:World) (h:WAt w U p d g recs M qs) :
 Rt prog 11 [.pointer (some ⟨p,0,none⟩)] w (fun v w'=>(∃ A' c',v=.agg (lgV M.b M.t A' M.es.length c').toArray∧w'.ownsRow w.heap.size 49 3 (.slice A' M.es.length c') M.es.length (bJ M.es))∧ag w w'):=by
 obtain ⟨la,E,n,c,D,hP,hDk,hqs,hd,hE,hEq⟩:=h.ex;have hn:n=M.es.length:=(dy hE).1;subst hn;refine enter (n:=8) Tryz.func11 rfl rfl rfl (af (ab (aZ bA ?_)));intro b2 w1 E2 hb2 hk2;have hg2:w.heap.size≤b2:=by rw [hb2];exact (ag.rfl_).size
 refine ah (ae (af (ab (mvp rfl (aa (au rfl) (aa (ai bS rfl) (aa (aG (cs:=lgV M.b M.t E M.es.length c) az aq rfl (iG (hP.from_ (ag.rfl_.next E2)))) ?_)))))));have hM7:ag _ w1:=ag.rfl_;have hz7:=((ag.rfl_.next E2)).size;refine av ey (eO M.b M.t E c M.es.length M.es _ (hE.from_ (ag.rfl_.next E2)) rfl (by have:=h.ok.f.n;omega)) ?_;rintro v7 w2 ⟨⟨A7,c7,rfl,ho7⟩,E7⟩;replace hk2:=hk2.from_ (hM7.next E7);have hz7b:=(((ag.rfl_.next E2).next E7)).size;refine aV (vs:=[_,_,_]) aq rfl rfl (by simp [Value.oneCell']) (hk2) rfl ?_;intro w3 O1 P1;have ho1:=((cJ.of_own ho7).le hz7).only O1 hk2 (by decide);have ho1o:=eE ho7 O1 (lf ho7 hk2 (by decide));refine ah (ae (aC (rh rfl (bx (cs:=[_,_,_]) az aq rfl (by exact P1.whole)) ?_)));exact ⟨⟨A7,c7,rfl,dI ho1o hz7⟩,(((ag.rfl_.next E2).next E7).only O1 (hg2))⟩
theorem wJ (U:Nat→Prop) (p d g:Nat) (D:List Fe) (sz to b t:Int) (su n c:Nat) (E:Option Addr) (ok:Bool) (w:World) (hd:cP w U d D 0 false) (hP:Blk w p 62 (wlV (some ⟨d,0,none⟩) g (-1) sz to su b t E n c ok).toArray) :
 Rt prog 42 [.pointer (some ⟨p,0,none⟩)] w (fun v w'=>v=.int .i64 0∧ag w w'):=by
 refine enter (n:=21) Tryz.func42 rfl rfl rfl (af (ab (asi rfl (ah (ae (af (af (ab (mvp rfl (aa (au rfl) (aa (ai bR rfl) (aa (ao aD rfl (by exact (hP.from_ ag.rfl_).rd 2 rfl)) ?_))))))))))));refine aa (cU (cl rfl rfl) (by decide)) (ah (ae (aY rfl (af (ab (mvp rfl (av ou (pq 62 p _ U d D _ (hP.from_ ag.rfl_) (hd.from_ ag.rfl_)) ?_)))))));rintro v9 w1 ⟨rfl,E9⟩;refine asi rfl (ah (ae (aC (aF (bz (v:=.int _ _) rfl rfl (⟨rfl,(ag.rfl_.next E9)⟩))))))
theorem wI (U:Nat→Prop) (p d g:Nat) (D:List Fe) (sz to b t:Int) (su n c:Nat) (E:Option Addr) (ok:Bool) (w:World) (hd:cP w U d D 0 false) (hP:Blk w p 62 (wlV (some ⟨d,0,none⟩) g 0 sz to su b t E n c ok).toArray) (x y:List Nat) (hg:g<100) (hD:D=[(aX g 0,x,y)]) :
 Rt prog 42 [.pointer (some ⟨p,0,none⟩)] w (fun v w'=>v=.int .i64 0∧cP w' (Nx U w w') d [(aX g 0,x,x)] 0 false∧Chg U w w'):=by
 have hok:=i_ hg;have hns:=lY hg;refine enter (n:=21) Tryz.func42 rfl rfl rfl (af (ab (asi rfl (ah (ae (af (af (ab (mvp rfl (aa (au rfl) (aa (ai bR rfl) (aa (ao aD rfl (by exact (hP.from_ ag.rfl_).rd 2 rfl)) ?_))))))))))));refine aa (bh (cl rfl rfl) (by decide)) (ah (ae (aI rfl (aE (ae (af ?_))))));apply gz [(0,10,fun _ v _=>v=_),(1,11,fun _ v _=>v=_),(2,12,fun _ v _=>v=_),(3,13,fun _ v _=>v=_),(4,14,fun _ v _=>v=_),(5,15,fun _ v _=>v=_),(6,16,fun _ v _=>v=_),(7,17,fun _ v _=>v=_),(8,18,fun _ v _=>v=_),(9,19,fun _ v _=>v=_),(10,20,fun _ v _=>v=_),(11,2,fun _ v _=>v=_)] [10] (fun S w'=>(S 10=false→ag w w')∧(S 10=true→cP w' (Nx U w w') d [(aX g 0,x,x)] 0 false∧Chg U w w')) (by kernel_rfl) (by kernel_rfl) rfl rfl ⟨fun _ _ _ _ _ _ _ h=>h,fun _ _ _ _ _ _ _ h=>h,fun _ _ _ _ _ _ _ h=>h,fun _ _ _ _ _ _ _ h=>h,fun _ _ _ _ _ _ _ h=>h,fun _ _ _ _ _ _ _ h=>h,fun _ _ _ _ _ _ _ h=>h,fun _ _ _ _ _ _ _ h=>h,fun _ _ _ _ _ _ _ h=>h,fun _ _ _ _ _ _ _ h=>h,fun _ _ _ _ _ _ _ h=>h,fun _ _ _ _ _ _ _ h=>h,trivial⟩ (fun S i w1 w2 hq hF h=>⟨fun h0=>(h.1 (lP h0)).next hF,fun h1=>(fun h=>⟨(h.1.from_ hF).wide (fun x hx _=>hx.imp id fun h=>⟨h.1,Nat.lt_of_lt_of_le h.2 hF.size⟩),h.2.next hF.toChg⟩) (h.2 (mP (show 10≠i by rintro rfl;exact absurd hq (by decide)) h1))⟩) ⟨fun _=>ag.rfl_.d1,fun h=>by cases h⟩
 case hstep=>
  constructor
  ·rintro S L' w1 hU hmo hme hI hM hC hS ⟨-⟩;have hS0:S 10=false:=(ay hC (j:=10) rfl (by kernel_rfl) (ay hC (j:=3) rfl (by kernel_rfl) (ay hC (j:=2) rfl (by kernel_rfl) (ay hC (j:=1) rfl (by kernel_rfl) hS))));have hM1:=hM.1 hS0;have e0:=hI.1 0 (fj rfl);exact aN [(0,_)] hU hmo hme hI hM (.head _) rfl rfl (by kernel_rfl) ⟨e0,trivial⟩ (aB (v:=.pointer _) rfl) ag.rfl_ (rfl)
  constructor
  ·rintro S L' w2 hU hmo hme hI hM hC hS ⟨d0,-⟩;have hS0:S 10=false:=(ay hC (j:=10) rfl (by kernel_rfl) (ay hC (j:=3) rfl (by kernel_rfl) (ay hC (j:=2) rfl (by kernel_rfl) hS)));have hM2:=hM.1 hS0;obtain ⟨v2_10,e10,h10⟩:=hI.get (i:=0) (.head _) d0;obtain rfl:=h10;exact aN [(10,_)] hU hmo hme hI hM (.tail _ (.head _)) rfl rfl (by kernel_rfl) ⟨e10,trivial⟩ (au rfl) ag.rfl_ (rfl)
  constructor
  ·rintro S L' w3 hU hmo hme hI hM hC hS ⟨d1,-⟩;have hS0:S 10=false:=(ay hC (j:=10) rfl (by kernel_rfl) (ay hC (j:=3) rfl (by kernel_rfl) hS));have hM3:=hM.1 hS0;obtain ⟨v3_11,e11,h11⟩:=hI.get (i:=1) (.tail _ (.head _)) d1;obtain rfl:=h11;exact aN [(11,_)] hU hmo hme hI hM (.tail _ (.tail _ (.head _))) rfl rfl (by kernel_rfl) ⟨e11,trivial⟩ (ai cz rfl) ag.rfl_ (rfl)
  constructor
  ·rintro S L' w4 hU hmo hme hI hM hC hS ⟨d2,-⟩;have hS0:S 10=false:=(ay hC (j:=10) rfl (by kernel_rfl) hS);have hM4:=hM.1 hS0;obtain ⟨v4_12,e12,h12⟩:=hI.get (i:=2) (.tail _ (.tail _ (.head _))) d2;obtain rfl:=h12;exact aN [(12,_)] hU hmo hme hI hM (.tail _ (.tail _ (.tail _ (.head _)))) rfl rfl (by kernel_rfl) ⟨e12,trivial⟩ (ao cW rfl (by exact (hP.from_ (ag.rfl_.next hM4)).rd 0 rfl)) ag.rfl_ (rfl)
  constructor
  ·rintro S L' w5 hU hmo hme hI hM hC hS ⟨-⟩;have hS0:S 10=false:=(ay hC (j:=10) rfl (by kernel_rfl) (ay hC (j:=9) rfl (by kernel_rfl) hS));have hM5:=hM.1 hS0;have e0:=hI.1 0 (fj rfl);exact aN [(0,_)] hU hmo hme hI hM (.tail _ (.tail _ (.tail _ (.tail _ (.head _))))) rfl rfl (by kernel_rfl) ⟨e0,trivial⟩ (aB (v:=.pointer _) rfl) ag.rfl_ (rfl)
  constructor
  ·rintro S L' w6 hU hmo hme hI hM hC hS ⟨-⟩;have hS0:S 10=false:=(ay hC (j:=10) rfl (by kernel_rfl) (ay hC (j:=9) rfl (by kernel_rfl) (ay hC (j:=8) rfl (by kernel_rfl) (ay hC (j:=7) rfl (by kernel_rfl) (ay hC (j:=6) rfl (by kernel_rfl) hS)))));have hM6:=hM.1 hS0;have e0:=hI.1 0 (fj rfl);exact aN [(0,_)] hU hmo hme hI hM (.tail _ (.tail _ (.tail _ (.tail _ (.tail _ (.head _)))))) rfl rfl (by kernel_rfl) ⟨e0,trivial⟩ (aB (v:=.pointer _) rfl) ag.rfl_ (rfl)
  constructor
  ·rintro S L' w7 hU hmo hme hI hM hC hS ⟨d5,-⟩;have hS0:S 10=false:=(ay hC (j:=10) rfl (by kernel_rfl) (ay hC (j:=9) rfl (by kernel_rfl) (ay hC (j:=8) rfl (by kernel_rfl) (ay hC (j:=7) rfl (by kernel_rfl) hS))));have hM7:=hM.1 hS0;obtain ⟨v7_15,e15,h15⟩:=hI.get (i:=5) (.tail _ (.tail _ (.tail _ (.tail _ (.tail _ (.head _)))))) d5;obtain rfl:=h15;exact aN [(15,_)] hU hmo hme hI hM (.tail _ (.tail _ (.tail _ (.tail _ (.tail _ (.tail _ (.head _))))))) rfl rfl (by kernel_rfl) ⟨e15,trivial⟩ (au rfl) ag.rfl_ (rfl)
  constructor
  ·rintro S L' w8 hU hmo hme hI hM hC hS ⟨d6,-⟩;have hS0:S 10=false:=(ay hC (j:=10) rfl (by kernel_rfl) (ay hC (j:=9) rfl (by kernel_rfl) (ay hC (j:=8) rfl (by kernel_rfl) hS)));have hM8:=hM.1 hS0;obtain ⟨v8_16,e16,h16⟩:=hI.get (i:=6) (.tail _ (.tail _ (.tail _ (.tail _ (.tail _ (.tail _ (.head _))))))) d6;obtain rfl:=h16;exact aN [(16,_)] hU hmo hme hI hM (.tail _ (.tail _ (.tail _ (.tail _ (.tail _ (.tail _ (.tail _ (.head _)))))))) rfl rfl (by kernel_rfl) ⟨e16,trivial⟩ (ai bR rfl) ag.rfl_ (rfl)
  constructor
  ·rintro S L' w9 hU hmo hme hI hM hC hS ⟨d7,-⟩;have hS0:S 10=false:=(ay hC (j:=10) rfl (by kernel_rfl) (ay hC (j:=9) rfl (by kernel_rfl) hS));have hM9:=hM.1 hS0;obtain ⟨v9_17,e17,h17⟩:=hI.get (i:=7) (.tail _ (.tail _ (.tail _ (.tail _ (.tail _ (.tail _ (.tail _ (.head _)))))))) d7;obtain rfl:=h17;exact aN [(17,_)] hU hmo hme hI hM (.tail _ (.tail _ (.tail _ (.tail _ (.tail _ (.tail _ (.tail _ (.tail _ (.head _))))))))) rfl rfl (by kernel_rfl) ⟨e17,trivial⟩ (ao aD rfl (by exact (hP.from_ (ag.rfl_.next hM9)).rd 2 rfl)) ag.rfl_ (rfl)
  constructor
  ·rintro S L' w10 hU hmo hme hI hM hC hS ⟨d4,d8,-⟩;have hS0:S 10=false:=(ay hC (j:=10) rfl (by kernel_rfl) hS);have hM10:=hM.1 hS0;obtain ⟨v10_14,e14,h14⟩:=hI.get (i:=4) (.tail _ (.tail _ (.tail _ (.tail _ (.head _))))) d4;obtain rfl:=h14;obtain ⟨v10_18,e18,h18⟩:=hI.get (i:=8) (.tail _ (.tail _ (.tail _ (.tail _ (.tail _ (.tail _ (.tail _ (.tail _ (.head _))))))))) d8;obtain rfl:=h18;refine fB (al:=[.tmp 14,.tmp 18]) [(14,_),(18,_)] hU hmo hme hI hM (.tail _ (.tail _ (.tail _ (.tail _ (.tail _ (.tail _ (.tail _ (.tail _ (.tail _ (.head _)))))))))) rfl (by kernel_rfl) ⟨e14,e18,trivial⟩ eN ((er 62 p g 0 _ _ _ (hP.from_ (ag.rfl_.next hM10)) hg (by decide)).mono ?_);rintro v w2 ⟨rfl,E10'⟩;exact ⟨E10',rfl⟩
  constructor
  ·rintro S L' w11 hU hmo hme hI hM hC hS ⟨d3,d9,d9,-⟩;have hS0:S 10=false:=hS;have hM11:=hM.1 hS0;obtain ⟨v11_13,e13,h13⟩:=hI.get (i:=3) (.tail _ (.tail _ (.tail _ (.head _)))) d3;obtain rfl:=h13;obtain ⟨v11_19,e19,h19⟩:=hI.get (i:=9) (.tail _ (.tail _ (.tail _ (.tail _ (.tail _ (.tail _ (.tail _ (.tail _ (.tail _ (.head _)))))))))) d9;obtain rfl:=h19;refine eY (al:=[.tmp 13,.tmp 19]) [(13,_),(19,_)] hU hI (.tail _ (.tail _ (.tail _ (.tail _ (.tail _ (.tail _ (.tail _ (.tail _ (.tail _ (.tail _ (.head _))))))))))) (by kernel_rfl) ⟨e13,e19,trivial⟩ ot ((wK U d D _ (hd.from_ (ag.rfl_.next hM11)) (aX g 0) (by omega) x y hD hok).mono ?_);rintro v9 w2 ⟨rfl,hd2,hC2⟩;exact ⟨⟨fun h0=>(by rw [mQ] at h0;cases h0),fun _=>⟨hd2.wide fun x hx _=>BX hx ((ag.rfl_.next hM11)).size,(ag.toChg (U:=U) (ag.rfl_.next hM11)).next hC2⟩⟩,rfl,⟨fun _ _ _ h=>h,fun _ _ _ h=>h,fun _ _ _ h=>h,fun _ _ _ h=>h,fun _ _ _ h=>h,fun _ _ _ h=>h,fun _ _ _ h=>h,fun _ _ _ h=>h,fun _ _ _ h=>h,fun _ _ _ h=>h,fun _ _ _ h=>h,fun _ _ _ h=>h,trivial⟩⟩
  constructor
  ·rintro S L' w12 hU hmo hme hI hM hC hS ⟨d10,d10,d0,d1,d2,d3,d4,d5,d6,d7,d8,d9,d10,-⟩;obtain ⟨v12_20,e20,h20⟩:=hI.get (i:=10) (.tail _ (.tail _ (.tail _ (.tail _ (.tail _ (.tail _ (.tail _ (.tail _ (.tail _ (.tail _ (.head _))))))))))) d10;obtain rfl:=h20;exact aN [(20,_)] hU hmo hme hI hM (.tail _ (.tail _ (.tail _ (.tail _ (.tail _ (.tail _ (.tail _ (.tail _ (.tail _ (.tail _ (.tail _ (.head _)))))))))))) rfl rfl (by kernel_rfl) ⟨e20,trivial⟩ (bn (v:=.int _ _) rfl) ag.rfl_ (rfl)
  exact trivial
 case hend=>
  intro w13 hM;obtain ⟨hd9,hc9⟩:=hM.2 rfl;rintro v13_10 rfl v13_11 rfl v13_12 rfl v13_13 rfl v13_14 rfl v13_15 rfl v13_16 rfl v13_17 rfl v13_18 rfl v13_19 rfl v13_20 rfl v13_2 rfl;refine fq (ae (aC (bz (v:=.int _ _) rfl rfl (⟨rfl,(hd9.from_ ag.rfl_).wide (fun x hx _=>hx.imp id fun h=>⟨h.1,Nat.lt_of_lt_of_le h.2 (ag.rfl_).size⟩),hc9.next (ag.rfl_).toChg⟩))))
theorem wH (U:Nat→Prop) (p d g:Nat) (D:List Fe) (recs:List Rc) (la sz to b t:Int) (su n c:Nat) (E:Option Addr) (ok:Bool) (w:World) (hd:cP w U d D 0 false) (hP:Blk w p 62 (wlV (some ⟨d,0,none⟩) g la sz to su b t E n c ok).toArray) (hg:g<100) (hD:DkL D g recs la) :
 Rt prog 42 [.pointer (some ⟨p,0,none⟩)] w fun v w'=>v=.int .i64 0∧(∃ D',DkL D' g recs la∧(∀ e∈D',e.2.1=e.2.2)∧cP w' (Nx U w w') d D' 0 false)∧Chg U w w':=by
 rcases hD with ⟨rfl,h1,h2,h3⟩ | ⟨rfl,y,hD⟩
 ·refine (wJ U p d g D sz to b t su n c E ok w hd hP).mono fun v w' ⟨a,hF⟩=>⟨a,⟨D,.inl ⟨rfl,h1,h2,h3⟩,fun e he=>(by rw [h3] at he;cases he),(hd.from_ hF).wide fun k hk _=>.inl hk⟩,hF.toChg⟩
 ·exact (wI U p d g D sz to b t su n c E ok w hd hP _ y hg hD).mono fun v w' ⟨a,b,c⟩=>⟨a,⟨_,.inr ⟨rfl,_,rfl⟩,fun e he=>(by rw [List.mem_singleton.1 he]),b⟩,c⟩
theorem qS (U:Nat→Prop) (p d g:Nat) (recs:List Rc) (M:Lg) (qs:Bool) (w:World) (h:WAt w U p d g recs M qs) :
 Rt prog 20 [.pointer (some ⟨p,0,none⟩)] w (fun v w'=>v=.int .i64 0∧WAt w' (Nx U w w') p d g recs M true∧(∀ q,LR w' p q→LR w p q)∧Chg (fun k=>U k∨k=p) w w'):=by
 obtain ⟨la,E,n,c,D,hP,hDk,hqs,hd,hE,hEq⟩:=h.ex;have hn:n=M.es.length:=(dy hE).1;refine enter (n:=14) Tryz.func20 rfl rfl rfl (af (ab (asi rfl (ah (ae (af (af (ab (mvp rfl (aa (au rfl) (aa (ai dQ rfl) (aa (ao di rfl (by exact (hP.from_ ag.rfl_).rd 9 rfl)) ?_))))))))))));refine aa (bh (bG rfl) rfl) (ah (ae (aI rfl (aE (ae (af (ab (mvp rfl (mvp rfl (aa (au rfl) (aa (ai gE rfl) ?_)))))))))));have hB12:ag w w:=ag.rfl_;refine av tF (wH U p d g D recs la _ _ _ _ _ _ _ E true _ (hd.from_ ag.rfl_) (hP.from_ ag.rfl_) h.g9 hDk) ?_;rintro v12 w1 ⟨rfl,⟨D2,hD2,hq2,hd2⟩,hC12⟩;have hP12:=(hP.from_ hB12).chg hC12 h.nU;have hE12:=(hE.from_ hB12).chg hC12 (fun q hq=>(hEq q hq).2.1);refine av kJ (p4 p (some ⟨d,0,none⟩) g la _ _ _ _ _ E n c true 0 _ (hP12.from_ ag.rfl_)) ?_;rintro v13 w2 ⟨rfl,hP13,O13⟩;have hC13:Chg (fun k=>U k∨k=p) w w2:=((hB12.toChg.next hC12).wide (fun i hi=>.inl (.inl hi))).next (O13.toChg (.inr rfl));have hE13:=hE12.chg (O13.toChg (U:=fun k=>k=p) rfl) (fun q hq=>(hEq q hq).2.2);have hz12:=hC12.size;have hz0:=hB12.size;have hpl:=hP.lt;have hs13:=O13.size;refine asi rfl (ah (ae (aC (bz (v:=.int _ _) rfl rfl ?_))));have hd13:=hd2.chg (O13.toChg (U:=fun k=>k=p) rfl) (fun k hk e=>by have e:k=p:=e;subst e;exact hk.elim h.nU fun hk=>by omega);exact ⟨rfl,⟨⟨la,E,n,c,D2,hP13,hD2,fun _=>hq2,hd13.wide fun k hk _=>by rcases hk with hk | hk;exact .inl hk;exact .inr (by omega),hE13,fun q hq=>⟨by have:=(hEq q hq).1;omega,fun e=>e.elim (hEq q hq).2.1 fun e=>by have:=(hEq q hq).1;omega,(hEq q hq).2.2⟩⟩,fun e=>e.elim h.nU fun e=>by omega,fun x hx=>hx.elim (fun hx=>by have:=h.lt x hx;omega) (fun hx=>by omega),h.ok,h.rk,h.fin,h.ap,h.g9⟩,fun q hq=>⟨_,_,_,_,_,_,_,_,_,_,_,_,hP,ln (hP13.from_ ag.rfl_) hq⟩,hC13.next (ag.rfl_).toChg⟩
end Go.Proofs.YtaohnmneccbljaaGreatDoor
namespace Go.Proofs.YtaohnmneccbljaaGreatDoor
open Go.Proofs.Tryz (prog)
open Go.RowKit
open Go.ChangeShapes Go.WideShapes Go.ChangeAt
open Go.Lib
theorem zu {g:Nat} (h:g<100):decide ((aX g 0).toList<nwN.toList)=true:=by
 rw [Lib.toList_data,Lib.toList_data,gK h];exact decide_eq_true (show List.Lex _ _ _ from .cons (.cons (.cons (.rel (by decide)))))
theorem xR {x e:Fe} {D:List Fe} (h:decide (x.1.toList<e.1.toList)=true):eW (x::D) e=x::eW D e:=by unfold eW;rw [List.takeWhile_cons,List.dropWhile_cons,h];rfl
def D1 (D:List Fe) (g:Nat):Prop:=D=[]∨∃ x y,D=[(aX g 0,x,y)]
theorem DkL.d1 {D:List Fe} {g:Nat} {recs:List Rc} {la:Int} (h:DkL D g recs la):D1 D g:=by
 rcases h with ⟨_,_,_,h⟩ | ⟨_,y,h⟩
 ·exact .inl h
 ·exact .inr ⟨_,y,h⟩
section
variable {D:List Fe} {g:Nat} {bs:List Nat}
theorem Bl (h:D1 D g) (hg:g<100) (hb:bs.length≤1048576):jl D 0 false nwN bs.length=0∧kI D 0 false nwN bs=D++[(nwN,bs,[])]:=by
 have hne:=lh hg;have hlt:=zu hg
 have hE:jl D 0 false nwN bs.length=0:=by
  unfold jl;rw [xt,if_neg (by decide)];rcases h with rfl | ⟨x,y,rfl⟩
  ·rw [if_neg (by unfold eB;simp;omega),if_neg (by simp)]
  ·rw [if_neg (by unfold eB;simp [hne];omega),if_neg (by simp)]
 refine ⟨hE,?_⟩;unfold kI;rw [if_pos hE];rcases h with rfl | ⟨x,y,rfl⟩
 ·unfold gv eW qe eB;simp
 ·have hi:eW [(aX g 0,x,y)] (nwN,[],[])=[(aX g 0,x,y),(nwN,[],[])]:=xR (x:=(aX g 0,x,y)) (e:=(nwN,[],[])) hlt;rw [hi];unfold gv qe eB;simp [hne]
theorem zU (h:D1 D g) (hg:g<100):opE (D++[(nwN,bs,[])]) (okN nwN) 0 false nwN=0∧gO (D++[(nwN,bs,[])]) 0 false nwN=D++[(nwN,bs,bs)]:=by
 have hne:=lh hg
 have hE:opE (D++[(nwN,bs,[])]) (okN nwN) 0 false nwN=0:=by
  unfold opE;rw [xt,if_neg (by decide)];unfold gv;simp
 refine ⟨hE,?_⟩;unfold gO;rw [if_pos hE];rcases h with rfl | ⟨x,y,rfl⟩
 ·unfold s3 eB;simp
 ·unfold s3 eB;simp [hne]
theorem Bj {g2:Nat} (h:D1 D g) (hg:g<100) (hg2:g2<100) (hn:aX g 0≠aX g2 0):gk (D++[(nwN,bs,bs)]) 0 false nwN (aX g2 0)=0∧gR (D++[(nwN,bs,bs)]) 0 false nwN (aX g2 0)=eW D (aX g2 0,bs,bs):=by
 have hne:=lh hg;have hne2:=lh hg2
 have hE:gk (D++[(nwN,bs,bs)]) 0 false nwN (aX g2 0)=0:=by
  unfold gk opE;rw [xt,i_ hg2,if_neg (by decide)];unfold gv;simp
 refine ⟨hE,?_⟩;unfold gR;rw [if_pos hE,if_neg (Ne.symm hne2)];rcases h with rfl | ⟨x,y,rfl⟩
 ·unfold ic eB rN;simp
 ·unfold ic eB rN;simp [hne,hn]
theorem Bk {g2:Nat} {x y:List Nat} (hg:g<100) (hn:aX g 0≠aX g2 0):opE (eW [(aX g 0,x,y)] (aX g2 0,bs,bs)) (okN (aX g 0)) 0 false (aX g 0)=0∧lT (eW [(aX g 0,x,y)] (aX g2 0,bs,bs)) 0 false (aX g 0)=[(aX g2 0,bs,bs)]:=by
 have hs:eW [(aX g 0,x,y)] (aX g2 0,bs,bs)=[(aX g 0,x,y),(aX g2 0,bs,bs)]∨eW [(aX g 0,x,y)] (aX g2 0,bs,bs)=[(aX g2 0,bs,bs),(aX g 0,x,y)]:=by
  unfold eW;rw [List.takeWhile_cons,List.dropWhile_cons];cases decide ((aX g 0,x,y).1.toList<(aX g2 0,bs,bs).1.toList)
  ·exact .inr rfl
  ·exact .inl rfl
 have hE:opE (eW [(aX g 0,x,y)] (aX g2 0,bs,bs)) (okN (aX g 0)) 0 false (aX g 0)=0:=by
  unfold opE;rw [i_ hg,if_neg (by decide)];unfold gv;rcases hs with h | h <;> rw [h] <;> simp
 refine ⟨hE,?_⟩;unfold lT;rw [if_pos hE];unfold ic;rcases hs with h | h <;> rw [h] <;> simp [Ne.symm hn]
theorem zV {x y:List Nat} (hg:g<100) (hb:(x++bs).length≤1048576):jl [(aX g 0,x,y)] 0 false (aX g 0) bs.length=0∧kI [(aX g 0,x,y)] 0 false (aX g 0) bs=[(aX g 0,x++bs,y)]:=by
 rw [List.length_append] at hb
 have hE:jl [(aX g 0,x,y)] 0 false (aX g 0) bs.length=0:=by
  unfold jl;rw [i_ hg,if_neg (by decide),if_neg (by unfold eB;simp;omega),if_neg (by simp)]
 refine ⟨hE,?_⟩;unfold kI;rw [if_pos hE];unfold gv qe eB;simp
theorem yj (hg:g<100) (hb:bs.length≤1048576):jl [] 0 false (aX g 0) bs.length=0∧kI [] 0 false (aX g 0) bs=[(aX g 0,bs,[])]:=by
 have hE:jl [] 0 false (aX g 0) bs.length=0:=by
  unfold jl;rw [i_ hg,if_neg (by decide),if_neg (by unfold eB;simp;omega),if_neg (by simp)]
 refine ⟨hE,?_⟩;unfold kI;rw [if_pos hE];unfold gv eW qe eB;simp
end
section
variable {U:Nat→Prop} {w w1 w2 w3:World} {k:Nat}
theorem yL (h:Chg U w w1) (hF:ag w1 w2) (k:Chg (Nx U w w1) w2 w3):Chg U w w3:=(h.next hF.toChg).trans k fun _ hi=>hi.imp id And.left
end
theorem sz8 {g:Nat} (h:g<100):(aX g 0).size≤140737488351232:=by have:=lY h;omega
theorem wa (U:Nat→Prop) (d:Nat) (D:List Fe) (w:World) (hd:cP w U d D 0 false) (g:Nat) (hD:D1 D g) (hg:g<100) (A2:Option Addr) (c2 m:Nat) (bs:List Nat) (hb:RB w A2 c2 bs) (hm:m=bs.length) (hbl:bs.length≤1048576) (hU2:0<bs.length→∀ q,A2.map (·.block)=some q→¬ U q) :
 Rt prog 78 [.pointer (some ⟨d,0,none⟩),.string nwN,.slice A2 m c2] w fun v w'=>v=.int .i64 0∧cP w' (Nx U w w') d (D++[(nwN,bs,[])]) 0 false∧Chg U w w':=by
 obtain ⟨h1,h2⟩:=Bl (bs:=bs) hD hg hbl;refine (l_ U d D 0 false w hd nwN (by decide) A2 c2 m bs hb hm (by omega) hU2).mono fun v w' ⟨a,b,c⟩=>?_
 rw [h1] at a;rw [h2,sD,sC] at b;exact ⟨a,b,c⟩
theorem sE (U:Nat→Prop) (d:Nat) (D:List Fe) (w:World) (hd:cP w U d D 0 false) (g:Nat) (D0:List Fe) (bs:List Nat) (hD:D1 D0 g) (hg:g<100) (hDe:D=D0++[(nwN,bs,[])]) :
 Rt prog 62 [.pointer (some ⟨d,0,none⟩),.string nwN] w fun v w'=>v=.int .i64 0∧cP w' (Nx U w w') d (D0++[(nwN,bs,bs)]) 0 false∧Chg U w w':=by
 subst hDe;obtain ⟨h1,h2⟩:=zU (bs:=bs) hD hg;refine (uc U d _ 0 false w hd nwN (by decide)).mono fun v w' ⟨a,b,c⟩=>?_
 rw [h1] at a;rw [h2,sD,sC] at b;exact ⟨a,b,c⟩
theorem ve (U:Nat→Prop) (d:Nat) (D:List Fe) (w:World) (hd:cP w U d D 0 false) (g g2:Nat) (D0:List Fe) (bs:List Nat) (hD:D1 D0 g) (hg:g<100) (hg2:g2<100) (hn:aX g 0≠aX g2 0) (hDe:D=D0++[(nwN,bs,bs)]) :
 Rt prog 96 [.pointer (some ⟨d,0,none⟩),.string nwN,.string (aX g2 0)] w fun v w'=>v=.int .i64 0∧cP w' (Nx U w w') d (eW D0 (aX g2 0,bs,bs)) 0 false∧Chg U w w':=by
 subst hDe;obtain ⟨h1,h2⟩:=Bj (bs:=bs) hD hg hg2 hn;refine (vd U d _ 0 false w hd nwN (by decide) (aX g2 0) (sz8 hg2)).mono fun v w' ⟨a,b,c⟩=>?_
 rw [h1] at a;rw [h2,sD,sC] at b;exact ⟨a,b,c⟩
theorem vg (U:Nat→Prop) (d:Nat) (D:List Fe) (w:World) (hd:cP w U d D 0 false) (g g2:Nat) (x y bs:List Nat) (hg:g<100) (hn:aX g 0≠aX g2 0) (hDe:D=eW [(aX g 0,x,y)] (aX g2 0,bs,bs)) :
 Rt prog 71 [.pointer (some ⟨d,0,none⟩),.string (aX g 0)] w fun v w'=>v=.int .i64 0∧cP w' (Nx U w w') d [(aX g2 0,bs,bs)] 0 false∧Chg U w w':=by
 subst hDe;obtain ⟨h1,h2⟩:=Bk (bs:=bs) (x:=x) (y:=y) hg hn;refine (vf U d _ 0 false w hd (aX g 0) (sz8 hg)).mono fun v w' ⟨a,b,c⟩=>?_
 rw [h1] at a;rw [h2,sD,sC] at b;exact ⟨a,b,c⟩
theorem v_ (U:Nat→Prop) (d:Nat) (D:List Fe) (w:World) (hd:cP w U d D 0 false) (g:Nat) (recs rs:List Rc) (la:Int) (hD:DkL D g recs la) (hg:g<100) (A2:Option Addr) (c2 m:Nat) (hb:RB w A2 c2 (ax (ax (sG g) recs).2 rs).1) (hm:m=(ax (ax (sG g) recs).2 rs).1.length) (hbl:(ax (sG g) (recs++rs)).1.length≤1048576) (hU2:∀ q,A2.map (·.block)=some q→¬ U q) :
 Rt prog 78 [.pointer (some ⟨d,0,none⟩),.string (aX g 0),.slice A2 m c2] w fun v w'=>v=.int .i64 0∧(∃ D',DkL D' g (recs++rs) 0∧cP w' (Nx U w w') d D' 0 false)∧Chg U w w':=by
 have hc:=congrArg Prod.fst (iP recs rs (sG g));simp only at hc;rcases hD with ⟨_,rfl,rfl,rfl⟩ | ⟨_,y,rfl⟩
 ·have hl:(ax (ax (sG 0) []).2 rs).1.length≤1048576:=hbl;obtain ⟨h1,h2⟩:=yj (g:=0) (bs:=(ax (ax (sG 0) []).2 rs).1) hg hl;refine (l_ U d _ 0 false w hd (aX 0 0) (sz8 hg) A2 c2 m _ hb hm (by omega) fun _=>hU2).mono fun v w' ⟨a,b,c⟩=>?_
  rw [h1] at a;rw [h2,sD,sC] at b;exact ⟨a,⟨_,.inr ⟨rfl,_,rfl⟩,b⟩,c⟩
 ·rw [hc] at hbl;obtain ⟨h1,h2⟩:=zV (y:=y) hg hbl;refine (l_ U d _ 0 false w hd (aX g 0) (sz8 hg) A2 c2 m _ hb hm (by rw [List.length_append] at hbl;omega) fun _=>hU2).mono fun v w' ⟨a,b,c⟩=>?_
  rw [h1] at a;rw [h2,sD,sC] at b;refine ⟨a,⟨_,.inr ⟨rfl,y,?_⟩,b⟩,c⟩;rw [hc]
end Go.Proofs.YtaohnmneccbljaaGreatDoor
namespace Go.Proofs.YtaohnmneccbljaaGreatDoor
open Go.Proofs.Tryz (prog)
open Go.RowKit
open Go.ChangeShapes Go.WideShapes Go.ChangeAt
open Go.Lib
theorem ss:aH prog 110=true:=by kernel_rfl
theorem sr:eU prog 158=some (91,1,24,(.slice none 0 0)):=by kernel_rfl
theorem oH:aH prog 75=true:=by kernel_rfl
theorem mJ:(dq prog 158).isSome=true:=by kernel_rfl
theorem iw:dq prog 158=some (91,1):=by kernel_rfl
def bM (M:Lg):List Rc:=(logR M.b M.t M.es).map fun r=>fi r true
theorem tg (g0:Nat) (r:Rc) (s:BitVec 32) (w:World) (hb:Blk w g0 65 (rcV r).toArray) (hok:r.Ok) (hT:cO w) :
 Rt prog 75 [.slice (some ⟨g0,0,none⟩) 1 1,.int .u32 (s.toNat:Nat)] w fun v w'=>(∃ A' c',v=.tuple #[.slice A' (cF (b_ s (fi r true))).length c',.int .u32 ((eo s (fi r true)).toNat:Nat)]∧w'.ownsRow w.heap.size 5 1 (.slice A' (cF (b_ s (fi r true))).length c') (cF (b_ s (fi r true))).length (aK (cF (b_ s (fi r true)))))∧ag w w':=by
 have h:=pB (some ⟨g0,0,none⟩) 1 1 [r] s w (fun _=>⟨g0,0,rfl,fun i hi=>by
  obtain rfl:i=0:=by have:i<1:=hi;omega
  exact hb.whole⟩) rfl (by simp) (fun x hx=>by rw [List.mem_singleton.1 hx];exact hok) hT
 have e:ax s (bl [r])=(cF (b_ s (fi r true)),eo s (fi r true)):=by
  show (cF (b_ s (fi r true))++[],eo s (fi r true))=_;rw [List.append_nil]
 rwa [e] at h
theorem vC {M:Lg} {i:Nat} (s0:BitVec 32) (hi:i<(logR M.b M.t M.es).length) :
 (ax s0 ((bM M).take (i+1))).1=(ax s0 ((bM M).take i)).1++cF (b_ (chS s0 (bM M) i) (fi (logR M.b M.t M.es)[i] true))∧chS s0 (bM M) (i+1)=eo (chS s0 (bM M) i) (fi (logR M.b M.t M.es)[i] true):=by
 have hl:(bM M).length=(logR M.b M.t M.es).length:=List.length_map _
 have h1:(bM M).take (i+1)=(bM M).take i++[fi (logR M.b M.t M.es)[i] true]:=by
  rw [List.take_succ_eq_append_getElem (by omega)]
  congr 1
  simp [bM]
 constructor
 ·rw [h1,fH]
 ·show (ax s0 ((bM M).take (i+1))).2=_;rw [h1,fH]
theorem rE {M:Lg} (h:dh M):(logR M.b M.t M.es).length≤513:=by
 have:=h.f.n;unfold Go.Proofs.YtaohnmneccbljaaGreatDoor.logR fZ;rw [List.length_append,List.length_map];split <;> simp <;> omega
theorem zK (q:Nat) (dd:Option Addr) (g:Nat) (la sz to:Int) (s0:BitVec 32) (M:Lg) (E:Option Addr) (c n:Nat) (w:World) (hM:dh M) (hE:bm w (.slice E n c) M.es) (hn:n=M.es.length) (hQ:Blk w q 59 (wfV dd g la sz to s0.toNat).toArray) (hT:cO w) (hTq:TB≠q) (hlen:(ax s0 (bM M)).1.length≤1048576) :
 Rt prog 94 [.pointer (some ⟨q,0,none⟩),.agg (lgV M.b M.t E n c).toArray] w (fun v w'=>(∃ gp A' c',v=.slice (some ⟨gp,0,none⟩) 1 1∧w.heap.size≤gp∧Blk w' gp 91 #[.slice A' (ax s0 (bM M)).1.length c']∧w'.ownsRow w.heap.size 5 1 (.slice A' (ax s0 (bM M)).1.length c') (ax s0 (bM M)).1.length (aK (ax s0 (bM M)).1))∧Blk w' q 59 (wfV dd g la sz to (ax s0 (bM M)).2.toNat).toArray∧Chg (fun k=>k=q) w w'):=by
 have hf:=hM.f;have hfb:=hf.b;have hft:=hf.t;have hfn:=hf.n;have hrl:=rE hM;have hfl:(bM M).length=(logR M.b M.t M.es).length:=List.length_map _;have hQl:=hQ.lt;have hTl:=hT.lt;have hro:=um hM;refine enter (n:=63) Tryz.func94 rfl rfl rfl (af (ab (bu (v:=.agg _) rfl ?_)));intro b3 w1 E3 hb3 hk3;refine ass rfl (ah (ae (af (ab (aa (aG (cs:=lgV M.b M.t E n c) az aq rfl ((hk3.from_ ag.rfl_).whole)) (av ss (oT M.b M.t E c n M.es _ (hE.from_ (ag.rfl_.next E3)) hn (by omega) (by omega) (fun e he=>by have:=hf.ents e he;omega)) ?_))))));rintro v13 w2 ⟨⟨A13,c13,rfl,ho13⟩,E13⟩;have hz13:=(((ag.rfl_.next E3).next E13)).size;refine ass rfl (ah (ae (af (ab ?_))));have hM14:ag _ w2:=ag.rfl_;have hB14x:ag w w2:=((ag.rfl_.next E3).next E13);refine j5 (v:=.slice _ _ _) sr rfl rfl rfl ?_;intro b14 w3 E14 hb14 hk14;have hg14:w.heap.size≤b14:=by rw [hb14];exact hB14x.size
 have ho5:=ho13.kept_from (hM14.next E14);have hx5b:=cJ.of_own ho5;have hFL:ag w w3:=(((ag.rfl_.next E3).next E13).next E14);have hQ5:=hQ.from_ hFL;have hof5q:=hx5b.off hQ5 (by decide);have hof5b:=hx5b.off hk14 (by decide);have hbq:=gn hk14 hQ5 (by decide);have hT5:=hT.from_ hFL;refine ass rfl (ah (ae (af (af (ab (mvs rfl (aa (bb fv rfl) (mvi rfl (ah (ae (aP (cH (G:=Nat) [8,9,10,11,18,19,20,21,22,23,24,25,26,27,28,29,30,31,32,33,34,35,36,37,38,39,40,41,42,43,44,45,46,47,48,49,50,51,52,53,54,55,56,57,58,59,60,61] (fun i=>[(6,.slice (some ⟨b14,0,none⟩) 1 1),(17,.int .i64 (i:Nat))]) (fun i w'=>i≤(logR M.b M.t M.es).length∧(∃ AB cB,w'.ownsRow (w3).heap.size 5 1 (.slice AB (chA s0 (bM M) i) cB) (chA s0 (bM M) i) (aK (ax s0 ((bM M).take i)).1)∧Blk w' b14 91 #[.slice AB (chA s0 (bM M) i) cB])∧Blk w' q 59 (wfV dd g la sz to (chS s0 (bM M) i).toNat).toArray∧Chg (fun k=>k=q∨k=b14) w3 w') (fun i=>(logR M.b M.t M.es).length-i) (0) ⟨rfl,rfl,trivial⟩ ?_ ?_))))))))))))
 ·exact ⟨Nat.zero_le _,⟨none,0,World.ownsRow_nil _ _ _ _,hk14.from_ ag.rfl_⟩,hQ.from_ (((ag.rfl_.next E3).next E13).next E14),Chg.rfl_⟩
 rintro i ρ4 w4 ⟨hin,⟨AB,cB,hob,hB14⟩,hQi,hCi⟩;have hB0:=ag.rfl_ (a:=w4);have hZi:=hCi.size;have ho5i:=eX ho5 hCi (fun z hz e=>by rcases e with e | e;exact hof5q z hz e;exact hof5b z hz e);have hRK:=(gH.own uo (by decide) ho5i).2;have hTi:=hT5.chg hCi (fun e=>by rcases e with e | e;exact hTq e;omega);have hxb:=cJ.of_own hob;have hxbq:=hxb.off hQi (by decide);have hxbb:=hxb.off hB14 (by decide);have hxba:=hxb.at_;refine af (ab (aa (cl rfl rfl) (ah (ae (af (BM rfl (fun Q5=>?_) (fun Q5=>?_)))))))
 ·have hi:i<(logR M.b M.t M.es).length:=by omega
  obtain ⟨ba,oa,hA,hcs⟩:=hRK (by omega);subst hA;have hcr:=hcs i hi;have hok:=hro _ (List.getElem_mem hi);have hst:=vC s0 hi
  have hbl:(chA s0 (bM M) (i+1))≤1048576:=by
   have:=congrArg List.length (iv s0 (bM M) (i+1));rw [List.length_append] at this;show (ax s0 ((bM M).take (i+1))).1.length≤_;omega
  have hbl2:(chA s0 (bM M) (i+1))=(chA s0 (bM M) i)+(cF (b_ (chS s0 (bM M) i) (fi ((logR M.b M.t M.es)[i]'hi) true))).length:=by show (ax s0 ((bM M).take (i+1))).1.length=_;rw [hst.1,List.length_append]
  refine aE (ae (af (aP (af (ab (aa (cm lE rfl rfl (by omega)) (aa (aG (cs:=rcV ((logR M.b M.t M.es)[i]'hi)) dZ cA rfl (dU hB0 hcr)) (aZ fe ?_))))))));intro b8 w6 E8 hb8 hk8;refine aV (vs:=[_,_,_,_,_]) cA rfl rfl (by simp [Value.oneCell']) (hk8) rfl ?_;intro w7 O5 P5;have P5b:Blk w7 b8 65 (rcV ((logR M.b M.t M.es)[i]'hi)).toArray:=P5;refine ah (ae (af ?_));apply bO 12 [(22,eqp (.agg (rcV ((logR M.b M.t M.es)[i]'hi)).toArray)),(23,fun v w'=>∃ g0,v=.slice (some ⟨g0,0,none⟩) 1 1∧Blk w' g0 65 (rcV ((logR M.b M.t M.es)[i]'hi)).toArray),(24,eqp _),(25,eqp _),(26,eqp _),(27,eqp _),(28,fun v w'=>∃ A' c',v=.tuple #[.slice A' (cF (b_ (chS s0 (bM M) i) (fi ((logR M.b M.t M.es)[i]'hi) true))).length c',.int .u32 (((eo (chS s0 (bM M) i) (fi ((logR M.b M.t M.es)[i]'hi) true)).toNat:Nat):Int)]∧w'.ownsRow (w7).heap.size 5 1 (.slice A' (cF (b_ (chS s0 (bM M) i) (fi ((logR M.b M.t M.es)[i]'hi) true))).length c') (cF (b_ (chS s0 (bM M) i) (fi ((logR M.b M.t M.es)[i]'hi) true))).length (aK (cF (b_ (chS s0 (bM M) i) (fi ((logR M.b M.t M.es)[i]'hi) true))))),(21,fun v w'=>∃ A' c',v=.tuple #[.slice A' (cF (b_ (chS s0 (bM M) i) (fi ((logR M.b M.t M.es)[i]'hi) true))).length c',.int .u32 (((eo (chS s0 (bM M) i) (fi ((logR M.b M.t M.es)[i]'hi) true)).toNat:Nat):Int)]∧w'.ownsRow (w7).heap.size 5 1 (.slice A' (cF (b_ (chS s0 (bM M) i) (fi ((logR M.b M.t M.es)[i]'hi) true))).length c') (cF (b_ (chS s0 (bM M) i) (fi ((logR M.b M.t M.es)[i]'hi) true))).length (aK (cF (b_ (chS s0 (bM M) i) (fi ((logR M.b M.t M.es)[i]'hi) true))))),(29,fun v w'=>∃ A' c',v=.slice A' (cF (b_ (chS s0 (bM M) i) (fi ((logR M.b M.t M.es)[i]'hi) true))).length c'∧w'.ownsRow (w7).heap.size 5 1 (.slice A' (cF (b_ (chS s0 (bM M) i) (fi ((logR M.b M.t M.es)[i]'hi) true))).length c') (cF (b_ (chS s0 (bM M) i) (fi ((logR M.b M.t M.es)[i]'hi) true))).length (aK (cF (b_ (chS s0 (bM M) i) (fi ((logR M.b M.t M.es)[i]'hi) true))))),(30,eqp _),(9,fun v w'=>∃ A' c',v=.slice A' (cF (b_ (chS s0 (bM M) i) (fi ((logR M.b M.t M.es)[i]'hi) true))).length c'∧w'.ownsRow (w7).heap.size 5 1 (.slice A' (cF (b_ (chS s0 (bM M) i) (fi ((logR M.b M.t M.es)[i]'hi) true))).length c') (cF (b_ (chS s0 (bM M) i) (fi ((logR M.b M.t M.es)[i]'hi) true))).length (aK (cF (b_ (chS s0 (bM M) i) (fi ((logR M.b M.t M.es)[i]'hi) true))))),(10,eqp _)] (by repeat first | exact cr | refine cq ?_ | refine bU ?_) (by kernel_rfl) (by kernel_rfl) ⟨aj _,(fun _ _ _ hF ⟨a,h1,h2⟩=>⟨a,h1,h2.from_ hF⟩),aj _,aj _,aj _,aj _,(fun _ _ _ hF ⟨a,b,h1,h2⟩=>⟨a,b,h1,h2.kept_from hF⟩),(fun _ _ _ hF ⟨a,b,h1,h2⟩=>⟨a,b,h1,h2.kept_from hF⟩),(fun _ _ _ hF ⟨a,b,h1,h2⟩=>⟨a,b,h1,h2.kept_from hF⟩),aj _,(fun _ _ _ hF ⟨a,b,h1,h2⟩=>⟨a,b,h1,h2.kept_from hF⟩),aj _,trivial⟩
  case hop=>
   constructor
   ·rintro-w9 D9;exact an (aG (cs:=rcV ((logR M.b M.t M.es)[i]'hi)) dZ cA rfl ((P5b.from_ (ag.rfl_.next D9)).whole)) rfl
   constructor
   ·rintro-w10 D10;rintro v10_22 rfl;exact fC (qa (l:=[(0,.tmp 22)]) (cells:=(rcV ((logR M.b M.t M.es)[i]'hi)).toArray) eM rfl rfl (by show Instr.fill _ _ [(0,Value.agg (rcV ((logR M.b M.t M.es)[i]'hi)).toArray)]=_;exact Bi _)) (ag.rfl_.new _) ⟨_,rfl,Blk.new _ _ _⟩
   constructor
   ·rintro-w11 D11;exact an (aB (v:=.pointer _) rfl) rfl
   constructor
   ·rintro-w12 D12;rintro _ rfl;exact an (au rfl) rfl
   constructor
   ·rintro-w13 D13;rintro _ rfl;exact an (ai el rfl) rfl
   constructor
   ·rintro-w14 D14;rintro _ rfl;exact an (ao jn rfl (by exact (hQi.from_ (((hB0.next E8).only O5 ((Nat.le_of_eq hb8.symm))).next D14)).rd 5 rfl)) rfl
   constructor
   ·rintro-w15 D15;rintro v15_23 ⟨g15,rfl,hb15⟩ _ rfl;refine cX oH ((tg g15 ((logR M.b M.t M.es)[i]'hi) (chS s0 (bM M) i) _ hb15 hok (hTi.from_ (((hB0.next E8).only O5 ((Nat.le_of_eq hb8.symm))).next D15))).mono ?_);rintro v _ ⟨⟨a,b,rfl,h⟩,hF⟩;exact ⟨hF,a,b,rfl,dI h D15.size⟩
   constructor
   ·rintro-w16 D16;rintro v16_28 ⟨A16,c16,rfl,ho16⟩;exact an (aB (v:=.tuple #[_,_]) rfl) ⟨_,_,rfl,ho16⟩
   constructor
   ·rintro-w17 D17;rintro v17_21 ⟨A17,c17,rfl,ho17⟩;exact an (ar rfl rfl) ⟨_,_,rfl,ho17⟩
   constructor
   ·rintro-w18 D18;rintro v18_21 ⟨A18,c18,rfl,ho18⟩;exact an (ar rfl rfl) rfl
   constructor
   ·rintro-w19 D19;rintro v19_29 ⟨A19,c19,rfl,ho19⟩;exact an (bn (v:=.slice _ _ _) rfl) ⟨_,_,rfl,ho19⟩
   constructor
   ·rintro-w20 D20;rintro _ rfl;exact an (bn (v:=.int _ _) rfl) rfl
   exact trivial
  case hend=>
   intro w21 D21;rintro v22 rfl v23 ⟨g21,rfl,hb21⟩ _ rfl _ rfl _ rfl _ rfl v28 ⟨A21,c21,rfl,ho21⟩ v21 ⟨A21,c21,rfl,ho21⟩ v29 ⟨A21,c21,rfl,ho21⟩ _ rfl v9 ⟨A9,c9,rfl,ho9⟩ _ rfl;show St ..;have hB6:ag _ w21:=(((hB0.next E8).only O5 ((Nat.le_of_eq hb8.symm))).next D21);refine ah (ae (af (ab (mvs rfl (aa (bb mJ rfl) (aa (bH (dv rfl rfl (by decide)) (congrArg (Value.int .i64) (show (1:Int)-1=((0:Nat):Int) from rfl))) (asi rfl (ah (ae (af (af (ab (mvs rfl (mvi rfl (aa (cm iw rfl rfl (by omega)) ?_)))))))))))))));refine aa (ao bQ rfl (by exact (hB14.from_ (((hB0.next E8).only O5 ((Nat.le_of_eq hb8.symm))).next D21)).rd 0 rfl)) ?_;refine aa (bb bZ rfl) (mvs rfl (aa (bb bZ rfl) (aa (br rfl rfl (by omega)) (aa (bh (cn rfl rfl) (decide_eq_false (by omega))) (ah (ae (aI rfl (aE (ae (af (ab (mvs rfl ?_))))))))))));refine mvi rfl (mvs rfl (mvi rfl (aa (cm iw rfl rfl (by omega)) (aa (ao bQ rfl (by exact (hB14.from_ (((hB0.next E8).only O5 ((Nat.le_of_eq hb8.symm))).next D21)).rd 0 rfl)) ?_))));refine mvs rfl ?_;have hB11:ag _ w21:=(((hB0.next E8).only O5 ((Nat.le_of_eq hb8.symm))).next D21);have hM11:ag _ w21:=(ag.rfl_.next D21);refine kB (base:=_) (news:=aK (cF (b_ (chS s0 (bM M) i) (fi ((logR M.b M.t M.es)[i]'hi) true)))) fP rfl (by decide) rfl (hob.kept_from hB11) (Nat.le_trans hZi hB11.size) rfl (by rw [aJ,Nat.mul_one]) (fun h0=>uq (ho9.kept_from (ag.rfl_ (a:=w21))) h0) (fun h0=>by subst h0;exact nJ ho9) (dP _) (by omega) (by omega) ?_;intro A55 c55 w22 ho55 hg55;have hG55:=Chg.of_grown (U:=fun k=>AB.map (·.block)=some k) hg55 fun k hk=>hk
   have hB14c:=(hB14.from_ hB11).chg hG55 (fun e=>hxbb _ e rfl);have hQc:=(hQi.from_ hB11).chg hG55 (fun e=>hxbq _ e rfl);have hCc:Chg (fun k=>k=q∨k=b14) _ w22:=(hCi.next hB11.toChg).trans hG55 (fun k hk=>.inr (hxba k hk).1);refine aa (cm iw rfl rfl (by omega)) (cT (v:=.slice _ _ _) kQ rfl rfl rfl ((hB14c.from_ ag.rfl_)) (by show 0+_<1;decide) ?_);intro w23 O11 P11;have hB11c:Blk w23 b14 91 #[.slice A55 ((chA s0 (bM M) i)+(cF (b_ (chS s0 (bM M) i) (fi ((logR M.b M.t M.es)[i]'hi) true))).length) c55]:=P11;have hx55:=cJ.of_own ho55;have ho11:=eX ho55 (O11.toChg (U:=fun k=>k=b14) rfl) (fun z hz e=>hx55.off hB14c (by decide) z hz e);have hQ11:=hQc.only O11 (Ne.symm hbq);have hC11:=hCc.next (O11.toChg (.inr rfl));refine ah (ae (ab (mvp rfl (mvi rfl (aa (au rfl) (aa (ai el rfl) ?_))))));have hM12:ag _ w23:=ag.rfl_;refine cT (v:=.int _ _) jm rfl rfl rfl ((hQ11.from_ ag.rfl_)) (by show 0+5<6;decide) ?_;intro w24 O12 P12;have P12b:Blk w24 q 59 (wfV dd g la sz to (eo (chS s0 (bM M) i) (fi ((logR M.b M.t M.es)[i]'hi) true)).toNat).toArray:=P12;have hB12:=(hB11c.from_ hM12).only O12 hbq;have hx11:=cJ.of_own ho11;have ho12:=eX (ho11.kept_from hM12) (O12.toChg (U:=fun k=>k=q) rfl) (fun z hz e=>hx11.off hQ11 (by decide) z hz e);have hC12:=(hC11.next hM12.toChg).next (O12.toChg (.inl rfl));refine ah (bI (ae (ab (aa (cf (b:=1) rfl rfl (by omega)) (mvi rfl (ah ?_))))));refine bW (i+1) ⟨rfl,(by first | rfl | (refine bD ?_;omega)),trivial⟩ (by (iterate 94 refine bg rfl ?_);exact bw) ⟨?_,?_⟩
   ·refine ⟨by omega,⟨A55,c55,?_,?_⟩,by rw [hst.2];exact P12b.from_ ag.rfl_,hC12.next (ag.rfl_).toChg⟩
    ·rw [hst.1,hbl2,du];exact ho12.kept_from ag.rfl_
    ·rw [hbl2];exact hB12.from_ ag.rfl_
   ·show (logR M.b M.t M.es).length-(i+1)<(logR M.b M.t M.es).length-i;omega
 refine cx (bc (bc (bX (ae (af (ab (mvs rfl (ass rfl (ah (ae (aC (bz (v:=.slice _ _ _) rfl rfl ?_))))))))))));obtain rfl:i=(logR M.b M.t M.es).length:=by omega
 have hta:(bM M).take (logR M.b M.t M.es).length=bM M:=List.take_of_length_le (by omega);unfold chA at hob hB14;unfold chS at hQi;rw [hta] at hob hB14 hQi;exact ⟨⟨b14,AB,cB,rfl,hg14,hB14.from_ hB0,dI (hob.kept_from hB0) hFL.size⟩,hQi.from_ hB0,((hFL.toChg.trans hCi (fun k hk=>by rcases hk with hk | hk;exact .inl hk;exact .inr (by rw [show k=b14 from hk];exact hg14)))).next (hB0).toChg⟩
theorem pO:aH prog 78=true:=by kernel_rfl
theorem nO {U:Nat→Prop} {w w':World} {d:Nat} {D:List Fe} {V:Nat→Prop} (h:cP w' V d D 0 false) (hV:∀ k,V k→U k∨w.heap.size≤k):cP w' (Nx U w w') d D 0 false:=h.wide fun k hk hl=>(hV k hk).imp id fun e=>⟨e,hl⟩
theorem lg {U:Nat→Prop} {w w1 w2:World} {k:Nat} (hz:w.heap.size≤w1.heap.size) (h:Nx U w1 w2 k):U k∨w.heap.size≤k:=h.imp id fun e=>Nat.le_trans hz e.1
theorem xv {U:Nat→Prop} {w w1 w2 w3 w4:World} {k:Nat} (hz:w.heap.size≤w1.heap.size) (hz2:w.heap.size≤w3.heap.size) (h:Nx (Nx U w1 w2) w3 w4 k):U k∨w.heap.size≤k:=by
 rcases h with h | h
 ·exact lg hz h
 ·exact .inr (Nat.le_trans hz2 h.1)
theorem tE (U:Nat→Prop) (q d g g0 su:Nat) (D0:List Fe) (A:Option Addr) (c n:Nat) (bs:List Nat) (w:World) (hd:cP w U d D0 0 false) (hD:D1 D0 g0) (hg0:g0<100) (hg:g<100) (hQ:Blk w q 59 (wfV (some ⟨d,0,none⟩) g (-1) 0 0 su).toArray) (hr:RB w A c bs) (hn:n=bs.length) (hbl:bs.length≤1048576) (hA:∀ z,A.map (·.block)=some z→¬ U z∧z≠q) (hUq:¬ U q) :
 Rt prog 95 [.pointer (some ⟨q,0,none⟩),.slice A n c] w (fun v w'=>v=.int .i64 0∧Blk w' q 59 (wfV (some ⟨d,0,none⟩) g 0 ((bs.length:Nat):Int) ((bs.length:Nat):Int) su).toArray∧cP w' (Nx U w w') d (D0++[(nwN,bs,bs)]) 0 false∧Chg (fun k=>U k∨k=q) w w'):=by
 subst hn;refine enter (n:=55) Tryz.func95 rfl rfl rfl (af (ab (asi rfl (ah (ae (af (ab (mvp rfl (aa (au rfl) (aa (ai bR rfl) (aa (ao aD rfl (by exact (hQ.from_ ag.rfl_).rd 2 rfl)) ?_)))))))))));refine aa (bH (br rfl rfl (by decide)) (congrArg (Value.int .i64) (show (-1:Int)+1=(0:Int) from rfl))) (aa (au rfl) (aa (ai bR rfl) ?_));have hB1:ag w w:=ag.rfl_;refine cT (v:=.int _ _) en rfl rfl rfl ((hQ.from_ hB1)) (by show 0+2<6;decide) ?_;intro w1 O1 P1;have P1b:Blk w1 q 59 (wfV (some ⟨d,0,none⟩) g 0 0 0 su).toArray:=P1;have hC1:Chg (fun k=>k=q) w w1:=hB1.toChg.next (O1.toChg rfl);refine ah (ae (af (ab (mvp rfl (mvs rfl (aa (bb bZ rfl) (aa (au rfl) (aa (ai eh rfl) ?_))))))));have hM2:ag _ w1:=ag.rfl_;refine cT (v:=.int _ _) en rfl rfl rfl ((P1b.from_ hM2)) (by show 0+3<6;decide) ?_;intro w2 O2 P2;have P2b:Blk w2 q 59 (wfV (some ⟨d,0,none⟩) g 0 ((bs.length:Nat):Int) 0 su).toArray:=P2;have hC2:=(hC1.next hM2.toChg).next (O2.toChg rfl);refine ah (ae (af (ab (mvp rfl (aa (au rfl) (aa (ai ef rfl) (aa (ao aD rfl (by exact (P2b.from_ ag.rfl_).rd 4 rfl)) ?_)))))));refine mvs rfl (aa (bb bZ rfl) (aa (bH (br rfl rfl (by omega)) (congrArg (Value.int .i64) (show (0:Int)+((bs.length:Nat):Int)=((bs.length:Nat):Int) by omega))) ?_));refine aa (au rfl) ?_;have hM3:ag _ w2:=ag.rfl_;refine aa (ai ef rfl) (cT (v:=.int _ _) en rfl rfl rfl ((P2b.from_ hM3)) (by show 0+4<6;decide) ?_);intro w3 O3 P3;have P3b:Blk w3 q 59 (wfV (some ⟨d,0,none⟩) g 0 ((bs.length:Nat):Int) ((bs.length:Nat):Int) su).toArray:=P3;have hC3:=(hC2.next hM3.toChg).next (O3.toChg rfl);have hd3:=hd.chg hC3 (fun k hk e=>hUq (by rw [←show k=q from e];exact hk));have hr3:=hr.chg hC3 (fun z hz e=>(hA z hz).2 e);have hz3:=hC3.size;refine ah (ae (af (ab (mvp rfl (mvp rfl (aa (au rfl) (aa (ai bR rfl) (aa (ao aD rfl (by exact (P3b.from_ ag.rfl_).rd 2 rfl)) ?_))))))));refine av eN (er 59 q g 0 _ _ _ (P3b.from_ ag.rfl_) hg (by decide)) ?_;rintro v33 w4 ⟨rfl,E33⟩;refine asg rfl (ah (ae (af (af (ab (mvp rfl (aa (au rfl) (aa (ai bR rfl) (aa (ao aD rfl (by exact (P3b.from_ (ag.rfl_.next E33)).rd 2 rfl)) ?_)))))))));refine aa (cU (a7 rfl rfl) rfl) (ah (ae (aY rfl (ab (asg rfl (ah (ae (af (af (ab (mvp rfl (aa (au rfl) (aa (ai cz rfl) ?_)))))))))))));refine aa (ao cW rfl (by exact (P3b.from_ (ag.rfl_.next E33)).rd 0 rfl)) ?_;refine mvg rfl (mvs rfl ?_);have hM45:ag _ w4:=(ag.rfl_.next E33);refine av pO (wa U d D0 _ (hd3.from_ (ag.rfl_.next E33)) g0 hD hg0 A c bs.length bs (hr3.from_ (ag.rfl_.next E33)) rfl hbl (fun _ z hz=>(hA z hz).1)) ?_;rintro v45 w5 ⟨rfl,hd45,hC45⟩;have P45:=(P3b.from_ hM45).chg hC45 hUq;have hz45:=hM45.size;have hz46:=hC45.size;refine asi rfl (ah (ae (af (ab (mvi rfl (aa (bh (cv rfl rfl) rfl) (ah (ae (aI rfl (aE (ae (af (ab (mvp rfl (aa (au rfl) ?_)))))))))))))));refine aa (ai cz rfl) (aa (ao cW rfl (by exact (P45.from_ ag.rfl_).rd 0 rfl)) ?_);refine mvg rfl ?_;have hM54:ag _ w5:=ag.rfl_;refine av ot (sE _ d _ _ (hd45.from_ ag.rfl_) g0 D0 bs hD hg0 rfl) ?_;rintro v54 w6 ⟨rfl,hd54,hC54⟩;have hz54:=hM54.size;have hz55:=hC54.size;have P54:=(P45.from_ hM54).chg hC54 (fun e=>e.elim hUq fun e=>by have:=hQ.lt;omega);refine asi rfl (ah (ae (aC (bz (v:=.int _ _) rfl rfl (⟨rfl,P54.from_ ag.rfl_,(nO (hd54.from_ ag.rfl_) fun k hk=>xv (by omega) (by omega) hk),(((hC3.wide (fun i hi=>.inl (.inr hi))).next hM45.toChg).next ((yL hC45 hM54 hC54).wide (fun i hi=>.inl (.inl hi)))).next (ag.rfl_).toChg⟩)))))
theorem sf:aH prog 96=true:=by kernel_rfl
theorem si:aH prog 71=true:=by kernel_rfl
theorem sh:aH prog 94=true:=by kernel_rfl
theorem sg:aH prog 95=true:=by kernel_rfl
def DkV (w0 w':World) (U:Nat→Prop) (d b:Nat) (D:List Fe):Prop:=∃ V:Nat→Prop,(∀ k,V k→U k∨(w0.heap.size≤k∧k≠b))∧cP w' V d D 0 false
theorem DkV.from_ {w0 w w':World} {U:Nat→Prop} {d b:Nat} {D:List Fe} (h:DkV w0 w U d b D) (hF:ag w w'):DkV w0 w' U d b D:=by
 obtain ⟨V,h1,h2⟩:=h;exact ⟨V,h1,h2.from_ hF⟩
theorem DkV.step {w0 w1 w2:World} {U V:Nat→Prop} {d b:Nat} {D:List Fe} (hV:∀ k,V k→U k∨(w0.heap.size≤k∧k≠b)) (hb:b<w1.heap.size) (hz:w0.heap.size≤w1.heap.size) (h:cP w2 (Nx V w1 w2) d D 0 false):DkV w0 w2 U d b D:=
 ⟨_,fun k hk=>hk.elim (hV k) fun e=>.inr ⟨Nat.le_trans hz e.1,by omega⟩,h⟩
theorem qf (T:TypeId) (b g j:Nat) (c0:Value) (cs:List Value) (w:World) (hb:Blk w b T (c0::.int .i64 (g:Nat)::cs).toArray) (hg:g<100) (hj:j=0):Rt prog 48 [.pointer (some ⟨b,0,none⟩),.int .i64 (j:Nat)] w fun v w'=>v=.string (aX g 0)∧ag w w':=by
 subst hj;exact er T b g 0 c0 cs w hb hg (by decide)
def BF (D:List Fe) (j:Nat) (e:Fe):List Fe:=if j=0 then eW D e else [e]
theorem zx {M:Lg} (h:dh M):∀ r∈bM M,r.Ok:=fun r hr=>by
 obtain ⟨x,hx,rfl⟩:=List.mem_map.1 hr;exact uC (um h x hx)
theorem xM (M:Lg):iN (bM M) (bM M).length:=by
 rcases Nat.eq_zero_or_pos (bM M).length with h | h
 ·exact .inl h
 ·refine .inr ⟨by omega,?_⟩;have hl:(bM M).length=(logR M.b M.t M.es).length:=List.length_map _;simp [bM,fi]
theorem zy {M:Lg} (h:dh M):cI lg0 (bM M) M:=(cI.logR h).fins
theorem zQ {D:List Fe} {g:Nat} {recs:List Rc} {la:Int} {e:Fe} (h:DkL D g recs la) {j:Nat} (hj:la+1=(j:Int)):BF D j e=[e]:=by
 rcases h with ⟨h1,_,_,h2⟩ | ⟨h1,_⟩
 ·obtain rfl:j=0:=by omega
  subst h2;rfl
 ·obtain rfl:j=1:=by omega
  rfl
theorem xh (U:Nat→Prop) (p d g su:Nat) (recs:List Rc) (D:List Fe) (la sz to b0 t0:Int) (E0:Option Addr) (n0 c0:Nat) (ok:Bool) (M:Lg) (E:Option Addr) (c n:Nat) (w:World) (hd:cP w U d D 0 false) (hD:DkL D g recs la) (hg:g<99) (hP:Blk w p 62 (wlV (some ⟨d,0,none⟩) g la sz to su b0 t0 E0 n0 c0 ok).toArray) (hUp:¬ U p) (hM:dh M) (hE:bm w (.slice E n c) M.es) (hn:n=M.es.length) (hlen:(ax (sG (g+1)) (bM M)).1.length≤1048576) (hT:cO w) (hU9:∀ x,U x→x<w.heap.size) :
 Rt prog 77 [.pointer (some ⟨p,0,none⟩),.agg (lgV M.b M.t E n c).toArray] w (fun v w'=>v=.int .i64 0∧Blk w' p 62 (wlV (some ⟨d,0,none⟩) (g+1) 0 (((ax (sG (g+1)) (bM M)).1.length:Nat):Int) (((ax (sG (g+1)) (bM M)).1.length:Nat):Int) (ax (sG (g+1)) (bM M)).2.toNat b0 t0 E0 n0 c0 ok).toArray∧(∃ D',DkL D' (g+1) (bM M) 0∧cP w' (Nx U w w') d D' 0 false)∧Chg (fun k=>U k∨k=p) w w'):=by
 have hTl:=hT.lt;have hPl:=hP.lt;have hne:aX g 0≠aX (g+1) 0:=fun e=>by have:=xE (by omega) (by omega) e;omega
 obtain ⟨nla,hnla,hnl1⟩:∃ nla:Nat,la+1=(nla:Int)∧nla≤1:=by
  rcases hD with ⟨h1,_⟩ | ⟨h1,_⟩
  ·exact ⟨0,by omega,by omega⟩
  ·exact ⟨1,by omega,by omega⟩
 refine enter (n:=65) Tryz.func77 rfl rfl rfl (af (ab (bu (v:=.agg _) rfl ?_)));intro b3 w1 E3 hb3 hk3;have hs3:=((ag.rfl_.next E3)).size;refine asi rfl (ah (ae (af ?_)));apply lA 11 [(12,eqp _),(13,eqp _),(14,eqp _),(15,eqp _),(16,eqp _),(17,eqp _),(18,eqp _),(19,eqp _),(20,eqp _),(21,eqp _),(5,fun v w'=>∃ x,v=.pointer (some ⟨x,0,none⟩)∧(w1).heap.size≤x∧Blk w' x 59 #[.pointer none,.int .i64 0,.int .i64 0,.int .i64 0,.int .i64 0,.int .u32 0])] (by kernel_rfl) (by kernel_rfl) ⟨aj _,aj _,aj _,aj _,aj _,aj _,aj _,aj _,aj _,aj _,(fun _ _ _ hF ⟨a,h1,h2,h3⟩=>⟨a,h1,h2,h3.from_ hF⟩),trivial⟩
 case hop=>
  constructor
  ·intro w3 D3;exact an (aB (v:=.pointer _) rfl) rfl
  constructor
  ·intro w4 D4;rintro _ rfl;exact an (au rfl) rfl
  constructor
  ·intro w5 D5;rintro _ rfl;exact an (ai cz rfl) rfl
  constructor
  ·intro w6 D6;rintro _ rfl;exact an (ao cW rfl (by exact (hP.from_ ((ag.rfl_.next E3).next D6)).rd 0 rfl)) rfl
  constructor
  ·intro w7 D7;exact an (aB (v:=.pointer _) rfl) rfl
  constructor
  ·intro w8 D8;rintro _ rfl;exact an (au rfl) rfl
  constructor
  ·intro w9 D9;rintro _ rfl;exact an (ai jr rfl) rfl
  constructor
  ·intro w10 D10;rintro _ rfl;exact an (ao aD rfl (by exact (hP.from_ ((ag.rfl_.next E3).next D10)).rd 1 rfl)) rfl
  constructor
  ·intro w11 D11;rintro _ rfl;exact an (bH (br rfl rfl (by omega)) (congrArg (Value.int .i64) (show ((g:Nat):Int)+1=((g+1:Nat):Int) by omega))) rfl
  constructor
  ·intro w12 D12;rintro _ rfl _ rfl;refine cX jo ((ir (some ⟨d,0,none⟩) (g+1) _ (by omega)).mono ?_);rintro v _ ⟨rfl,E12'⟩;exact ⟨E12',rfl⟩
  constructor
  ·intro w13 D13;exact fC (k7 sa) (ag.rfl_.new _) ⟨_,rfl,D13.size,Blk.new _ _ _⟩
  exact trivial
 case hend=>
  intro w14 D14;rintro _ rfl _ rfl _ rfl _ rfl _ rfl _ rfl _ rfl _ rfl _ rfl _ rfl v5 ⟨b5,rfl,hg5a,hk5⟩;show St ..;have hg5:w.heap.size≤b5:=Nat.le_trans hs3 hg5a;have hM1:ag _ w14:=(ag.rfl_.next D14);refine aV (vs:=[_,_,_,_,_,_]) gY rfl rfl (by simp [Value.oneCell']) (hk5) rfl ?_;intro w15 O1 P1;have hk3l:=hk3.lt;replace hk3:=(hk3.from_ hM1).only O1 (by omega);have P1b:Blk w15 b5 59 (wfV (some ⟨d,0,none⟩) (g+1) (-1) 0 0 (g+1)).toArray:=P1;refine ah (ae (af (af (ab (aa (aG (cs:=lgV M.b M.t E n c) az aq rfl ((hk3.from_ ag.rfl_).whole)) ?_)))));have hB23:ag w w15:=(((ag.rfl_.next E3).next D14).only O1 (hg5));have hM23:ag _ w15:=ag.rfl_;refine av sh (zK b5 (some ⟨d,0,none⟩) (g+1) (-1) 0 0 (sG (g+1)) M E c n _ hM (hE.from_ (((ag.rfl_.next E3).next D14).only O1 (hg5))) hn (by rw [wV (by omega)];exact P1b.from_ ag.rfl_) (hT.from_ (((ag.rfl_.next E3).next D14).only O1 (hg5))) (by omega) hlen) ?_;rintro v23 w16 ⟨⟨gp,A9,c9,rfl,hgp,hGp,ho9⟩,hQ9a,hC23⟩;have hF23:=hB23.chg hC23 (fun k hk=>by rw [show k=b5 from hk];exact hg5);have hd23:=hd.from_ hF23;have hx9:=cJ.of_own ho9;have hz23:=hB23.size;have hr9:=(RB.own ho9 (lz _ _)).2;refine aa (bb mJ rfl) (mvi rfl (ah (ae (aP (cH (G:=Nat) [4,7,8,26,27,28,29,30,31,32,33,34] (fun i=>[(25,.int .i64 (i:Nat))]) (fun i w'=>i≤1∧(i=0→ag w16 w')∧(i=1→Blk w' b5 59 (wfV (some ⟨d,0,none⟩) (g+1) 0 (((ax (sG (g+1)) (bM M)).1.length:Nat):Int) (((ax (sG (g+1)) (bM M)).1.length:Nat):Int) (ax (sG (g+1)) (bM M)).2.toNat).toArray∧DkV w w' U d b5 (D++[(nwN,(ax (sG (g+1)) (bM M)).1,(ax (sG (g+1)) (bM M)).1)]))∧Chg U w w') (fun i=>1-i) (0) ⟨rfl,trivial⟩ ?_ ?_)))))
  ·exact ⟨Nat.zero_le _,fun _=>ag.rfl_,fun h=>absurd h (by decide),(hF23).toChg⟩
  rintro i ρ17 w17 ⟨hi1,hi0,hi2,hCi⟩;have hB0:=ag.rfl_ (a:=w17);have hzi:=hCi.size;refine af (ab (aa (cl rfl rfl) (ah (ae (af (BM rfl (fun Q18=>?_) (fun Q18=>?_)))))))
  ·have hFi:=hi0 (by omega);have hQi:=hQ9a.from_ hFi;have hGi:=hGp.from_ hFi;have hri:=hr9.from_ hFi;have hdi:=hd23.from_ hFi;refine aE (ae (af (aP (af (ab (aa (cm iw rfl rfl (by omega)) ?_))))));refine aa (ao (v:=.slice A9 (ax (sG (g+1)) (bM M)).1.length c9) bQ rfl (by obtain rfl:i=0:=(by omega);exact (hGi.from_ hB0).rd 0 rfl)) ?_;refine ass rfl (ah (ae (af (ab (mvs rfl ?_)))));have hB30:ag _ w17:=hB0;refine av sg (tE U b5 d (g+1) g (ax (sG (g+1)) (bM M)).2.toNat D A9 c9 _ _ _ (hdi.from_ hB0) hD.d1 (by omega) (by omega) (hQi.from_ hB0) (hri.from_ hB0) rfl hlen (fun z hz=>⟨fun h=>by have:=hU9 z h;have:=(hx9.at_ z hz).1;omega,hx9.off hQ9a (by decide) z hz⟩) (fun h=>by have:=hU9 _ h;omega)) ?_;rintro v30 w19 ⟨rfl,hQ30,hd30,hC30a⟩;have hC30:Chg U w w19:=(hCi.next hB30.toChg).trans hC30a (fun i hi=>by rcases hi with hi | hi;exact .inl hi;exact .inr (by rw [show i=b5 from hi];exact hg5));refine asi rfl (ah (ae (af (ab (mvi rfl (aa (bh (cv rfl rfl) rfl) (ah (ae (aI rfl (aE (bI (ae (ab (aa (br rfl rfl (by omega)) (mvi rfl ?_)))))))))))))));refine ah ?_;refine bW (i+1) ⟨(by first | rfl | (refine bD ?_;omega)),trivial⟩ (by (iterate 24 refine bg rfl ?_);exact bw) ⟨?_,?_⟩
   ·exact ⟨by omega,fun h=>absurd h (Nat.succ_ne_zero i),fun _=>⟨hQ30.from_ ag.rfl_,(DkV.step (fun k hk=>.inl hk) (hQi.from_ hB30).lt (by have:=hB30.size;omega) hd30).from_ ag.rfl_⟩,hC30.next (ag.rfl_).toChg⟩
   ·omega
  obtain ⟨hQ1,V1,hV1,hd1⟩:=hi2 (by omega);have hb5V:¬ V1 b5:=fun e=>(hV1 b5 e).elim (fun e=>by have:=hU9 _ e;omega) fun e=>e.2 rfl
  have hQ1l:=hQ1.lt;refine cx (bc (bc (bX (ae (af (af ?_))))));apply gz [(0,35,fun _ v _=>v=_),(1,36,fun _ v _=>v=_),(2,37,fun _ v _=>v=_),(3,38,fun _ v _=>v=_),(4,9,fun _ v _=>v=_)] [3] (fun S w'=>(S 3=false→ag w17 w')∧(S 3=true→DkV w w' U d b5 (eW D (aX (g+1) 0,(ax (sG (g+1)) (bM M)).1,(ax (sG (g+1)) (bM M)).1))∧Chg V1 w17 w'∧Blk w' b5 59 (wfV (some ⟨d,0,none⟩) (g+1) 0 (((ax (sG (g+1)) (bM M)).1.length:Nat):Int) (((ax (sG (g+1)) (bM M)).1.length:Nat):Int) (ax (sG (g+1)) (bM M)).2.toNat).toArray)) (by kernel_rfl) (by kernel_rfl) rfl rfl ⟨fun _ _ _ _ _ _ _ h=>h,fun _ _ _ _ _ _ _ h=>h,fun _ _ _ _ _ _ _ h=>h,fun _ _ _ _ _ _ _ h=>h,fun _ _ _ _ _ _ _ h=>h,trivial⟩ (fun S i w1 w2 hq hF h=>⟨fun h0=>(h.1 (lP h0)).next hF,fun h1=>(fun h=>⟨h.1.from_ hF,h.2.1.next hF.toChg,h.2.2.from_ hF⟩) (h.2 (mP (show 3≠i by rintro rfl;exact absurd hq (by decide)) h1))⟩) ⟨fun _=>ag.rfl_.d1,fun h=>by cases h⟩
  case hstep=>
   constructor
   ·rintro S L' w20 hU hmo hme hI hM hC hS ⟨-⟩;have hS0:S 3=false:=(ay hC (j:=3) rfl (by kernel_rfl) (ay hC (j:=1) rfl (by kernel_rfl) hS));have hM20:=hM.1 hS0;have e5:=hI.1 5 (fj rfl);exact aN [(5,_)] hU hmo hme hI hM (.head _) rfl rfl (by kernel_rfl) ⟨e5,trivial⟩ (ai cz rfl) ag.rfl_ (rfl)
   constructor
   ·rintro S L' w21 hU hmo hme hI hM hC hS ⟨d0,-⟩;have hS0:S 3=false:=(ay hC (j:=3) rfl (by kernel_rfl) hS);have hM21:=hM.1 hS0;obtain ⟨v21_35,e35,h35⟩:=hI.get (i:=0) (.head _) d0;obtain rfl:=h35;exact aN [(35,_)] hU hmo hme hI hM (.tail _ (.head _)) rfl rfl (by kernel_rfl) ⟨e35,trivial⟩ (ao cW rfl (by exact (hQ1.from_ (hB0.next hM21)).rd 0 rfl)) ag.rfl_ (rfl)
   constructor
   ·rintro S L' w22 hU hmo hme hI hM hC hS ⟨-⟩;have hS0:S 3=false:=(ay hC (j:=3) rfl (by kernel_rfl) hS);have hM22:=hM.1 hS0;have e5:=hI.1 5 (fj rfl);refine fB (al:=[.tmp 5,.const (.int .i64 0)]) [(5,_)] hU hmo hme hI hM (.tail _ (.tail _ (.head _))) rfl (by kernel_rfl) ⟨e5,trivial⟩ eN ((er 59 b5 (g+1) 0 _ _ _ (hQ1.from_ (hB0.next hM22)) (by omega) (by decide)).mono ?_);rintro v w2 ⟨rfl,E22'⟩;exact ⟨E22',rfl⟩
   constructor
   ·rintro S L' w23 hU hmo hme hI hM hC hS ⟨d1,d2,d2,-⟩;have hS0:S 3=false:=hS;have hM23:=hM.1 hS0;obtain ⟨v23_36,e36,h36⟩:=hI.get (i:=1) (.tail _ (.head _)) d1;obtain rfl:=h36;obtain ⟨v23_37,e37,h37⟩:=hI.get (i:=2) (.tail _ (.tail _ (.head _))) d2;obtain rfl:=h37;refine eY (al:=[.tmp 36,.const (.string nwN),.tmp 37]) [(36,_),(37,_)] hU hI (.tail _ (.tail _ (.tail _ (.head _)))) (by kernel_rfl) ⟨e36,e37,trivial⟩ sf ((ve _ d _ _ (hd1.from_ (hB0.next hM23)) g (g+1) D _ hD.d1 (by omega) (by omega) hne rfl).mono ?_);rintro v9 w2 ⟨rfl,hd2,hC2⟩;have hzB:=((hB0.next hM23)).size;exact ⟨⟨fun h0=>(by rw [mQ] at h0;cases h0),fun _=>⟨DkV.step hV1 (by omega) (by omega) hd2,(ag.toChg hM23).next hC2,(hQ1.from_ (hB0.next hM23)).chg hC2 hb5V⟩⟩,rfl,⟨fun _ _ _ h=>h,fun _ _ _ h=>h,fun _ _ _ h=>h,fun _ _ _ h=>h,fun _ _ _ h=>h,trivial⟩⟩
   constructor
   ·rintro S L' w24 hU hmo hme hI hM hC hS ⟨d3,d3,d0,d1,d2,d3,-⟩;obtain ⟨v24_38,e38,h38⟩:=hI.get (i:=3) (.tail _ (.tail _ (.tail _ (.head _)))) d3;obtain rfl:=h38;exact aN [(38,_)] hU hmo hme hI hM (.tail _ (.tail _ (.tail _ (.tail _ (.head _))))) rfl rfl (by kernel_rfl) ⟨e38,trivial⟩ (bn (v:=.int _ _) rfl) ag.rfl_ (rfl)
   exact trivial
  case hend=>
   intro w25 hM;obtain ⟨hd9,hC9a,hQ9⟩:=hM.2 rfl;rintro v25_35 rfl v25_36 rfl v25_37 rfl v25_38 rfl v25_9 rfl;refine fq ?_;have hC9:=hCi.trans hC9a (fun k hk=>(hV1 k hk).imp id And.left);have hP9:=hP.chg hC9 hUp;refine ae (af (ab (mvi rfl (aa (bh (cv rfl rfl) rfl) (ah (ae (aI rfl (aE (ae (af (af (ab (mvp rfl (aa (au rfl) (aa (ai bR rfl) ?_)))))))))))))));refine aa (ao aD rfl (by exact (hP9.from_ ag.rfl_).rd 2 rfl)) ?_;refine aa (bH (br rfl rfl (by omega)) (congrArg (Value.int .i64) hnla)) (mvi rfl (ah (ae (aP (cH (G:=Nat) [4,10,11,48,49,50,51,52,53,54,55,56,57,58,59,60,61] (fun j=>[(47,.int .i64 (j:Nat))]) (fun j w'=>j≤nla∧DkV w w' U d b5 (BF D j (aX (g+1) 0,(ax (sG (g+1)) (bM M)).1,(ax (sG (g+1)) (bM M)).1))∧Blk w' b5 59 (wfV (some ⟨d,0,none⟩) (g+1) 0 (((ax (sG (g+1)) (bM M)).1.length:Nat):Int) (((ax (sG (g+1)) (bM M)).1.length:Nat):Int) (ax (sG (g+1)) (bM M)).2.toNat).toArray∧Chg U w w') (fun j=>1-j) (0) ⟨rfl,trivial⟩ ?_ ?_)))))
   ·exact ⟨Nat.zero_le _,hd9.from_ ag.rfl_,hQ9.from_ ag.rfl_,hC9.next (ag.rfl_).toChg⟩
   rintro j ρ26 w26 ⟨hj1,hdj,hQj,hCj⟩;have hB1:=ag.rfl_ (a:=w26);have hzj:=hCj.size;have hPj:=hP.chg hCj hUp;refine af (ab (aa (cl rfl rfl) (ah (ae (af (BM rfl (fun Q27=>?_) (fun Q27=>?_)))))))
   ·have hj0:j=0:=by omega
    have hla0:la=0:=by omega
    obtain ⟨x0,y0,hDe⟩:∃ x0 y0,D=[(aX g 0,x0,y0)]:=by
     rcases hD with ⟨h1,_⟩ | ⟨_,y0,h1⟩
     ·omega
     ·exact ⟨_,y0,h1⟩
    have hdj0:DkV w w26 U d b5 (eW [(aX g 0,x0,y0)] (aX (g+1) 0,(ax (sG (g+1)) (bM M)).1,(ax (sG (g+1)) (bM M)).1)):=by
     have:=hdj;rw [hj0,hDe] at this;exact this
    obtain ⟨V2,hV2,hd2⟩:=hdj0;have hb5W:¬ V2 b5:=fun e=>(hV2 b5 e).elim (fun e=>by have:=hU9 _ e;omega) fun e=>e.2 rfl
    have hQjl:=hQj.lt;refine aE (ae (af (aP (af (ab (mvi rfl (asi rfl (ah (ae (af ?_))))))))));apply gz [(0,50,fun _ v _=>v=_),(1,51,fun _ v _=>v=_),(2,52,fun _ v _=>v=_),(3,53,fun _ v _=>v=_),(4,54,fun _ v _=>v=_),(5,55,fun _ v _=>v=_),(6,56,fun _ v _=>v=_),(7,57,fun _ v _=>v=_),(8,11,fun _ v _=>v=_)] [7] (fun S w'=>(S 7=false→ag w26 w')∧(S 7=true→DkV w w' U d b5 [(aX (g+1) 0,(ax (sG (g+1)) (bM M)).1,(ax (sG (g+1)) (bM M)).1)]∧Chg V2 w26 w'∧Blk w' b5 59 (wfV (some ⟨d,0,none⟩) (g+1) 0 (((ax (sG (g+1)) (bM M)).1.length:Nat):Int) (((ax (sG (g+1)) (bM M)).1.length:Nat):Int) (ax (sG (g+1)) (bM M)).2.toNat).toArray)) (by kernel_rfl) (by kernel_rfl) rfl rfl ⟨fun _ _ _ _ _ _ _ h=>h,fun _ _ _ _ _ _ _ h=>h,fun _ _ _ _ _ _ _ h=>h,fun _ _ _ _ _ _ _ h=>h,fun _ _ _ _ _ _ _ h=>h,fun _ _ _ _ _ _ _ h=>h,fun _ _ _ _ _ _ _ h=>h,fun _ _ _ _ _ _ _ h=>h,fun _ _ _ _ _ _ _ h=>h,trivial⟩ (fun S i w1 w2 hq hF h=>⟨fun h0=>(h.1 (lP h0)).next hF,fun h1=>(fun h=>⟨h.1.from_ hF,h.2.1.next hF.toChg,h.2.2.from_ hF⟩) (h.2 (mP (show 7≠i by rintro rfl;exact absurd hq (by decide)) h1))⟩) ⟨fun _=>ag.rfl_.d1,fun h=>by cases h⟩
    case hstep=>
     constructor
     ·rintro S L' w28 hU hmo hme hI hM hC hS ⟨-⟩;have hS0:S 7=false:=(ay hC (j:=7) rfl (by kernel_rfl) (ay hC (j:=3) rfl (by kernel_rfl) (ay hC (j:=2) rfl (by kernel_rfl) (ay hC (j:=1) rfl (by kernel_rfl) hS))));have hM28:=hM.1 hS0;have e0:=hI.1 0 (fj rfl);exact aN [(0,_)] hU hmo hme hI hM (.head _) rfl rfl (by kernel_rfl) ⟨e0,trivial⟩ (aB (v:=.pointer _) rfl) ag.rfl_ (rfl)
     constructor
     ·rintro S L' w29 hU hmo hme hI hM hC hS ⟨d0,-⟩;have hS0:S 7=false:=(ay hC (j:=7) rfl (by kernel_rfl) (ay hC (j:=3) rfl (by kernel_rfl) (ay hC (j:=2) rfl (by kernel_rfl) hS)));have hM29:=hM.1 hS0;obtain ⟨v29_50,e50,h50⟩:=hI.get (i:=0) (.head _) d0;obtain rfl:=h50;exact aN [(50,_)] hU hmo hme hI hM (.tail _ (.head _)) rfl rfl (by kernel_rfl) ⟨e50,trivial⟩ (au rfl) ag.rfl_ (rfl)
     constructor
     ·rintro S L' w30 hU hmo hme hI hM hC hS ⟨d1,-⟩;have hS0:S 7=false:=(ay hC (j:=7) rfl (by kernel_rfl) (ay hC (j:=3) rfl (by kernel_rfl) hS));have hM30:=hM.1 hS0;obtain ⟨v30_51,e51,h51⟩:=hI.get (i:=1) (.tail _ (.head _)) d1;obtain rfl:=h51;exact aN [(51,_)] hU hmo hme hI hM (.tail _ (.tail _ (.head _))) rfl rfl (by kernel_rfl) ⟨e51,trivial⟩ (ai cz rfl) ag.rfl_ (rfl)
     constructor
     ·rintro S L' w31 hU hmo hme hI hM hC hS ⟨d2,-⟩;have hS0:S 7=false:=(ay hC (j:=7) rfl (by kernel_rfl) hS);have hM31:=hM.1 hS0;obtain ⟨v31_52,e52,h52⟩:=hI.get (i:=2) (.tail _ (.tail _ (.head _))) d2;obtain rfl:=h52;exact aN [(52,_)] hU hmo hme hI hM (.tail _ (.tail _ (.tail _ (.head _)))) rfl rfl (by kernel_rfl) ⟨e52,trivial⟩ (ao cW rfl (by exact (hPj.from_ (hB1.next hM31)).rd 0 rfl)) ag.rfl_ (rfl)
     constructor
     ·rintro S L' w32 hU hmo hme hI hM hC hS ⟨-⟩;have hS0:S 7=false:=(ay hC (j:=7) rfl (by kernel_rfl) (ay hC (j:=6) rfl (by kernel_rfl) hS));have hM32:=hM.1 hS0;have e0:=hI.1 0 (fj rfl);exact aN [(0,_)] hU hmo hme hI hM (.tail _ (.tail _ (.tail _ (.tail _ (.head _))))) rfl rfl (by kernel_rfl) ⟨e0,trivial⟩ (aB (v:=.pointer _) rfl) ag.rfl_ (rfl)
     constructor
     ·rintro S L' w33 hU hmo hme hI hM hC hS ⟨-⟩;have hS0:S 7=false:=(ay hC (j:=7) rfl (by kernel_rfl) (ay hC (j:=6) rfl (by kernel_rfl) hS));have hM33:=hM.1 hS0;have e10:=hI.1 10 (fj rfl);exact aN [(10,_)] hU hmo hme hI hM (.tail _ (.tail _ (.tail _ (.tail _ (.tail _ (.head _)))))) rfl rfl (by kernel_rfl) ⟨e10,trivial⟩ (aB (v:=.int _ _) rfl) ag.rfl_ (rfl)
     constructor
     ·rintro S L' w34 hU hmo hme hI hM hC hS ⟨d4,d5,-⟩;have hS0:S 7=false:=(ay hC (j:=7) rfl (by kernel_rfl) hS);have hM34:=hM.1 hS0;obtain ⟨v34_54,e54,h54⟩:=hI.get (i:=4) (.tail _ (.tail _ (.tail _ (.tail _ (.head _))))) d4;obtain rfl:=h54;obtain ⟨v34_55,e55,h55⟩:=hI.get (i:=5) (.tail _ (.tail _ (.tail _ (.tail _ (.tail _ (.head _)))))) d5;obtain rfl:=h55;refine fB (al:=[.tmp 54,.tmp 55]) [(54,_),(55,_)] hU hmo hme hI hM (.tail _ (.tail _ (.tail _ (.tail _ (.tail _ (.tail _ (.head _))))))) rfl (by kernel_rfl) ⟨e54,e55,trivial⟩ eN ((qf 62 p g j _ _ _ (hPj.from_ (hB1.next hM34)) (by omega) hj0).mono ?_);rintro v w2 ⟨rfl,E34'⟩;exact ⟨E34',rfl⟩
     constructor
     ·rintro S L' w35 hU hmo hme hI hM hC hS ⟨d3,d6,d6,-⟩;have hS0:S 7=false:=hS;have hM35:=hM.1 hS0;obtain ⟨v35_53,e53,h53⟩:=hI.get (i:=3) (.tail _ (.tail _ (.tail _ (.head _)))) d3;obtain rfl:=h53;obtain ⟨v35_56,e56,h56⟩:=hI.get (i:=6) (.tail _ (.tail _ (.tail _ (.tail _ (.tail _ (.tail _ (.head _))))))) d6;obtain rfl:=h56;refine eY (al:=[.tmp 53,.tmp 56]) [(53,_),(56,_)] hU hI (.tail _ (.tail _ (.tail _ (.tail _ (.tail _ (.tail _ (.tail _ (.head _)))))))) (by kernel_rfl) ⟨e53,e56,trivial⟩ si ((vg _ d _ _ (hd2.from_ (hB1.next hM35)) g (g+1) x0 y0 _ (by omega) hne rfl).mono ?_);rintro v9 w2 ⟨rfl,hd2,hC2⟩;have hzB:=((hB1.next hM35)).size;exact ⟨⟨fun h0=>(by rw [mQ] at h0;cases h0),fun _=>⟨DkV.step hV2 (by omega) (by omega) hd2,(ag.toChg hM35).next hC2,(hQj.from_ (hB1.next hM35)).chg hC2 hb5W⟩⟩,rfl,⟨fun _ _ _ h=>h,fun _ _ _ h=>h,fun _ _ _ h=>h,fun _ _ _ h=>h,fun _ _ _ h=>h,fun _ _ _ h=>h,fun _ _ _ h=>h,fun _ _ _ h=>h,fun _ _ _ h=>h,trivial⟩⟩
     constructor
     ·rintro S L' w36 hU hmo hme hI hM hC hS ⟨d7,d7,d0,d1,d2,d3,d4,d5,d6,d7,-⟩;obtain ⟨v36_57,e57,h57⟩:=hI.get (i:=7) (.tail _ (.tail _ (.tail _ (.tail _ (.tail _ (.tail _ (.tail _ (.head _)))))))) d7;obtain rfl:=h57;exact aN [(57,_)] hU hmo hme hI hM (.tail _ (.tail _ (.tail _ (.tail _ (.tail _ (.tail _ (.tail _ (.tail _ (.head _))))))))) rfl rfl (by kernel_rfl) ⟨e57,trivial⟩ (bn (v:=.int _ _) rfl) ag.rfl_ (rfl)
     exact trivial
    case hend=>
     intro w37 hM;obtain ⟨hd15,hC15a,hQ15⟩:=hM.2 rfl;rintro v37_50 rfl v37_51 rfl v37_52 rfl v37_53 rfl v37_54 rfl v37_55 rfl v37_56 rfl v37_57 rfl v37_11 rfl;refine fq ?_;have hC15:=hCj.trans hC15a (fun k hk=>(hV2 k hk).imp id And.left);refine ae (af (ab (mvi rfl (aa (bh (cv rfl rfl) rfl) (ah (ae (aI rfl (aE (bI (ae (ab (aa (br rfl rfl (by omega)) (mvi rfl (ah ?_))))))))))))));refine bW (j+1) ⟨(by first | rfl | (refine bD ?_;omega)),trivial⟩ (by (iterate 34 refine bg rfl ?_);exact bw) ⟨?_,?_⟩
     ·refine ⟨by omega,by rw [hj0];exact hd15.from_ ag.rfl_,hQ15.from_ ag.rfl_,hC15.next (ag.rfl_).toChg⟩
     ·omega
   have hje:la+1=((j:Nat):Int):=by omega
   have hdj0:=hdj;rw [zQ hD hje] at hdj0;obtain ⟨V3,hV3,hd3⟩:=hdj0;refine cx (bc (bc (bX (ae (af (ab (mvp rfl (aa (aG (cs:=wfV (some ⟨d,0,none⟩) (g+1) 0 (((ax (sG (g+1)) (bM M)).1.length:Nat):Int) (((ax (sG (g+1)) (bM M)).1.length:Nat):Int) (ax (sG (g+1)) (bM M)).2.toNat) sb gY rfl ((hQj.from_ hB1).whole)) (aa (au rfl) (ik (vs:=wfV (some ⟨d,0,none⟩) (g+1) 0 (((ax (sG (g+1)) (bM M)).1.length:Nat):Int) (((ax (sG (g+1)) (bM M)).1.length:Nat):Int) (ax (sG (g+1)) (bM M)).2.toNat) (i:=0) (cs:=wlV (some ⟨d,0,none⟩) g la sz to su b0 t0 E0 n0 c0 ok) gY rfl rfl (by simp [wfV,Value.oneCell']) (hPj.from_ hB1) (by show 0+6≤10;decide) ?_))))))))));intro w38 O19 P19;have P19b:Blk w38 p 62 (wlV (some ⟨d,0,none⟩) (g+1) 0 (((ax (sG (g+1)) (bM M)).1.length:Nat):Int) (((ax (sG (g+1)) (bM M)).1.length:Nat):Int) (ax (sG (g+1)) (bM M)).2.toNat b0 t0 E0 n0 c0 ok).toArray:=P19;have hC19:Chg (fun k=>U k∨k=p) w w38:=((hCj.next (hB1).toChg).wide (fun i hi=>.inl (.inl hi))).next (O19.toChg (.inr rfl));have hd19:=(hd3.from_ hB1).chg (O19.toChg (U:=fun k=>k=p) rfl) (fun k hk e=>by have e:k=p:=e;subst e;exact (hV3 k hk).elim hUp fun hk=>by omega);refine ah (ae (af (ab (asi rfl (ah (ae (aC (bz (v:=.int _ _) rfl rfl (⟨rfl,P19b.from_ ag.rfl_,⟨_,.inr ⟨rfl,_,rfl⟩,nO (hd19.from_ ag.rfl_) (fun k hk=>(hV3 k hk).imp id And.left)⟩,hC19.next (ag.rfl_).toChg⟩)))))))))
theorem r_:aH prog 76=true:=by kernel_rfl
theorem r8:aH prog 77=true:=by kernel_rfl
theorem xL (M:Lg) (s:BitVec 32):(ax s (bM M)).1.length≤32+cu M.es:=by
 rw [l8];have h:(bM M).map (fun r=>frL r.d.size)=(logR M.b M.t M.es).map fun r=>frL r.d.size:=by unfold bM;rw [List.map_map];rfl
 rw [h];exact xK M
theorem vx {rs:List Rc} (h:∀ r∈rs,r.Ok):∀ r∈bl rs,r.Ok:=fun r hr=>by
 obtain ⟨i,hi,rfl⟩:=List.getElem_of_mem hr;have hi':i<rs.length:=by rw [gT] at hi;exact hi
 rw [lZ hi'];exact uC (h _ (List.getElem_mem _))
theorem s8 {recs rs:List Rc} (h:0<rs.length):iN (recs++bl rs) (recs++bl rs).length:=by
 have hl:=gT rs;refine .inr ⟨by rw [List.length_append];omega,?_⟩;have hi:rs.length-1<rs.length:=by omega
 have e:(recs++bl rs)[(recs++bl rs).length-1]'(by rw [List.length_append];omega)=(bl rs)[rs.length-1]'(by omega):=by
  rw [List.getElem_append_right (by rw [List.length_append];omega)]
  congr 1
  rw [List.length_append];omega
 rw [e,lZ hi];show decide (rs.length-1+1=rs.length)=true;exact decide_eq_true (by omega)
theorem vy {L M:Lg} {rs:List Rc} (h:cI L rs M):cI L (bl rs) M:=h.mark _
theorem wA (U:Nat→Prop) (p d g KB:Nat) (recs rs:List Rc) (D:List Fe) (la b0 t0:Int) (E0:Option Addr) (n0 c0:Nat) (ok:Bool) (L M:Lg) (A:Option Addr) (ca na:Nat) (E:Option Addr) (c n:Nat) (w:World) (hd:cP w U d D 0 false) (hD:DkL D g recs la) (hg:g<98) (hP:Blk w p 62 (wlV (some ⟨d,0,none⟩) g la (((ax (sG g) recs).1.length:Nat):Int) (((ax (sG g) recs).1.length:Nat):Int) (ax (sG g) recs).2.toNat b0 t0 E0 n0 c0 ok).toArray) (hUp:¬ U p) (hM:dh M) (hE:bm w (.slice E n c) M.es) (hn:n=M.es.length) (hr:gH 5 rcV w A rs) (hna:na=rs.length) (h0:0<rs.length) (hrl:rs.length≤600) (hrk:∀ r∈rs,r.Ok) (hk:∀ r∈recs,r.Ok) (hap:cI lg0 recs L) (hap2:cI L rs M) (hK1:(ax (sG g) (recs++bl rs)).1.length≤KB) (hK2:32+cu M.es≤KB) (hK3:KB≤1048576) (hT:cO w) (hU9:∀ x,U x→x<w.heap.size) :
 Rt prog 61 [.pointer (some ⟨p,0,none⟩),.slice A na ca,.agg (lgV M.b M.t E n c).toArray] w (fun v w'=>v=.int .i64 0∧(∃ g' recs' D',g'≤g+1∧(ax (sG g') recs').1.length≤KB∧Blk w' p 62 (wlV (some ⟨d,0,none⟩) g' 0 (((ax (sG g') recs').1.length:Nat):Int) (((ax (sG g') recs').1.length:Nat):Int) (ax (sG g') recs').2.toNat b0 t0 E0 n0 c0 ok).toArray∧DkL D' g' recs' 0∧cP w' (Nx U w w') d D' 0 false∧(∀ r∈recs',r.Ok)∧iN recs' recs'.length∧cI lg0 recs' M)∧Chg (fun k=>U k∨k=p) w w'):=by
 subst hn;subst hna;have hf:=hM.f;have hfn:=hf.n;have hPl:=hP.lt;have hZ:=iP recs (bl rs) (sG g);have hZ1:(ax (sG g) (recs++bl rs)).1.length=(ax (sG g) recs).1.length+(ax (ax (sG g) recs).2 (bl rs)).1.length:=by rw [hZ,List.length_append]
 have hZ2:(ax (sG g) (recs++bl rs)).2=(ax (ax (sG g) recs).2 (bl rs)).2:=by rw [hZ]
 have hsf:=xL M (sG (g+1));have hla:la=-1∨la=0:=by rcases hD with ⟨h,_⟩ | ⟨h,_⟩;exact .inl h;exact .inr h
 refine enter (n:=87) Tryz.func61 rfl rfl rfl (af (ab (bu (v:=.agg _) rfl ?_)));intro b5 w1 E5 hb5 hk5;have hg5:w.heap.size≤b5:=by rw [hb5];exact (ag.rfl_).size
 refine asi rfl (ah (ae (af (ab (mvs rfl (mvp rfl (aa (au rfl) (aa (ai el rfl) (aa (ao jn rfl (by exact (hP.from_ (ag.rfl_.next E5)).rd 5 rfl)) ?_)))))))));have hM15:ag _ w1:=ag.rfl_;have hz15:=((ag.rfl_.next E5)).size;refine av oH (pB A ca rs.length rs (ax (sG g) recs).2 _ (hr.from_ (ag.rfl_.next E5)) rfl hrl hrk (hT.from_ (ag.rfl_.next E5))) ?_;rintro v15 w2 ⟨⟨A15,c15,rfl,ho15⟩,E15⟩;replace hk5:=hk5.from_ (hM15.next E15);have hx15:=(cJ.of_own ho15).le hz15;have hr15:=(RB.own ho15 (lz _ _)).2;have hrp:∀ z,A15.map (·.block)=some z→¬ (fun k=>k=p) z:=fun z hz e=>by have:=(hx15.at_ z hz).1;have e:z=p:=e;omega
 refine mvt rfl (aa (ar rfl rfl) (aa (ar rfl rfl) (ass rfl (asi rfl (ah (ae (af (af ?_))))))));apply bO 22 [(18,eqp _),(19,eqp _),(20,eqp _),(21,eqp _),(22,eqp _),(23,eqp _),(24,eqp _),(25,eqp _),(26,eqp _),(27,eqp _),(28,eqp _),(29,eqp _),(30,eqp _),(31,eqp _),(32,eqp _),(33,eqp _),(34,eqp _),(35,eqp _),(36,eqp _),(37,eqp _),(38,eqp _),(39,eqp _)] (by repeat first | exact cr | refine cq ?_ | refine bU ?_) (by kernel_rfl) (by kernel_rfl) ⟨aj _,aj _,aj _,aj _,aj _,aj _,aj _,aj _,aj _,aj _,aj _,aj _,aj _,aj _,aj _,aj _,aj _,aj _,aj _,aj _,aj _,aj _,trivial⟩
 case hop=>
  constructor
  ·rintro-w4 D4;exact an (aB (v:=.pointer _) rfl) rfl
  constructor
  ·rintro-w5 D5;rintro _ rfl;exact an (au rfl) rfl
  constructor
  ·rintro-w6 D6;rintro _ rfl;exact an (ai eh rfl) rfl
  constructor
  ·rintro-w7 D7;rintro _ rfl;exact an (ao aD rfl (by exact (hP.from_ (((ag.rfl_.next E5).next E15).next D7)).rd 3 rfl)) rfl
  constructor
  ·rintro-w8 D8;exact an (aB (v:=.slice _ _ _) rfl) rfl
  constructor
  ·rintro-w9 D9;rintro _ rfl;exact an (bb bZ rfl) rfl
  constructor
  ·rintro-w10 D10;rintro _ rfl _ rfl;exact an (bH (br rfl rfl (by omega)) (congrArg (Value.int .i64) (show (((ax (sG g) recs).1.length:Nat):Int)+(((ax (ax (sG g) recs).2 (bl rs)).1.length:Nat):Int)=(((ax (sG g) recs).1.length+(ax (ax (sG g) recs).2 (bl rs)).1.length:Nat):Int) by omega))) rfl
  constructor
  ·rintro-w11 D11;rintro _ rfl;exact an (bh (cn rfl rfl) (decide_eq_false (by omega))) rfl
  constructor
  ·rintro-w12 D12;rintro _ rfl;exact an (aB (v:=.bool _) rfl) rfl
  constructor
  ·rintro-w13 D13;rintro _ rfl;exact aL rfl (aB (v:=.pointer _) rfl) rfl
  constructor
  ·rintro-w14 D14;rintro _ rfl _ rfl;exact aL rfl (au rfl) rfl
  constructor
  ·rintro-w15 D15;rintro _ rfl _ rfl;exact aL rfl (ai ef rfl) rfl
  constructor
  ·rintro-w16 D16;rintro _ rfl _ rfl;exact aL rfl (ao aD rfl (by exact (hP.from_ (((ag.rfl_.next E5).next E15).next D16)).rd 4 rfl)) rfl
  constructor
  ·rintro-w17 D17;rintro _ rfl;exact aL rfl (aB (v:=.slice _ _ _) rfl) rfl
  constructor
  ·rintro-w18 D18;rintro _ rfl _ rfl;exact aL rfl (bb bZ rfl) rfl
  constructor
  ·rintro-w19 D19;rintro _ rfl _ rfl _ rfl;exact aL rfl (bH (br rfl rfl (by omega)) (congrArg (Value.int .i64) (show (((ax (sG g) recs).1.length:Nat):Int)+(((ax (ax (sG g) recs).2 (bl rs)).1.length:Nat):Int)=(((ax (sG g) recs).1.length+(ax (ax (sG g) recs).2 (bl rs)).1.length:Nat):Int) by omega))) rfl
  constructor
  ·rintro-w20 D20;rintro _ rfl;exact aL rfl (aG (cs:=lgV M.b M.t E M.es.length c) az aq rfl ((hk5.from_ (ag.rfl_.next D20)).whole)) rfl
  constructor
  ·rintro-w21 D21;rintro _ rfl _ rfl;refine nN rfl r_ ((td M.b M.t E c M.es _ (hE.from_ (((ag.rfl_.next E5).next E15).next D21)) (by omega) (fun e he=>(hf.ents e he).2.2.2.2)).mono ?_);rintro v _ ⟨rfl,E21'⟩;exact ⟨E21',rfl⟩
  constructor
  ·rintro-w22 D22;rintro _ rfl _ rfl;exact aL rfl (nA rfl rfl (by omega)) rfl
  constructor
  ·rintro-w23 D23;rintro _ rfl _ rfl;exact aL rfl (br rfl rfl (by omega)) rfl
  constructor
  ·rintro-w24 D24;rintro _ rfl _ rfl _ rfl;exact aL rfl (cn rfl rfl) rfl
  constructor
  ·rintro-w25 D25;rintro _ rfl _ rfl;exact an (aQ (v:=.bool _) rfl rfl) rfl
  exact trivial
 case hend=>
  intro w26 D26;rintro _ rfl _ rfl _ rfl _ rfl _ rfl _ rfl _ rfl _ rfl _ rfl _ rfl _ rfl _ rfl _ rfl _ rfl _ rfl _ rfl _ rfl _ rfl _ rfl _ rfl _ rfl _ rfl;show St ..;refine ah (ae (BM rfl (fun Q27=>?_) (fun Q27=>?_)))
  ·refine af (ab (mvp rfl (aa (aG (cs:=lgV M.b M.t E M.es.length c) az aq rfl ((hk5.from_ (ag.rfl_.next D26)).whole)) ?_)));have hB42:ag w w26:=(((ag.rfl_.next E5).next E15).next D26);refine av r8 (xh U p d g (ax (sG g) recs).2.toNat recs D la _ _ b0 t0 E0 n0 c0 ok M E c M.es.length _ (hd.from_ (((ag.rfl_.next E5).next E15).next D26)) hD (by omega) (hP.from_ (((ag.rfl_.next E5).next E15).next D26)) hUp hM (hE.from_ (((ag.rfl_.next E5).next E15).next D26)) rfl (by omega) (hT.from_ (((ag.rfl_.next E5).next E15).next D26)) (fun x hx=>Nat.lt_of_lt_of_le (hU9 x hx) ((((ag.rfl_.next E5).next E15).next D26)).size)) ?_;rintro v42 w28 ⟨rfl,hP42,⟨D42,hD42,hd42⟩,hC42⟩;have hC42w:=(ag.toChg (U:=fun k=>U k∨k=p) hB42).next hC42;have hz42:=hB42.size;refine asi rfl (ah (ae (aC (aF (bz (v:=.int _ _) rfl rfl (⟨rfl,⟨g+1,bM M,D42,Nat.le_refl _,by omega,hP42.from_ ag.rfl_,hD42,nO (hd42.from_ ag.rfl_) (fun k hk=>lg hz42 hk),zx hM,xM M,zy hM⟩,hC42w.next (ag.rfl_).toChg⟩))))))
  refine aE (ae (af (ab (mvp rfl (mvp rfl (aa (au rfl) (aa (ai bR rfl) (aa (ao aD rfl (by exact (hP.from_ (((ag.rfl_.next E5).next E15).next D26)).rd 2 rfl)) ?_))))))));refine aa (p_ rfl rfl) (iI (t:=48) (v:=.int _ _) (v':=.int .i64 0) rfl (by congr 1;omega) ?_);refine aa (au rfl) (aa (ai bR rfl) ?_);have hB4:ag w w26:=(((ag.rfl_.next E5).next E15).next D26);have hM4:ag _ w26:=(ag.rfl_.next D26);refine cT (v:=.int _ _) en rfl rfl rfl ((hP.from_ hB4)) (by show 0+2<10;decide) ?_;intro w29 O4 P4;have P4b:Blk w29 p 62 (wlV (some ⟨d,0,none⟩) g 0 (((ax (sG g) recs).1.length:Nat):Int) (((ax (sG g) recs).1.length:Nat):Int) (ax (sG g) recs).2.toNat b0 t0 E0 n0 c0 ok).toArray:=P4;have hC4:Chg (fun k=>k=p) w w29:=hB4.toChg.next (O4.toChg rfl);have hrA:=(hr15.from_ hM4).chg (O4.toChg (U:=fun k=>k=p) rfl) (fun z hz e=>by have:=(hx15.at_ z hz).1;have e:z=p:=e;omega);refine ah (ae (af ?_));have hU30:mU [(0,51,.pointer (some ⟨p,0,none⟩)),(1,52,.pointer (some ⟨p,0,none⟩)),(2,53,.pointer (some ⟨p,0,none⟩)),(3,54,.pointer (some ⟨p,0,none⟩)),(4,55,.pointer (some ⟨p,0,none⟩)),(5,56,.pointer (some ⟨p,0+3,none⟩)),(6,57,.int .i64 (((ax (sG g) recs).1.length:Nat):Int)),(7,58,.slice A15 (ax (ax (sG g) recs).2 (bl rs)).1.length c15),(8,59,.int .i64 (((ax (ax (sG g) recs).2 (bl rs)).1.length:Nat):Int)),(9,60,.int .i64 (((ax (sG g) recs).1.length+(ax (ax (sG g) recs).2 (bl rs)).1.length:Nat):Int)),(10,61,.pointer (some ⟨p,0,none⟩)),(11,62,.pointer (some ⟨p,0,none⟩)),(12,63,.pointer (some ⟨p,0+4,none⟩)),(13,64,.int .i64 (((ax (sG g) recs).1.length:Nat):Int)),(14,65,.slice A15 (ax (ax (sG g) recs).2 (bl rs)).1.length c15),(15,66,.int .i64 (((ax (ax (sG g) recs).2 (bl rs)).1.length:Nat):Int)),(16,67,.int .i64 (((ax (sG g) recs).1.length+(ax (ax (sG g) recs).2 (bl rs)).1.length:Nat):Int)),(17,68,.int .u32 (((ax (ax (sG g) recs).2 (bl rs)).2.toNat:Nat):Int)),(18,69,.pointer (some ⟨p,0,none⟩)),(19,70,.pointer (some ⟨p,0+3,none⟩)),(21,71,.pointer (some ⟨p,0,none⟩)),(22,72,.pointer (some ⟨p,0+4,none⟩)),(24,73,.pointer (some ⟨p,0,none⟩)),(25,74,.pointer (some ⟨p,0+5,none⟩))]:=by simp [mU]
  refine uI [(0,51,.pointer (some ⟨p,0,none⟩)),(1,52,.pointer (some ⟨p,0,none⟩)),(2,53,.pointer (some ⟨p,0,none⟩)),(3,54,.pointer (some ⟨p,0,none⟩)),(4,55,.pointer (some ⟨p,0,none⟩)),(5,56,.pointer (some ⟨p,0+3,none⟩)),(6,57,.int .i64 (((ax (sG g) recs).1.length:Nat):Int)),(7,58,.slice A15 (ax (ax (sG g) recs).2 (bl rs)).1.length c15),(8,59,.int .i64 (((ax (ax (sG g) recs).2 (bl rs)).1.length:Nat):Int)),(9,60,.int .i64 (((ax (sG g) recs).1.length+(ax (ax (sG g) recs).2 (bl rs)).1.length:Nat):Int)),(10,61,.pointer (some ⟨p,0,none⟩)),(11,62,.pointer (some ⟨p,0,none⟩)),(12,63,.pointer (some ⟨p,0+4,none⟩)),(13,64,.int .i64 (((ax (sG g) recs).1.length:Nat):Int)),(14,65,.slice A15 (ax (ax (sG g) recs).2 (bl rs)).1.length c15),(15,66,.int .i64 (((ax (ax (sG g) recs).2 (bl rs)).1.length:Nat):Int)),(16,67,.int .i64 (((ax (sG g) recs).1.length+(ax (ax (sG g) recs).2 (bl rs)).1.length:Nat):Int)),(17,68,.int .u32 (((ax (ax (sG g) recs).2 (bl rs)).2.toNat:Nat):Int)),(18,69,.pointer (some ⟨p,0,none⟩)),(19,70,.pointer (some ⟨p,0+3,none⟩)),(21,71,.pointer (some ⟨p,0,none⟩)),(22,72,.pointer (some ⟨p,0+4,none⟩)),(24,73,.pointer (some ⟨p,0,none⟩)),(25,74,.pointer (some ⟨p,0+5,none⟩))] (fun S w'=>Blk w' p 62 (wlV (some ⟨d,0,none⟩) g 0 (bif S 20 then (((ax (sG g) recs).1.length+(ax (ax (sG g) recs).2 (bl rs)).1.length:Nat):Int) else (((ax (sG g) recs).1.length:Nat):Int)) (bif S 23 then (((ax (sG g) recs).1.length+(ax (ax (sG g) recs).2 (bl rs)).1.length:Nat):Int) else (((ax (sG g) recs).1.length:Nat):Int)) (bif S 26 then (ax (ax (sG g) recs).2 (bl rs)).2.toNat else (ax (sG g) recs).2.toNat) b0 t0 E0 n0 c0 ok).toArray∧(S 20=true→S 6=true)∧(S 23=true→S 13=true)∧Chg (fun k=>k=p) w29 w') (by kernel_rfl) (by kernel_rfl) hU30 (by simp) (⟨P4b.from_ ((ag.rfl_).d1),fun h=>(by cases h),fun h=>(by cases h),ag.rfl_.d1.toChg⟩) ?_ ?_
  ·constructor
   ·rintro S L' wS hI hM hS0 ⟨-⟩;have e0:=hI.1 0 (by simp);have hM':=hM;obtain ⟨hbk,hx6,hx13,hC⟩:=hM';exact bB (aB e0) ⟨hI.put hU30 (.head _),hM⟩
   constructor
   ·rintro S L' wS hI hM hS0 ⟨-,-⟩;have e0:=hI.1 0 (by simp);have hM':=hM;obtain ⟨hbk,hx6,hx13,hC⟩:=hM';exact bB (aB e0) ⟨hI.put hU30 (.tail _ (.head _)),hM⟩
   constructor
   ·rintro S L' wS hI hM hS0 ⟨-,-⟩;have e0:=hI.1 0 (by simp);have hM':=hM;obtain ⟨hbk,hx6,hx13,hC⟩:=hM';exact bB (aB e0) ⟨hI.put hU30 (.tail _ (.tail _ (.head _))),hM⟩
   constructor
   ·rintro S L' wS hI hM hS0 ⟨-⟩;have e0:=hI.1 0 (by simp);have hM':=hM;obtain ⟨hbk,hx6,hx13,hC⟩:=hM';exact bB (aB e0) ⟨hI.put hU30 (.tail _ (.tail _ (.tail _ (.head _)))),hM⟩
   constructor
   ·rintro S L' wS hI hM hS0 ⟨d3,-⟩;have e54:aT L' 54=.pointer (some ⟨p,0,none⟩):=hI.get (i:=3) (.tail _ (.tail _ (.tail _ (.head _)))) d3;have hM':=hM;obtain ⟨hbk,hx6,hx13,hC⟩:=hM';exact bB (au e54) ⟨hI.put hU30 (.tail _ (.tail _ (.tail _ (.tail _ (.head _))))),hM⟩
   constructor
   ·rintro S L' wS hI hM hS0 ⟨d4,-⟩;have e55:aT L' 55=.pointer (some ⟨p,0,none⟩):=hI.get (i:=4) (.tail _ (.tail _ (.tail _ (.tail _ (.head _))))) d4;have hM':=hM;obtain ⟨hbk,hx6,hx13,hC⟩:=hM';exact bB (ai eh e55) ⟨hI.put hU30 (.tail _ (.tail _ (.tail _ (.tail _ (.tail _ (.head _)))))),hM⟩
   constructor
   ·rintro S L' wS hI hM hS0 ⟨d5,-⟩;have e56:aT L' 56=.pointer (some ⟨p,0+3,none⟩):=hI.get (i:=5) (.tail _ (.tail _ (.tail _ (.tail _ (.tail _ (.head _)))))) d5;have hM':=hM;obtain ⟨hbk,hx6,hx13,hC⟩:=hM'
    have hf20:S 20=false:=by
     cases h:S 20 with
     |false=>rfl
     |true=>rw [hx6 h] at hS0;cases hS0
    rw [hf20] at hbk;exact bB (ao aD e56 (hbk.rd 3 rfl)) ⟨hI.put hU30 (.tail _ (.tail _ (.tail _ (.tail _ (.tail _ (.tail _ (.head _))))))),hM.1,fun _=>rfl,hM.2.2.1,hM.2.2.2⟩
   constructor
   ·rintro S L' wS hI hM hS0 ⟨-⟩;have e7:=hI.1 7 (by simp);have hM':=hM;obtain ⟨hbk,hx6,hx13,hC⟩:=hM';exact bB (aB e7) ⟨hI.put hU30 (.tail _ (.tail _ (.tail _ (.tail _ (.tail _ (.tail _ (.tail _ (.head _)))))))),hM⟩
   constructor
   ·rintro S L' wS hI hM hS0 ⟨d7,-⟩;have e58:aT L' 58=.slice A15 (ax (ax (sG g) recs).2 (bl rs)).1.length c15:=hI.get (i:=7) (.tail _ (.tail _ (.tail _ (.tail _ (.tail _ (.tail _ (.tail _ (.head _)))))))) d7;have hM':=hM;obtain ⟨hbk,hx6,hx13,hC⟩:=hM';exact bB (bb bZ e58) ⟨hI.put hU30 (.tail _ (.tail _ (.tail _ (.tail _ (.tail _ (.tail _ (.tail _ (.tail _ (.head _))))))))),hM⟩
   constructor
   ·rintro S L' wS hI hM hS0 ⟨d6,d8,-⟩;have e57:aT L' 57=.int .i64 (((ax (sG g) recs).1.length:Nat):Int):=hI.get (i:=6) (.tail _ (.tail _ (.tail _ (.tail _ (.tail _ (.tail _ (.head _))))))) d6;have e59:aT L' 59=.int .i64 (((ax (ax (sG g) recs).2 (bl rs)).1.length:Nat):Int):=hI.get (i:=8) (.tail _ (.tail _ (.tail _ (.tail _ (.tail _ (.tail _ (.tail _ (.tail _ (.head _))))))))) d8;have hM':=hM;obtain ⟨hbk,hx6,hx13,hC⟩:=hM';exact bB (bH (br e57 e59 (by omega)) (congrArg (Value.int .i64) (show (((ax (sG g) recs).1.length:Nat):Int)+(((ax (ax (sG g) recs).2 (bl rs)).1.length:Nat):Int)=(((ax (sG g) recs).1.length+(ax (ax (sG g) recs).2 (bl rs)).1.length:Nat):Int) by omega))) ⟨hI.put hU30 (.tail _ (.tail _ (.tail _ (.tail _ (.tail _ (.tail _ (.tail _ (.tail _ (.tail _ (.head _)))))))))),hM⟩
   constructor
   ·rintro S L' wS hI hM hS0 ⟨-⟩;have e0:=hI.1 0 (by simp);have hM':=hM;obtain ⟨hbk,hx6,hx13,hC⟩:=hM';exact bB (aB e0) ⟨hI.put hU30 (.tail _ (.tail _ (.tail _ (.tail _ (.tail _ (.tail _ (.tail _ (.tail _ (.tail _ (.tail _ (.head _))))))))))),hM⟩
   constructor
   ·rintro S L' wS hI hM hS0 ⟨d10,-⟩;have e61:aT L' 61=.pointer (some ⟨p,0,none⟩):=hI.get (i:=10) (.tail _ (.tail _ (.tail _ (.tail _ (.tail _ (.tail _ (.tail _ (.tail _ (.tail _ (.tail _ (.head _))))))))))) d10;have hM':=hM;obtain ⟨hbk,hx6,hx13,hC⟩:=hM';exact bB (au e61) ⟨hI.put hU30 (.tail _ (.tail _ (.tail _ (.tail _ (.tail _ (.tail _ (.tail _ (.tail _ (.tail _ (.tail _ (.tail _ (.head _)))))))))))),hM⟩
   constructor
   ·rintro S L' wS hI hM hS0 ⟨d11,-⟩;have e62:aT L' 62=.pointer (some ⟨p,0,none⟩):=hI.get (i:=11) (.tail _ (.tail _ (.tail _ (.tail _ (.tail _ (.tail _ (.tail _ (.tail _ (.tail _ (.tail _ (.tail _ (.head _)))))))))))) d11;have hM':=hM;obtain ⟨hbk,hx6,hx13,hC⟩:=hM';exact bB (ai ef e62) ⟨hI.put hU30 (.tail _ (.tail _ (.tail _ (.tail _ (.tail _ (.tail _ (.tail _ (.tail _ (.tail _ (.tail _ (.tail _ (.tail _ (.head _))))))))))))),hM⟩
   constructor
   ·rintro S L' wS hI hM hS0 ⟨d12,-⟩;have e63:aT L' 63=.pointer (some ⟨p,0+4,none⟩):=hI.get (i:=12) (.tail _ (.tail _ (.tail _ (.tail _ (.tail _ (.tail _ (.tail _ (.tail _ (.tail _ (.tail _ (.tail _ (.tail _ (.head _))))))))))))) d12;have hM':=hM;obtain ⟨hbk,hx6,hx13,hC⟩:=hM'
    have hf23:S 23=false:=by
     cases h:S 23 with
     |false=>rfl
     |true=>rw [hx13 h] at hS0;cases hS0
    rw [hf23] at hbk;exact bB (ao aD e63 (hbk.rd 4 rfl)) ⟨hI.put hU30 (.tail _ (.tail _ (.tail _ (.tail _ (.tail _ (.tail _ (.tail _ (.tail _ (.tail _ (.tail _ (.tail _ (.tail _ (.tail _ (.head _)))))))))))))),hM.1,hM.2.1,fun _=>rfl,hM.2.2.2⟩
   constructor
   ·rintro S L' wS hI hM hS0 ⟨-⟩;have e7:=hI.1 7 (by simp);have hM':=hM;obtain ⟨hbk,hx6,hx13,hC⟩:=hM';exact bB (aB e7) ⟨hI.put hU30 (.tail _ (.tail _ (.tail _ (.tail _ (.tail _ (.tail _ (.tail _ (.tail _ (.tail _ (.tail _ (.tail _ (.tail _ (.tail _ (.tail _ (.head _))))))))))))))),hM⟩
   constructor
   ·rintro S L' wS hI hM hS0 ⟨d14,-⟩;have e65:aT L' 65=.slice A15 (ax (ax (sG g) recs).2 (bl rs)).1.length c15:=hI.get (i:=14) (.tail _ (.tail _ (.tail _ (.tail _ (.tail _ (.tail _ (.tail _ (.tail _ (.tail _ (.tail _ (.tail _ (.tail _ (.tail _ (.tail _ (.head _))))))))))))))) d14;have hM':=hM;obtain ⟨hbk,hx6,hx13,hC⟩:=hM';exact bB (bb bZ e65) ⟨hI.put hU30 (.tail _ (.tail _ (.tail _ (.tail _ (.tail _ (.tail _ (.tail _ (.tail _ (.tail _ (.tail _ (.tail _ (.tail _ (.tail _ (.tail _ (.tail _ (.head _)))))))))))))))),hM⟩
   constructor
   ·rintro S L' wS hI hM hS0 ⟨d13,d15,-⟩;have e64:aT L' 64=.int .i64 (((ax (sG g) recs).1.length:Nat):Int):=hI.get (i:=13) (.tail _ (.tail _ (.tail _ (.tail _ (.tail _ (.tail _ (.tail _ (.tail _ (.tail _ (.tail _ (.tail _ (.tail _ (.tail _ (.head _)))))))))))))) d13;have e66:aT L' 66=.int .i64 (((ax (ax (sG g) recs).2 (bl rs)).1.length:Nat):Int):=hI.get (i:=15) (.tail _ (.tail _ (.tail _ (.tail _ (.tail _ (.tail _ (.tail _ (.tail _ (.tail _ (.tail _ (.tail _ (.tail _ (.tail _ (.tail _ (.tail _ (.head _)))))))))))))))) d15;have hM':=hM;obtain ⟨hbk,hx6,hx13,hC⟩:=hM';exact bB (bH (br e64 e66 (by omega)) (congrArg (Value.int .i64) (show (((ax (sG g) recs).1.length:Nat):Int)+(((ax (ax (sG g) recs).2 (bl rs)).1.length:Nat):Int)=(((ax (sG g) recs).1.length+(ax (ax (sG g) recs).2 (bl rs)).1.length:Nat):Int) by omega))) ⟨hI.put hU30 (.tail _ (.tail _ (.tail _ (.tail _ (.tail _ (.tail _ (.tail _ (.tail _ (.tail _ (.tail _ (.tail _ (.tail _ (.tail _ (.tail _ (.tail _ (.tail _ (.head _))))))))))))))))),hM⟩
   constructor
   ·rintro S L' wS hI hM hS0 ⟨-,-⟩;have e8:=hI.1 8 (by simp);have hM':=hM;obtain ⟨hbk,hx6,hx13,hC⟩:=hM';exact bB (aB e8) ⟨hI.put hU30 (.tail _ (.tail _ (.tail _ (.tail _ (.tail _ (.tail _ (.tail _ (.tail _ (.tail _ (.tail _ (.tail _ (.tail _ (.tail _ (.tail _ (.tail _ (.tail _ (.tail _ (.head _)))))))))))))))))),hM⟩
   constructor
   ·rintro S L' wS hI hM hS0 ⟨d0,d0,-,-,d3,d4,d5,d6,d7,d8,d9,-,-,-,d13,-,-,-,-,-⟩;have e51:aT L' 51=.pointer (some ⟨p,0,none⟩):=hI.get (i:=0) (.head _) d0;have hM':=hM;obtain ⟨hbk,hx6,hx13,hC⟩:=hM';exact bB (au e51) ⟨hI.put hU30 (.tail _ (.tail _ (.tail _ (.tail _ (.tail _ (.tail _ (.tail _ (.tail _ (.tail _ (.tail _ (.tail _ (.tail _ (.tail _ (.tail _ (.tail _ (.tail _ (.tail _ (.tail _ (.head _))))))))))))))))))),hM⟩
   constructor
   ·rintro S L' wS hI hM hS0 ⟨d18,d0,-,-,d3,d4,d5,d6,d7,d8,d9,-,-,-,d13,-,-,-,-,-⟩;have e69:aT L' 69=.pointer (some ⟨p,0,none⟩):=hI.get (i:=18) (.tail _ (.tail _ (.tail _ (.tail _ (.tail _ (.tail _ (.tail _ (.tail _ (.tail _ (.tail _ (.tail _ (.tail _ (.tail _ (.tail _ (.tail _ (.tail _ (.tail _ (.tail _ (.head _))))))))))))))))))) d18;have hM':=hM;obtain ⟨hbk,hx6,hx13,hC⟩:=hM';exact bB (ai eh e69) ⟨hI.put hU30 (.tail _ (.tail _ (.tail _ (.tail _ (.tail _ (.tail _ (.tail _ (.tail _ (.tail _ (.tail _ (.tail _ (.tail _ (.tail _ (.tail _ (.tail _ (.tail _ (.tail _ (.tail _ (.tail _ (.head _)))))))))))))))))))),hM⟩
   constructor
   ·rintro S L' wS hI hM hS0 ⟨d19,d9,d0,-,-,d3,d4,d5,d6,d7,d8,d9,-,-,-,d13,-,-,-,-,-⟩;have e60:aT L' 60=.int .i64 (((ax (sG g) recs).1.length+(ax (ax (sG g) recs).2 (bl rs)).1.length:Nat):Int):=hI.get (i:=9) (.tail _ (.tail _ (.tail _ (.tail _ (.tail _ (.tail _ (.tail _ (.tail _ (.tail _ (.head _)))))))))) d9;have e70:aT L' 70=.pointer (some ⟨p,0+3,none⟩):=hI.get (i:=19) (.tail _ (.tail _ (.tail _ (.tail _ (.tail _ (.tail _ (.tail _ (.tail _ (.tail _ (.tail _ (.tail _ (.tail _ (.tail _ (.tail _ (.tail _ (.tail _ (.tail _ (.tail _ (.tail _ (.head _)))))))))))))))))))) d19;have hM':=hM;obtain ⟨hbk,hx6,hx13,hC⟩:=hM';obtain ⟨w2,hR,hO,hb⟩:=sO (n:=87) (L:=L') (x:=.tmp 70) (y:=.tmp 60) en e70 e60 rfl hbk (by show _<10;decide);exact mW hR ⟨hI.skip (by simp),hb,fun _=>d6,hx13,hC.next (hO.toChg rfl)⟩
   constructor
   ·rintro S L' wS hI hM hS0 ⟨d1,d0,d1,-,d3,d4,d5,d6,d7,d8,d9,d10,d11,d12,d13,d14,d15,d16,-,d18,d19,d20,-⟩;have e52:aT L' 52=.pointer (some ⟨p,0,none⟩):=hI.get (i:=1) (.tail _ (.head _)) d1;have hM':=hM;obtain ⟨hbk,hx6,hx13,hC⟩:=hM';exact bB (au e52) ⟨hI.put hU30 (.tail _ (.tail _ (.tail _ (.tail _ (.tail _ (.tail _ (.tail _ (.tail _ (.tail _ (.tail _ (.tail _ (.tail _ (.tail _ (.tail _ (.tail _ (.tail _ (.tail _ (.tail _ (.tail _ (.tail _ (.head _))))))))))))))))))))),hM⟩
   constructor
   ·rintro S L' wS hI hM hS0 ⟨d21,d0,d1,-,d3,d4,d5,d6,d7,d8,d9,d10,d11,d12,d13,d14,d15,d16,-,d18,d19,d20,-⟩;have e71:aT L' 71=.pointer (some ⟨p,0,none⟩):=hI.get (i:=21) (.tail _ (.tail _ (.tail _ (.tail _ (.tail _ (.tail _ (.tail _ (.tail _ (.tail _ (.tail _ (.tail _ (.tail _ (.tail _ (.tail _ (.tail _ (.tail _ (.tail _ (.tail _ (.tail _ (.tail _ (.head _))))))))))))))))))))) d21;have hM':=hM;obtain ⟨hbk,hx6,hx13,hC⟩:=hM';exact bB (ai ef e71) ⟨hI.put hU30 (.tail _ (.tail _ (.tail _ (.tail _ (.tail _ (.tail _ (.tail _ (.tail _ (.tail _ (.tail _ (.tail _ (.tail _ (.tail _ (.tail _ (.tail _ (.tail _ (.tail _ (.tail _ (.tail _ (.tail _ (.tail _ (.head _)))))))))))))))))))))),hM⟩
   constructor
   ·rintro S L' wS hI hM hS0 ⟨d22,d16,d20,d0,d1,-,d3,d4,d5,d6,d7,d8,d9,d10,d11,d12,d13,d14,d15,d16,-,d18,d19,d20,-⟩;have e67:aT L' 67=.int .i64 (((ax (sG g) recs).1.length+(ax (ax (sG g) recs).2 (bl rs)).1.length:Nat):Int):=hI.get (i:=16) (.tail _ (.tail _ (.tail _ (.tail _ (.tail _ (.tail _ (.tail _ (.tail _ (.tail _ (.tail _ (.tail _ (.tail _ (.tail _ (.tail _ (.tail _ (.tail _ (.head _))))))))))))))))) d16;have e72:aT L' 72=.pointer (some ⟨p,0+4,none⟩):=hI.get (i:=22) (.tail _ (.tail _ (.tail _ (.tail _ (.tail _ (.tail _ (.tail _ (.tail _ (.tail _ (.tail _ (.tail _ (.tail _ (.tail _ (.tail _ (.tail _ (.tail _ (.tail _ (.tail _ (.tail _ (.tail _ (.tail _ (.head _)))))))))))))))))))))) d22;have hM':=hM;obtain ⟨hbk,hx6,hx13,hC⟩:=hM';obtain ⟨w2,hR,hO,hb⟩:=sO (n:=87) (L:=L') (x:=.tmp 72) (y:=.tmp 67) en e72 e67 rfl hbk (by show _<10;decide);exact mW hR ⟨hI.skip (by simp),hb,hx6,fun _=>d13,hC.next (hO.toChg rfl)⟩
   constructor
   ·rintro S L' wS hI hM hS0 ⟨d2,d0,d1,d2,d3,d4,d5,d6,d7,d8,d9,d10,d11,d12,d13,d14,d15,d16,d17,d18,d19,d20,d21,d22,d23,-⟩;have e53:aT L' 53=.pointer (some ⟨p,0,none⟩):=hI.get (i:=2) (.tail _ (.tail _ (.head _))) d2;have hM':=hM;obtain ⟨hbk,hx6,hx13,hC⟩:=hM';exact bB (au e53) ⟨hI.put hU30 (.tail _ (.tail _ (.tail _ (.tail _ (.tail _ (.tail _ (.tail _ (.tail _ (.tail _ (.tail _ (.tail _ (.tail _ (.tail _ (.tail _ (.tail _ (.tail _ (.tail _ (.tail _ (.tail _ (.tail _ (.tail _ (.tail _ (.head _))))))))))))))))))))))),hM⟩
   constructor
   ·rintro S L' wS hI hM hS0 ⟨d24,d0,d1,d2,d3,d4,d5,d6,d7,d8,d9,d10,d11,d12,d13,d14,d15,d16,d17,d18,d19,d20,d21,d22,d23,-⟩;have e73:aT L' 73=.pointer (some ⟨p,0,none⟩):=hI.get (i:=24) (.tail _ (.tail _ (.tail _ (.tail _ (.tail _ (.tail _ (.tail _ (.tail _ (.tail _ (.tail _ (.tail _ (.tail _ (.tail _ (.tail _ (.tail _ (.tail _ (.tail _ (.tail _ (.tail _ (.tail _ (.tail _ (.tail _ (.head _))))))))))))))))))))))) d24;have hM':=hM;obtain ⟨hbk,hx6,hx13,hC⟩:=hM';exact bB (ai el e73) ⟨hI.put hU30 (.tail _ (.tail _ (.tail _ (.tail _ (.tail _ (.tail _ (.tail _ (.tail _ (.tail _ (.tail _ (.tail _ (.tail _ (.tail _ (.tail _ (.tail _ (.tail _ (.tail _ (.tail _ (.tail _ (.tail _ (.tail _ (.tail _ (.tail _ (.head _)))))))))))))))))))))))),hM⟩
   constructor
   ·rintro S L' wS hI hM hS0 ⟨d25,d17,d23,d0,d1,d2,d3,d4,d5,d6,d7,d8,d9,d10,d11,d12,d13,d14,d15,d16,d17,d18,d19,d20,d21,d22,d23,-⟩;have e68:aT L' 68=.int .u32 (((ax (ax (sG g) recs).2 (bl rs)).2.toNat:Nat):Int):=hI.get (i:=17) (.tail _ (.tail _ (.tail _ (.tail _ (.tail _ (.tail _ (.tail _ (.tail _ (.tail _ (.tail _ (.tail _ (.tail _ (.tail _ (.tail _ (.tail _ (.tail _ (.tail _ (.head _)))))))))))))))))) d17;have e74:aT L' 74=.pointer (some ⟨p,0+5,none⟩):=hI.get (i:=25) (.tail _ (.tail _ (.tail _ (.tail _ (.tail _ (.tail _ (.tail _ (.tail _ (.tail _ (.tail _ (.tail _ (.tail _ (.tail _ (.tail _ (.tail _ (.tail _ (.tail _ (.tail _ (.tail _ (.tail _ (.tail _ (.tail _ (.tail _ (.head _)))))))))))))))))))))))) d25;have hM':=hM;obtain ⟨hbk,hx6,hx13,hC⟩:=hM';obtain ⟨w2,hR,hO,hb⟩:=sO (n:=87) (L:=L') (x:=.tmp 74) (y:=.tmp 68) jm e74 e68 rfl hbk (by show _<10;decide);exact mW hR ⟨hI.skip (by simp),hb,hx6,hx13,hC.next (hO.toChg rfl)⟩
   exact trivial
  ·intro w31 hM;obtain ⟨hbk,hx6,hx13,hC⟩:=hM;have hB5:=ag.rfl_ (a:=w31);have P5c:Blk w31 p 62 (wlV (some ⟨d,0,none⟩) g 0 (((ax (sG g) recs).1.length+(ax (ax (sG g) recs).2 (bl rs)).1.length:Nat):Int) (((ax (sG g) recs).1.length+(ax (ax (sG g) recs).2 (bl rs)).1.length:Nat):Int) (ax (ax (sG g) recs).2 (bl rs)).2.toNat b0 t0 E0 n0 c0 ok).toArray:=hbk;have hC5:=hC4.next hC;have hr5:=hrA.chg hC hrp;have hd5:=hd.chg hC5 (fun k hk e=>hUp (by rw [←show k=p from e];exact hk));have hz5:=hC5.size;refine ae (af ?_);apply gz [(0,75,fun _ v _=>v=_),(1,76,fun _ v _=>v=_),(2,77,fun _ v _=>v=_),(3,78,fun _ v _=>v=_),(4,79,fun _ v _=>v=_),(5,80,fun _ v _=>v=_),(6,81,fun _ v _=>v=_),(7,82,fun _ v _=>v=_),(8,83,fun _ v _=>v=_),(9,84,fun _ v _=>v=_),(10,85,fun _ v _=>v=_),(11,86,fun _ v _=>v=_),(12,6,fun _ v _=>v=_)] [11] (fun S w'=>(S 11=false→ag w31 w')∧(S 11=true→(∃ D',DkL D' g (recs++bl rs) 0∧cP w' (Nx U w w') d D' 0 false)∧Chg U w31 w')) (by kernel_rfl) (by kernel_rfl) rfl rfl ⟨fun _ _ _ _ _ _ _ h=>h,fun _ _ _ _ _ _ _ h=>h,fun _ _ _ _ _ _ _ h=>h,fun _ _ _ _ _ _ _ h=>h,fun _ _ _ _ _ _ _ h=>h,fun _ _ _ _ _ _ _ h=>h,fun _ _ _ _ _ _ _ h=>h,fun _ _ _ _ _ _ _ h=>h,fun _ _ _ _ _ _ _ h=>h,fun _ _ _ _ _ _ _ h=>h,fun _ _ _ _ _ _ _ h=>h,fun _ _ _ _ _ _ _ h=>h,fun _ _ _ _ _ _ _ h=>h,trivial⟩ (fun S i w1 w2 hq hF h=>⟨fun h0=>(h.1 (lP h0)).next hF,fun h1=>(fun h=>⟨(let ⟨D9,a,b⟩:=h.1;⟨D9,a,nO (b.from_ hF) fun k hk=>hk.imp id And.left⟩),h.2.next hF.toChg⟩) (h.2 (mP (show 11≠i by rintro rfl;exact absurd hq (by decide)) h1))⟩) ⟨fun _=>ag.rfl_.d1,fun h=>by cases h⟩
   case hstep=>
    constructor
    ·rintro S L' w32 hU hmo hme hI hM hC hS ⟨-⟩;have hS0:S 11=false:=(ay hC (j:=11) rfl (by kernel_rfl) (ay hC (j:=3) rfl (by kernel_rfl) (ay hC (j:=2) rfl (by kernel_rfl) (ay hC (j:=1) rfl (by kernel_rfl) hS))));have hM32:=hM.1 hS0;have e0:=hI.1 0 (fj rfl);exact aN [(0,_)] hU hmo hme hI hM (.head _) rfl rfl (by kernel_rfl) ⟨e0,trivial⟩ (aB (v:=.pointer _) rfl) ag.rfl_ (rfl)
    constructor
    ·rintro S L' w33 hU hmo hme hI hM hC hS ⟨d0,-⟩;have hS0:S 11=false:=(ay hC (j:=11) rfl (by kernel_rfl) (ay hC (j:=3) rfl (by kernel_rfl) (ay hC (j:=2) rfl (by kernel_rfl) hS)));have hM33:=hM.1 hS0;obtain ⟨v33_75,e75,h75⟩:=hI.get (i:=0) (.head _) d0;obtain rfl:=h75;exact aN [(75,_)] hU hmo hme hI hM (.tail _ (.head _)) rfl rfl (by kernel_rfl) ⟨e75,trivial⟩ (au rfl) ag.rfl_ (rfl)
    constructor
    ·rintro S L' w34 hU hmo hme hI hM hC hS ⟨d1,-⟩;have hS0:S 11=false:=(ay hC (j:=11) rfl (by kernel_rfl) (ay hC (j:=3) rfl (by kernel_rfl) hS));have hM34:=hM.1 hS0;obtain ⟨v34_76,e76,h76⟩:=hI.get (i:=1) (.tail _ (.head _)) d1;obtain rfl:=h76;exact aN [(76,_)] hU hmo hme hI hM (.tail _ (.tail _ (.head _))) rfl rfl (by kernel_rfl) ⟨e76,trivial⟩ (ai cz rfl) ag.rfl_ (rfl)
    constructor
    ·rintro S L' w35 hU hmo hme hI hM hC hS ⟨d2,-⟩;have hS0:S 11=false:=(ay hC (j:=11) rfl (by kernel_rfl) hS);have hM35:=hM.1 hS0;obtain ⟨v35_77,e77,h77⟩:=hI.get (i:=2) (.tail _ (.tail _ (.head _))) d2;obtain rfl:=h77;exact aN [(77,_)] hU hmo hme hI hM (.tail _ (.tail _ (.tail _ (.head _)))) rfl rfl (by kernel_rfl) ⟨e77,trivial⟩ (ao cW rfl (by exact (P5c.from_ (hB5.next hM35)).rd 0 rfl)) ag.rfl_ (rfl)
    constructor
    ·rintro S L' w36 hU hmo hme hI hM hC hS ⟨-⟩;have hS0:S 11=false:=(ay hC (j:=11) rfl (by kernel_rfl) (ay hC (j:=9) rfl (by kernel_rfl) hS));have hM36:=hM.1 hS0;have e0:=hI.1 0 (fj rfl);exact aN [(0,_)] hU hmo hme hI hM (.tail _ (.tail _ (.tail _ (.tail _ (.head _))))) rfl rfl (by kernel_rfl) ⟨e0,trivial⟩ (aB (v:=.pointer _) rfl) ag.rfl_ (rfl)
    constructor
    ·rintro S L' w37 hU hmo hme hI hM hC hS ⟨-⟩;have hS0:S 11=false:=(ay hC (j:=11) rfl (by kernel_rfl) (ay hC (j:=9) rfl (by kernel_rfl) (ay hC (j:=8) rfl (by kernel_rfl) (ay hC (j:=7) rfl (by kernel_rfl) (ay hC (j:=6) rfl (by kernel_rfl) hS)))));have hM37:=hM.1 hS0;have e0:=hI.1 0 (fj rfl);exact aN [(0,_)] hU hmo hme hI hM (.tail _ (.tail _ (.tail _ (.tail _ (.tail _ (.head _)))))) rfl rfl (by kernel_rfl) ⟨e0,trivial⟩ (aB (v:=.pointer _) rfl) ag.rfl_ (rfl)
    constructor
    ·rintro S L' w38 hU hmo hme hI hM hC hS ⟨d5,-⟩;have hS0:S 11=false:=(ay hC (j:=11) rfl (by kernel_rfl) (ay hC (j:=9) rfl (by kernel_rfl) (ay hC (j:=8) rfl (by kernel_rfl) (ay hC (j:=7) rfl (by kernel_rfl) hS))));have hM38:=hM.1 hS0;obtain ⟨v38_80,e80,h80⟩:=hI.get (i:=5) (.tail _ (.tail _ (.tail _ (.tail _ (.tail _ (.head _)))))) d5;obtain rfl:=h80;exact aN [(80,_)] hU hmo hme hI hM (.tail _ (.tail _ (.tail _ (.tail _ (.tail _ (.tail _ (.head _))))))) rfl rfl (by kernel_rfl) ⟨e80,trivial⟩ (au rfl) ag.rfl_ (rfl)
    constructor
    ·rintro S L' w39 hU hmo hme hI hM hC hS ⟨d6,-⟩;have hS0:S 11=false:=(ay hC (j:=11) rfl (by kernel_rfl) (ay hC (j:=9) rfl (by kernel_rfl) (ay hC (j:=8) rfl (by kernel_rfl) hS)));have hM39:=hM.1 hS0;obtain ⟨v39_81,e81,h81⟩:=hI.get (i:=6) (.tail _ (.tail _ (.tail _ (.tail _ (.tail _ (.tail _ (.head _))))))) d6;obtain rfl:=h81;exact aN [(81,_)] hU hmo hme hI hM (.tail _ (.tail _ (.tail _ (.tail _ (.tail _ (.tail _ (.tail _ (.head _)))))))) rfl rfl (by kernel_rfl) ⟨e81,trivial⟩ (ai bR rfl) ag.rfl_ (rfl)
    constructor
    ·rintro S L' w40 hU hmo hme hI hM hC hS ⟨d7,-⟩;have hS0:S 11=false:=(ay hC (j:=11) rfl (by kernel_rfl) (ay hC (j:=9) rfl (by kernel_rfl) hS));have hM40:=hM.1 hS0;obtain ⟨v40_82,e82,h82⟩:=hI.get (i:=7) (.tail _ (.tail _ (.tail _ (.tail _ (.tail _ (.tail _ (.tail _ (.head _)))))))) d7;obtain rfl:=h82;exact aN [(82,_)] hU hmo hme hI hM (.tail _ (.tail _ (.tail _ (.tail _ (.tail _ (.tail _ (.tail _ (.tail _ (.head _))))))))) rfl rfl (by kernel_rfl) ⟨e82,trivial⟩ (ao aD rfl (by exact (P5c.from_ (hB5.next hM40)).rd 2 rfl)) ag.rfl_ (rfl)
    constructor
    ·rintro S L' w41 hU hmo hme hI hM hC hS ⟨d4,d8,-⟩;have hS0:S 11=false:=(ay hC (j:=11) rfl (by kernel_rfl) hS);have hM41:=hM.1 hS0;obtain ⟨v41_79,e79,h79⟩:=hI.get (i:=4) (.tail _ (.tail _ (.tail _ (.tail _ (.head _))))) d4;obtain rfl:=h79;obtain ⟨v41_83,e83,h83⟩:=hI.get (i:=8) (.tail _ (.tail _ (.tail _ (.tail _ (.tail _ (.tail _ (.tail _ (.tail _ (.head _))))))))) d8;obtain rfl:=h83;refine fB (al:=[.tmp 79,.tmp 83]) [(79,_),(83,_)] hU hmo hme hI hM (.tail _ (.tail _ (.tail _ (.tail _ (.tail _ (.tail _ (.tail _ (.tail _ (.tail _ (.head _)))))))))) rfl (by kernel_rfl) ⟨e79,e83,trivial⟩ eN ((er 62 p g 0 _ _ _ (P5c.from_ (hB5.next hM41)) (by omega) (by decide)).mono ?_);rintro v w2 ⟨rfl,E41'⟩;exact ⟨E41',rfl⟩
    constructor
    ·rintro S L' w42 hU hmo hme hI hM hC hS ⟨-⟩;have hS0:S 11=false:=(ay hC (j:=11) rfl (by kernel_rfl) hS);have hM42:=hM.1 hS0;have e7:=hI.1 7 (fj rfl);exact aN [(7,_)] hU hmo hme hI hM (.tail _ (.tail _ (.tail _ (.tail _ (.tail _ (.tail _ (.tail _ (.tail _ (.tail _ (.tail _ (.head _))))))))))) rfl rfl (by kernel_rfl) ⟨e7,trivial⟩ (aB (v:=.slice _ _ _) rfl) ag.rfl_ (rfl)
    constructor
    ·rintro S L' w43 hU hmo hme hI hM hC hS ⟨d3,d9,d10,d9,-⟩;have hS0:S 11=false:=hS;have hM43:=hM.1 hS0;obtain ⟨v43_78,e78,h78⟩:=hI.get (i:=3) (.tail _ (.tail _ (.tail _ (.head _)))) d3;obtain rfl:=h78;obtain ⟨v43_84,e84,h84⟩:=hI.get (i:=9) (.tail _ (.tail _ (.tail _ (.tail _ (.tail _ (.tail _ (.tail _ (.tail _ (.tail _ (.head _)))))))))) d9;obtain rfl:=h84;obtain ⟨v43_85,e85,h85⟩:=hI.get (i:=10) (.tail _ (.tail _ (.tail _ (.tail _ (.tail _ (.tail _ (.tail _ (.tail _ (.tail _ (.tail _ (.head _))))))))))) d10;obtain rfl:=h85;refine eY (al:=[.tmp 78,.tmp 84,.tmp 85]) [(78,_),(84,_),(85,_)] hU hI (.tail _ (.tail _ (.tail _ (.tail _ (.tail _ (.tail _ (.tail _ (.tail _ (.tail _ (.tail _ (.tail _ (.head _)))))))))))) (by kernel_rfl) ⟨e78,e84,e85,trivial⟩ pO ((v_ U d D _ (hd5.from_ (hB5.next hM43)) g recs (bl rs) la hD (by omega) A15 c15 _ (hr5.from_ (hB5.next hM43)) rfl (by omega) (fun z hz h=>by have:=hU9 z h;have:=(hx15.at_ z hz).1;omega)).mono ?_);rintro v9 w2 ⟨rfl,⟨D9,hD9,hd9⟩,hC2⟩;have hzB:=((hB5.next hM43)).size;exact ⟨⟨fun h0=>(by rw [mQ] at h0;cases h0),fun _=>⟨⟨D9,hD9,nO hd9 (fun k hk=>lg (by omega) hk)⟩,(ag.toChg hM43).next hC2⟩⟩,rfl,⟨fun _ _ _ h=>h,fun _ _ _ h=>h,fun _ _ _ h=>h,fun _ _ _ h=>h,fun _ _ _ h=>h,fun _ _ _ h=>h,fun _ _ _ h=>h,fun _ _ _ h=>h,fun _ _ _ h=>h,fun _ _ _ h=>h,fun _ _ _ h=>h,fun _ _ _ h=>h,fun _ _ _ h=>h,trivial⟩⟩
    constructor
    ·rintro S L' w44 hU hmo hme hI hM hC hS ⟨d11,d11,d0,d1,d2,d3,d4,d5,d6,d7,d8,d9,d10,d11,-⟩;obtain ⟨v44_86,e86,h86⟩:=hI.get (i:=11) (.tail _ (.tail _ (.tail _ (.tail _ (.tail _ (.tail _ (.tail _ (.tail _ (.tail _ (.tail _ (.tail _ (.head _)))))))))))) d11;obtain rfl:=h86;exact aN [(86,_)] hU hmo hme hI hM (.tail _ (.tail _ (.tail _ (.tail _ (.tail _ (.tail _ (.tail _ (.tail _ (.tail _ (.tail _ (.tail _ (.tail _ (.head _))))))))))))) rfl rfl (by kernel_rfl) ⟨e86,trivial⟩ (bn (v:=.int _ _) rfl) ag.rfl_ (rfl)
    exact trivial
   case hend=>
    intro w45 hM;obtain ⟨⟨D86,hD86,hd86⟩,hC86⟩:=hM.2 rfl;rintro v45_75 rfl v45_76 rfl v45_77 rfl v45_78 rfl v45_79 rfl v45_80 rfl v45_81 rfl v45_82 rfl v45_83 rfl v45_84 rfl v45_85 rfl v45_86 rfl v45_6 rfl;refine fq ?_;have P86:=P5c.chg hC86 hUp;refine ae (aC (bz (v:=.int _ _) rfl rfl (⟨rfl,⟨g,recs++bl rs,D86,Nat.le_succ _,hK1,?_,hD86,nO (hd86.from_ ag.rfl_) (fun k hk=>hk.imp id And.left),fun r hr=>(List.mem_append.1 hr).elim (hk r) (vx hrk r),s8 h0,hap.app (vy hap2)⟩,((hC5.wide (fun i hi=>.inl (.inr hi))).next (hC86.wide (fun i hi=>.inl (.inl hi)))).next (ag.rfl_).toChg⟩)));rw [hZ1,hZ2];exact P86.from_ ag.rfl_
theorem qL:aH prog 61=true:=by kernel_rfl
def WrS (w0 w':World) (U:Nat→Prop) (p d g KB:Nat) (M:Lg) (b0 t0:Int) (E0:Option Addr) (n0 c0:Nat):Prop:=∃ (g':Nat) (recs':List Rc) (D':List Fe) (V:Nat→Prop),g'≤g+1∧(ax (sG g') recs').1.length≤KB∧Blk w' p 62 (wlV (some ⟨d,0,none⟩) g' 0 (((ax (sG g') recs').1.length:Nat):Int) (((ax (sG g') recs').1.length:Nat):Int) (ax (sG g') recs').2.toNat b0 t0 E0 n0 c0 true).toArray∧DkL D' g' recs' 0∧(∀ k,V k→U k∨w0.heap.size≤k)∧cP w' V d D' 0 false∧(∀ r∈recs',r.Ok)∧iN recs' recs'.length∧cI lg0 recs' M∧Chg (fun k=>U k∨k=p) w0 w'
def kg (w:World) (U:Nat→Prop) (p:Nat) (E:Option Addr):Prop:=∀ q,E.map (·.block)=some q→q<w.heap.size∧¬ U q∧q≠p
theorem xu {w w':World} {U:Nat→Prop} {p d g:Nat} {recs:List Rc} {L:Lg} {qs:Bool} {la:Int} {E:Option Addr} {n c:Nat} {D:List Fe} (hz:w.heap.size≤w'.heap.size)
 (hP:Blk w' p 62 (wlV (some ⟨d,0,none⟩) g la ((ax (sG g) recs).1.length:Nat) ((ax (sG g) recs).1.length:Nat) (ax (sG g) recs).2.toNat L.b L.t E n c true).toArray) (hp:p<w.heap.size) (hD:DkL D g recs la) (hq:qs=true→∀ e∈D,e.2.1=e.2.2) (V:Nat→Prop) (hd:cP w' V d D 0 false) (hV:∀ k,V k→U k∨w.heap.size≤k) (hE:bm w' (.slice E n c) L.es) (hEf:kg w U p E) (hUp:¬ U p) (hU9:∀ x,U x→x<w.heap.size) (hok:dh L) (rk:∀ r∈recs,r.Ok) (fin:iN recs recs.length) (ap:cI lg0 recs L) (g9:g<100):WAt w' (Nx U w w') p d g recs L qs:=
 ⟨⟨la,E,n,c,D,hP,hD,hq,nO hd hV,hE,fun q hq=>⟨by have:=(hEf q hq).1;omega,fun e=>e.elim (hEf q hq).2.1 fun e=>by have:=(hEf q hq).1;omega,(hEf q hq).2.2⟩⟩,fun e=>e.elim hUp fun e=>by omega,fun x hx=>hx.elim (fun hx=>by have:=hU9 x hx;omega) And.right,hok,rk,fin,ap,g9⟩
theorem l7 (U:Nat→Prop) (p d g KB:Nat) (recs rs:List Rc) (L M:Lg) (qs:Bool) (A:Option Addr) (ca na:Nat) (E:Option Addr) (c n:Nat) (w:World) (h:WAt w U p d g recs L qs) (hg:g<98) (hMk:dh M) (hE:bm w (.slice E n c) M.es) (hn:n=M.es.length) (hEf:kg w U p E) (hr:gH 5 rcV w A rs) (hna:na=rs.length) (h0:0<rs.length) (hrl:rs.length≤600) (hrk:∀ r∈rs,r.Ok) (hap2:cI L rs M) (hK1:(ax (sG g) (recs++bl rs)).1.length≤KB) (hK2:32+cu M.es≤KB) (hK3:KB≤1048576) (hT:cO w) :
 Rt prog 37 [.pointer (some ⟨p,0,none⟩),.agg (lgV M.b M.t E n c).toArray,.slice A na ca] w (fun v w'=>v=.int .i64 0∧(∃ g' recs',g'≤g+1∧(ax (sG g') recs').1.length≤KB∧WAt w' (Nx U w w') p d g' recs' M false)∧(∀ q,LR w' p q→E.map (·.block)=some q)∧Chg (fun k=>U k∨k=p) w w'):=by
 subst hna;obtain ⟨la,E0,n0,c0,D,hP,hDk,hqs,hd,hE0,hE0q⟩:=h.ex;have hPl:=hP.lt;have hUp:=h.nU;have hU9:=h.lt;refine enter (n:=32) Tryz.func37 rfl rfl rfl (af (ab (bu (v:=.agg _) rfl ?_)));intro b4 w1 E4 hb4 hk4;have hg4:w.heap.size≤b4:=by rw [hb4];exact (ag.rfl_).size
 refine asi rfl (ah (ae (af (af (ab (mvs rfl (aa (bb fv rfl) (aa (bh (a7 rfl rfl) (by rw [beq_eq_false_iff_ne];omega)) ?_))))))));refine ah (ae (aI rfl (aE (ae (af ?_)))));have hU2:mU [(0,17,.pointer (some ⟨p,0,none⟩)),(1,18,.pointer (some ⟨p,0,none⟩)),(2,19,.pointer (some ⟨p,0,none⟩)),(3,20,.pointer (some ⟨p,0+0,none⟩)),(4,21,.slice A rs.length ca),(5,22,.agg (lgV M.b M.t E n c).toArray),(6,23,.int .i64 0),(7,24,.int .i64 0),(8,7,.int .i64 0)]:=by simp [mU]
 refine uI [(0,17,.pointer (some ⟨p,0,none⟩)),(1,18,.pointer (some ⟨p,0,none⟩)),(2,19,.pointer (some ⟨p,0,none⟩)),(3,20,.pointer (some ⟨p,0+0,none⟩)),(4,21,.slice A rs.length ca),(5,22,.agg (lgV M.b M.t E n c).toArray),(6,23,.int .i64 0),(7,24,.int .i64 0),(8,7,.int .i64 0)] (fun S w'=>(S 6=false→ag w w')∧(S 6=true→WrS w w' U p d g KB M L.b L.t E0 n0 c0)∧Blk w' b4 36 (lgV M.b M.t E n c).toArray) (by kernel_rfl) (by kernel_rfl) hU2 (by simp) (⟨fun _=>((ag.rfl_.next E4)).d1,fun h=>(by cases h),hk4.from_ ((ag.rfl_).d1)⟩) ?_ ?_
 ·constructor
  ·rintro S L' wS hI hM hS0 ⟨-⟩;have e0:=hI.1 0 (by simp);have hM':=hM;obtain ⟨hm1,hm2,hmk⟩:=hM';exact bB (aB e0) ⟨hI.put hU2 (.head _),hM⟩
  constructor
  ·rintro S L' wS hI hM hS0 ⟨-⟩;have e0:=hI.1 0 (by simp);have hM':=hM;obtain ⟨hm1,hm2,hmk⟩:=hM';exact bB (aB e0) ⟨hI.put hU2 (.tail _ (.head _)),hM⟩
  constructor
  ·rintro S L' wS hI hM hS0 ⟨d1,-⟩;have e18:aT L' 18=.pointer (some ⟨p,0,none⟩):=hI.get (i:=1) (.tail _ (.head _)) d1;have hM':=hM;obtain ⟨hm1,hm2,hmk⟩:=hM';exact bB (au e18) ⟨hI.put hU2 (.tail _ (.tail _ (.head _))),hM⟩
  constructor
  ·rintro S L' wS hI hM hS0 ⟨d2,-⟩;have e19:aT L' 19=.pointer (some ⟨p,0,none⟩):=hI.get (i:=2) (.tail _ (.tail _ (.head _))) d2;have hM':=hM;obtain ⟨hm1,hm2,hmk⟩:=hM';exact bB (ai gE e19) ⟨hI.put hU2 (.tail _ (.tail _ (.tail _ (.head _)))),hM⟩
  constructor
  ·rintro S L' wS hI hM hS0 ⟨-⟩;have e2:=hI.1 2 (by simp);have hM':=hM;obtain ⟨hm1,hm2,hmk⟩:=hM';exact bB (aB e2) ⟨hI.put hU2 (.tail _ (.tail _ (.tail _ (.tail _ (.head _))))),hM⟩
  constructor
  ·rintro S L' wS hI hM hS0 ⟨-⟩;have e4:=hI.1 4 (by simp);have hM':=hM;obtain ⟨hm1,hm2,hmk⟩:=hM';exact bB (aG (cs:=lgV M.b M.t E n c) az aq (e4.trans rfl) hmk.whole) ⟨hI.put hU2 (.tail _ (.tail _ (.tail _ (.tail _ (.tail _ (.head _)))))),hM⟩
  constructor
  ·rintro S L' wS hI hM hS0 ⟨d3,d4,d5,-⟩;have e20:aT L' 20=.pointer (some ⟨p,0+0,none⟩):=hI.get (i:=3) (.tail _ (.tail _ (.tail _ (.head _)))) d3;have e21:aT L' 21=.slice A rs.length ca:=hI.get (i:=4) (.tail _ (.tail _ (.tail _ (.tail _ (.head _))))) d4;have e22:aT L' 22=.agg (lgV M.b M.t E n c).toArray:=hI.get (i:=5) (.tail _ (.tail _ (.tail _ (.tail _ (.tail _ (.head _)))))) d5;have hM':=hM;obtain ⟨hm1,hm2,hmk⟩:=hM';have hB:=hm1 hS0;have hz:=hB.size;refine lO (al:=[.tmp 20,.tmp 21,.tmp 22]) qL ?_;show Rt _ _ [aT L' 20,aT L' 21,aT L' 22] _ _;rw [e20,e21,e22];refine (wA U p d g KB recs rs D la L.b L.t E0 n0 c0 true L M A ca rs.length E c n _ (hd.from_ hB) hDk hg (hP.from_ hB) hUp hMk (hE.from_ hB) hn (hr.from_ hB) rfl h0 hrl hrk h.rk h.ap hap2 hK1 hK2 hK3 (hT.from_ hB) (fun x hx=>Nat.lt_of_lt_of_le (hU9 x hx) hB.size)).mono ?_;rintro v w2 ⟨rfl,⟨g',recs',D',hg',hKB',hP23,hD23,hd23,hrk',hfin',hap'⟩,hC23⟩;exact ⟨hI.put hU2 (.tail _ (.tail _ (.tail _ (.tail _ (.tail _ (.tail _ (.head _))))))),fun h=>(by cases h),fun _=>⟨g',recs',D',_,hg',hKB',hP23,hD23,fun k hk=>lg hz hk,hd23,hrk',hfin',hap',(ag.toChg hB).next hC23⟩,hmk.chg hC23 (fun e=>by rcases e with e | e;have:=hU9 _ e;omega;omega)⟩
  constructor
  ·rintro S L' wS hI hM hS0 ⟨d0,d6,d6,-⟩;have e17:aT L' 17=.pointer (some ⟨p,0,none⟩):=hI.get (i:=0) (.head _) d0;have e23:aT L' 23=.int .i64 0:=hI.get (i:=6) (.tail _ (.tail _ (.tail _ (.tail _ (.tail _ (.tail _ (.head _))))))) d6;have hM':=hM;obtain ⟨hm1,hm2,hmk⟩:=hM';obtain ⟨g',recs',D',V,hg',hKB',hP23,hD23,hV,hd23,hrk',hfin',hap',hC23⟩:=hm2 d6;refine lO (al:=[.tmp 17,.tmp 23]) kJ ?_;show Rt _ _ [aT L' 17,aT L' 23] _ _;rw [e17,e23];refine (p4 p (some ⟨d,0,none⟩) g' 0 _ _ _ L.b L.t E0 n0 c0 true 0 _ hP23).mono ?_;rintro v w2 ⟨rfl,hP24x,O24⟩;exact ⟨hI.put hU2 (.tail _ (.tail _ (.tail _ (.tail _ (.tail _ (.tail _ (.tail _ (.head _)))))))),fun h0=>(by rw [show df S 7 6=S 6 from rfl,d6] at h0;cases h0),fun _=>⟨g',recs',D',V,hg',hKB',hP24x,hD23,hV,hd23.chg (O24.toChg (U:=fun k=>k=p) rfl) (fun k hk e=>by have e:k=p:=e;subst e;exact (hV k hk).elim hUp fun hk=>by omega),hrk',hfin',hap',hC23.next (O24.toChg (.inr rfl))⟩,hmk.only O24 (by omega)⟩
  constructor
  ·rintro S L' wS hI hM hS0 ⟨d7,d7,d0,d1,d2,d3,d4,d5,d6,d7,-⟩;have e24:aT L' 24=.int .i64 0:=hI.get (i:=7) (.tail _ (.tail _ (.tail _ (.tail _ (.tail _ (.tail _ (.tail _ (.head _)))))))) d7;have hM':=hM;obtain ⟨hm1,hm2,hmk⟩:=hM';exact bB (bn e24) ⟨hI.put hU2 (.tail _ (.tail _ (.tail _ (.tail _ (.tail _ (.tail _ (.tail _ (.tail _ (.head _))))))))),hM⟩
  exact trivial
 ·intro w3 hM;obtain ⟨hm1,hm2,hmk⟩:=hM;have hB3:=ag.rfl_ (a:=w3);obtain ⟨g',recs',D',V23,hg',hKB',hP23,hD23,hV23,hd23,hrk',hfin',hap',hC23⟩:=hm2 rfl;refine ae (af (af (ab (mvi rfl (aa (cU (a7 rfl rfl) rfl) (ah (ae (aY rfl (ab (mvp rfl (aa (aG (cs:=lgV M.b M.t E n c) az aq rfl ((hmk.from_ ag.rfl_).whole)) (aa (au rfl) ?_))))))))))));refine aa (ai bS rfl) ?_;have hM5:ag _ w3:=ag.rfl_;refine ik (vs:=lgV M.b M.t E n c) (i:=0+6) (cs:=wlV (some ⟨d,0,none⟩) g' 0 (((ax (sG g') recs').1.length:Nat):Int) (((ax (sG g') recs').1.length:Nat):Int) (ax (sG g') recs').2.toNat L.b L.t E0 n0 c0 true) aq rfl rfl (by simp [lgV,Value.oneCell']) (hP23.from_ hM5) (by show 0+6+3≤10;decide) ?_;intro w4 O5 P5;have P5b:Blk w4 p 62 (wlV (some ⟨d,0,none⟩) g' 0 (((ax (sG g') recs').1.length:Nat):Int) (((ax (sG g') recs').1.length:Nat):Int) (ax (sG g') recs').2.toNat M.b M.t E n c true).toArray:=P5;have hC5:=(hC23.next hM5.toChg).next (O5.toChg (.inr rfl));have hd5:=(hd23.from_ hM5).chg (O5.toChg (U:=fun k=>k=p) rfl) (fun k hk e=>by have e:k=p:=e;subst e;exact (hV23 k hk).elim hUp fun hk=>by omega);have hE5:=hE.chg hC5 (fun q hq e=>by have:=hEf q hq;rcases e with e | e;exact this.2.1 e;exact this.2.2 e);have hz5:=hC5.size;refine ah (ae (af (ab (mvi rfl (asi rfl (ah (ae (aC (bz (v:=.int _ _) rfl rfl ?_)))))))));have hM9:ag _ w4:=ag.rfl_;exact ⟨rfl,⟨g',recs',hg',hKB',xu (Nat.le_trans hz5 hM9.size) (P5b.from_ hM9) hPl hD23 (fun h=>by cases h) _ (hd5.from_ hM9) hV23 (hE5.from_ hM9) hEf hUp hU9 hMk hrk' hfin' hap' (by omega)⟩,fun q hq=>ln (P5b.from_ hM9) hq,hC5.next hM9.toChg⟩
theorem oe (U:Nat→Prop) (p d g:Nat) (recs:List Rc) (L:Lg) (qs:Bool) (ca na:Nat) (A:Option Addr) (c1 c2 c3:Value) (w:World) (h:WAt w U p d g recs L qs) (hna:na=0) :
 Rt prog 37 [.pointer (some ⟨p,0,none⟩),.agg #[c1,c2,c3],.slice A na ca] w (fun v w'=>v=.int .i64 0∧WAt w' (Nx U w w') p d g recs L qs∧(∀ q,LR w' p q→LR w p q)∧Chg (fun k=>U k∨k=p) w w'):=by
 subst hna;obtain ⟨la,E0,n0,c0,D,hP,hDk,hqs,hd,hE0,hE0q⟩:=h.ex;have hPl:=hP.lt;have hUp:=h.nU;have hU9:=h.lt;refine enter (n:=32) Tryz.func37 rfl rfl rfl (af (ab (bu (v:=.agg _) rfl ?_)));intro b4 w1 E4 hb4 hk4;refine asi rfl (ah (ae (af (af (ab (mvs rfl (aa (bb fv rfl) (aa (cU (a7 rfl rfl) rfl) (ah (ae (aY rfl (af (ab (mvp rfl ?_))))))))))))));refine mvp rfl (aa (au rfl) (aa (ai gE rfl) (av ou (pq 62 p _ U d D _ (hP.from_ (ag.rfl_.next E4)) (hd.from_ (ag.rfl_.next E4))) ?_)));rintro v15 w2 ⟨rfl,E15⟩;have hB16:ag w w2:=((ag.rfl_.next E4).next E15);refine av kJ (p4 p (some ⟨d,0,none⟩) g la _ _ _ L.b L.t E0 n0 c0 true 0 _ (hP.from_ ((ag.rfl_.next E4).next E15))) ?_;rintro v16 w3 ⟨rfl,hP16x,O16⟩;have hC16:Chg (fun k=>k=p) w w3:=hB16.toChg.next (O16.toChg rfl);have hd16:=hd.chg hC16 (fun k hk e=>hUp (by rw [←show k=p from e];exact hk));have hE16:=hE0.chg hC16 (fun q hq e=>(hE0q q hq).2.2 e);have hP16:Blk w3 p 62 (wlV (some ⟨d,0,none⟩) g la (((ax (sG g) recs).1.length:Nat):Int) (((ax (sG g) recs).1.length:Nat):Int) (ax (sG g) recs).2.toNat L.b L.t E0 n0 c0 true).toArray:=hP16x;have hz16:=hC16.size;refine asi rfl (ah (ae (aC (aF (bz (v:=.int _ _) rfl rfl (⟨rfl,xu (Nat.le_trans hz16 (ag.rfl_).size) (hP16.from_ ag.rfl_) hPl hDk hqs U (hd16.from_ ag.rfl_) (fun k hk=>.inl hk) (hE16.from_ ag.rfl_) hE0q hUp hU9 h.ok h.rk h.fin h.ap h.g9,fun q hq=>⟨_,_,_,_,_,_,_,_,_,_,_,_,hP,ln (hP16.from_ ag.rfl_) hq⟩,(hC16.wide (fun i hi=>.inl (.inr hi))).next (ag.rfl_).toChg⟩))))))
theorem iS:aH prog 37=true:=by kernel_rfl
theorem vI (b t:Int) (E:Option Addr) (c n:Nat) (ls:List Ent) (F:Option Addr) (c2 m:Nat) (es:List Ent) (w:World) (hls:bm w (.slice E n c) ls) (hn:n=ls.length) (hes:bm w (.slice F m c2) es) (hm:m=es.length) (hl:ls.length≤1000000) (hl2:es.length≤1000000) (hp:0≤(bo b t ls).1∧(bo b t ls).1≤2000000000000) (ht:0≤(bo b t ls).2) (hr:cG es (bo b t ls).1 (bo b t ls).2=false) :
 Rt prog 36 [.agg (lgV b t E n c).toArray,.slice F m c2] w fun v w'=>v=.bool false∧ag w w':=by
 have h:=pC b t E c n ls F c2 m es w hls hn hes hm hl hl2 hp ht
 rwa [hr] at h
theorem cI.okL:∀ {rs:List Rc} {L M:Lg},cI L rs M→dh L→dh M
 |[],_,_,h,hL=>by cases h;exact hL
 |_::_,_,_,⟨_,h1,h2⟩,hL=>cI.okL h2 (h1.ok hL)
theorem qd (s:BitVec 32) (recs rs:List Rc):(ax s (recs++bl rs)).1.length=(ax s recs).1.length+(rs.map fun r=>frL r.d.size).sum:=by
 rw [iP,List.length_append]
 congr 1
 rw [l8];exact congrArg List.sum (rA rs.length rs 0)
def WEx (w w':World) (U:Nat→Prop) (p d g:Nat) (recs:List Rc) (L:Lg) (qs:Bool):Prop:=∃ V:Nat→Prop,(∀ k,V k→U k∨w.heap.size≤k)∧WAt w' V p d g recs L qs∧∀ q,LR w' p q→LR w p q∨w.heap.size≤q
theorem WAt.back {w w':World} {U:Nat→Prop} {p d g q:Nat} {recs:List Rc} {L:Lg} {qs:Bool} (h:WAt w U p d g recs L qs) (hF:ag w w') (hq:LR w' p q):LR w p q:=by
 obtain ⟨la,E,n,c,D,h1,_⟩:=h.ex;exact LR.back h1 hF hq
theorem WEx.of {w w1 w2 w3:World} {U:Nat→Prop} {p d g:Nat} {recs:List Rc} {L:Lg} {qs:Bool} (h:WAt w2 (Nx U w1 w2) p d g recs L qs) (hz:w.heap.size≤w1.heap.size) (hl:∀ q,LR w2 p q→LR w p q∨w.heap.size≤q) (hF:ag w2 w3):WEx w w3 U p d g recs L qs:=⟨_,fun _ hk=>lg hz hk,h.from_ hF,fun q hq=>hl q (h.back hF hq)⟩
theorem WEx.same {w w':World} {U:Nat→Prop} {p d g:Nat} {recs:List Rc} {L:Lg} {qs:Bool} (h:WAt w U p d g recs L qs) (hF:ag w w'):WEx w w' U p d g recs L qs:=⟨U,fun _ hk=>.inl hk,h.from_ hF,fun _ hq=>.inl (h.back hF hq)⟩
theorem nK {w w':World} {U:Nat→Prop} {p n c e s:Nat} {E:Option Addr} {xs:List Value} (h:cJ w' w.heap.size e s E n c xs) (hU:∀ x,U x→x<w.heap.size) (hp:p<w.heap.size):kg w' U p E:=fun q hq=>by
 have:=h.at_ q hq;exact ⟨this.2,fun e=>by have:=hU q e;omega,by omega⟩
theorem CA (U:Nat→Prop) (p d g:Nat) (recs:List Rc) (L:Lg) (qs:Bool) (w:World) (h:WAt w U p d g recs L qs) (F:Option Addr) (c2 m:Nat) (es:List Ent) (hes:bm w (.slice F m c2) es) (hm:m=es.length) (hel:es.length≤600) (hr:cG es (bo L.b L.t L.es).1 (bo L.b L.t L.es).2=false) :
 Rt prog 17 [.pointer (some ⟨p,0,none⟩),.slice F m c2] w (fun v w'=>v=.int .i64 1∧ag w w'):=by
 obtain ⟨la,E0,n0,c0,D,hP,hDk,hqs,hd,hE0,hE0q⟩:=h.ex;have hPl:=hP.lt;have hn0:n0=L.es.length:=(dy hE0).1;have hf:=h.ok.f;have hfb:=hf.b;have hft:=hf.t;have hfn:=hf.n;have hfl:=hf.l;have hfl2:=hf.l2;have hU9:=h.lt;refine enter (n:=43) Tryz.func17 rfl rfl rfl (af (ab (asi rfl (ah (ae (af (af (ab (mvp rfl (aa (au rfl) (aa (ai dQ rfl) (aa (ao di rfl (by exact (hP.from_ ag.rfl_).rd 9 rfl)) ?_))))))))))));refine aa (bh (bG rfl) rfl) (ah (ae (aI rfl (aE (ae (af (af (ab (mvp rfl (aa (au rfl) (aa (ai bS rfl) (aa (aG (cs:=lgV L.b L.t E0 n0 c0) az aq rfl (iG (hP.from_ ag.rfl_))) (mvs rfl ?_)))))))))))));refine av gd (vI L.b L.t E0 c0 n0 L.es F c2 m es _ (hE0.from_ ag.rfl_) hn0 (hes.from_ ag.rfl_) hm (by omega) (by omega) (by show 0≤(lL L).1∧(lL L).1≤_;omega) hfl2.1 hr) ?_;rintro v16 w1 ⟨rfl,E16⟩;refine aa (bG rfl) (ah (ae (aY rfl (af (ab (asi rfl (ah (ae (aC (aF (bz (v:=.int _ _) rfl rfl (⟨rfl,(ag.rfl_.next E16)⟩))))))))))))
theorem oV (U:Nat→Prop) (p d g:Nat) (recs:List Rc) (L:Lg) (qs:Bool) (w:World) (h:WAt w U p d g recs L qs) (F:Option Addr) (c2 m:Nat) (es:List Ent) (hes:bm w (.slice F m c2) es) (hm:m=es.length) (hel:es.length≤600) (hr:cG es (bo L.b L.t L.es).1 (bo L.b L.t L.es).2=true) (hfull:512<L.es.length+es.length) :
 Rt prog 17 [.pointer (some ⟨p,0,none⟩),.slice F m c2] w (fun v w'=>v=.int .i64 6∧ag w w'):=by
 obtain ⟨la,E0,n0,c0,D,hP,hDk,hqs,hd,hE0,hE0q⟩:=h.ex;have hPl:=hP.lt;have hn0:n0=L.es.length:=(dy hE0).1;have hf:=h.ok.f;have hfb:=hf.b;have hft:=hf.t;have hfn:=hf.n;have hfl:=hf.l;have hfl2:=hf.l2;have hU9:=h.lt;refine enter (n:=43) Tryz.func17 rfl rfl rfl (af (ab (asi rfl (ah (ae (af (af (ab (mvp rfl (aa (au rfl) (aa (ai dQ rfl) (aa (ao di rfl (by exact (hP.from_ ag.rfl_).rd 9 rfl)) ?_))))))))))));refine aa (bh (bG rfl) rfl) (ah (ae (aI rfl (aE (ae (af (af (ab (mvp rfl (aa (au rfl) (aa (ai bS rfl) (aa (aG (cs:=lgV L.b L.t E0 n0 c0) az aq rfl (iG (hP.from_ ag.rfl_))) (mvs rfl ?_)))))))))))));refine av gd (jh L.b L.t E0 c0 n0 L.es F c2 m es _ (hE0.from_ ag.rfl_) hn0 (hes.from_ ag.rfl_) hm (by omega) (by omega) (by show 0≤(lL L).1∧(lL L).1≤_;omega) hfl2.1 hr) ?_;rintro v16 w1 ⟨rfl,E16⟩;refine aa (bG rfl) (ah (ae (aI rfl (aE (ae (af (af (ab (mvp rfl (aa (au rfl) (aa (ai bS rfl) (aa (ai a8 rfl) (aa (ao bC rfl (by exact (hP.from_ (ag.rfl_.next E16)).rd 8 rfl)) ?_)))))))))))));refine aa (bb cj rfl) (mvs rfl (aa (bb cj rfl) (aa (br rfl rfl (by omega)) (aa (cU (cn rfl rfl) (decide_eq_true (by omega))) (ah (ae (aY rfl (af (ab (asi rfl ?_))))))))));refine ah (ae (aC (aF (bz (v:=.int _ _) rfl rfl (⟨rfl,(ag.rfl_.next E16)⟩)))))
theorem mB (U:Nat→Prop) (p d g:Nat) (recs:List Rc) (L:Lg) (qs:Bool) (w:World) (h:WAt w U p d g recs L qs) (F:Option Addr) (c2 m:Nat) (es:List Ent) (hes:bm w (.slice F m c2) es) (hm:m=es.length) (hel:es.length≤600) (hr:cG es (bo L.b L.t L.es).1 (bo L.b L.t L.es).2=true) (hfull:L.es.length+es.length≤512) (KB:Nat) (h0:0<es.length) (hg:g<98) (hK1:(ax (sG g) recs).1.length+cu es≤KB) (hK2:32+cu (L.es++es)≤KB) (hK3:KB≤1048576) (hT:cO w) :
 Rt prog 17 [.pointer (some ⟨p,0,none⟩),.slice F m c2] w (fun v w'=>v=.int .i64 0∧(∃ g' recs',g'≤g+1∧(ax (sG g') recs').1.length≤KB∧WEx w w' U p d g' recs' ⟨L.b,L.t,L.es++es⟩ false)∧Chg (fun k=>U k∨k=p) w w'):=by
 obtain ⟨la,E0,n0,c0,D,hP,hDk,hqs,hd,hE0,hE0q⟩:=h.ex;have hPl:=hP.lt;have hn0:n0=L.es.length:=(dy hE0).1;have hf:=h.ok.f;have hfb:=hf.b;have hft:=hf.t;have hfn:=hf.n;have hfl:=hf.l;have hfl2:=hf.l2;have hU9:=h.lt;obtain ⟨hsm,hsr,hsn,hsc⟩:=dy hes;have hrun:=mZ es _ _ hr (by show 0≤(lL L).1;omega) hfl2.1;subst hn0;have hapE:=cI.ents es h.ok hr hfull
 have hrok:∀ r∈es.map fG,r.Ok:=fun r hr=>by
  obtain ⟨e,he,rfl⟩:=List.mem_map.1 hr;obtain ⟨h1,h2,h3,h4,h5⟩:=hrun e he;exact ⟨Nat.le_refl _,by show 1≤3;decide,by show e.i.toNat<_;omega,by show e.t.toNat<_;omega,h5⟩
 have hMok:dh ⟨L.b,L.t,L.es++es⟩:=cI.okL hapE h.ok;refine enter (n:=43) Tryz.func17 rfl rfl rfl (af (ab (asi rfl (ah (ae (af (af (ab (mvp rfl (aa (au rfl) (aa (ai dQ rfl) (aa (ao di rfl (by exact (hP.from_ ag.rfl_).rd 9 rfl)) ?_))))))))))));refine aa (bh (bG rfl) rfl) (ah (ae (aI rfl (aE (ae (af (af (ab (mvp rfl (aa (au rfl) (aa (ai bS rfl) (aa (aG (cs:=lgV L.b L.t E0 L.es.length c0) az aq rfl (iG (hP.from_ ag.rfl_))) (mvs rfl ?_)))))))))))));refine av gd (jh L.b L.t E0 c0 L.es.length L.es F c2 m es _ (hE0.from_ ag.rfl_) rfl (hes.from_ ag.rfl_) hm (by omega) (by omega) (by show 0≤(lL L).1∧(lL L).1≤_;omega) hfl2.1 hr) ?_;rintro v16 w1 ⟨rfl,E16⟩;refine aa (bG rfl) (ah (ae (aI rfl (aE (ae (af (af (ab (mvp rfl (aa (au rfl) (aa (ai bS rfl) (aa (ai a8 rfl) (aa (ao bC rfl (by exact (hP.from_ (ag.rfl_.next E16)).rd 8 rfl)) ?_)))))))))))));refine aa (bb cj rfl) (mvs rfl (aa (bb cj rfl) (aa (br rfl rfl (by omega)) (aa (bh (cn rfl rfl) (decide_eq_false (by omega))) (ah (ae (aI rfl (aE (ae (af (ab (mvp rfl ?_))))))))))));refine aa (au rfl) (aa (ai bS rfl) (aa (aG (cs:=lgV L.b L.t E0 L.es.length c0) az aq rfl (iG (hP.from_ (ag.rfl_.next E16)))) ?_));have hz32:=((ag.rfl_.next E16)).size;refine av ey (eO L.b L.t E0 c0 L.es.length L.es _ (hE0.from_ (ag.rfl_.next E16)) rfl (by omega)) ?_;rintro v32 w2 ⟨⟨A32,c32,rfl,ho32⟩,E32⟩;refine aZ bA ?_;intro b5 w3 E5 hb5 hk5;have hg5:w.heap.size≤b5:=by rw [hb5];exact (((ag.rfl_.next E16).next E32)).size
 have hM5e:=E5;refine aV (vs:=[_,_,_]) aq rfl rfl (by simp [Value.oneCell']) (hk5) rfl ?_;intro w4 O7 P7;have P7b:Blk w4 b5 36 (lgV L.b L.t A32 L.es.length c32).toArray:=P7;have ho5:=ho32.kept_from E5;have ho7:=dI (eE ho5 O7 (lf ho5 hk5 (by decide))) hz32;refine ah (ae (af (ab (aa (ai a8 rfl) (aa (ao bC rfl (by exact (P7b.from_ ag.rfl_).rd 2 rfl)) ?_)))));refine mvs rfl ?_;have hM36:ag _ w4:=ag.rfl_;refine dk (a0:=w) (news:=bJ es) eG rfl (by decide) rfl (ho7.kept_from hM36) ((((ag.rfl_.next E16).next E32).next E5).only O7 (hg5)) rfl (by rw [cN,hm]) (fun h0=>let ⟨x,o,hA,hc⟩:=hsr h0;⟨x,o,hA,dU ((((ag.rfl_.next E16).next E32).next E5).only O7 (hg5)) hc⟩) (fun h0=>(hsn h0).2) (jN _) (by omega) (by omega) ?_;intro A36 c36 w5 ho36 B36 hg36;have hP36:=(P7b.from_ hM36).grown hg36 (fun k hk e=>(cJ.of_own ho7).off P7b (by decide) k hk (by first | exact e | exact e.symm));refine aa (ai a8 rfl) ?_;have hM8:ag _ w5:=(ag.rfl_);refine cT (v:=.slice _ _ _) gM rfl rfl rfl ((hP36.from_ hM8)) (by show 0+2<3;decide) ?_;intro w6 O8 P8;have P8b:Blk w6 b5 36 (lgV L.b L.t A36 (L.es.length+m) c36).toArray:=P8;have ho8x:=cJ.of_own (ho36.kept_from hM8);have ho8:=ho8x.only O8 (hP36.from_ hM8) (by decide);have hx42:dp w6 w.heap.size A36 (L.es.length+m) c36 (L.es++es):=by show cJ _ _ _ 3 _ _ _ (bJ (L.es++es));rw [dz];exact ho8
 refine ah (ae (af ?_));apply bO 4 [(38,eqp _),(39,eqp (.agg (lgV L.b L.t A36 (L.es.length+m) c36).toArray)),(40,eqp _),(41,fun v w'=>∃ A' c',v=.slice A' es.length c'∧w'.ownsRow (w6).heap.size 65 5 (.slice A' es.length c') es.length ((es.map fG).flatMap rcV))] (by repeat first | exact cr | refine cq ?_ | refine bU ?_) (by kernel_rfl) (by kernel_rfl) ⟨aj _,aj _,aj _,(fun _ _ _ hF ⟨a,b,h1,h2⟩=>⟨a,b,h1,h2.kept_from hF⟩),trivial⟩
 case hop=>
  constructor
  ·rintro-w8 D8;exact an (aB (v:=.pointer _) rfl) rfl
  constructor
  ·rintro-w9 D9;exact an (aG (cs:=lgV L.b L.t A36 (L.es.length+m) c36) az aq rfl ((P8b.from_ (ag.rfl_.next D9)).whole)) rfl
  constructor
  ·rintro-w10 D10;exact an (aB (v:=.slice _ _ _) rfl) rfl
  constructor
  ·rintro-w11 D11;rintro _ rfl;refine cX iD ((gm F c2 m es _ (hes.from_ ((B36.only O8 (hg5)).next D11)) hm hel (fun e he=>by have:=hrun e he;omega)).mono ?_);rintro v _ ⟨⟨a,b,rfl,h⟩,hF⟩;exact ⟨hF,a,b,rfl,dI h D11.size⟩
  exact trivial
 case hend=>
  intro w12 D12;rintro _ rfl v39 rfl _ rfl v41 ⟨A41,c41,rfl,ho41⟩;show St ..;have hB42:ag w w12:=((B36.only O8 (hg5)).next D12);have hz42:=hB42.size;refine av iS (l7 U p d g KB recs (es.map fG) L ⟨L.b,L.t,L.es++es⟩ qs A41 c41 es.length A36 c36 (L.es.length+m) _ (h.from_ ((B36.only O8 (hg5)).next D12)) hg hMok (hx42.ents.from_ (ag.rfl_.next D12)) hx42.len (nK (hx42.from_ (ag.rfl_.next D12)) hU9 hPl) (gH.own uo (by decide) ho41).2 (by rw [List.length_map]) (by rw [List.length_map];exact h0) (by rw [List.length_map];exact hel) hrok hapE (by rw [qd,x9];exact hK1) hK2 hK3 (hT.from_ ((B36.only O8 (hg5)).next D12))) ?_;rintro v42 w13 ⟨rfl,⟨g',recs',hg',hKB',hW'⟩,hl42,hC42⟩;have hC42w:=(ag.toChg (U:=fun k=>U k∨k=p) hB42).next hC42;refine asi rfl (ah (ae (aC (bz (v:=.int _ _) rfl rfl (⟨rfl,⟨g',recs',hg',hKB',WEx.of hW' hz42 (fun q hq=>.inr (hx42.at_ q (hl42 q hq)).1) ag.rfl_⟩,hC42w.next (ag.rfl_).toChg⟩)))))
theorem qC (U:Nat→Prop) (p d g:Nat) (recs:List Rc) (L:Lg) (qs:Bool) (w:World) (h:WAt w U p d g recs L qs) (F:Option Addr) (c2 m:Nat) (es:List Ent) (hes:bm w (.slice F m c2) es) (hm:m=es.length) (hel:es.length≤600) (hr:cG es (bo L.b L.t L.es).1 (bo L.b L.t L.es).2=true) (hfull:L.es.length+es.length≤512) (h0:es.length=0) :
 Rt prog 17 [.pointer (some ⟨p,0,none⟩),.slice F m c2] w (fun v w'=>v=.int .i64 0∧WEx w w' U p d g recs L qs∧Chg (fun k=>U k∨k=p) w w'):=by
 obtain ⟨la,E0,n0,c0,D,hP,hDk,hqs,hd,hE0,hE0q⟩:=h.ex;have hPl:=hP.lt;have hn0:n0=L.es.length:=(dy hE0).1;have hf:=h.ok.f;have hfb:=hf.b;have hft:=hf.t;have hfn:=hf.n;have hfl:=hf.l;have hfl2:=hf.l2;have hU9:=h.lt;obtain ⟨hsm,hsr,hsn,hsc⟩:=dy hes;have hrun:=mZ es _ _ hr (by show 0≤(lL L).1;omega) hfl2.1;subst hn0;have hapE:=cI.ents es h.ok hr hfull
 have hrok:∀ r∈es.map fG,r.Ok:=fun r hr=>by
  obtain ⟨e,he,rfl⟩:=List.mem_map.1 hr;obtain ⟨h1,h2,h3,h4,h5⟩:=hrun e he;exact ⟨Nat.le_refl _,by show 1≤3;decide,by show e.i.toNat<_;omega,by show e.t.toNat<_;omega,h5⟩
 have hMok:dh ⟨L.b,L.t,L.es++es⟩:=cI.okL hapE h.ok;refine enter (n:=43) Tryz.func17 rfl rfl rfl (af (ab (asi rfl (ah (ae (af (af (ab (mvp rfl (aa (au rfl) (aa (ai dQ rfl) (aa (ao di rfl (by exact (hP.from_ ag.rfl_).rd 9 rfl)) ?_))))))))))));refine aa (bh (bG rfl) rfl) (ah (ae (aI rfl (aE (ae (af (af (ab (mvp rfl (aa (au rfl) (aa (ai bS rfl) (aa (aG (cs:=lgV L.b L.t E0 L.es.length c0) az aq rfl (iG (hP.from_ ag.rfl_))) (mvs rfl ?_)))))))))))));refine av gd (jh L.b L.t E0 c0 L.es.length L.es F c2 m es _ (hE0.from_ ag.rfl_) rfl (hes.from_ ag.rfl_) hm (by omega) (by omega) (by show 0≤(lL L).1∧(lL L).1≤_;omega) hfl2.1 hr) ?_;rintro v16 w1 ⟨rfl,E16⟩;refine aa (bG rfl) (ah (ae (aI rfl (aE (ae (af (af (ab (mvp rfl (aa (au rfl) (aa (ai bS rfl) (aa (ai a8 rfl) (aa (ao bC rfl (by exact (hP.from_ (ag.rfl_.next E16)).rd 8 rfl)) ?_)))))))))))));refine aa (bb cj rfl) (mvs rfl (aa (bb cj rfl) (aa (br rfl rfl (by omega)) (aa (bh (cn rfl rfl) (decide_eq_false (by omega))) (ah (ae (aI rfl (aE (ae (af (ab (mvp rfl ?_))))))))))));refine aa (au rfl) (aa (ai bS rfl) (aa (aG (cs:=lgV L.b L.t E0 L.es.length c0) az aq rfl (iG (hP.from_ (ag.rfl_.next E16)))) ?_));have hz32:=((ag.rfl_.next E16)).size;refine av ey (eO L.b L.t E0 c0 L.es.length L.es _ (hE0.from_ (ag.rfl_.next E16)) rfl (by omega)) ?_;rintro v32 w2 ⟨⟨A32,c32,rfl,ho32⟩,E32⟩;refine aZ bA ?_;intro b5 w3 E5 hb5 hk5;have hg5:w.heap.size≤b5:=by rw [hb5];exact (((ag.rfl_.next E16).next E32)).size
 have hM5e:=E5;refine aV (vs:=[_,_,_]) aq rfl rfl (by simp [Value.oneCell']) (hk5) rfl ?_;intro w4 O7 P7;have P7b:Blk w4 b5 36 (lgV L.b L.t A32 L.es.length c32).toArray:=P7;have ho5:=ho32.kept_from E5;have ho7:=dI (eE ho5 O7 (lf ho5 hk5 (by decide))) hz32;refine ah (ae (af (ab (aa (ai a8 rfl) (aa (ao bC rfl (by exact (P7b.from_ ag.rfl_).rd 2 rfl)) ?_)))));refine mvs rfl ?_;have hM36:ag _ w4:=ag.rfl_;refine dk (a0:=w) (news:=bJ es) eG rfl (by decide) rfl (ho7.kept_from hM36) ((((ag.rfl_.next E16).next E32).next E5).only O7 (hg5)) rfl (by rw [cN,hm]) (fun h0=>let ⟨x,o,hA,hc⟩:=hsr h0;⟨x,o,hA,dU ((((ag.rfl_.next E16).next E32).next E5).only O7 (hg5)) hc⟩) (fun h0=>(hsn h0).2) (jN _) (by omega) (by omega) ?_;intro A36 c36 w5 ho36 B36 hg36;have hP36:=(P7b.from_ hM36).grown hg36 (fun k hk e=>(cJ.of_own ho7).off P7b (by decide) k hk (by first | exact e | exact e.symm));refine aa (ai a8 rfl) ?_;have hM8:ag _ w5:=(ag.rfl_);refine cT (v:=.slice _ _ _) gM rfl rfl rfl ((hP36.from_ hM8)) (by show 0+2<3;decide) ?_;intro w6 O8 P8;have P8b:Blk w6 b5 36 (lgV L.b L.t A36 (L.es.length+m) c36).toArray:=P8;have ho8x:=cJ.of_own (ho36.kept_from hM8);have ho8:=ho8x.only O8 (hP36.from_ hM8) (by decide);have hx42:dp w6 w.heap.size A36 (L.es.length+m) c36 (L.es++es):=by show cJ _ _ _ 3 _ _ _ (bJ (L.es++es));rw [dz];exact ho8
 refine ah (ae (af ?_));apply bO 4 [(38,eqp _),(39,eqp (.agg (lgV L.b L.t A36 (L.es.length+m) c36).toArray)),(40,eqp _),(41,fun v w'=>∃ A' c',v=.slice A' es.length c'∧w'.ownsRow (w6).heap.size 65 5 (.slice A' es.length c') es.length ((es.map fG).flatMap rcV))] (by repeat first | exact cr | refine cq ?_ | refine bU ?_) (by kernel_rfl) (by kernel_rfl) ⟨aj _,aj _,aj _,(fun _ _ _ hF ⟨a,b,h1,h2⟩=>⟨a,b,h1,h2.kept_from hF⟩),trivial⟩
 case hop=>
  constructor
  ·rintro-w8 D8;exact an (aB (v:=.pointer _) rfl) rfl
  constructor
  ·rintro-w9 D9;exact an (aG (cs:=lgV L.b L.t A36 (L.es.length+m) c36) az aq rfl ((P8b.from_ (ag.rfl_.next D9)).whole)) rfl
  constructor
  ·rintro-w10 D10;exact an (aB (v:=.slice _ _ _) rfl) rfl
  constructor
  ·rintro-w11 D11;rintro _ rfl;refine cX iD ((gm F c2 m es _ (hes.from_ ((B36.only O8 (hg5)).next D11)) hm hel (fun e he=>by have:=hrun e he;omega)).mono ?_);rintro v _ ⟨⟨a,b,rfl,h⟩,hF⟩;exact ⟨hF,a,b,rfl,dI h D11.size⟩
  exact trivial
 case hend=>
  intro w12 D12;rintro _ rfl v39 rfl _ rfl v41 ⟨A41,c41,rfl,ho41⟩;show St ..;have hB42:ag w w12:=((B36.only O8 (hg5)).next D12);have hz42:=hB42.size;refine av iS (oe U p d g recs L qs c41 es.length A41 _ _ _ _ (h.from_ ((B36.only O8 (hg5)).next D12)) h0) ?_;rintro v42 w13 ⟨rfl,hW',hl42,hC42⟩;have hC42w:=(ag.toChg (U:=fun k=>U k∨k=p) hB42).next hC42;refine asi rfl (ah (ae (aC (bz (v:=.int _ _) rfl rfl (⟨rfl,WEx.of hW' hz42 (fun q hq=>.inl (h.back hB42 (hl42 q hq))) ag.rfl_,hC42w.next (ag.rfl_).toChg⟩)))))
theorem jw:∀ (a0:Int),prog.built 65 [(0,.int .i64 2),(1,.int .i64 a0)]=some #[.int .i64 2,.int .i64 a0,.int .i64 0,.string ⟨#[]⟩,.bool false]:=by intros;kernel_rfl
theorem iF:∀ (a0:Int) (a1:Int),prog.built 65 [(0,.int .i64 3),(1,.int .i64 a0),(2,.int .i64 a1)]=some #[.int .i64 3,.int .i64 a0,.int .i64 a1,.string ⟨#[]⟩,.bool false]:=by intros;kernel_rfl
theorem yK (b t:Int) (E:Option Addr) (c n:Nat) (es:List Ent) (i:Int) (w:World) (he:bm w (.slice E n c) es) (hn:n=es.length) (hl:es.length≤1000000) (hb:0≤b∧b≤2000000000000) (hlast:(bo b t es).1=b+(es.length:Int)) (hi:-9223372036854775808≤i∧i≤9223372036854775807) (hno:¬ (b≤i∧i≤b+(es.length:Int))) :
 Rt prog 40 [.agg (lgV b t E n c).toArray,.int .i64 i] w fun v w'=>v=.tuple #[.agg (lgV b t E n c).toArray,.bool false]∧ag w w':=
 (t_ b t E c n es i w he hn hl hb hlast hi).mono fun v w' h=>by
  obtain ⟨h,hF⟩:=h;refine ⟨?_,hF⟩;rcases h with ⟨h1,_⟩ | ⟨_,h1⟩
  ·exact absurd h1 hno
  ·exact h1
def mh (L:Lg) (i tm:Int):Prop:=okD L.b L.t i tm∧(L.b+(L.es.length:Int)<i∨∃ (k:Nat) (h:k<L.es.length),i=L.b+(k:Int)+1∧L.es[k].t=tm)
theorem wB (L:Lg) (i tm:Int) (base:Nat) (E:Option Addr) (c n:Nat) (w:World) (hL:dh L) (hno:¬ mh L i tm) (ho:dp w base E n c L.es) :
 Rt prog 39 [.agg (lgV L.b L.t E n c).toArray,.int .i64 i,.int .i64 tm] w fun v w'=>(∃ b' t' E' n' c',v=.tuple #[.agg (lgV b' t' E' n' c').toArray,.bool false])∧ag w w':=by
 have hf:=hL.f;have hb:=hf.b;have hnl:=hf.n;refine (qT L.b L.t E c n L.es i tm w ho.ents ho.len (by omega) (by omega) hf.l).mono fun v w' h=>?_
 obtain ⟨h,hF⟩:=h;refine ⟨?_,hF⟩;rcases h with ⟨_,h1⟩ | ⟨h0,h1,_⟩ | ⟨h0,k,hk,hi,_,h1⟩ | ⟨h0,k,hk,hi,_,_,h1⟩ | ⟨h0,k,hk,hi,_,h1,_⟩
 ·exact ⟨_,_,_,_,_,h1⟩
 ·exact absurd ⟨h0,.inl h1⟩ hno
 ·rw [decide_eq_false (fun e=>hno ⟨h0,.inr ⟨k,hk,hi,e⟩⟩)] at h1;exact ⟨_,_,_,_,_,h1⟩
 ·exact ⟨_,_,_,_,_,h1⟩
 ·exact absurd ⟨h0,.inr ⟨k,hk,hi,h1⟩⟩ hno
def eC (L:Lg) (i tm:Int):Lg:=if L.b+(L.es.length:Int)<i then ⟨i,tm,[]⟩ else ⟨i,tm,L.es.drop (i-L.b).toNat⟩
theorem n8 {L:Lg} {i tm:Int} (hL:dh L) (h:mh L i tm):Ap L (eS i tm) (eC L i tm)∧0≤i∧0≤tm∧i<9223372036854775808∧tm<9223372036854775808:=by
 have hf:=hL.f;have hb:=hf.b;have ht:=hf.t;obtain ⟨h0,h1⟩:=h;have h0':=h0;unfold okD at h0';have hi:((i.toNat:Nat):Int)=i:=Int.toNat_of_nonneg (by omega);have htm:((tm.toNat:Nat):Int)=tm:=Int.toNat_of_nonneg (by omega);refine ⟨?_,by omega,by omega,by omega,by omega⟩;unfold eC;rcases h1 with h1 | ⟨k,hk,hik,hkt⟩
 ·rw [if_pos h1];have:=Ap.over L (eS i tm) rfl (by show okD L.b L.t ((i.toNat:Nat):Int) ((tm.toNat:Nat):Int);rw [hi,htm];exact h0) (by show _<((i.toNat:Nat):Int);rw [hi];exact h1);simp only [eS,hi,htm] at this;exact this
 ·rw [if_neg (by omega),show (i-L.b).toNat=k+1 by omega];have:=Ap.drop L (eS i tm) k rfl (by show okD L.b L.t ((i.toNat:Nat):Int) ((tm.toNat:Nat):Int);rw [hi,htm];exact h0) hk (by show ((i.toNat:Nat):Int)=_;rw [hi];exact hik) (by show _=((tm.toNat:Nat):Int);rw [htm];exact hkt);simp only [eS,hi,htm] at this;exact this
def qw (i:Int):Rc:=⟨2,i.toNat,0,⟨#[]⟩,false⟩
theorem yk {i:Int} (h:0≤i):rcV (qw i)=[.int .i64 2,.int .i64 i,.int .i64 0,.string ⟨#[]⟩,.bool false]:=by
 unfold rcV qw;rw [Int.toNat_of_nonneg h];rfl
theorem An {w:World} {g0:Nat} {r:Rc} (hb:Blk w g0 65 (rcV r).toArray):gH 5 rcV w (some ⟨g0,0,none⟩) [r]:=fun _=>⟨g0,0,rfl,fun i hi=>by
 obtain rfl:i=0:=by have:i<1:=hi;omega
 exact hb.whole⟩
theorem Bw (r:Rc) (h:r.d=⟨#[]⟩):([r].map fun r=>frL r.d.size).sum=32:=by
 rw [List.map_cons,List.map_nil,List.sum_cons,List.sum_nil,h];show frL 0+0=32;decide
theorem sB (L:Lg) (i tm:Int) (base:Nat) (E:Option Addr) (c n:Nat) (w:World) (hL:dh L) (h:mh L i tm) (ho:dp w base E n c L.es) :
 Rt prog 39 [.agg (lgV L.b L.t E n c).toArray,.int .i64 i,.int .i64 tm] w fun v w'=>(∃ E' n' c',v=.tuple #[.agg (lgV (eC L i tm).b (eC L i tm).t E' n' c').toArray,.bool true]∧dp w' base E' n' c' (eC L i tm).es)∧ag w w':=by
 obtain ⟨h1,h2,h3,_⟩:=n8 hL h;have:=o6 L (eC L i tm) (eS i tm) base E c n w hL h1 rfl ho;simp only [eS,Int.toNat_of_nonneg h2,Int.toNat_of_nonneg h3] at this;exact this
theorem ym (U:Nat→Prop) (p d g:Nat) (recs:List Rc) (L:Lg) (qs:Bool) (w:World) (h:WAt w U p d g recs L qs) (i:Int) (hi:-9223372036854775808≤i∧i≤9223372036854775807) (hno:¬ (L.b≤i∧i≤L.b+(L.es.length:Int))) :
 Rt prog 19 [.pointer (some ⟨p,0,none⟩),.int .i64 i] w (fun v w'=>v=.int .i64 1∧ag w w'):=by
 obtain ⟨la,E0,n0,c0,D,hP,hDk,hqs,hd,hE0,hE0q⟩:=h.ex;have hPl:=hP.lt;have hn0:n0=L.es.length:=(dy hE0).1;have hf:=h.ok.f;have hfb:=hf.b;have hft:=hf.t;have hfn:=hf.n;have hfl:=hf.l;have hfl2:=hf.l2;have hU9:=h.lt;subst hn0;refine enter (n:=43) Tryz.func19 rfl rfl rfl (af (ab (asi rfl (ah (ae (af (af (ab (mvp rfl (aa (au rfl) (aa (ai dQ rfl) (aa (ao di rfl (by exact (hP.from_ ag.rfl_).rd 9 rfl)) ?_))))))))))));refine aa (bh (bG rfl) rfl) (ah (ae (aI rfl (aE (ae (af (ab (mvp rfl (aa (au rfl) (aa (ai bS rfl) (aa (aG (cs:=lgV L.b L.t E0 L.es.length c0) az aq rfl (iG (hP.from_ ag.rfl_))) ?_)))))))))));have hB17:ag w w:=ag.rfl_;have hz17:=hB17.size;refine av ey (eO L.b L.t E0 c0 L.es.length L.es _ (hE0.from_ ag.rfl_) rfl (by omega)) ?_;rintro v17 w1 ⟨⟨A17,c17,rfl,ho17⟩,E17⟩;have hx17a:=(cJ.of_own ho17).le hz17;have hx17:dp w1 w.heap.size A17 L.es.length c17 L.es:=hx17a;refine mvi rfl (av ix (yK L.b L.t A17 c17 L.es.length L.es i _ (hx17.ents.from_ ag.rfl_) rfl (by omega) (by omega) hfl hi hno) ?_);rintro v19 w2 ⟨rfl,E19⟩;refine mvt rfl (aa (ar rfl rfl) (aa (ar rfl rfl) (aZ bA ?_)));intro b5 w3 E5 hb5 hk5;have hg5:w.heap.size≤b5:=by rw [hb5];exact (((ag.rfl_.next E17).next E19)).size
 refine aV (vs:=[_,_,_]) aq rfl rfl (by simp [Value.oneCell']) (hk5) rfl ?_;intro w4 O3 P3;refine asb rfl (ah (ae (af (af (ab (mvb rfl (aa (bG rfl) (ah (ae (aY rfl (af (ab (asi rfl (ah (ae (aC (aF ?_)))))))))))))))));refine bz (v:=.int _ _) rfl rfl (⟨rfl,((((ag.rfl_.next E17).next E19).next E5).only O3 (hg5))⟩)
theorem tu (U:Nat→Prop) (p d g:Nat) (recs:List Rc) (L:Lg) (qs:Bool) (w:World) (h:WAt w U p d g recs L qs) (i:Int) (_:-9223372036854775808≤i∧i≤9223372036854775807) (k:Nat) (hik:i=L.b+(k:Int)) (hk:k≤L.es.length) (hkl:k=L.es.length) :
 Rt prog 19 [.pointer (some ⟨p,0,none⟩),.int .i64 i] w (fun v w'=>v=.int .i64 0∧WEx w w' U p d g recs L qs∧Chg (fun k=>U k∨k=p) w w'):=by
 obtain ⟨la,E0,n0,c0,D,hP,hDk,hqs,hd,hE0,hE0q⟩:=h.ex;have hPl:=hP.lt;have hn0:n0=L.es.length:=(dy hE0).1;have hf:=h.ok.f;have hfb:=hf.b;have hft:=hf.t;have hfn:=hf.n;have hfl:=hf.l;have hfl2:=hf.l2;have hU9:=h.lt;subst hn0;refine enter (n:=43) Tryz.func19 rfl rfl rfl (af (ab (asi rfl (ah (ae (af (af (ab (mvp rfl (aa (au rfl) (aa (ai dQ rfl) (aa (ao di rfl (by exact (hP.from_ ag.rfl_).rd 9 rfl)) ?_))))))))))));refine aa (bh (bG rfl) rfl) (ah (ae (aI rfl (aE (ae (af (ab (mvp rfl (aa (au rfl) (aa (ai bS rfl) (aa (aG (cs:=lgV L.b L.t E0 L.es.length c0) az aq rfl (iG (hP.from_ ag.rfl_))) ?_)))))))))));have hB17:ag w w:=ag.rfl_;have hz17:=hB17.size;refine av ey (eO L.b L.t E0 c0 L.es.length L.es _ (hE0.from_ ag.rfl_) rfl (by omega)) ?_;rintro v17 w1 ⟨⟨A17,c17,rfl,ho17⟩,E17⟩;have hx17a:=(cJ.of_own ho17).le hz17;have hx17:dp w1 w.heap.size A17 L.es.length c17 L.es:=hx17a;refine mvi rfl ?_;have hM19:ag _ w1:=ag.rfl_;refine av ix (ng L.b L.t A17 c17 L.es.length L.es i k _ (hx17.ents.from_ ag.rfl_) rfl (by omega) (by omega) hfl hk hik) ?_;rintro v19 w2 ⟨rfl,E19⟩;refine mvt rfl (aa (ar rfl rfl) (aa (ar rfl rfl) (aZ bA ?_)));intro b5 w3 E5 hb5 hk5;have hg5:w.heap.size≤b5:=by rw [hb5];exact (((ag.rfl_.next E17).next E19)).size
 refine aV (vs:=[_,_,_]) aq rfl rfl (by simp [Value.oneCell']) (hk5) rfl ?_;intro w4 O3 P3;have P3b:Blk w4 b5 36 (lgV L.b L.t A17 k k).toArray:=P3;have hx19a:=((hx17.from_ (hM19.next E19)).from_ E5).cut hk;have hx19:=hx19a.only O3 hk5 (by decide);have hx3:dp w4 w.heap.size A17 k k (L.es.take k):=by show cJ _ _ _ 3 _ _ _ (bJ (L.es.take k));rw [kG _ _ hk];exact hx19
 refine asb rfl (ah (ae (af (af (ab (mvb rfl (aa (bG rfl) (ah (ae (aI rfl (aE (ae (af (af ?_))))))))))))));apply bO 10 [(24,eqp _),(25,eqp _),(26,eqp _),(27,eqp _),(28,eqp _),(29,eqp _),(30,eqp _),(31,eqp _),(32,eqp _),(33,eqp _)] (by repeat first | exact cr | refine cq ?_ | refine bU ?_) (by kernel_rfl) (by kernel_rfl) ⟨aj _,aj _,aj _,aj _,aj _,aj _,aj _,aj _,aj _,aj _,trivial⟩
 case hop=>
  constructor
  ·rintro-w6 D6;exact an (ai a8 rfl) rfl
  constructor
  ·rintro-w7 D7;rintro _ rfl;exact an (ao bC rfl (by exact (P3b.from_ (ag.rfl_.next D7)).rd 2 rfl)) rfl
  constructor
  ·rintro-w8 D8;rintro _ rfl;exact an (bb cj rfl) rfl
  constructor
  ·rintro-w9 D9;exact an (aB (v:=.pointer _) rfl) rfl
  constructor
  ·rintro-w10 D10;rintro _ rfl;exact an (au rfl) rfl
  constructor
  ·rintro-w11 D11;rintro _ rfl;exact an (ai bS rfl) rfl
  constructor
  ·rintro-w12 D12;rintro _ rfl;exact an (ai a8 rfl) rfl
  constructor
  ·rintro-w13 D13;rintro _ rfl;exact an (ao bC rfl (by exact (hP.from_ (((((ag.rfl_.next E17).next E19).next E5).only O3 (hg5)).next D13)).rd 8 rfl)) rfl
  constructor
  ·rintro-w14 D14;rintro _ rfl;exact an (bb cj rfl) rfl
  constructor
  ·rintro-w15 D15;rintro _ rfl _ rfl;exact an (cU (a7 rfl rfl) (by first | (rw [beq_iff_eq];omega) | (rw [beq_eq_false_iff_ne];omega))) rfl
  exact trivial
 case hend=>
  intro w16 D16;rintro _ rfl _ rfl _ rfl _ rfl _ rfl _ rfl _ rfl _ rfl _ rfl _ rfl;show St ..;refine ah (ae (aY rfl (af (ab (mvp rfl (aa (aG (cs:=lgV L.b L.t A17 k k) az aq rfl ((P3b.from_ (ag.rfl_.next D16)).whole)) ?_))))));have hB36:ag w w16:=(((((ag.rfl_.next E17).next E19).next E5).only O3 (hg5)).next D16);have hz36:=hB36.size;refine av iS (oe U p d g recs L qs 0 0 none _ _ _ _ (h.from_ (((((ag.rfl_.next E17).next E19).next E5).only O3 (hg5)).next D16)) rfl) ?_;rintro v36 w17 ⟨rfl,hW',hl36,hC36⟩;refine asi rfl (ah (ae (aC (aF (bz (v:=.int _ _) rfl rfl (⟨rfl,WEx.of hW' hz36 (fun q hq=>.inl (h.back hB36 (hl36 q hq))) ag.rfl_,((ag.toChg (U:=fun k=>U k∨k=p) hB36).next hC36).next (ag.rfl_).toChg⟩))))))
theorem yl (U:Nat→Prop) (p d g:Nat) (recs:List Rc) (L:Lg) (qs:Bool) (w:World) (h:WAt w U p d g recs L qs) (i:Int) (hi:-9223372036854775808≤i∧i≤9223372036854775807) (k:Nat) (hik:i=L.b+(k:Int)) (hk:k≤L.es.length) (KB:Nat) (hkl:k<L.es.length) (hg:g<98) (hK1:(ax (sG g) recs).1.length+32≤KB) (hK2:32+cu (L.es.take k)≤KB) (hK3:KB≤1048576) (hT:cO w) :
 Rt prog 19 [.pointer (some ⟨p,0,none⟩),.int .i64 i] w (fun v w'=>v=.int .i64 0∧(∃ g' recs',g'≤g+1∧(ax (sG g') recs').1.length≤KB∧WEx w w' U p d g' recs' ⟨L.b,L.t,L.es.take k⟩ false)∧Chg (fun k=>U k∨k=p) w w'):=by
 obtain ⟨la,E0,n0,c0,D,hP,hDk,hqs,hd,hE0,hE0q⟩:=h.ex;have hPl:=hP.lt;have hn0:n0=L.es.length:=(dy hE0).1;have hf:=h.ok.f;have hfb:=hf.b;have hft:=hf.t;have hfn:=hf.n;have hfl:=hf.l;have hfl2:=hf.l2;have hU9:=h.lt;subst hn0;have hap1:=Ap.cut L (qw i) k rfl hk (show ((i.toNat:Nat):Int)=L.b+(k:Int) by omega);have hapE:cI L [qw i] ⟨L.b,L.t,L.es.take k⟩:=⟨_,hap1,rfl⟩;have hMok:dh ⟨L.b,L.t,L.es.take k⟩:=hap1.ok h.ok
 have hrok:∀ r∈[qw i],r.Ok:=fun r hr=>by
  rw [List.mem_singleton.1 hr];exact ⟨by show 1≤2;decide,by show 2≤3;decide,by show i.toNat<_;omega,by show 0<_;omega,Nat.zero_le _⟩
 refine enter (n:=43) Tryz.func19 rfl rfl rfl (af (ab (asi rfl (ah (ae (af (af (ab (mvp rfl (aa (au rfl) (aa (ai dQ rfl) (aa (ao di rfl (by exact (hP.from_ ag.rfl_).rd 9 rfl)) ?_))))))))))));refine aa (bh (bG rfl) rfl) (ah (ae (aI rfl (aE (ae (af (ab (mvp rfl (aa (au rfl) (aa (ai bS rfl) (aa (aG (cs:=lgV L.b L.t E0 L.es.length c0) az aq rfl (iG (hP.from_ ag.rfl_))) ?_)))))))))));have hB17:ag w w:=ag.rfl_;have hz17:=hB17.size;refine av ey (eO L.b L.t E0 c0 L.es.length L.es _ (hE0.from_ ag.rfl_) rfl (by omega)) ?_;rintro v17 w1 ⟨⟨A17,c17,rfl,ho17⟩,E17⟩;have hx17a:=(cJ.of_own ho17).le hz17;have hx17:dp w1 w.heap.size A17 L.es.length c17 L.es:=hx17a;refine mvi rfl ?_;have hM19:ag _ w1:=ag.rfl_;refine av ix (ng L.b L.t A17 c17 L.es.length L.es i k _ (hx17.ents.from_ ag.rfl_) rfl (by omega) (by omega) hfl hk hik) ?_;rintro v19 w2 ⟨rfl,E19⟩;refine mvt rfl (aa (ar rfl rfl) (aa (ar rfl rfl) (aZ bA ?_)));intro b5 w3 E5 hb5 hk5;have hg5:w.heap.size≤b5:=by rw [hb5];exact (((ag.rfl_.next E17).next E19)).size
 refine aV (vs:=[_,_,_]) aq rfl rfl (by simp [Value.oneCell']) (hk5) rfl ?_;intro w4 O3 P3;have P3b:Blk w4 b5 36 (lgV L.b L.t A17 k k).toArray:=P3;have hx19a:=((hx17.from_ (hM19.next E19)).from_ E5).cut hk;have hx19:=hx19a.only O3 hk5 (by decide);have hx3:dp w4 w.heap.size A17 k k (L.es.take k):=by show cJ _ _ _ 3 _ _ _ (bJ (L.es.take k));rw [kG _ _ hk];exact hx19
 refine asb rfl (ah (ae (af (af (ab (mvb rfl (aa (bG rfl) (ah (ae (aI rfl (aE (ae (af (af ?_))))))))))))));apply bO 10 [(24,eqp _),(25,eqp _),(26,eqp _),(27,eqp _),(28,eqp _),(29,eqp _),(30,eqp _),(31,eqp _),(32,eqp _),(33,eqp _)] (by repeat first | exact cr | refine cq ?_ | refine bU ?_) (by kernel_rfl) (by kernel_rfl) ⟨aj _,aj _,aj _,aj _,aj _,aj _,aj _,aj _,aj _,aj _,trivial⟩
 case hop=>
  constructor
  ·rintro-w6 D6;exact an (ai a8 rfl) rfl
  constructor
  ·rintro-w7 D7;rintro _ rfl;exact an (ao bC rfl (by exact (P3b.from_ (ag.rfl_.next D7)).rd 2 rfl)) rfl
  constructor
  ·rintro-w8 D8;rintro _ rfl;exact an (bb cj rfl) rfl
  constructor
  ·rintro-w9 D9;exact an (aB (v:=.pointer _) rfl) rfl
  constructor
  ·rintro-w10 D10;rintro _ rfl;exact an (au rfl) rfl
  constructor
  ·rintro-w11 D11;rintro _ rfl;exact an (ai bS rfl) rfl
  constructor
  ·rintro-w12 D12;rintro _ rfl;exact an (ai a8 rfl) rfl
  constructor
  ·rintro-w13 D13;rintro _ rfl;exact an (ao bC rfl (by exact (hP.from_ (((((ag.rfl_.next E17).next E19).next E5).only O3 (hg5)).next D13)).rd 8 rfl)) rfl
  constructor
  ·rintro-w14 D14;rintro _ rfl;exact an (bb cj rfl) rfl
  constructor
  ·rintro-w15 D15;rintro _ rfl _ rfl;exact an (bh (a7 rfl rfl) (by first | (rw [beq_iff_eq];omega) | (rw [beq_eq_false_iff_ne];omega))) rfl
  exact trivial
 case hend=>
  intro w16 D16;rintro _ rfl _ rfl _ rfl _ rfl _ rfl _ rfl _ rfl _ rfl _ rfl _ rfl;show St ..;refine ah (ae (aI rfl (aE (ae (af (ab (mvp rfl (aa (aG (cs:=lgV L.b L.t A17 k k) az aq rfl ((P3b.from_ (ag.rfl_.next D16)).whole)) (mvi rfl (aa (bN (l:=[(0,.const (.int .i64 2)),(1,.tmp 39)]) (jw _)) ?_))))))))));refine gi (l:=[(0,.tmp 40)]) (cells:=(rcV (qw i)).toArray) eM rfl rfl (by rw [yk (by omega)];show Instr.fill _ _ [(0,Value.agg #[.int .i64 2,.int .i64 i,.int .i64 0,.string ⟨#[]⟩,.bool false])]=_;kernel_rfl) ?_;intro b41 w17 E41 hb41 hk41;have hB42:ag w w17:=((((((ag.rfl_.next E17).next E19).next E5).only O3 (hg5)).next D16).next E41);have hz42:=hB42.size;have hx42:=hx3.from_ ((ag.rfl_.next D16).next E41);refine av iS (l7 U p d g KB recs [qw i] L ⟨L.b,L.t,L.es.take k⟩ qs _ 1 1 A17 k k _ (h.from_ ((((((ag.rfl_.next E17).next E19).next E5).only O3 (hg5)).next D16).next E41)) hg hMok (dp.ents hx42) (dp.len hx42) (nK hx42 hU9 hPl) (An hk41) rfl Nat.zero_lt_one (by simp) hrok hapE (by rw [qd,Bw (qw i) rfl];exact hK1) hK2 hK3 (hT.from_ ((((((ag.rfl_.next E17).next E19).next E5).only O3 (hg5)).next D16).next E41))) ?_;rintro v42 w18 ⟨rfl,⟨g',recs',hg',hKB',hW'⟩,hl42,hC42⟩;refine asi rfl (ah (ae (aC (bz (v:=.int _ _) rfl rfl (⟨rfl,⟨g',recs',hg',hKB',WEx.of hW' hz42 (fun q hq=>.inr (hx42.at_ q (hl42 q hq)).1) ag.rfl_⟩,((ag.toChg (U:=fun k=>U k∨k=p) hB42).next hC42).next (ag.rfl_).toChg⟩)))))
theorem vQ (U:Nat→Prop) (p d g:Nat) (recs:List Rc) (L:Lg) (qs:Bool) (w:World) (h:WAt w U p d g recs L qs) (i tm:Int) (hno:¬ mh L i tm) :
 Rt prog 18 [.pointer (some ⟨p,0,none⟩),.int .i64 i,.int .i64 tm] w (fun v w'=>v=.int .i64 1∧ag w w'):=by
 obtain ⟨la,E0,n0,c0,D,hP,hDk,hqs,hd,hE0,hE0q⟩:=h.ex;have hPl:=hP.lt;have hn0:n0=L.es.length:=(dy hE0).1;have hf:=h.ok.f;have hfb:=hf.b;have hft:=hf.t;have hfn:=hf.n;have hfl:=hf.l;have hfl2:=hf.l2;have hU9:=h.lt;subst hn0;refine enter (n:=34) Tryz.func18 rfl rfl rfl (af (ab (asi rfl (ah (ae (af (af (ab (mvp rfl (aa (au rfl) (aa (ai dQ rfl) (aa (ao di rfl (by exact (hP.from_ ag.rfl_).rd 9 rfl)) ?_))))))))))));refine aa (bh (bG rfl) rfl) (ah (ae (aI rfl (aE (ae (af (ab (mvp rfl (aa (au rfl) (aa (ai bS rfl) (aa (aG (cs:=lgV L.b L.t E0 L.es.length c0) az aq rfl (iG (hP.from_ ag.rfl_))) ?_)))))))))));have hB17:ag w w:=ag.rfl_;have hz17:=hB17.size;refine av ey (eO L.b L.t E0 c0 L.es.length L.es _ (hE0.from_ ag.rfl_) rfl (by omega)) ?_;rintro v19 w1 ⟨⟨A17,c17,rfl,ho17⟩,E19⟩;have hx17a:=(cJ.of_own ho17).le hz17;have hx17:dp w1 w.heap.size A17 L.es.length c17 L.es:=hx17a;refine mvi rfl (mvi rfl (av jX (wB L i tm w.heap.size A17 c17 L.es.length _ h.ok hno (hx17.from_ ag.rfl_)) ?_));rintro v22 w2 ⟨⟨b9,t9,E9,n9,c9,rfl⟩,E22⟩;refine mvt rfl (aa (ar rfl rfl) (aa (ar rfl rfl) (aZ bA ?_)));intro b7 w3 E7 hb7 hk7;have hg7:w.heap.size≤b7:=by rw [hb7];exact (((ag.rfl_.next E19).next E22)).size
 refine aV (vs:=[_,_,_]) aq rfl rfl (by simp [Value.oneCell']) (hk7) rfl ?_;intro w4 O3 P3;refine asb rfl (ah (ae (af (af (ab (mvb rfl (aa (bG rfl) (ah (ae (aY rfl (af (ab (asi rfl (ah (ae (aC (aF ?_)))))))))))))))));refine bz (v:=.int _ _) rfl rfl (⟨rfl,((((ag.rfl_.next E19).next E22).next E7).only O3 (hg7))⟩)
theorem vP (U:Nat→Prop) (p d g:Nat) (recs:List Rc) (L:Lg) (qs:Bool) (w:World) (h:WAt w U p d g recs L qs) (i tm:Int) (hcan:mh L i tm) (KB:Nat) (hg:g<98) (hK1:(ax (sG g) recs).1.length+32≤KB) (hK2:32+cu (eC L i tm).es≤KB) (hK3:KB≤1048576) (hT:cO w) :
 Rt prog 18 [.pointer (some ⟨p,0,none⟩),.int .i64 i,.int .i64 tm] w (fun v w'=>v=.int .i64 0∧(∃ g' recs',g'≤g+1∧(ax (sG g') recs').1.length≤KB∧WEx w w' U p d g' recs' (eC L i tm) false)∧Chg (fun k=>U k∨k=p) w w'):=by
 obtain ⟨la,E0,n0,c0,D,hP,hDk,hqs,hd,hE0,hE0q⟩:=h.ex;have hPl:=hP.lt;have hn0:n0=L.es.length:=(dy hE0).1;have hf:=h.ok.f;have hfb:=hf.b;have hft:=hf.t;have hfn:=hf.n;have hfl:=hf.l;have hfl2:=hf.l2;have hU9:=h.lt;subst hn0;obtain ⟨hap1,hi0,ht0,hi1,ht1⟩:=n8 h.ok hcan;have hapE:cI L [eS i tm] (eC L i tm):=⟨_,hap1,rfl⟩;have hMok:dh (eC L i tm):=hap1.ok h.ok
 have hrok:∀ r∈[eS i tm],r.Ok:=fun r hr=>by
  rw [List.mem_singleton.1 hr];exact ⟨by show 1≤3;decide,Nat.le_refl _,by show i.toNat<_;omega,by show tm.toNat<_;omega,Nat.zero_le _⟩
 refine enter (n:=34) Tryz.func18 rfl rfl rfl (af (ab (asi rfl (ah (ae (af (af (ab (mvp rfl (aa (au rfl) (aa (ai dQ rfl) (aa (ao di rfl (by exact (hP.from_ ag.rfl_).rd 9 rfl)) ?_))))))))))));refine aa (bh (bG rfl) rfl) (ah (ae (aI rfl (aE (ae (af (ab (mvp rfl (aa (au rfl) (aa (ai bS rfl) (aa (aG (cs:=lgV L.b L.t E0 L.es.length c0) az aq rfl (iG (hP.from_ ag.rfl_))) ?_)))))))))));have hB17:ag w w:=ag.rfl_;have hz17:=hB17.size;refine av ey (eO L.b L.t E0 c0 L.es.length L.es _ (hE0.from_ ag.rfl_) rfl (by omega)) ?_;rintro v19 w1 ⟨⟨A17,c17,rfl,ho17⟩,E19⟩;have hx17a:=(cJ.of_own ho17).le hz17;have hx17:dp w1 w.heap.size A17 L.es.length c17 L.es:=hx17a;refine mvi rfl (mvi rfl (av jX (sB L i tm w.heap.size A17 c17 L.es.length _ h.ok hcan (hx17.from_ ag.rfl_)) ?_));rintro v22 w2 ⟨⟨E9,n9,c9,rfl,hx22⟩,E22⟩;refine mvt rfl (aa (ar rfl rfl) (aa (ar rfl rfl) (aZ bA ?_)));intro b7 w3 E7 hb7 hk7;have hg7:w.heap.size≤b7:=by rw [hb7];exact (((ag.rfl_.next E19).next E22)).size
 refine aV (vs:=[_,_,_]) aq rfl rfl (by simp [Value.oneCell']) (hk7) rfl ?_;intro w4 O3 P3;have P3b:Blk w4 b7 36 (lgV (eC L i tm).b (eC L i tm).t E9 n9 c9).toArray:=P3;have hx3:=(hx22.from_ E7).only O3 hk7 (by decide);refine asb rfl (ah (ae (af (af (ab (mvb rfl (aa (bG rfl) (ah (ae (aI rfl (aE (ae (af (ab (mvp rfl (aa (aG (cs:=lgV (eC L i tm).b (eC L i tm).t E9 n9 c9) az aq rfl ((P3b.from_ ag.rfl_).whole)) ?_))))))))))))))));refine mvi rfl (mvi rfl (aa (bN (l:=[(0,.const (.int .i64 3)),(1,.tmp 29),(2,.tmp 30)]) (iF _ _)) ?_));refine gi (l:=[(0,.tmp 31)]) (cells:=(rcV (eS i tm)).toArray) eM rfl rfl (by rw [pD ⟨hi0,ht0⟩];show Instr.fill _ _ [(0,Value.agg #[.int .i64 3,.int .i64 i,.int .i64 tm,.string ⟨#[]⟩,.bool false])]=_;kernel_rfl) ?_;intro b32 w5 E32 hb32 hk32;have hB33:ag w w5:=(((((ag.rfl_.next E19).next E22).next E7).only O3 (hg7)).next E32);have hz33:=hB33.size;have hx33:=hx3.from_ (ag.rfl_.next E32);refine av iS (l7 U p d g KB recs [eS i tm] L (eC L i tm) qs _ 1 1 E9 c9 n9 _ (h.from_ (((((ag.rfl_.next E19).next E22).next E7).only O3 (hg7)).next E32)) hg hMok (dp.ents hx33) (dp.len hx33) (nK hx33 hU9 hPl) (An hk32) rfl Nat.zero_lt_one (by simp) hrok hapE (by rw [qd,Bw (eS i tm) rfl];exact hK1) hK2 hK3 (hT.from_ (((((ag.rfl_.next E19).next E22).next E7).only O3 (hg7)).next E32))) ?_;rintro v33 w6 ⟨rfl,⟨g',recs',hg',hKB',hW'⟩,hl33,hC33⟩;refine asi rfl (ah (ae (aC (bz (v:=.int _ _) rfl rfl (⟨rfl,⟨g',recs',hg',hKB',WEx.of hW' hz33 (fun q hq=>.inr (hx33.at_ q (hl33 q hq)).1) ag.rfl_⟩,((ag.toChg (U:=fun k=>U k∨k=p) hB33).next hC33).next (ag.rfl_).toChg⟩)))))
end Go.Proofs.YtaohnmneccbljaaGreatDoor
namespace Go.Proofs.YtaohnmneccbljaaGreatDoor
open Go.Proofs.Tryz (prog)
open Go.RowKit
def Bt (w:World) (xs:List Ent) (index term:Int) (a b i:Value) (wr:World):Prop:=
 ∃ (j:Nat) (t:Int),j≤xs.length∧i=.int .i64 j∧a=.int .i64 (index+j)∧b=.int .i64 t∧0≤t∧cG xs index term=cG (xs.drop j) (index+j) t∧ag w wr
def chk (B T:Int) (xs:List Ent):Int:=if ek B T xs=true then 0 else 1
theorem ke {w:World} {B T:Int} {v:Value} {t:TypeId} :
 (∀ w',ag (w.alloc (.cells #[.int .i64 B,.int .i64 T,v] t)) w'→w'.cell? ⟨w.heap.size,0,none⟩=some (.int .i64 B))∧
 (∀ w',ag (w.alloc (.cells #[.int .i64 B,.int .i64 T,v] t)) w'→w'.cell? ⟨w.heap.size,1,none⟩=some (.int .i64 T))∧
 (∀ w',ag (w.alloc (.cells #[.int .i64 B,.int .i64 T,v] t)) w'→w'.cell? ⟨w.heap.size,2,none⟩=some v)∧
 ag (w.alloc (.cells #[.int .i64 B,.int .i64 T,v] t)) (w.alloc (.cells #[.int .i64 B,.int .i64 T,v] t))∧ag w (w.alloc (.cells #[.int .i64 B,.int .i64 T,v] t)):=
 ⟨fun w' h=>by simpa using ((Blk.new w t #[.int .i64 B,.int .i64 T,v]).from_ h).cell 0,fun w' h=>by simpa using ((Blk.new w t #[.int .i64 B,.int .i64 T,v]).from_ h).cell 1,
  fun w' h=>by simpa using ((Blk.new w t #[.int .i64 B,.int .i64 T,v]).from_ h).cell 2,ag.rfl_,ag.rfl_.new _⟩
def dH (B:Int) (xs:List Ent):Int:=match xs.getLast? with | some e=>e.i | none=>B
def iu (T:Int) (xs:List Ent):Int:=match xs.getLast? with | some e=>e.t | none=>T
theorem zB {xs:List Ent} (h:0<xs.length) (B T:Int):dH B xs=xs[xs.length-1].i∧iu T xs=xs[xs.length-1].t:=by
 have:xs.getLast? =some xs[xs.length-1]:=by rw [List.getLast?_eq_getElem?,List.getElem?_eq_getElem (by omega)]
 simp [dH,iu,this]
def Cf (B T:Int) (xs:List Ent):Value:=if ek B T xs=true then .tuple #[.int .i64 (dH B xs),.int .i64 (iu T xs),.int .i64 0] else .tuple #[.int .i64 0,.int .i64 0,.int .i64 1]
def s7 (e:Ent):Bool:=inb 1 1099511627776 e.i&&inb 0 1099511627775 e.t&&decide (e.d.size≤4096)
theorem vM {e:Ent} {index term:Int}:iO e index term=(s7 e&&decide (e.i=index+1)&&decide (term≤e.t)):=by
 unfold iO s7 inb;rw [Bool.eq_iff_iff];simp only [Bool.and_eq_true,decide_eq_true_eq];constructor
 ·rintro ⟨⟨⟨h1,h2⟩,h3⟩,h4⟩;exact ⟨⟨⟨⟨h2,by omega⟩,h4⟩,h1⟩,by omega⟩
 ·rintro ⟨⟨⟨⟨h2,h3⟩,h4⟩,h1⟩,h5⟩;exact ⟨⟨⟨h1,h2⟩,by omega⟩,h4⟩
theorem z7 {w:World} {e:Ent} {t:TypeId} :
 (∀ w',ag (w.alloc (.cells #[.int .i64 e.i,.int .i64 e.t,.string e.d] t)) w'→w'.cell? ⟨w.heap.size,0,none⟩=some (.int .i64 e.i))∧
 (∀ w',ag (w.alloc (.cells #[.int .i64 e.i,.int .i64 e.t,.string e.d] t)) w'→w'.cell? ⟨w.heap.size,1,none⟩=some (.int .i64 e.t))∧
 (∀ w',ag (w.alloc (.cells #[.int .i64 e.i,.int .i64 e.t,.string e.d] t)) w'→w'.cell? ⟨w.heap.size,2,none⟩=some (.string e.d))∧
 ag (w.alloc (.cells #[.int .i64 e.i,.int .i64 e.t,.string e.d] t)) (w.alloc (.cells #[.int .i64 e.i,.int .i64 e.t,.string e.d] t))∧ag w (w.alloc (.cells #[.int .i64 e.i,.int .i64 e.t,.string e.d] t)):=
 ⟨fun w' h=>by simpa using ((Blk.new w t #[.int .i64 e.i,.int .i64 e.t,.string e.d]).from_ h).cell 0,fun w' h=>by simpa using ((Blk.new w t #[.int .i64 e.i,.int .i64 e.t,.string e.d]).from_ h).cell 1,
  fun w' h=>by simpa using ((Blk.new w t #[.int .i64 e.i,.int .i64 e.t,.string e.d]).from_ h).cell 2,ag.rfl_,ag.rfl_.new _⟩
theorem qj (e:Ent) (w:World) :
 Calls prog 72 #[.agg #[.int .i64 e.i,.int .i64 e.t,.string e.d]] w fun r w'=>r=.returned (.bool (s7 e))∧ag w w':=by
 obtain ⟨f0,f1,f2,hbb,hwb⟩:=z7 (w:=w) (e:=e) (t:=49);have hm:s7 e=s7 e:=rfl
 conv at hm=>rhs;unfold s7 inb
 have HM:=Lib.hid hm;clear hm
 go_enter Tryz.func72,Tryz.ntmps72
 by_cases h1:1≤e.i
 ·have e1:=decide_eq_true h1;by_cases h2:e.i≤1099511627776
  ·have e2:=decide_eq_true h2;by_cases h3:0≤e.t
   ·have e3:=decide_eq_true h3;by_cases h4:e.t≤1099511627775
    ·have e4:=decide_eq_true h4;by_cases h5:e.d.size≤4096
     ·have e5:=decide_eq_true h5;have e6:decide ((e.d.size:Int)≤4096)=true:=by simp;omega
      rw [e1,e2,e3,e4,e5] at HM;clear h1 h2 h3 h4 h5
      go_wp2
      go_ret
      exact ⟨by rw [HM.out];rfl,hwb⟩
     ·have e5:=decide_eq_false h5;have e6:decide ((e.d.size:Int)≤4096)=false:=by simp;omega
      rw [e1,e2,e3,e4,e5] at HM;clear h1 h2 h3 h4 h5
      go_wp2
      go_ret
      exact ⟨by rw [HM.out];rfl,hwb⟩
    ·have e4:=decide_eq_false h4;rw [e1,e2,e3,e4] at HM;clear h1 h2 h3 h4
     go_wp2
     go_ret
     exact ⟨by rw [HM.out];rfl,hwb⟩
   ·have e3:=decide_eq_false h3;rw [e1,e2,e3] at HM;clear h1 h2 h3
    go_wp2
    go_ret
    exact ⟨by rw [HM.out];rfl,hwb⟩
  ·have e2:=decide_eq_false h2;rw [e1,e2] at HM;clear h1 h2
   go_wp2
   go_ret
   exact ⟨by rw [HM.out];rfl,hwb⟩
 ·have e1:=decide_eq_false h1;rw [e1] at HM;clear h1
  go_wp2
  go_ret
  exact ⟨by rw [HM.out];rfl,hwb⟩
def Aj (w:World) (xs:List Ent) (index term:Int) (b i:Value) (wr:World):Prop:=
 ∃ (j:Nat) (t:Int),j≤xs.length∧i=.int .i64 j∧b=.int .i64 t∧cG xs index term=cG (xs.drop j) (index+j) t∧ag w wr
theorem wW (index term:Int) (v:Value) (xs:List Ent) (w:World) (h:bm w v xs) (hi0:-4611686018427387904≤index) (hi1:index≤4611686018427387904) (hl:xs.length≤140737488351232) :
 Calls prog 56 #[v,.int .i64 index,.int .i64 term] w fun e w'=>e=.returned (.bool (cG xs index term))∧ag w w':=by
 obtain ⟨A,cap,rfl,hc1,hc2,hc3,hrow⟩:=h;have hme:=qj;have HM:=Lib.hid hme;clear hme
 go_enter Tryz.func56,Tryz.ntmps56
 go_wp2
 go_loopw [2,7] (Aj w xs index term) (fun _ i _=>xs.length-(intOf i).toNat)
 case atStart=>exact ⟨0,term,by omega,rfl,rfl,by simp,ag.rfl_⟩
 case round=>
  obtain ⟨j,t,hj,rfl,rfl,hruns,hw⟩:=hrel;by_cases hlt:j<xs.length
  ·obtain ⟨b,o,rfl,hb,hc⟩:=hrow (by omega);obtain ⟨c1,c2,c3⟩:=hc j hlt;have d1:∀ w',ag w w'→w'.cell? ⟨b,o+j*3,none⟩=some (.int .i64 xs[j].i):=fun w' h=>(h.cells b _ hb).trans c1
   have d2:∀ w',ag w w'→w'.cell? ⟨b,o+j*3+1,none⟩=some (.int .i64 xs[j].t):=fun w' h=>(h.cells b _ hb).trans c2
   have d3:∀ w',ag w w'→w'.cell? ⟨b,o+j*3+2,none⟩=some (.string xs[j].d):=fun w' h=>(h.cells b _ hb).trans c3
   have i1:(0:Int)≤(j:Int):=by omega
   have i2:(j:Int)<(xs.length:Int):=by omega
   rw [List.drop_eq_getElem_cons hlt] at hruns;simp only [cG,vM] at hruns;clear hc c1 c2 c3 hrow
   generalize xs[j]=e at*
   rcases h1:s7 e with _ | _
   ·have HR:=Lib.hid (hruns.trans (by simp [h1]):cG xs index term=false);clear hruns
    go_wp2_with (go_at_call 72;(with_reducible refine (HM.out _ _).mono ?_);rintro e w1 ⟨rfl,hb1⟩)
    go_ret
    exact ⟨by rw [HR.out];rfl,hw.next hb1⟩
   by_cases h2:e.i=index+j+1
   ·have e2:(e.i != index+1+j)=false:=by simp;omega
    by_cases h3:t≤e.t
    ·have e3:decide (e.t<t)=false:=by simp;omega
     rw [h1,decide_eq_true h2,decide_eq_true h3] at hruns;simp only [Bool.and_self,Bool.true_and] at hruns;have HR:=Lib.hid hruns;clear hruns h2 h3
     go_wp2_with (go_at_call 72;(with_reducible refine (HM.out _ _).mono ?_);rintro e w1 ⟨rfl,hb1⟩;have hw1:=ag.next (a:=w) hw hb1)
     go_roundw
     case rel=>
      refine ⟨j+1,e.t,by omega,by go_num,rfl,?_,hw1⟩;rw [HR.out,show index+((j+1:Nat):Int)=index+j+1 by omega]
     case measure=>simp [intOf];omega
    ·have e3:decide (e.t<t)=true:=by simp;omega
     have HR:=Lib.hid (hruns.trans (by simp [h3]):cG xs index term=false);clear hruns h2 h3
     go_wp2_with (go_at_call 72;(with_reducible refine (HM.out _ _).mono ?_);rintro e w1 ⟨rfl,hb1⟩;have hw1:=ag.next (a:=w) hw hb1)
     go_ret
     exact ⟨by rw [HR.out];rfl,hw1⟩
   ·have e2:(e.i != index+1+j)=true:=by simp;omega
    have HR:=Lib.hid (hruns.trans (by simp [h2]):cG xs index term=false);clear hruns h2
    go_wp2_with (go_at_call 72;(with_reducible refine (HM.out _ _).mono ?_);rintro e w1 ⟨rfl,hb1⟩;have hw1:=ag.next (a:=w) hw hb1)
    go_ret
    exact ⟨by rw [HR.out];rfl,hw1⟩
  ·have hruns':cG xs index term=true:=by
    rw [hruns,List.drop_eq_nil_of_le (by omega)];rfl
   have HR:=Lib.hid hruns';clear hruns hruns'
   go_wp2
   go_ret
   exact ⟨by rw [HR.out];rfl,hw⟩
theorem jG (B T:Int) (v:Value) (xs:List Ent) (w:World) (h:bm w v xs) :
 Calls prog 28 #[.agg #[.int .i64 B,.int .i64 T,v]] w fun e w'=>e=.returned (.tuple #[.int .i64 (dH B xs),.int .i64 (iu T xs)])∧ag w w':=by
 obtain ⟨f0,f1,f2,hbb,hwb⟩:=ke (w:=w) (B:=B) (T:=T) (v:=v) (t:=36);obtain ⟨A,cap,rfl,hc1,hc2,hc3,hrow⟩:=h;by_cases h0:0<xs.length
 ·obtain ⟨b,o,rfl,hb,hc⟩:=hrow h0;obtain ⟨l1,l2⟩:=zB h0 B T;obtain ⟨c1,c2,c3⟩:=hc (xs.length-1) (by omega);rw [←l1] at c1;rw [←l2] at c2;have d1:∀ w',ag w w'→w'.cell? ⟨b,o+(xs.length-1)*3,none⟩=some (.int .i64 (dH B xs)):=fun w' h=>(h.cells b _ hb).trans c1
  have d2:∀ w',ag w w'→w'.cell? ⟨b,o+(xs.length-1)*3+1,none⟩=some (.int .i64 (iu T xs)):=fun w' h=>(h.cells b _ hb).trans c2
  obtain ⟨n,hn⟩:∃ n,xs.length=n+1:=⟨xs.length-1,by omega⟩;rw [hn] at d1 d2 hc1 f0 f1 f2 hbb hwb ⊢;simp only [Nat.add_sub_cancel] at d1 d2;have hd:((((n+1:Nat):Int))==0)=false:=by simp;omega
  have hd2:(((n:Int)+1)==0)=false:=by simp;omega
  have i0:((n+1:Nat):Int)-1=(n:Int):=by omega
  have hwr:IntKind.i64.wrap (n:Int)=(n:Int):=by rw [IntKind.wrap_i64];omega
  have i1:(0:Int)≤(n:Int):=by omega
  have i2:(n:Int)<((n+1:Nat):Int):=by omega
  have i3:(n:Int)<(n:Int)+1:=by omega
  clear hc c1 c2 c3 hrow l1 l2 hn h0
  generalize dH B xs=x at*
  generalize iu T xs=y at*
  go_enter Tryz.func28,Tryz.ntmps28
  go_wp2
  go_quiet (fail)
  go_wp2
  go_ret2
  exact ⟨rfl,hwb.dn _⟩
 ·have hx:xs=[]:=List.eq_nil_of_length_eq_zero (by omega);subst hx;simp only [List.length_nil] at f0 f1 f2 hbb hwb ⊢
  go_enter Tryz.func28,Tryz.ntmps28
  go_wp2
  go_quiet (fail)
  go_wp2
  go_ret2
  exact ⟨rfl,hwb.dn _⟩
theorem nY (v u:Value) (xs:List Ent) (w:World) (h1:bm w v xs) (h2:bm w u xs) (hl:xs.length≤1000000000000) :
 Calls prog 34 #[v,u] w fun e w'=>e=.returned (.bool true)∧ag w w':=by
 obtain ⟨A,cap,rfl,hc1,hc2,hc3,hrow⟩:=h1;obtain ⟨A2,cap2,rfl,hd1,hd2,hd3,hrow2⟩:=h2
 go_enter Tryz.func34,Tryz.ntmps34
 go_wp2
 go_loopw [5] (fun i wr=>∃ j:Nat,j≤xs.length∧i=.int .i64 j∧ag w wr) (fun i _=>xs.length-(intOf i).toNat)
 case atStart=>exact ⟨0,by omega,rfl,ag.rfl_⟩
 case round=>
  obtain ⟨j,hj,rfl,hw⟩:=hrel;by_cases hlt:j<xs.length
  ·obtain ⟨b,o,rfl,hb,hc⟩:=hrow (by omega);obtain ⟨b2,o2,rfl,hb2,hc'⟩:=hrow2 (by omega);obtain ⟨c1,c2,c3⟩:=hc j hlt;obtain ⟨q1,q2,q3⟩:=hc' j hlt;have d1:∀ w',ag w w'→w'.cell? ⟨b,o+j*3,none⟩=some (.int .i64 xs[j].i):=fun w' h=>(h.cells b _ hb).trans c1
   have d2:∀ w',ag w w'→w'.cell? ⟨b,o+j*3+1,none⟩=some (.int .i64 xs[j].t):=fun w' h=>(h.cells b _ hb).trans c2
   have d3:∀ w',ag w w'→w'.cell? ⟨b,o+j*3+2,none⟩=some (.string xs[j].d):=fun w' h=>(h.cells b _ hb).trans c3
   have g1:∀ w',ag w w'→w'.cell? ⟨b2,o2+j*3,none⟩=some (.int .i64 xs[j].i):=fun w' h=>(h.cells b2 _ hb2).trans q1
   have g2:∀ w',ag w w'→w'.cell? ⟨b2,o2+j*3+1,none⟩=some (.int .i64 xs[j].t):=fun w' h=>(h.cells b2 _ hb2).trans q2
   have g3:∀ w',ag w w'→w'.cell? ⟨b2,o2+j*3+2,none⟩=some (.string xs[j].d):=fun w' h=>(h.cells b2 _ hb2).trans q3
   have i1:(0:Int)≤(j:Int):=by omega
   have i2:(j:Int)<(xs.length:Int):=by omega
   clear hc c1 c2 c3 hrow q1 q2 q3 hc' hrow2
   generalize xs[j]=e at*
   go_wp2
   go_quiet (fail)
   go_wp2
   go_roundw
   case rel=>exact ⟨j+1,by omega,by go_num,hw.dn _⟩
   case measure=>simp [intOf];omega
  ·go_wp2
   go_ret
   exact ⟨rfl,hw⟩
theorem iZ {w:World} {base base' size n:Nat} {e:TypeId} {v:Value} {xs:List Value} (h:w.ownsRow base e size v n xs) (hb:base'≤base):w.ownsRow base' e size v n xs:=by
 refine ⟨h.1,?_⟩;rcases h.2 with h2 | ⟨g,cap,cur,hv,hg,r⟩
 ·exact .inl h2
 ·exact .inr ⟨g,cap,cur,hv,Nat.le_trans hb hg,r⟩
theorem tj (B T:Int) (v u:Value) (xs:List Ent) (w:World) (h1:bm w v xs) (h2:bm w u xs) (hl:xs.length≤1000000000000) :
 Calls prog 12 #[.agg #[.int .i64 B,.int .i64 T,v],.agg #[.int .i64 B,.int .i64 T,u]] w fun e w'=>e=.returned (.bool true)∧ag w w':=by
 have heq:=fun w' (h:ag w w')=>nY v u xs w' (h1.from_ h) (h2.from_ h) hl
 have HE:=Lib.hid heq;obtain ⟨f0,f1,f2,hbb,hwb⟩:=ke (w:=w) (B:=B) (T:=T) (v:=v) (t:=36);obtain ⟨g0,g1,g2,hcc,hwc⟩:=ke (w:=w.alloc (.cells #[.int .i64 B,.int .i64 T,v] 36)) (B:=B) (T:=T) (v:=u) (t:=36);have hz:(w.alloc (.cells #[.int .i64 B,.int .i64 T,v] 36)).heap.size=w.heap.size+1:=by simp
 rw [hz] at g0 g1 g2;have hwc2:=hwb.next hwc;obtain ⟨A,cap,rfl,-⟩:=h1;obtain ⟨A2,cap2,rfl,-⟩:=h2;clear heq
 go_enter Tryz.func12,Tryz.ntmps12
 go_wp2_with (go_at_call 34;(with_reducible refine (HE.out _ hwc2).mono ?_);rintro e w1 ⟨rfl,hb1⟩)
 go_ret
 exact ⟨rfl,hwc2.next hb1⟩
def tZ:Value:=.agg #[.int .i64 0,.int .i64 0,.slice none 0 0]
abbrev AD (w:World) (B T:Int) (v:Value):World:=w.alloc (.cells #[.int .i64 B,.int .i64 T,v] 36)
abbrev jk (w:World) (B T:Int) (v:Value):World:=(w.alloc (.cells #[.int .i64 B,.int .i64 T,v] 36)).alloc (.cells #[.int .i64 0,.int .i64 0,.slice none 0 0] 36)
theorem mA (w:World) (B T:Int) (v:Value):ag w (jk w B T v):=(ag.rfl_.new _).new _
theorem rY (w:World) (B T:Int) (v:Value):ag (AD w B T v) (jk w B T v):=ag.rfl_.new _
theorem og {w:World} {B T:Int} {v:Value} {w1:World} (h:ag (jk w B T v) w1):Blk w1 (w.heap.size+1) 36 #[.int .i64 0,.int .i64 0,.slice none 0 0]:=by
 have h2:=(Blk.new (w.alloc (.cells #[.int .i64 B,.int .i64 T,v] 36)) 36 #[.int .i64 0,.int .i64 0,.slice none 0 0]).from_ h;have hz:(w.alloc (.cells #[.int .i64 B,.int .i64 T,v] 36)).heap.size=w.heap.size+1:=by simp
 rw [hz] at h2;exact h2
theorem gJ {w1:World} {g:Nat} {t:TypeId} {a b c:Value} (h:Blk w1 g t #[a,b,c]) :
 (w1.cell? ⟨g,0,none⟩=some a∧w1.cell? ⟨g,1,none⟩=some b∧w1.cell? ⟨g,2,none⟩=some c)∧(w1.frozen? ⟨g,0,none⟩=false∧w1.frozen? ⟨g,1,none⟩=false∧w1.frozen? ⟨g,2,none⟩=false):=
 ⟨⟨by rw [h.cell 0];rfl,by rw [h.cell 1];rfl,by rw [h.cell 2];rfl⟩,h.frozen 0,h.frozen 1,h.frozen 2⟩
abbrev rj (w1:World) (g:Nat) (x y z:Value):World:=((w1.setCell ⟨g,0,none⟩ x).setCell ⟨g,1,none⟩ y).setCell ⟨g,2,none⟩ z
theorem iY {w1:World} {g:Nat} {t:TypeId} {a b c:Value} (h:Blk w1 g t #[a,b,c]) (x y z:Value) :
 (rj w1 g x y z).cell? ⟨g,0,none⟩=some x∧(rj w1 g x y z).cell? ⟨g,1,none⟩=some y∧(rj w1 g x y z).cell? ⟨g,2,none⟩=some z:=by
 have b5:=((h.set_ 0 x).set_ 1 y).set_ 2 z;exact ⟨by rw [b5.cell 0];rfl,by rw [b5.cell 1];rfl,by rw [b5.cell 2];rfl⟩
theorem j_ {w w1:World} {g:Nat} {x y z:Value} (h:ag w w1) (hg:w.heap.size≤g):ag w (rj w1 g x y z):=((h.set_ (p:=⟨g,0,none⟩) hg _).set_ (p:=⟨g,1,none⟩) hg _).set_ (p:=⟨g,2,none⟩) hg _
def mC (B T:Int) (xs ys:List Ent):Int:=if ek B T xs=true then (if cG ys (dH B xs) (iu T xs)=true then (if xs.length+ys.length≤512 then 0 else 6) else 1) else 1
def AE (w w':World) (B T:Int) (xs:List Ent) (c:Int) (L:Value):Prop:=
 (c≠0→L=tZ)∧(c=0→∃ v',L=.agg #[.int .i64 B,.int .i64 T,v']∧w'.ownsRow w.heap.size 49 3 v' xs.length (bJ xs))
theorem nu:∀ (xs:List Ent) (B T:Int),cG xs B T=true→dH B xs=B+xs.length
 |[],B,T,_=>by simp [dH]
 |[e],B,T,h=>by
  simp only [cG,iO,Bool.and_eq_true,decide_eq_true_eq] at h;simp [dH];omega
 |e::f::r,B,T,h=>by
  simp only [cG,Bool.and_eq_true] at h
  have he:e.i=B+1:=by
   have:=h.1;simp only [iO,Bool.and_eq_true,decide_eq_true_eq] at this;omega
  have ih:=nu (f::r) (B+1) e.t (by simp only [cG,Bool.and_eq_true];exact h.2)
  have:dH B (e::f::r)=dH (B+1) (f::r):=by
   obtain ⟨l,hl⟩:∃ l,(f::r).getLast? =some l:=by
    rw [List.getLast?_eq_getElem?];exact ⟨_,List.getElem?_eq_getElem (by simp)⟩
   unfold dH;rw [List.getLast?_cons_cons,hl]
  rw [this,ih];simp only [List.length_cons];omega
theorem vw {B T:Int} {xs:List Ent} (h:ek B T xs=true):dH B xs=B+xs.length∧0≤B∧B≤1099511625728∧xs.length≤512:=by
 simp only [ek,Bool.and_eq_true,decide_eq_true_eq] at h;obtain ⟨⟨⟨h1,h2⟩,h3⟩,h4⟩:=h;have:=lq h1;exact ⟨nu xs B T h4,this.1,this.2,h3⟩
def one:List Ent:=[⟨1,1,⟨#[]⟩⟩]
end Go.Proofs.YtaohnmneccbljaaGreatDoor
