/- texts that the claim stands on. -/
import Derived.Test.YtinogeaabocbkaaSlNxLaw1
import Derived.Deep.AppendLies
set_option maxRecDepth 100000
set_option maxHeartbeats 4000000
namespace Go.Proofs.Ytinogeaabocbkaa
open Go.Proofs.Try (prog)
open Go.RowKit
open Go.ChangeShapes Go.WideShapes Go.ChangeAt
theorem dw:dp prog 46=some (52,14,136,(.agg #[.int .i64 0,.int .i64 0,.int .i64 0,.int .i64 0,.int .i64 0,.int .i64 0,.int .i64 0,.int .i64 0,.bool false,.slice none 0 0,.int .i64 0,.string ⟨#[]⟩,.bool false,.int .i64 0])):=by kernel_rfl
theorem az:bW prog 46=some (52,14):=by kernel_rfl
theorem bq:(bW prog 46).isSome=true:=by kernel_rfl
theorem fk:aB prog 34=true:=by kernel_rfl
theorem eC:bw prog 52 1=some 13:=by kernel_rfl
theorem ar:ez prog 3=some false:=by kernel_rfl
theorem jb:aB prog 30=true:=by kernel_rfl
theorem dy:ez prog 52=some true:=by kernel_rfl
theorem ct:b7 prog 52=some 14:=by kernel_rfl
theorem eI:(prog.underlying 3).isSome=true:=by kernel_rfl
theorem eg:prog.underlying 49=some (.int .u64):=by kernel_rfl
theorem fj:(prog.underlying 49).isSome=true:=by kernel_rfl
theorem fX:prog.underlying 3=some (.int .i64):=by kernel_rfl
theorem bm:bw prog 48 0=some 0:=by kernel_rfl
theorem cv:ez prog 46=some false:=by kernel_rfl
theorem jc:aB prog 28=true:=by kernel_rfl
theorem cu:dp prog 31=some (60,3,32,(.agg #[.int .i64 0,.int .i64 0,.string ⟨#[]⟩])):=by kernel_rfl
theorem cT:bW prog 31=some (60,3):=by kernel_rfl
theorem cc:(bW prog 31).isSome=true:=by kernel_rfl
theorem ja:prog.underlying 31=some (.slice 60):=by kernel_rfl
theorem eh:ez prog 60=some true:=by kernel_rfl
theorem dv:b7 prog 60=some 3:=by kernel_rfl
theorem aI:ez prog 33=some true:=by kernel_rfl
theorem ay:b7 prog 33=some 13:=by kernel_rfl
theorem ef:fz prog 33=some (.agg #[.int .i64 0,.int .i64 0,.int .i64 0,.int .i64 0,.int .i64 0,.int .i64 0,.int .i64 0,.int .i64 0,.bool false,.slice none 0 0,.int .i64 0,.string ⟨#[]⟩,.bool false]):=by kernel_rfl
theorem bn:bw prog 33 9=some 9:=by kernel_rfl
theorem cd:ez prog 31=some false:=by kernel_rfl
theorem jd:aB prog 22=true:=by kernel_rfl
theorem fi:b7 prog 31=some 1:=by kernel_rfl
structure Msg where
 k:Int
 f:Int
 t:Int
 tm:Int
 ix:Int
 lt:Int
 cm:Int
 rd:Int
 ok:Bool
 a:Int
 d:ByteArray
 dn:Bool
 E:Option Addr
 c:Nat
 es:List Ent
def aM (x:Msg):List Value:=[.int .i64 x.k,.int .i64 x.f,.int .i64 x.t,.int .i64 x.tm,.int .i64 x.ix,.int .i64 x.lt,.int .i64 x.cm,.int .i64 x.rd,.bool x.ok,.slice x.E x.es.length x.c,.int .i64 x.a,.string x.d,.bool x.dn]
def cS (p:Msg×Int):List Value:=[.int .i64 p.1.k,.int .i64 p.1.f,.int .i64 p.1.t,.int .i64 p.1.tm,.int .i64 p.1.ix,.int .i64 p.1.lt,.int .i64 p.1.cm,.int .i64 p.1.rd,.bool p.1.ok,.slice p.1.E p.1.es.length p.1.c,.int .i64 p.1.a,.string p.1.d,.bool p.1.dn,.int .i64 p.2]
theorem fv (p:Msg×Int):(cS p).length=14:=rfl
theorem dP (x:Msg):(aM x).length=13:=rfl
theorem jP (L:List (Msg×Int)):∀ u∈L.flatMap cS,u.oneCell'=true:=iU (fun x _=>by simp [cS,Value.oneCell'])
theorem lT (L:List Msg):∀ u∈L.flatMap aM,u.oneCell'=true:=iU (fun x _=>by simp [aM,Value.oneCell'])
abbrev aG:=List (Msg×Int)
def lp (w:World) (A:Option Addr) (L:aG):Prop:=ee 14 cS w A L
theorem lp.from_ {w w':World} {A:Option Addr} {L:aG} (h:lp w A L) (hF:al w w'):lp w' A L:=ee.from_ h hF
def Cut (L:aG) (x:Int) (i:Nat):Prop:=i≤L.length∧(∀ j (h:j<L.length),j<i→L[j].2≤x)∧(∀ j (h:j<L.length),i≤j→x<L[j].2)
def bg (L:aG):Prop:=∀ i j (hi:i<L.length) (hj:j<L.length),i<j→L[i].2≤L[j].2
def kl (x y:Int):Int:=if x<y then -1 else if y<x then 1 else 0
def jF (x y:Int):Int:=if x≤y then -1 else 1
theorem jT {x y:Int}:jF x y<0↔x≤y:=by
 unfold jF;split <;> simp <;> omega
theorem k5 {x y:Int}:jF x y≠0:=by
 unfold jF;split <;> decide
theorem kk (base:Nat) (A:Option Addr) (c n i j:Nat) (xs:List Value) (w:World) (ho:w.ownsRow base 52 14 (.slice A n c) n xs) (hij:i<j) (hj:j≤n) (h1:∀ u∈xs,u.oneCell'=true) (hl:n≤100000000000) :
 Rt prog 20 [.slice A n c,.int .i64 (i:Nat),.int .i64 (j:Nat)] w (fun v w'=>(∃ A' c',v=.slice A' (n-(j-i)) c'∧w'.ownsRow base 52 14 (.slice A' (n-(j-i)) c') (n-(j-i)) (xs.take (i*14)++xs.drop (j*14)))∧w.grownBy w' (A.map (·.block))):=by
 obtain ⟨g,cur,rfl,hg,hbk,hnc,hcm,hcl,hct⟩:=dO ho (by omega);have hxl:xs.length=n*14:=ho.1;have hdl:(xs.drop (j*14)).length=(n-j)*14:=by rw [List.length_drop,hxl];omega
 have hno:n-(j-i)=i+(n-j):=by omega
 have hbz:w.grownBy w (some g):=World.grownBy.refl _ _;refine enter (n:=33) Try.func20 rfl rfl rfl (ag (ab (ass rfl (ah (af (ag (ab (mvs rfl (mvi rfl (mvi rfl (mvs rfl (aa (bf bq rfl) ?_))))))))))));refine aa (gD (l:=i) (h:=j) (mx:=n) az rfl rfl rfl rfl (by omega) (by omega) (by omega)) (ah (af (ag (ag (ab (mvi rfl (mvi rfl (aa (bz rfl rfl) (ah (af (m6 rfl (fun Q1=>?_) (fun Q1=>?_))))))))))))
 ·exfalso;omega
 refine aE (af (ag (ab (mvs rfl (aa (bf bq rfl) (asi rfl (ah (af (ag ?_)))))))));apply bY 6 [(20,eqp _),(21,eqp _),(22,eqp _),(23,eqp _),(24,eqp _),(25,eqp _)] (by repeat first | exact cq | refine cp ?_ | refine bU ?_) (by kernel_rfl) (by kernel_rfl) ⟨aj _,aj _,aj _,aj _,aj _,aj _,trivial⟩
 case hop=>
  constructor
  ·rintro-w3 D3;exact ao (av (v:=.slice _ _ _) rfl) rfl
  constructor
  ·rintro-w4 D4;exact ao (av (v:=.int _ _) rfl) rfl
  constructor
  ·rintro-w5 D5;rintro _ rfl _ rfl;exact ao (cX (v':=.slice (some ⟨g,0,none⟩) i c) (aR (l:=0) (h:=i) az rfl (.inl ⟨rfl,rfl⟩) (.inr ⟨_,_,_,rfl,rfl,rfl⟩) (by omega) (by omega)) (by rw [cR,Nat.sub_zero,Nat.sub_zero])) rfl
  constructor
  ·rintro-w6 D6;exact ao (av (v:=.slice _ _ _) rfl) rfl
  constructor
  ·rintro-w7 D7;exact ao (av (v:=.int _ _) rfl) rfl
  constructor
  ·rintro-w8 D8;rintro _ rfl _ rfl;exact ao (aR (l:=j) (h:=n) az rfl (.inr ⟨_,_,_,rfl,rfl,rfl⟩) (.inl ⟨rfl,rfl⟩) (by omega) (by omega)) rfl
  exact trivial
 case hend=>
  intro w9 D9;rintro _ rfl _ rfl _ rfl _ rfl _ rfl _ rfl;show St ..;replace hbz:=bp hbz (al.grown D9 _);replace hbk:=hbk.from_ D9;refine jn (news:=xs.drop (j*14)) (cur:=cur) az rfl rfl hdl (fun h=>⟨g,j*14,by rw [bK (by omega),Nat.zero_add],eN hbk hct⟩) hbk (fun v hv=>h1 v (List.mem_of_mem_drop hv)) (by omega) (by rw [hdl,hcl];omega) ?_;intro w10 O26 P26;replace hbz:=bp hbz (bD.grown O26);refine ass rfl (ah (af (ag (ab (mvs rfl (mvs rfl (aa (bf bq rfl) (mvi rfl (aa (aR (l:=i+(n-j)) (h:=n) az rfl (.inr ⟨_,_,_,rfl,rfl,by omega⟩) (.inr ⟨_,_,_,rfl,rfl,rfl⟩) (by omega) (by omega)) ?_)))))))));refine j3 (g:=g) (o:=(i+(n-j))*14) dw rfl rfl (fun h=>by rw [bK (by omega),Nat.zero_add]) P26 (by rw [bj _ _ _ (by rw [hdl,hcl];omega),hcl];omega) (by decide) ?_;intro w11 zs O6 hzl P6;replace hbz:=bp hbz (bD.grown O6);have hzl2:zs.length=(j-i)*14:=by rw [hzl];congr 1;omega
  refine ah (af (ag (ab (mvs rfl (ass rfl (ah (af (aA (bu (v:=.slice _ _ _) rfl rfl ?_)))))))));rw [hno];exact ⟨⟨_,_,rfl,ig hg P6 (by omega) hcm (by rw [bj _ _ _ (by rw [bj _ _ _ (by rw [hdl,hcl];omega),hzl2,hcl];omega),bj _ _ _ (by rw [hdl,hcl];omega),hcl]) (k8 (by omega) hj hnc hcl hct hzl2)⟩,hbz⟩
theorem kf (base:Nat) (A:Option Addr) (c n i m b vo vc:Nat) (xs vs:List Value) (tv:TypeId) (csv:Array Value) (w:World) (ho:w.ownsRow base 52 14 (.slice A n c) n xs) (hbs:base≤w.heap.size) (hi:i≤n) (hm:0<m) (hvl:vs.length=m*14) (hvr:w.rangeAt b vo vs) (hvb:Blk w b tv csv) (hne:∀ k,A.map (·.block)=some k→k≠b) (h1:∀ u∈xs,u.oneCell'=true) (h1v:∀ u∈vs,u.oneCell'=true) (hl:n+m≤100000000000) :
 Rt prog 33 [.slice A n c,.int .i64 (i:Nat),.slice (some ⟨b,vo,none⟩) m vc] w (fun v w'=>(∃ A' c',v=.slice A' (n+m) c'∧w'.ownsRow base 52 14 (.slice A' (n+m) c') (n+m) (xs.take (i*14)++vs++xs.drop (i*14)))∧w.grownBy w' (A.map (·.block))):=by
 have hxl:xs.length=n*14:=ho.1;have hdl:(xs.drop (i*14)).length=(n-i)*14:=by rw [List.length_drop,hxl];omega
 have hcap:=dN ho;refine enter (n:=95) Try.func33 rfl rfl rfl (ag (ab (ass rfl (ah (af (ag (ab (mvs rfl (mvi rfl (aa (aR (l:=i) (h:=n) az rfl (.inr ⟨_,_,_,rfl,rfl,rfl⟩) (.inl ⟨rfl,rfl⟩) (by omega) (by omega)) (ah (af (ag (ab (mvs rfl ?_)))))))))))))));refine aa (bf bq rfl) (asi rfl (ah (af (ag (ag (ab (mvi rfl (aa (bz rfl rfl) (ah (af (m6 rfl (fun Q1=>?_) (fun Q1=>?_))))))))))))
 ·exfalso;omega
 refine aE (af (ag (ab (mvs rfl (aa (bf bq rfl) (asi rfl (ah (af (ag (ag (ab (mvi rfl (mvi rfl (aa (bz rfl rfl) (ah (af ?_))))))))))))))));refine m6 rfl (fun Q2=>?_) (fun Q2=>?_)
 ·obtain rfl:i=n:=by omega
  refine ag (ab (mvs rfl (mvs rfl (aW dw rfl (by decide) rfl ho hbs rfl hvl (fun _=>⟨b,vo,rfl,hvr⟩) (fun h=>by cases h) h1v (by omega) (by omega) ?_))));intro A25 c25 w3 ho25 hg25;refine ass rfl (ah (af (aA (bd (bu (v:=.slice _ _ _) rfl rfl ?_)))));exact ⟨⟨A25,c25,rfl,by rw [List.take_of_length_le (by omega),List.drop_of_length_le (by omega),List.append_nil];exact ho25⟩,hg25⟩
 obtain ⟨g,cur,rfl,hg,hbk,hnc,hcm,hcl,hct⟩:=dO ho (by omega);have hgb:g≠b:=hne g rfl;have hbz:w.grownBy w (some g):=World.grownBy.refl _ _;refine aE (af (ag (ag (ab (mvi rfl (mvi rfl (aa (bA rfl rfl (by omega)) (mvs rfl (aa (mr bq rfl) (aa (dK rfl rfl) (ah (af (m7 rfl (fun Q4=>?_) (fun Q4=>?_))))))))))))))
 ·refine ag (ab (mvs rfl (mvi rfl (aa (cX (v':=.slice (some ⟨g,0,none⟩) i c) (aR (l:=0) (h:=i) az rfl (.inl ⟨rfl,rfl⟩) (.inr ⟨_,_,_,rfl,rfl,rfl⟩) (by omega) (by omega)) (by rw [cR,Nat.sub_zero,Nat.sub_zero])) ?_))));refine mvi rfl (mvi rfl (aa (bA rfl rfl (by omega)) (mvi rfl (aa (lG rfl rfl (by omega)) (jm (kn:=.i64) (olds:=xs.take (i*14)) dw (by kernel_rfl) rfl (by decide) rfl rfl (by rw [List.length_take,hxl];omega) (fun _=>⟨g,0,rfl,iH hbk hct⟩) (by omega) (by omega) (by unfold maxLen;omega) (by omega) (by omega) ?_)))));intro g2 c2 w5 cur2 hg2 E40 hb2 hc2 hc2m hcl2 hct2;obtain hc2:n+m≤c2:=by omega
  replace hbz:=bp hbz (al.grown E40 _);replace hbk:=hbk.from_ E40;have hgg:g≠g2:=by have:=ho.lt g rfl;omega
  have hvr2:=cj E40 hvr;have hbg2:b≠g2:=by have:=hvb.lt;omega
  refine ass rfl (ah (af (ag (ab (mvs rfl (mvi rfl (aa (aR (l:=i) (h:=i+(n+m-i)) az rfl (.inr ⟨_,_,_,rfl,rfl,rfl⟩) (.inl ⟨rfl,rfl⟩) (by omega) (by omega)) (mvs rfl (eL (news:=vs) (g:=g2) (o:=i*14) az rfl rfl (by rw [hvl];congr 1;omega) (fun h=>by rw [bK (by omega),Nat.zero_add]) (fun h=>⟨b,vo,rfl,hvr2⟩) hb2 (by rw [hvl,hcl2];omega) h1v ?_)))))))));intro w6 O45 P45;replace hbz:=gO hbz O45 (by have:=hbk.lt;have:=ho.lt g rfl;omega);replace hbk:=hbk.only O45 hgg;refine ah (af (ag ?_));apply bY 8 [(46,eqp _),(47,eqp _),(48,eqp _),(49,eqp _),(50,eqp _),(51,eqp _),(52,eqp _),(53,eqp _)] (by repeat first | exact cq | refine cp ?_ | refine bU ?_) (by kernel_rfl) (by kernel_rfl) ⟨aj _,aj _,aj _,aj _,aj _,aj _,aj _,aj _,trivial⟩
  case hop=>
   constructor
   ·rintro-w8 D8;exact ao (av (v:=.slice _ _ _) rfl) rfl
   constructor
   ·rintro-w9 D9;exact ao (av (v:=.int _ _) rfl) rfl
   constructor
   ·rintro-w10 D10;exact ao (av (v:=.int _ _) rfl) rfl
   constructor
   ·rintro-w11 D11;rintro _ rfl _ rfl;exact ao (bA rfl rfl (by omega)) rfl
   constructor
   ·rintro-w12 D12;rintro _ rfl _ rfl;exact ao (aR (l:=i+m) (h:=i+(n+m-i)) az rfl (.inr ⟨_,_,_,rfl,rfl,rfl⟩) (.inl ⟨rfl,rfl⟩) (by omega) (by omega)) rfl
   constructor
   ·rintro-w13 D13;exact ao (av (v:=.slice _ _ _) rfl) rfl
   constructor
   ·rintro-w14 D14;exact ao (av (v:=.int _ _) rfl) rfl
   constructor
   ·rintro-w15 D15;rintro _ rfl _ rfl;exact ao (aR (l:=i) (h:=n) az rfl (.inr ⟨_,_,_,rfl,rfl,rfl⟩) (.inl ⟨rfl,rfl⟩) (by omega) (by omega)) rfl
   exact trivial
  case hend=>
   intro w16 D16;rintro _ rfl _ rfl _ rfl _ rfl _ rfl _ rfl _ rfl _ rfl;show St ..;replace hbz:=bp hbz (al.grown D16 _);replace hbk:=hbk.from_ D16;replace P45:=P45.from_ D16;refine eL (news:=xs.drop (i*14)) (g:=g2) (o:=(i+m)*14) az rfl rfl (by rw [hdl];congr 1;omega) (fun h=>by rw [bK (by rw [hdl] at h;omega),Nat.zero_add]) (fun h=>⟨g,i*14,by rw [bK (by omega),Nat.zero_add],eN hbk hct⟩) P45 (by rw [hdl,bj _ _ _ (by rw [hvl,hcl2];omega),hcl2];omega) (fun v hv=>h1 v (List.mem_of_mem_drop hv)) ?_;intro w17 O54 P54;replace hbz:=gO hbz O54 (by have:=ho.lt g rfl;omega);refine ah (af (ag (ab (mvs rfl (ass rfl (ah (af (aA (bd (bu (v:=.slice _ _ _) rfl rfl ?_))))))))));have hnm:i+(n+m-i)=n+m:=by omega
   rw [hnm];have hbg:base≤g2:=by omega
   exact ⟨⟨_,_,rfl,ig hbg P54 hc2 hc2m (by rw [bj _ _ _ (by rw [hdl,bj _ _ _ (by rw [hvl,hcl2];omega),hcl2];omega),bj _ _ _ (by rw [hvl,hcl2];omega),hcl2]) (iT hi hc2 hcl2 hxl hct2 hvl).2⟩,hbz⟩
 refine aE (af (ag (ab (mvs rfl (mvi rfl (mvi rfl (aa (bA rfl rfl (by omega)) (aa (cX (v':=.slice (some ⟨g,0,none⟩) (n+m) c) (aR (l:=0) (h:=n+m) az rfl (.inl ⟨rfl,rfl⟩) (.inr ⟨_,_,_,rfl,rfl,rfl⟩) (by omega) (by omega)) (by rw [cR,Nat.sub_zero,Nat.sub_zero])) ?_))))))));refine ass rfl (ah (af (ag (ag (ab (mvs rfl (mvs rfl (mvi rfl (mvi rfl (aa (bA rfl rfl (by omega)) (aa (aR (l:=i+m) (h:=n+m) az rfl (.inr ⟨_,_,_,rfl,rfl,rfl⟩) (.inl ⟨rfl,rfl⟩) (by omega) (by omega)) ?_)))))))))));refine aa (iI (tS:=46) (tR:=4) (g1:=b) (o1:=vo) (g2:=g) (o2:=(i+m)*14) Try.func35 (by kernel_rfl) (by kernel_rfl) (by kernel_rfl) (by kernel_rfl) az rfl (by show Value.slice _ _ _=_;rw [bK (by omega),Nat.zero_add]) hgb.symm hvb hbk (by simp only [List.size_toArray,hcl];omega)) ?_;refine aa (kH (h_ rfl) rfl) (ah (af (fV rfl (ag ?_))));apply bY 8 [(69,eqp _),(70,eqp _),(71,eqp _),(72,eqp _),(73,eqp _),(74,eqp _),(75,eqp _),(76,eqp _)] (by repeat first | exact cq | refine cp ?_ | refine bU ?_) (by kernel_rfl) (by kernel_rfl) ⟨aj _,aj _,aj _,aj _,aj _,aj _,aj _,aj _,trivial⟩
 case hop=>
  constructor
  ·rintro-w19 D19;exact ao (av (v:=.slice _ _ _) rfl) rfl
  constructor
  ·rintro-w20 D20;exact ao (av (v:=.int _ _) rfl) rfl
  constructor
  ·rintro-w21 D21;exact ao (av (v:=.int _ _) rfl) rfl
  constructor
  ·rintro-w22 D22;rintro _ rfl _ rfl;exact ao (bA rfl rfl (by omega)) rfl
  constructor
  ·rintro-w23 D23;rintro _ rfl _ rfl;exact ao (aR (l:=i+m) (h:=n+m) az rfl (.inr ⟨_,_,_,rfl,rfl,rfl⟩) (.inl ⟨rfl,rfl⟩) (by omega) (by omega)) rfl
  constructor
  ·rintro-w24 D24;exact ao (av (v:=.slice _ _ _) rfl) rfl
  constructor
  ·rintro-w25 D25;exact ao (av (v:=.int _ _) rfl) rfl
  constructor
  ·rintro-w26 D26;rintro _ rfl _ rfl;exact ao (aR (l:=i) (h:=n+m) az rfl (.inr ⟨_,_,_,rfl,rfl,rfl⟩) (.inl ⟨rfl,rfl⟩) (by omega) (by omega)) rfl
  exact trivial
 case hend=>
  intro w27 D27;rintro _ rfl _ rfl _ rfl _ rfl _ rfl _ rfl _ rfl _ rfl;show St ..;replace hbz:=bp hbz (al.grown D27 _);replace hbk:=hbk.from_ D27;have hvr2:=cj D27 hvr;refine eL (news:=xs.drop (i*14)) (g:=g) (o:=(i+m)*14) az rfl rfl (by rw [hdl];congr 1;omega) (fun h=>by rw [bK (by rw [hdl] at h;omega),Nat.zero_add]) (fun h=>⟨g,i*14,by rw [bK (by omega),Nat.zero_add],eN hbk hct⟩) hbk (by rw [hdl,hcl];omega) (fun v hv=>h1 v (List.mem_of_mem_drop hv)) ?_;intro w28 O77 P77;replace hbz:=bp hbz (bD.grown O77);refine ah (af (ag (ab (mvs rfl (mvi rfl (aa (aR (l:=i) (h:=n+m) az rfl (.inr ⟨_,_,_,rfl,rfl,rfl⟩) (.inl ⟨rfl,rfl⟩) (by omega) (by omega)) (mvs rfl ?_)))))));refine eL (news:=vs) (g:=g) (o:=i*14) az rfl rfl (by rw [hvl];congr 1;omega) (fun h=>by rw [bK (by omega),Nat.zero_add]) (fun h=>⟨b,vo,rfl,fun j v hv=>(O77.cell (Ne.symm hgb)).trans (hvr2 j v hv)⟩) P77 (by rw [hvl,bj _ _ _ (by rw [hdl,hcl];omega),hcl];omega) h1v ?_;intro w29 O82 P82;replace hbz:=bp hbz (bD.grown O82);refine ah (af (ag (ab (mvs rfl (ass rfl (ah (af (aA (bd (bu (v:=.slice _ _ _) rfl rfl ?_))))))))));have hct3:cur.take (i*14)=xs.take (i*14):=by rw [←hct,List.take_take,Nat.min_eq_left (by omega)]
  exact ⟨⟨_,_,rfl,ig hg P82 (by omega) hcm (by rw [bj _ _ _ (by rw [hvl,bj _ _ _ (by rw [hdl,hcl];omega),hcl];omega),bj _ _ _ (by rw [hdl,hcl];omega),hcl]) (iT hi (by omega) hcl hxl hct3 hvl).1⟩,hbz⟩
theorem iZ (A:Option Addr) (c n:Nat) (w:World) (hc:n≤c) (_:c≤9223372036854775807) :
 Rt prog 20 [.slice A n c,.int .i64 ((0:Nat):Int),.int .i64 ((0:Nat):Int)] w (fun v w'=>v=.slice A n c∧w=w'):=by
 refine enter (n:=33) Try.func20 rfl rfl rfl (ag (ab (ass rfl (ah (af (ag (ab (mvs rfl (mvi rfl (mvi rfl (mvs rfl (aa (bf bq rfl) ?_))))))))))));refine aa (gD (l:=0) (h:=0) (mx:=n) az rfl rfl rfl rfl (by omega) (by omega) (by omega)) (ah (af (ag (ag (ab (mvi rfl (mvi rfl (aa (kH (bz rfl rfl) rfl) (ah (af (fV rfl (ag (ab (mvs rfl ?_))))))))))))));refine ass rfl (ah (af (aA (bd (bu (v:=.slice _ _ _) rfl rfl (⟨rfl,rfl⟩))))))
theorem iR (x:Int) (w:World) :
 Rt prog 34 [.int .i64 x] w (fun v w'=>v=.bool false∧w=w'):=by
 refine enter (n:=6) Try.func34 rfl rfl rfl (ag (ab (asb rfl (ah (af (ag (ab (mvi rfl (mvi rfl (aa (fI (ia rfl rfl) (bne_self_eq_false _)) (asb rfl (ah (af (aA ?_))))))))))))));refine bu (v:=.bool _) rfl rfl (⟨rfl,rfl⟩)
theorem jG (x y:Int) (w:World) :
 Rt prog 30 [.int .i64 x,.int .i64 y] w (fun v w'=>v=.int .i64 (kl x y)∧w=w'):=by
 refine enter (n:=20) Try.func30 rfl rfl rfl (ag (ab (asi rfl (ah (af (ag (ab (mvi rfl (aC fk (iR x _) ?_)))))))));rintro v8 w1 ⟨rfl,rfl⟩;refine asb rfl (ah (af (ag (ab (mvi rfl (aC fk (iR y _) ?_))))));rintro v10 w2 ⟨rfl,rfl⟩;refine asb rfl (ah (af (ag (ag (ab (mvb rfl (ah (af (cB rfl (aE (af (ag (ag (ab (mvb rfl (ah (af (cB rfl ?_))))))))))))))))));refine aE (af (ag (ag (ab (mvi rfl (mvi rfl (aa (bC rfl rfl) (ah (af (m7 rfl (fun Q3=>?_) (fun Q3=>?_)))))))))))
 ·refine ag (ab (asi rfl (ah (af (aA (bd (bu (v:=.int _ _) rfl rfl (⟨aU ?_,rfl⟩))))))));unfold kl;split <;> (try split) <;> omega
 refine aE (af (ag (ag (ab (mvi rfl (mvi rfl (aa (dK rfl rfl) (ah (af (m7 rfl (fun Q4=>?_) (fun Q4=>?_)))))))))))
 ·refine ag (ab (asi rfl (ah (af (aA (bd (bu (v:=.int _ _) rfl rfl (⟨aU ?_,rfl⟩))))))));unfold kl;split <;> (try split) <;> omega
 refine aE (af (ag (ab (asi rfl (ah (af (aA (bu (v:=.int _ _) rfl rfl (⟨aU ?_,rfl⟩)))))))));unfold kl;split <;> (try split) <;> omega
theorem jW (p:Msg×Int) (t:Int) (w:World) :
 Rt prog 29 [.agg (cS p).toArray,.int .i64 t] w (fun v w'=>v=.int .i64 (jF p.2 t)∧al w w'):=by
 refine enter (n:=13) Try.func29 rfl rfl rfl (ag (ab (dg (v:=.agg _) rfl ?_)));intro b2 w1 E2 hb2 hk2;refine asi rfl (ah (af (ag (ag (ab (aa (ai eC rfl) (aa (aq ar rfl (by exact (hk2.from_ al.rfl_).rd 13 rfl)) ?_)))))));refine mvi rfl (aa (mq rfl rfl) (ah (af (m7 rfl (fun Q2=>?_) (fun Q2=>?_)))))
 ·refine ag (ab (asi rfl (ah (af (aA (bd (bu (v:=.int _ _) rfl rfl (⟨aU ?_,(al.rfl_.next E2)⟩))))))));unfold jF
  first
   |(rw [if_pos (by assumption)];done)
   |(rw [if_neg (by assumption)];unfold kl;rw [if_neg (by omega),if_pos (by omega)])
 refine aE (af (ag (ab (aa (ai eC rfl) (aa (aq ar rfl (by exact (hk2.from_ al.rfl_).rd 13 rfl)) ?_)))));refine mvi rfl (aC jb (jG p.2 t _) ?_);rintro v12 w3 ⟨rfl,rfl⟩;refine asi rfl (ah (af (aA (bu (v:=.int _ _) rfl rfl (⟨aU ?_,(al.rfl_.next E2)⟩)))));unfold jF
 first
  |(rw [if_pos (by assumption)];done)
  |(rw [if_neg (by assumption)];unfold kl;rw [if_neg (by omega),if_pos (by omega)])
theorem jV:aB prog 29=true:=by kernel_rfl
theorem j4 (A:Option Addr) (c:Nat) (L:aG) (w:World) (hr:lp w A L) (hl:L.length≤1000000) (t:Int) (hs:bg L) :
 Rt prog 28 [.slice A L.length c,.int .i64 t,.func (.func 29) #[] #[]] w (fun v w'=>(∃ i:Nat,v=.tuple #[.int .i64 (i:Nat),.bool false]∧Cut L t i)∧al w w'):=by
 refine enter (n:=49) Try.func28 rfl rfl rfl (ag (ab (asi rfl (asb rfl (ah (af (ag (ab (mvs rfl (aa (bf bq rfl) (asi rfl (ah (af (ag (ab ?_)))))))))))))));refine mvi rfl (asi rfl (asi rfl (ah (af (ag (aO (cg (G:=Nat×Nat) [11,15,16,17,18,19,20,21,22,23,24,25,26,27,28,29,30,31,32,33,34] (fun (i,j)=>[(9,.int .i64 (i:Nat)),(10,.int .i64 (j:Nat))]) (fun (i,j) w'=>i≤j∧j≤L.length∧(∀ x (hx:x<L.length),x<i→L[x].2≤t)∧(∀ x (hx:x<L.length),j≤x→t<L[x].2)∧al w w') (fun (i,j)=>j-i) ((0,L.length)) ⟨rfl,rfl,trivial⟩ ?_ ?_)))))))
 ·exact ⟨Nat.zero_le _,Nat.le_refl _,fun x _ h=>absurd h (by omega),fun x h1 h2=>absurd h1 (by omega),al.rfl_⟩
 rintro ⟨i,j⟩ ρ1 w1 ⟨hij,hjn,hlo,hhi,hB⟩;refine ag (ag (ab (mvi rfl (mvi rfl (aa (bC rfl rfl) (ah (af (m7 rfl (fun Q2=>?_) (fun Q2=>?_)))))))))
 ·obtain ⟨ba,oa,rfl,hcs⟩:=hr (by omega);refine aE (af (aO (ag (ab (mvi rfl (mvi rfl (aa (bA rfl rfl (by omega)) ?_)))))));obtain ⟨h,hh⟩:∃ h,h=(i+j)/2 ^ 1:=⟨_,rfl⟩;refine aa (gG eI eg rfl (by omega)) (aa (lH (b:=1) rfl rfl (by decide)) (aa (iJ fj fX rfl (by omega)) (fD (t:=23) (v:=.int _ _) (v':=.int .i64 (h:Nat)) rfl (by rw [hh]) ?_)));refine asi rfl (ah (af (ag (ab (aa (av (v:=.func _ _ _) rfl) (mvs rfl (mvi rfl (aa (aH az rfl rfl (by omega)) (aa (aP (cs:=cS L[h]) dy ct rfl (cj hB (hcs h (by omega)))) (mvi rfl (iG (caps:=[]) rfl jV (jW L[h] t _) ?_)))))))))));rintro v30 w3 ⟨rfl,E30⟩;refine aa (bC rfl rfl) (ah (af (m7 rfl (fun Q4=>?_) (fun Q4=>?_))))
  ·have h31:=jT.1 Q4;refine ab (mvi rfl (aa (bA (b:=1) rfl rfl (by omega)) (asi rfl (ah (aQ ?_)))));refine bL ((h+1,j)) ⟨(by first | rfl | (refine aU ?_;omega)),(by first | rfl | (refine aU ?_;omega)),trivial⟩ (by (iterate 45 refine a_ rfl ?_);exact bl) ⟨?_,?_⟩
   ·refine ⟨by omega,hjn,fun x hx hxi=>?_,hhi,(hB.next E30)⟩;rcases Nat.lt_or_ge x h with a | a
    ·have:=hs x h hx (by omega) a;omega
    ·obtain rfl:x=h:=by omega
     exact h31
   ·show j-(h+1)<j-i;omega
  have h31:¬ L[h].2≤t:=fun a=>absurd (jT.2 a) Q4
  refine ab (mvi rfl (asi rfl (ah (aQ ?_))));refine bL ((i,h)) ⟨(by first | rfl | (refine aU ?_;omega)),(by first | rfl | (refine aU ?_;omega)),trivial⟩ (by (iterate 44 refine a_ rfl ?_);exact bl) ⟨?_,?_⟩
  ·refine ⟨by omega,by omega,hlo,fun x hx hxi=>?_,(hB.next E30)⟩;rcases Nat.lt_or_ge h x with a | a
   ·have:=hs h x (by omega) hx a;omega
   ·obtain rfl:x=h:=by omega
    omega
  ·show h-i<j-i;omega
 refine bE (aN (aN (bk (af (ag (ab (mvi rfl (mvi rfl (mvi rfl (aa (bC rfl rfl) (mvb rfl (mM (t:=39) rfl (fun Q5=>?_) (fun Q5=>?_)))))))))))))
 ·obtain ⟨ba,oa,rfl,hcs⟩:=hr (by omega);refine ak rfl (aa (av (v:=.func _ _ _) rfl) (ak rfl (mvs rfl (ak rfl (mvi rfl (ak rfl (aa (aH az rfl rfl (by omega)) (ak rfl ?_))))))));refine aa (aP (cs:=cS L[i]) dy ct rfl (cj hB (hcs i (by omega)))) (ak rfl (mvi rfl (ak rfl (iG (caps:=[]) rfl jV (jW L[i] t _) ?_))));rintro v46 w6 ⟨rfl,E46⟩;refine ak rfl (aa (fI (bz rfl rfl) (beq_eq_false_iff_ne.2 k5)) (aa (bh (v:=.bool _) rfl rfl) (asi rfl (asb rfl (ah (af (aA (lK (v:=.int _ _) (v':=.bool _) rfl rfl rfl ?_))))))));obtain rfl:i=j:=by omega
  exact ⟨⟨i,rfl,hjn,hlo,hhi⟩,(hB.next E46)⟩
 refine ae rfl rfl (ae rfl rfl (ae rfl rfl (ae rfl rfl (ae rfl rfl (ae rfl rfl (ae rfl rfl (ae rfl rfl (aa (an (v:=.bool _) rfl rfl) ?_))))))));refine asi rfl (asb rfl (ah (af (aA (lK (v:=.int _ _) (v':=.bool _) rfl rfl rfl ?_)))));obtain rfl:i=j:=by omega
 exact ⟨⟨i,rfl,hjn,hlo,hhi⟩,hB⟩
structure nA (b:Nat) (r:Option Nat) (w w':World):Prop where
 os:w'.os=w.os
 tape:w'.tape=w.tape
 output:w'.output=w.output
 size:w.heap.size≤w'.heap.size
 block:∀ k,k<w.heap.size→k≠b→some k≠r→w'.heap[k]? =w.heap[k]?
def mP (A:Option Addr):Option Nat:=A.map (·.block)
def bB (w:World) (base b:Nat) (A:Option Addr) (c:Nat) (L:aG):Prop:=base≤b∧Blk w b 48 #[.slice A L.length c]∧w.ownsRow base 52 14 (.slice A L.length c) L.length (L.flatMap cS)
theorem bB.from_ {w w':World} {base b c:Nat} {A:Option Addr} {L:aG} (h:bB w base b A c L) (hF:al w w'):bB w' base b A c L:=⟨h.1,h.2.1.from_ hF,h.2.2.kept_from hF⟩
theorem bB.row {w:World} {base b c:Nat} {A:Option Addr} {L:aG} (h:bB w base b A c L):lp w A L:=(ee.own fv (by decide) h.2.2).2
def nm (w:World) (A A':Option Addr):Prop:=∀ i,mP A'=some i→mP A=some i∨w.heap.size≤i
theorem k9 (base b:Nat) (A:Option Addr) (c:Nat) (L:aG) (w:World) (hn:bB w base b A c L) (_:L.length≤1000000) :
 Rt prog 16 [.pointer (some ⟨b,0,none⟩)] w (fun v w'=>v=.int .i64 (L.length:Nat)∧w=w'):=by
 refine enter (n:=8) Try.func16 rfl rfl rfl (ag (ab (asi rfl (ah (af (ag (ab (mvp rfl (aa (ax rfl) (aa (ai bm rfl) (aa (aq cv rfl (by exact hn.2.1.rd 0 rfl)) ?_)))))))))));refine aa (bf bq rfl) (asi rfl (ah (af (aA (bu (v:=.int _ _) rfl rfl (⟨rfl,rfl⟩))))))
theorem k6 (base b:Nat) (A:Option Addr) (c:Nat) (L:aG) (w:World) (hn:bB w base b A c L) (hl:L.length≤1000000) (t:Int) (hs:bg L) :
 Rt prog 19 [.pointer (some ⟨b,0,none⟩),.int .i64 t] w (fun v w'=>(∃ i:Nat,v=.int .i64 (i:Nat)∧Cut L t i)∧al w w'):=by
 refine enter (n:=17) Try.func19 rfl rfl rfl (ag (ab (asi rfl (ah (af (ag (ab (mvp rfl (aa (ax rfl) (aa (ai bm rfl) (aa (aq cv rfl (by exact hn.2.1.rd 0 rfl)) ?_)))))))))));refine mvi rfl (aC jc (j4 A c L _ (hn.row.from_ al.rfl_) hl t hs) ?_);rintro v13 w1 ⟨⟨i,rfl,hcut⟩,E13⟩;refine mvt rfl (aa (cE rfl rfl) (aa (cE rfl rfl) (asi rfl (asb rfl (ah (af (ag (ab (mvi rfl (asi rfl (ah (af (aA ?_)))))))))))));refine bu (v:=.int _ _) rfl rfl (⟨⟨i,rfl,hcut⟩,(al.rfl_.next E13)⟩)
theorem bc (A:Option Addr) (c n:Nat) (xs:List Value) (w:World) (hx:xs.length=n*3) (hr:0<n→∃ b o,A=some ⟨b,o,none⟩∧w.rangeAt b o xs) (hn0:A=none→n=0∧c=0) (h1:∀ u∈xs,u.oneCell'=true) (hl:n≤100000000000) :
 Rt prog 32 [.slice A n c] w (fun v w'=>(∃ A' c',v=.slice A' n c'∧w'.ownsRow w.heap.size 60 3 (.slice A' n c') n xs)∧al w w'):=by
 refine enter (n:=8) Try.func32 rfl rfl rfl (ag (ab (ass rfl (ah (af (ag (ag (ab (mvs rfl (aa (js ja rfl rfl) (ah (af (aw rfl (fun Q1=>?_) (fun Q1=>?_))))))))))))))
 ·(try first | (replace Q1 := ir Q1; trace "@MK N bc:c4+ 1.1") | (replace Q1 := iu Q1; trace "@MK N bc:c4+ 1.2"))
  (try first | (replace Q1 := l4 Q1; trace "@MK N bc:c4+ 2.1") | (replace Q1 := l5 Q1; trace "@MK N bc:c4+ 2.2") | (replace Q1 := cC Q1; trace "@MK N bc:c4+ 2.3") | (replace Q1 := cD Q1; trace "@MK N bc:c4+ 2.4") | (replace Q1 := dT_ Q1; trace "@MK N bc:c4+ 2.5") | (replace Q1 := dF_ Q1; trace "@MK N bc:c4+ 2.6"))
  obtain rfl:A=none:=Option.isNone_iff_eq_none.1 Q1;obtain ⟨rfl,rfl⟩:=hn0 rfl;obtain rfl:xs=[]:=List.eq_nil_of_length_eq_zero (by omega);refine ag (ab (ass rfl (ah (af (aA (bd (bu (v:=.slice _ _ _) rfl rfl (⟨⟨none,0,rfl,World.ownsRow_nil _ _ _ _⟩,al.rfl_⟩))))))))
 (try first | (replace Q1 := ir Q1; trace "@MK N bc:c4- 1.1") | (replace Q1 := iu Q1; trace "@MK N bc:c4- 1.2"))
 (try first | (replace Q1 := l4 Q1; trace "@MK N bc:c4- 2.1") | (replace Q1 := l5 Q1; trace "@MK N bc:c4- 2.2") | (replace Q1 := cC Q1; trace "@MK N bc:c4- 2.3") | (replace Q1 := cD Q1; trace "@MK N bc:c4- 2.4") | (replace Q1 := dT_ Q1; trace "@MK N bc:c4- 2.5") | (replace Q1 := dF_ Q1; trace "@MK N bc:c4- 2.6"))
 have hA4:A=none→c=0:=fun h=>by rw [h] at Q1;cases Q1
 refine aE (af (ag (ab (eK cu _ (al.rfl_.size) ?_))));intro b5 w2 E5 hb5 ho5;refine mvs rfl ?_;refine eU (a0:=w) cu rfl (by decide) rfl ho5 (al.rfl_.next E5) rfl hx (fun h=>(let ⟨b,o,hA,hc⟩:=hr h;⟨b,o,hA,cj (al.rfl_.next E5) hc⟩)) hA4 h1 (by omega) (by omega) ?_;intro A7 c7 w3 ho7 B7 hg7;refine ass rfl (ah (af (aA (bu (v:=.slice _ _ _) rfl rfl (⟨⟨A7,c7,by rw [Nat.zero_add],by simpa using ho7⟩,B7⟩)))))
def pl (x:Msg):Msg:={ x with E:=none,c:=0 }
def plP (L:aG):aG:=L.map fun p=>(pl p.1,p.2)
theorem cK (L:aG):(plP L).length=L.length:=by simp [plP]
theorem ic {L:aG} {i:Nat} (h:i<L.length):(plP L)[i]'(by rw [cK];exact h)=(pl L[i].1,L[i].2):=by simp [plP]
theorem jx {L:aG}:bg (plP L)↔bg L:=by
 unfold bg;constructor
 ·intro h i j hi hj hij;have:=h i j (by rw [cK];exact hi) (by rw [cK];exact hj) hij
  rwa [ic hi,ic hj] at this
 ·intro h i j hi hj hij;rw [cK] at hi hj;rw [ic hi,ic hj];exact h i j hi hj hij
def dB (x:Msg):Option Nat:=x.E.map (·.block)
def Ap (x y:Msg):Prop:=∀ k,dB x=some k→dB y≠some k
theorem Ap.symm {x y:Msg} (h:Ap x y):Ap y x:=fun k a b=>h k b a
def E1 (w:World) (base:Nat) (x:Msg):Prop:=w.ownsRow base 60 3 (.slice x.E x.es.length x.c) x.es.length (db x.es)
theorem E1.from_ {w w':World} {base:Nat} {x:Msg} (h:E1 w base x) (hF:al w w'):E1 w' base x:=h.kept_from hF
theorem E1.ents {w:World} {base:Nat} {x:Msg} (h:E1 w base x):cw w (.slice x.E x.es.length x.c) x.es:=cw.of_own h rfl
theorem E1.at {w:World} {base:Nat} {x:Msg} (h:E1 w base x):∀ k,dB x=some k→base≤k∧k<w.heap.size:=fun k hk=>aS h k hk
theorem E1.off {w:World} {base g t:Nat} {x:Msg} {cs:Array Value} (h:E1 w base x) (hb:Blk w g t cs) (ht:t≠60):dB x≠some g:=fun e=>aD h hb ht g e rfl
theorem kZ {w:World} {A:Option Addr} {n c:Nat} {es:List Ent} (h:cw w (.slice A n c) es):n=es.length∧(0<n→∃ b o,A=some ⟨b,o,none⟩∧w.rangeAt b o (db es))∧(A=none→n=0∧c=0):=by
 have h':=h;obtain ⟨A',c',hv,h1,h2,h3,hp⟩:=h;simp only [Value.slice.injEq] at hv;obtain ⟨rfl,rfl,rfl⟩:=hv;refine ⟨rfl,fun h0=>?_,fun h0=>?_⟩
 ·obtain ⟨b,o,hA,_,_⟩:=hp h0;exact ⟨b,o,hA,fun j v hv=>by have:=h'.cellV hA j v hv;rwa [Addr.add_mid] at this⟩
 ·have:=h3 h0;omega
def EOK (w:World) (base:Nat) (L:List Msg):Prop:=(∀ x∈L,E1 w base x)∧L.Pairwise Ap
theorem EOK.from_ {w w':World} {base:Nat} {L:List Msg} (h:EOK w base L) (hF:al w w'):EOK w' base L:=⟨fun x hx=>(h.1 x hx).from_ hF,h.2⟩
structure Ch (U:Nat→Prop) (w w':World):Prop where
 os:w'.os=w.os
 tape:w'.tape=w.tape
 output:w'.output=w.output
 size:w.heap.size≤w'.heap.size
 block:∀ k,k<w.heap.size→¬ U k→w'.heap[k]? =w.heap[k]?
section
variable {U V:Nat→Prop} {w w1 w':World}
theorem Ch.of_from (h:al w w'):Ch U w w':=⟨h.os,h.tape,h.output,h.size,fun k hk _=>h.block k hk⟩
theorem Ch.of_only {g:Nat} (h:bD g w w') (hg:U g):Ch U w w':=⟨h.os,h.tape,h.output,by rw [h.size];exact Nat.le_refl _,fun k _ hk=>h.block k (fun e=>hk (e ▸ hg))⟩
theorem Ch.of_grown {r:Option Nat} (h:w.grownBy w' r) (hg:∀ k,r=some k→U k):Ch U w w':=⟨h.os,h.tape,h.output,h.size,fun k hk hn=>h.block k hk (fun e=>hn (hg k e.symm))⟩
theorem Ch.trans (h:Ch U w w1) (k:Ch U w1 w'):Ch U w w':=
 ⟨k.os.trans h.os,k.tape.trans h.tape,k.output.trans h.output,Nat.le_trans h.size k.size,fun i hi hn=>(k.block i (Nat.lt_of_lt_of_le hi h.size) hn).trans (h.block i hi hn)⟩
theorem Ch.from_ {a:World} (h:al a w) (k:Ch U w w') (hU:∀ i,U i→a.heap.size≤i):al a w':=
 ⟨k.os.trans h.os,k.tape.trans h.tape,k.output.trans h.output,Nat.le_trans h.size k.size,fun i hi=>(k.block i (Nat.lt_of_lt_of_le hi h.size) (fun e=>by have:=hU i e;omega)).trans (h.block i hi)⟩
theorem Blk.ch {g:Nat} {t:TypeId} {cs:Array Value} (h:Blk w g t cs) (k:Ch U w w') (hg:¬ U g):Blk w' g t cs:=(k.block g h.lt hg).trans h
theorem dM {base e s n c:Nat} {A:Option Addr} {xs:List Value} (h:w.ownsRow base e s (.slice A n c) n xs) (k:Ch U w w') (hg:∀ q,A.map (·.block)=some q→¬ U q):w'.ownsRow base e s (.slice A n c) n xs:=by
 refine ⟨h.1,?_⟩;rcases h.2 with h0 | ⟨g,cap,cur,h1,h2,h3,h4⟩
 ·exact .inl h0
 ·refine .inr ⟨g,cap,cur,h1,h2,?_,h4⟩;simp only [Value.slice.injEq] at h1;exact Blk.ch (t:=e) (cs:=cur) h3 k (hg g (by rw [h1.1];rfl))
theorem E1.ch {base:Nat} {x:Msg} (h:E1 w base x) (k:Ch U w w') (hg:∀ q,dB x=some q→¬ U q):E1 w' base x:=dM h k hg
end
theorem ki {es:List Ent} {k:Nat} (h:k<es.length):db (es.take k)++[.int .i64 es[k].i,.int .i64 es[k].t,.string es[k].d]=db (es.take (k+1)):=by
 rw [List.take_succ_eq_append_getElem h,iY];rfl
theorem my {w:World} {b o:Nat} {x y z:Value} (h0:w.cell? ⟨b,o,none⟩=some x) (h1:w.cell? ⟨b,o+1,none⟩=some y) (h2:w.cell? ⟨b,o+2,none⟩=some z):w.rangeAt b o [x,y,z]:=fun j v hv=>by
 match j,hv with
 |0,hv=>cases hv;exact h0
 |1,hv=>cases hv;exact h1
 |2,hv=>cases hv;exact h2
 |j+3,hv=>simp at hv
theorem eZ {w:World} {A:Option Addr} {n c:Nat} {es:List Ent} (h:cw w (.slice A n c) es) (hn:0<es.length):∃ b o,A=some ⟨b,o,none⟩∧∀ i (hi:i<es.length),w.rangeAt b (o+i*3) [.int .i64 es[i].i,.int .i64 es[i].t,.string es[i].d]:=by
 obtain ⟨A',c',hv,_,_,_,hp⟩:=h;simp only [Value.slice.injEq] at hv;obtain ⟨rfl,_,_⟩:=hv;obtain ⟨b,o,hA,_,hc⟩:=hp hn;exact ⟨b,o,hA,fun i hi=>my (hc i hi).1 (hc i hi).2.1 (hc i hi).2.2⟩
theorem k_ (E:Option Addr) (n c:Nat) (es:List Ent) (w:World) (hn:n=es.length) (he:cw w (.slice E n c) es) (hl:es.length≤1000000000) :
 Rt prog 22 [.slice E n c] w (fun v w'=>(∃ A' c',v=.slice A' es.length c'∧w'.ownsRow w.heap.size 60 3 (.slice A' es.length c') es.length (db es))∧al w w'):=by
 refine enter (n:=19) Try.func22 rfl rfl rfl (ag (ab (ass rfl (ah (af (ag (ab (ass rfl (ah (af (ag (ag (ab (asi rfl (ah (af (aO (cg (G:=Nat×Option Addr×Nat) [5,6,7,8,9,10,11,12,13,14,15,16,17] (fun (k,A3,c3)=>[(3,.slice A3 k c3),(4,.int .i64 (k:Nat))]) (fun (k,A3,c3) w'=>k≤es.length∧w'.ownsRow w.heap.size 60 3 (.slice A3 k c3) k (db (es.take k))∧al w w') (fun (k,_,_)=>es.length-k) ((0,none,0)) ⟨rfl,rfl,trivial⟩ ?_ ?_))))))))))))))))))
 ·exact ⟨Nat.zero_le _,World.ownsRow_nil _ _ _ _,al.rfl_⟩
 rintro ⟨k,A3,c3⟩ ρ1 w1 ⟨hk,ho3,hB⟩;refine ag (ag (ab (mvi rfl (mvs rfl (aa (bf cc rfl) (aa (bC rfl rfl) (ah (af (m7 rfl (fun Q2=>?_) (fun Q2=>?_))))))))))
 ·have hkl:k<es.length:=by omega
  obtain ⟨ba,oa,hA,hcs⟩:=eZ he (by omega);subst hA;refine aE (af (ag (aO (ab (mvs rfl (mvs rfl (mvi rfl (aa (cy cT rfl rfl (by omega)) (aa (aP (cs:=[.int .i64 (es[k]'hkl).i,.int .i64 (es[k]'hkl).t,.string (es[k]'hkl).d]) eh dv rfl (cj hB (hcs k hkl))) ?_)))))))));refine dA (l:=[(0,.tmp 15)]) (cells:=[.int .i64 (es[k]'hkl).i,.int .i64 (es[k]'hkl).t,.string (es[k]'hkl).d].toArray) cu rfl rfl (by show Instr.fill _ _ [(0,Value.agg [.int .i64 (es[k]'hkl).i,.int .i64 (es[k]'hkl).t,.string (es[k]'hkl).d].toArray)]=_;kernel_rfl) ?_;intro b16 w3 E16 hb16 hk16;refine eU (a0:=w) (news:=[.int .i64 (es[k]'hkl).i,.int .i64 (es[k]'hkl).t,.string (es[k]'hkl).d]) cu rfl (by decide) rfl (ho3.kept_from (al.rfl_.next E16)) (hB.next E16) rfl rfl (fun _=>⟨b16,0,rfl,hk16.whole⟩) (fun h=>by cases h) (by simp [Value.oneCell']) (by omega) (by omega) ?_;intro A17 c17 w4 ho17 B17 hg17;refine ass rfl (ah (aQ (af (ab (mvi rfl (aa (bG rfl rfl (by omega)) (asi rfl (ah ?_))))))));refine bL ((k+1,A17,c17)) ⟨(by first | rfl | (refine aU ?_;omega)),(by first | rfl | (refine aU ?_;omega)),trivial⟩ (by (iterate 30 refine a_ rfl ?_);exact bl) ⟨?_,?_⟩
  ·exact ⟨by omega,by rw [←ki hkl];exact ho17,B17⟩
  ·show es.length-(k+1)<es.length-k;omega
 refine bE (aN (aN (bk (af (ag (ab (mvs rfl (ass rfl (ah (af (aA (bu (v:=.slice _ _ _) rfl rfl ?_))))))))))));obtain rfl:k=es.length:=by omega
 rw [List.take_length] at ho3;exact ⟨⟨A3,c3,rfl,ho3⟩,hB⟩
theorem i_ (x:Msg) (w:World) (he:cw w (.slice x.E x.es.length x.c) x.es) (hl:x.es.length≤1000000000) :
 Rt prog 12 [.agg (aM x).toArray] w (fun v w'=>(∃ A' c',v=.agg (aM { x with E:=A',c:=c' }).toArray∧E1 w' w.heap.size { x with E:=A',c:=c' })∧al w w'):=by
 refine enter (n:=10) Try.func12 rfl rfl rfl (ag (ab (dg (v:=.agg _) rfl ?_)));intro b1 w1 E1 hb1 hk1;refine dD ef ?_;intro b2 w2 E2 hb2 hk2;have hg2:w.heap.size≤b2:=by rw [hb2];exact ((al.rfl_.next E1)).size
 replace hk1:=hk1.from_ E2;refine ah (af (ag (ab (aa (aP (cs:=aM x) aI ay rfl hk1.whole) (dD ef ?_)))));intro b3 w3 E3 hb3 hk3;have hg3:w.heap.size≤b3:=by rw [hb3];exact (((al.rfl_.next E1).next E2)).size
 have h23:b2≠b3:=by have:=hk2.lt;omega
 have h13:b1≠b3:=by have:=hk1.lt;omega
 replace hk1:=hk1.from_ E3;replace hk2:=hk2.from_ E3;refine ej (vs:=[_,_,_,_,_,_,_,_,_,_,_,_,_]) ay rfl rfl (by simp [Value.oneCell']) (hk3) rfl ?_;intro w4 O1 P1;replace hk1:=hk1.only O1 h13;replace hk2:=hk2.only O1 h23;have hz1:=(((((al.rfl_.next E1).next E2).next E3).only O1 (hg3))).size;refine ah (af (ag (ab (aa (ai bn rfl) (aa (aq cd rfl (by exact hk1.rd 9 rfl)) ?_)))));refine aC jd (k_ x.E x.es.length x.c x.es _ rfl (he.from_ ((((al.rfl_.next E1).next E2).next E3).only O1 (hg3))) hl) ?_;rintro v7 w5 ⟨⟨A7,c7,rfl,ho7⟩,E7⟩;refine aa (ai bn rfl) (dG (v:=.slice _ _ _) fi rfl rfl rfl ((P1.from_ (al.rfl_.next E7))) (by show 0+9<13;decide) ?_);intro w6 O2 P2;replace hk2:=(hk2.from_ E7).only O2 h23;replace ho7:=aL ho7 O2 (aD ho7 (P1.from_ E7) (by decide));refine ah (af (ag (ab (aa (aP (cs:=aM { x with E:=A7,c:=c7 }) aI ay rfl P2.whole) (ej (vs:=[_,_,_,_,_,_,_,_,_,_,_,_,_]) ay rfl rfl (by simp [Value.oneCell']) (hk2) rfl ?_)))));intro w7 O3 P3;replace ho7:=aL ho7 O3 (aD ho7 hk2 (by decide));refine ah (af (aA (mQ rfl (kD (cs:=[_,_,_,_,_,_,_,_,_,_,_,_,_]) aI ay rfl (by exact P3.whole)) ?_)));exact ⟨⟨A7,c7,rfl,cW ho7 hz1⟩,(((((((al.rfl_.next E1).next E2).next E3).only O1 (hg3)).next E7).only O2 (hg3)).only O3 (hg2))⟩
end Go.Proofs.Ytinogeaabocbkaa
namespace Go.Proofs.Ytinogeaabocbkaa
open Go.Proofs.Try (prog)
open Go.RowKit
def fg (l:List Oper) (K mu i:Nat):Bool:=Nat.blt mu K&&match l[mu]? with | some om=>eR l om i | none=>false
theorem fU {l:List Oper} {K mu i:Nat} (h:fg l K mu i=true):mu<K∧∃ om,l[mu]? =some om∧eR l om i=true:=by
 unfold fg at h;rw [Bool.and_eq_true] at h;refine ⟨Nat.le_of_ble_eq_true h.1,?_⟩;have h2:=h.2;split at h2
 ·rename_i om hom;exact ⟨om,hom,h2⟩
 ·cases h2
def eH (P:Program) (ops:Array Oper) (n:Fr) (L:List (Nat×Value)) (I1 I2:World→Prop) (R1 R2:Nat→Value→World→Prop) (l0:List Oper) (K:Nat) (mu:Nat):Nat→List Oper→Prop
 |_,[]=>True
 |i,o::r=>(Nat.beq i mu=false→match fg l0 K mu i with
   |true=>∀ w',I1 w'→dU R1 w' (b0 l0 K i o) fun M=>au P ops n (M++L) o w' (R1 (o.dst.getD 0))
   |false=>∀ w',I2 w'→dU R2 w' (b0 l0 K i o) fun M=>au P ops n (M++L) o w' (R1 (o.dst.getD 0)))∧eH P ops n L I1 I2 R1 R2 l0 K mu (i+1) r
theorem eX {P:Program} {ops:Array Oper} {n:Fr} {L:List (Nat×Value)} {I1 I2:World→Prop} {R1 R2:Nat→Value→World→Prop} {l0:List Oper} {K mu:Nat}:∀ {l:List Oper} {k:Nat},eH P ops n L I1 I2 R1 R2 l0 K mu k l→∀ (i:Nat) (o:Oper),l[i]? =some o→k+i≠mu→
 match fg l0 K mu (k+i) with
  |true=>∀ w',I1 w'→dU R1 w' (b0 l0 K (k+i) o) fun M=>au P ops n (M++L) o w' (R1 (o.dst.getD 0))
  |false=>∀ w',I2 w'→dU R2 w' (b0 l0 K (k+i) o) fun M=>au P ops n (M++L) o w' (R1 (o.dst.getD 0))
 |[],_,_,i,o,h,_=>by simp at h
 |x::r,k,⟨h1,h2⟩,0,o,h,hne=>by
  simp only [List.getElem?_cons_zero,Option.some.injEq] at h;subst h;rw [Nat.add_zero] at hne ⊢;refine h1 ?_;rw [←Bool.not_eq_true];intro hb;exact hne (Nat.eq_of_beq_eq_true hb)
 |x::r,k,⟨h1,h2⟩,i+1,o,h,hne=>by
  have:=eX h2 i o (by simpa using h) (by omega)
  rwa [show k+1+i=k+(i+1) by omega] at this
theorem fL {P:Program} {ops:Array Oper} {n:Fr} {L:List (Nat×Value)} {I1 I2:World→Prop} {R1 R2:Nat→Value→World→Prop} {l0:List Oper} {K mu:Nat} {l:List Oper} (h:eH P ops n L I1 I2 R1 R2 l0 K mu 0 l) (i:Nat) (o:Oper) (ho:l[i]? =some o) (hne:i≠mu) (hd:fg l0 K mu i=false)
 (w':World) (hw:I2 w'):dU R2 w' (b0 l0 K i o) fun M=>au P ops n (M++L) o w' (R1 (o.dst.getD 0)):=by
 have:=eX h i o ho (by rw [Nat.zero_add];exact hne);rw [Nat.zero_add,hd] at this;exact this w' hw
theorem jy {P:Program} {ops:Array Oper} {n:Fr} {L:List (Nat×Value)} {I1 I2:World→Prop} {R1 R2:Nat→Value→World→Prop} {l0:List Oper} {K mu:Nat} {l:List Oper} (h:eH P ops n L I1 I2 R1 R2 l0 K mu 0 l) (i:Nat) (o:Oper) (ho:l[i]? =some o) (hne:i≠mu) (hd:fg l0 K mu i=true)
 (w':World) (hw:I1 w'):dU R1 w' (b0 l0 K i o) fun M=>au P ops n (M++L) o w' (R1 (o.dst.getD 0)):=by
 have:=eX h i o ho (by rw [Nat.zero_add];exact hne);rw [Nat.zero_add,hd] at this;exact this w' hw
section late
variable {P:Program} {Q:Exit→Act→World→Prop} {n:Fr} {L:List (Nat×Value)} {w:World} {l:List Oper} {K mu:Nat} {I1 I2:World→Prop} {R1 R:Nat→Value→World→Prop}
theorem gM (hQ:PQ Q) (hc:eB l K=true) (hop:eH P l.toArray n L I1 I2 R1 R l K mu 0 (l.take K)) (h12:∀ t v w,R1 t v w→R t v w) (hmuL:mu<K→br l K mu=false)
 (hend:∀ w',I2 w'→dU R w' (dt l K) fun M=>St P l.toArray Q (l.drop K) n (M++L) w') (m:Nat) (listed:Array Bool) (L':List (Nat×Value)) (w':World) (hcl:cO l listed) (hcount:listed.toList.count false=m) (hs:listed.size=l.length)
 (htail:∀ j,K≤j→j<l.length→listed.getD j true=false) (hF:I2 w')
 (hfr:∀ t,(∀ i o,i<K→l[i]? =some o→listed.getD i true=true→o.dst≠some t)→aJ L' t=aJ L t)
 (hR:∀ i o d,i<K→l[i]? =some o→listed.getD i true=true→o.dst=some d→R d (aJ L' d) w') (hpre:∀ i,i<K→listed.getD i true=false→br l K i=true):wpAny P .any l.toArray Q m listed (mkA n L') w':=by
 have hc1:=(Bool.and_eq_true_iff.1 hc).1;have hlate:=(Bool.and_eq_true_iff.1 hc).2;have hKl:K≤l.length:=dT_ (Bool.and_eq_true_iff.1 hc1).1;have hck:=(List.all_eq_true.1 (Bool.and_eq_true_iff.1 hc1).2)
 have hhead:∀ i,i<K→∃ o d,l[i]? =some o∧o.dst=some d∧bo o.op=false∧(∀ j oj,j<K→j≠i→l[j]? =some oj→oj.dst≠some d):=by
  intro i hi;have hil:i<l.length:=by omega
  have hx:=hck i (List.mem_range.2 hil);rw [List.getElem?_eq_getElem hil] at hx;simp only [Bool.and_eq_true] at hx;have h3:=hx.2;rw [if_pos hi] at h3;simp only [Bool.and_eq_true] at h3;obtain ⟨h3a,h3b⟩:=h3;cases hod:(l[i]).dst with
  |none=>rw [hod] at h3a;cases h3a
  |some d=>
   rw [hod] at h3a;simp only [Bool.and_eq_true] at h3a;refine ⟨l[i],d,List.getElem?_eq_getElem hil,hod,by simpa using hx.1.2,fun j oj hj hne hoj e=>?_⟩;have h5:=List.all_eq_true.1 h3a.1 j (List.mem_range.2 hj);rw [hoj] at h5;simp [hne,e] at h5
 have hval:∀ i,i<K→listed.getD i true=false→∃ v,∀ o d,l[i]? =some o→o.dst=some d→Yields P l.toArray o v (mkA n L')∧R d v w':=by
  intro i hi hf;have hil8:=hpre i hi hf;obtain ⟨o,d,ho,hd,hsel,_⟩:=hhead i hi;obtain ⟨hk,hg,hap⟩:=dk hlate hi ho hil8
  have hfact:∀ t∈b0 l K i o,R t (aJ L' t) w':=by
   intro t ht;obtain ⟨ht2,j,oj,hjK,hj,hdj,hji,_⟩:=dr hc hi ho ht;refine hR j oj t hjK hj ?_ hdj;cases hb:listed.getD j true with
   |true=>rfl
   |false=>
    have h6:=hpre j hjK hb;have h7:=(Oper.apart_spec (hap j oj hj (by omega) (.inl ⟨hjK,h6⟩))).2.2 t hdj;exact absurd (by simpa using ht2) h7
  have hlooks:=iq (L:=L) hc hcl hs ho (by omega) hf hfr
  have hnd:fg l K mu i=false:=by
   rw [←Bool.not_eq_true];intro hd;obtain ⟨hmK,om,hom,hdep⟩:=fU hd
   have hml:listed.getD mu true=true:=by
    cases hb:listed.getD mu true with
    |true=>rfl
    |false=>exact absurd (hpre mu hmK hb) (by rw [hmuL hmK];simp)
   have hml2:listed.getD mu false=true:=by rw [←aF (by omega)];exact hml
   have:=bT hcl (fun e he hb=>hcl mu om hom hml2 e he hb) hdep;rw [←aF (by omega),hf] at this;cases this
  have hok:=cN (aJ L') _ hfact (fL hop i o (by rw [List.getElem?_take,if_pos hi];exact ho) (by intro e;rw [e,hmuL (by omega)] at hil8;cases hil8) hnd w' hF);obtain ⟨hE,hW⟩:=cM (n:=n) (ops:=l.toArray) (o:=o) hsel hlooks;rw [hd] at hok;simp only [Option.getD_some] at hok
  have hyl:∃ v,Yields P l.toArray o v (mkA n L')∧R d v w':=by
   unfold au at hok;rw [hE,hW] at hok;rcases hok with ⟨hw,⟨v,w'',hr,hF',hRv⟩ | ⟨f,args,hr,hcall⟩⟩ | ⟨hw,hRv⟩
   ·obtain ⟨rfl,hall⟩:=iQ hk hr;refine ⟨v,.inl ⟨hw,fun w2=>?_⟩,h12 _ _ _ hRv⟩;rw [aV];exact hall w2
   ·exfalso;obtain ⟨dst,op,ty,pos,after,guard⟩:=o;cases op <;> simp only [fP,Bool.false_eq_true] at hk <;> simp only [execOp,Sem.run_pure,Sem.run_bind,Result.ok.injEq] at hr
    ·cases hr.1
    ·cases hr.1
    ·rename_i x i';cases hx:ev n L' x <;> simp only [hx,Instr.extract] at hr <;> (try (simp at hr;done))
     rename_i vs;cases hv:vs[i']? <;> simp [hv] at hr
   ·exact ⟨undef,.inr ⟨hw,rfl⟩,h12 _ _ _ hRv⟩
  obtain ⟨v,hv1,hv2⟩:=hyl;refine ⟨v,fun o' d' ho' hd'=>?_⟩;rw [ho] at ho';cases ho';rw [hd] at hd';cases hd';exact ⟨hv1,hv2⟩
 obtain ⟨f,hf⟩:∃ f:Nat→Value,∀ i,i<K→listed.getD i true=false→∀ o d,l[i]? =some o→o.dst=some d→Yields P l.toArray o (f i) (mkA n L')∧R d (f i) w':=by
  refine ⟨fun i=>open Classical in if h:∃ v,∀ o d,l[i]? =some o→o.dst=some d→Yields P l.toArray o v (mkA n L')∧R d v w' then h.choose else undef,fun i hi hl=>?_⟩;have h:=hval i hi hl;simp only [dif_pos h];exact h.choose_spec
 have hUm:∀ i,i∈(List.range K).filter (fun i=> !listed.getD i true)↔i<K∧listed.getD i true=false:=fun i=>by
  rw [List.mem_filter,List.mem_range];simp
 obtain ⟨U,hU,hUn⟩:∃ U:List Nat,(∀ i,i∈U↔i<K∧listed.getD i true=false)∧U.Nodup:=⟨_,hUm,List.nodup_range.sublist (List.filter_sublist ..)⟩;have hbind:∀ {i:Nat} {o:Oper},l[i]? =some o→(l[i]?).bind (·.dst)=o.dst:=fun h=>by rw [h];rfl
 have hRall:∀ d∈dt l K,R d (aJ ((U.filterMap fun i=>((l[i]?).bind (·.dst)).map fun d=>(d,f i))++L') d) w':=by
  intro d hd;obtain ⟨o,ho,hod⟩:=List.mem_filterMap.1 hd;obtain ⟨i,hi⟩:=List.mem_iff_getElem?.1 ho;rw [List.getElem?_take] at hi;split at hi
  ·rename_i hiK;obtain ⟨o',d',ho',hd',_,hdist⟩:=hhead i hiK;rw [hi] at ho';cases ho';rw [hod] at hd';cases hd'
   have hne:∀ j∈U,j≠i→(l[j]?).bind (·.dst)≠some d:=fun j hj hji=>by
    have hjK:=((hU j).1 hj).1;obtain ⟨oj,dj,hoj,_⟩:=hhead j hjK;rw [hbind hoj];exact hdist j oj hjK hji hoj
   cases hb:listed.getD i true with
   |true=>
    rw [dd U fun j hj=>hne j hj (fun e=>by subst e;have:=((hU j).1 hj).2;rw [hb] at this;cases this)];exact hR i o d hiK hi hb hod
   |false=>
    rw [dQ U ((hU i).2 ⟨hiK,hb⟩) ((hbind hi).trans hod) hne];exact (hf i hiK hb o d hi hod).2
  ·cases hi
 have he:=cN _ (dt l K) hRall (hend w' hF)
 have hL:mkA n ((dt l K).map (fun d=>(d,aJ ((U.filterMap fun i=>((l[i]?).bind (·.dst)).map fun d=>(d,f i))++L') d))++L)=c_ l f U (mkA n L'):=by
  rw [fJ];refine dE fun t _=>?_
  rw [fO];split
  ·rfl
  ·rename_i hne
   have hnd:∀ i,i<K→∀ o,l[i]? =some o→o.dst≠some t:=fun i hi o ho hod=>hne (by
    simp only [List.elem_eq_mem,decide_eq_true_eq];exact List.mem_filterMap.2 ⟨o,List.mem_iff_getElem?.2 ⟨i,by rw [List.getElem?_take,if_pos hi];exact ho⟩,hod⟩)
   rw [dd U fun j hj=>by
    have hjK:=((hU j).1 hj).1;obtain ⟨oj,dj,hoj,_⟩:=hhead j hjK;rw [hbind hoj];exact hnd j hjK oj hoj]
   exact (hfr t fun i o hi ho _ hod=>hnd i hi o ho hod).symm
 replace he:=he.out;rw [hL] at he;refine fB hQ hc m K listed U _ w' hcl hcount hs (Nat.le_refl _) hKl (fun j h1 h2=>by rw [htail j h1 h2];simp [h1]) hUn (fun j hj=>⟨fun h=>(hU j).2 ⟨hj,h⟩,fun h=>((hU j).1 h).2⟩) (fun j hj=>?_) he;obtain ⟨h1,h2⟩:=(hU j).1 hj;obtain ⟨oj,dj,hoj,hdj,_⟩:=hhead j h1;exact ⟨h1,hpre j h1 h2,oj,hoj,(hf j h1 h2 oj dj hoj hdj).1⟩
theorem kR (hQ:PQ Q) (hc:eB l K=true) (hm1:∀ w1 w2,al w1 w2→I1 w1→I1 w2) (hm2:∀ w1 w2,al w1 w2→I2 w1→I2 w2) (hmono1:∀ t v w1 w2,al w1 w2→R1 t v w1→R1 t v w2) (hmono:∀ t v w1 w2,al w1 w2→R t v w1→R t v w2)
 (hop:eH P l.toArray n L I1 I2 R1 R l K mu 0 (l.take K)) (h12:∀ t v w,R1 t v w→R t v w) (hmuL:mu<K→br l K mu=false) (hmu:l_ P l.toArray n L I1 I2 R1 R l K mu l[mu]?)
 (hend:∀ w',I2 w'→dU R w' (dt l K) fun M=>St P l.toArray Q (l.drop K) n (M++L) w') :
 ∀ (m:Nat) (listed:Array Bool) (L':List (Nat×Value)) (w':World),cO l listed→listed.toList.count false=m→listed.size=l.length→(∀ j,K≤j→j<l.length→listed.getD j true=false)→I2 w'→(listed.getD mu true=false→I1 w')→
  (∀ t,(∀ i o,i<K→l[i]? =some o→listed.getD i true=true→o.dst≠some t)→aJ L' t=aJ L t)→
  (∀ i o d,i<K→l[i]? =some o→listed.getD i true=true→o.dst=some d→R d (aJ L' d) w')→(listed.getD mu true=false→∀ i o d,i<K→l[i]? =some o→listed.getD i true=true→o.dst=some d→R1 d (aJ L' d) w')→wpAny P .any l.toArray Q m listed (mkA n L') w':=by
 have hc1:=(Bool.and_eq_true_iff.1 hc).1;have hlate:=(Bool.and_eq_true_iff.1 hc).2;have hKl:K≤l.length:=dT_ (Bool.and_eq_true_iff.1 hc1).1;have hck:=(List.all_eq_true.1 (Bool.and_eq_true_iff.1 hc1).2);intro m
 induction m with
 |zero=>
  intro listed L' w' hcl hcount hs htail hF hF1 hfr hR hR1
  exact gM hQ hc hop h12 hmuL hend 0 listed L' w' hcl hcount hs htail hF hfr hR (fun i hi h=>by
   have hm:listed[i]'(by omega)∈listed.toList:=by simp
   have hb:listed[i]'(by omega)=false:=by simpa [Array.getD,show i<listed.size by omega] using h
   rw [hb] at hm;exact absurd hcount (Nat.pos_iff_ne_zero.1 (List.count_pos_iff.2 hm)))
 |succ m ih=>
  intro listed L' w' hcl hcount hs htail hF hF1 hfr hR hR1;by_cases hpre:∀ i,i<K→listed.getD i true=false→br l K i=true
  ·exact gM hQ hc hop h12 hmuL hend (m+1) listed L' w' hcl hcount hs htail hF hfr hR hpre
  ·
   have hn0:∃ i,i<K∧listed.getD i true=false∧br l K i=false:=by
    refine Classical.byContradiction fun hno=>hpre fun i hi hf=>?_
    cases hb:br l K i with
    |true=>rfl
    |false=>exact absurd ⟨i,hi,hf,hb⟩ hno
   obtain ⟨n0,hn0⟩:=hn0;obtain ⟨i0,hi0,hmin⟩:=exists_least (p:=fun i=>i<K∧listed.getD i true=false) ⟨n0,hn0.1,hn0.2.1⟩;have hi0l:i0<l.length:=by omega
   have hready:i0∈Region.ready .any l.toArray listed:=by
    refine mem_ready.2 ⟨hi0.2,l[i0],by rw [List.getElem?_toArray,List.getElem?_eq_getElem hi0l],fun e he hb=>?_⟩;have hx:=hck i0 (List.mem_range.2 hi0l);rw [List.getElem?_eq_getElem hi0l] at hx;simp only [Bool.and_eq_true] at hx;have he2:=List.all_eq_true.1 hx.1.1 e (by simpa using he);rw [hb] at he2;simp at he2;rw [←aF (by omega)];cases hb2:listed.getD e.on true with
    |true=>rfl
    |false=>exact absurd (hmin e.on ⟨by omega,hb2⟩) (by omega)
   refine ⟨fun h0=>(by rw [h0] at hready;cases hready),fun i hi=>?_⟩;obtain ⟨h0,o,ho,hall⟩:=mem_ready.1 hi;rw [List.getElem?_toArray] at ho;have hil:i<l.length:=(List.getElem?_eq_some_iff.1 ho).1;have hx:=hck i (List.mem_range.2 hil);rw [ho] at hx;simp only [Bool.and_eq_true] at hx
   have hiK:i<K:=by
    rcases Nat.lt_or_ge i K with h | h
    ·exact h
    ·exfalso;have h5:=bT hcl hall (eA hn0.2.2 ho h);rw [←aF (by omega),hn0.2.1] at h5;cases h5
   have h3:=hx.2;rw [if_pos hiK] at h3;simp only [Bool.and_eq_true] at h3;obtain ⟨h3a,h3b⟩:=h3;cases hod:o.dst with
   |none=>rw [hod] at h3a;cases h3a
   |some d=>
    rw [hod] at h3a;simp only [Bool.and_eq_true] at h3a;have hlooks:=iq (L:=L) hc hcl hs ho hil h0 hfr
    have hfactG:∀ (RR:Nat→Value→World→Prop),(∀ i o d,i<K→l[i]? =some o→listed.getD i true=true→o.dst=some d→RR d (aJ L' d) w')→∀ t∈b0 l K i o,RR t (aJ L' t) w':=by
     intro RR hRR t ht;obtain ⟨_,j,oj,hjK,hj,hd,_,hdep⟩:=dr hc hiK ho ht;have h6:=bT hcl hall hdep;exact hRR j oj t hjK hj (by rw [aF (by omega)];exact h6) hd
    have hsel:bo o.op=false:=by simpa using hx.1.2
    obtain ⟨hE,hW⟩:=cM (n:=n) (ops:=l.toArray) (o:=o) hsel hlooks
    have next:∀ v w'',I2 w''→(i≠mu→listed.getD mu true=false→I1 w'')→R d v w''→(i≠mu→R1 d v w'')→(∀ t u,t≠d→R t u w'→(i=mu→R1 t u w')→R t u w'')→(i≠mu→∀ t u,R1 t u w'→R1 t u w'')→wpAny P .any l.toArray Q m (listed.setIfInBounds i true) ((mkA n L').put (some d) v) w'':=by
     intro v w'' hI2' hI1' hRv hR1v hst hst1;rw [cJ]
     have hne:∀ j oj d',j<K→l[j]? =some oj→j≠i→oj.dst=some d'→d'≠d:=by
      intro j oj d' hj hoj hji hd e;have h5:=List.all_eq_true.1 h3a.1 j (List.mem_range.2 hj);rw [hoj] at h5;simp [hji,hd,e] at h5
     refine ih _ _ w'' (dR hcl ho hall) ?_ (by simpa using hs) (fun j hj1 hj2=>?_) hI2' (fun hml=>?_) (fun t ht=>?_) (fun j oj d' hj hoj hlj hd=>?_) (fun hml j oj d' hj hoj hlj hd=>?_)
     ·have hil':i<listed.size:=by omega
      have hfalse:listed.toList[i]? =some false:=by
       rw [Array.getElem?_toList,Array.getElem?_eq_getElem hil'];simp [Array.getD,hil'] at h0;rw [h0]
      rw [Array.toList_setIfInBounds];have:=cA (l:=listed.toList) (i:=i) hfalse;omega
     ·rw [getD_set_ne true (by omega)];exact htail j hj1 hj2
     ·have him:i≠mu:=fun e=>by subst e;simp [show i<listed.size by omega] at hml
      rw [getD_set_ne true him] at hml;exact hI1' him hml
     ·have htd:t≠d:=fun e=>ht i o hiK ho (by simp [show i<listed.size by omega]) (by rw [hod,e])
      rw [aY,if_neg htd];refine hfr t fun j oj hj hoj hlj=>ht j oj hj hoj ?_
      by_cases e:i=j
      ·subst e;rw [h0] at hlj;cases hlj
      ·rw [getD_set_ne true e];exact hlj
     ·rw [aY];by_cases e:j=i
      ·subst e;rw [ho] at hoj;cases hoj;rw [hod] at hd;cases hd;rw [if_pos rfl];exact hRv
      ·have hdd:=hne j oj d' hj hoj e hd;rw [if_neg hdd];rw [getD_set_ne true (Ne.symm e)] at hlj;refine hst _ _ hdd (hR j oj d' hj hoj hlj hd) (fun e2=>?_);subst e2;exact hR1 h0 j oj d' hj hoj hlj hd
     ·have him:i≠mu:=fun e=>by subst e;simp [show i<listed.size by omega] at hml
      rw [getD_set_ne true him] at hml;rw [aY];by_cases e:j=i
      ·subst e;rw [ho] at hoj;cases hoj;rw [hod] at hd;cases hd;rw [if_pos rfl];exact hR1v him
      ·rw [if_neg (hne j oj d' hj hoj e hd)];rw [getD_set_ne true (Ne.symm e)] at hlj;exact hst1 him _ _ (hR1 hml j oj d' hj hoj hlj hd)
    unfold wpOp;rw [List.getElem?_toArray,ho];show if Region.wanted o (yielded l.toArray (mkT n.n L'))=true then _ else _
    by_cases him:i=mu
    ·subst him;rw [ho] at hmu;have hok:=cN (aJ L') _ (hfactG R1 (hR1 h0)) (hmu w' (hF1 h0));rw [hod] at hok;simp only [Option.getD_some] at hok;unfold jI at hok;rw [hE,hW] at hok;obtain ⟨hw,⟨v,w'',hr,hI,hRv,hst⟩ | ⟨f,args,hr,hcall⟩⟩:=hok
     ·rw [if_pos hw];refine .inl ?_;unfold Oper.wp;rw [aV,hr,Oper.upon_value,hod];exact next v w'' hI (fun h=>absurd rfl h) hRv (fun h=>absurd rfl h) (fun t u ht _ h1=>hst t u ht (h1 rfl)) (fun h=>absurd rfl h)
     ·rw [if_pos hw];refine .inl ?_;unfold Oper.wp;rw [aV,hr,Oper.upon_enter,hod];refine Calls.mono hcall fun e w'' ⟨v,he,hI,hRv,hst⟩=>?_
      subst he;exact next v w'' hI (fun h=>absurd rfl h) hRv (fun h=>absurd rfl h) (fun t u ht _ h1=>hst t u ht (h1 rfl)) (fun h=>absurd rfl h)
    ·have hok:au P l.toArray n (((b0 l K i o).map fun d=>(d,aJ L' d))++L) o w' (R1 (o.dst.getD 0)):=by
      cases hdm:fg l K mu i with
      |false=>exact cN (aJ L') _ (hfactG R hR) (fL hop i o (by rw [List.getElem?_take,if_pos hiK];exact ho) him hdm w' hF)
      |true=>
       have hml:listed.getD mu true=false:=by
        obtain ⟨hmK,om,hom,hdep⟩:=fU hdm;rw [←Bool.not_eq_true];intro hml;have hml2:listed.getD mu false=true:=by rw [←aF (by omega)];exact hml
        have:=bT hcl (fun e he hb=>hcl mu om hom hml2 e he hb) hdep;rw [←aF (by omega),h0] at this;cases this
       exact cN (aJ L') _ (hfactG R1 (hR1 hml)) (jy hop i o (by rw [List.getElem?_take,if_pos hiK];exact ho) him hdm w' (hF1 hml))
     rw [hod] at hok;simp only [Option.getD_some] at hok;unfold au at hok;rw [hE,hW] at hok
     have next':∀ v w'',al w' w''→R1 d v w''→wpAny P .any l.toArray Q m (listed.setIfInBounds i true) ((mkA n L').put (some d) v) w'':=fun v w'' hF' hRv=>
      next v w'' (hm2 _ _ hF' hF) (fun _ h=>hm1 _ _ hF' (hF1 h)) (h12 _ _ _ hRv) (fun _=>hRv) (fun t u _ h _=>hmono _ _ _ _ hF' h) (fun _ t u h=>hmono1 _ _ _ _ hF' h)
     rcases hok with ⟨hw,⟨v,w'',hr,hF',hRv⟩ | ⟨f,args,hr,hcall⟩⟩ | ⟨hw,hRv⟩
     ·rw [if_pos hw];refine .inl ?_;unfold Oper.wp;rw [aV,hr,Oper.upon_value,hod];exact next' v w'' hF' hRv
     ·rw [if_pos hw];refine .inl ?_;unfold Oper.wp;rw [aV,hr,Oper.upon_enter,hod];refine Calls.mono hcall fun e w'' ⟨v,he,hF',hRv⟩=>?_
      subst he;exact next' v w'' hF' hRv
     ·rw [if_neg (by rw [hw];simp),hod];exact next' undef w' al.rfl_ hRv
theorem lf {id:Nat} (K mu:Nat) (Ex:List Nat) (RL:List (Nat×(Value→World→Prop))) (I1 I2:World→Prop) (hQ:PQ Q) (hm:P.follows .mixedOrders=true) (hc:eB l K=true) (hl:br l K mu=false) (hmono:jj RL)
 (h0:I1 { w with drawn:=w.drawn+1 }) (h0':I2 { w with drawn:=w.drawn+1 }) (hm1:∀ w1 w2,al w1 w2→I1 w1→I1 w2) (hm2:∀ w1 w2,al w1 w2→I2 w1→I2 w2)
 (hop:eH P l.toArray n L I1 I2 (cY RL) (ea Ex RL) l K mu 0 (l.take K)) (hmu:l_ P l.toArray n L I1 I2 (cY RL) (ea Ex RL) l K mu l[mu]?)
 (hend:∀ w',I2 w'→dU (ea Ex RL) w' (dt l K) fun M=>St P l.toArray Q (l.drop K) n (M++L) w'):Cd P (.region id l.toArray true) Q n L w:=by
 refine ⟨wp_region_any hm ?_⟩;have hKl:K≤l.length:=dT_ (Bool.and_eq_true_iff.1 (Bool.and_eq_true_iff.1 hc).1).1
 have:=kR (Q:=Q) hQ hc hm1 hm2 (dh hmono) (jC hmono) hop kU (fun _=>hl) hmu hend l.length (Array.replicate l.length false) L { w with drawn:=w.drawn+1 } (fh l _) (by simp) (by simp)
  (fun j _ hj=>by simp [Array.getD,hj]) h0' (fun _=>h0) (fun _ _=>rfl) (fun i o d hi _ hl=>by
   have:i<l.length:=by omega
   simp [Array.getD,this] at hl) (fun _ i o d hi _ hl=>by
   have:i<l.length:=by omega
   simp [Array.getD,this] at hl)
 simpa using this
end late
section
variable {P:Program} {ops:Array Oper} {n:Fr} {L:List (Nat×Value)} {w:World} {ty:TypeId} {pos:String} {after:Array Edge} {dst:Option Nat}
theorem lS {f:FuncId} {l:List Operand} {ats:Array TypeId} {R post:Value→World→Prop} (hf:aB P f=true) (hc:Rt P f (l.map (ev n L)) w R) (k:∀ v w',R v w'→post v w') :
 jI P ops n L ⟨dst,.call { callee:=.value (.func f),args:=l.toArray,argTypes:=ats },ty,pos,after,none⟩ w post:=
 ⟨rfl,.inr ⟨f,l.map (ev n L),by rw [ey (fun _=>rfl),eM hf],hc.mono k⟩⟩
end
end Go.Proofs.Ytinogeaabocbkaa
namespace Go.Proofs.Ytinogeaabocbkaa
open Go.Proofs.Try (prog)
open Go.RowKit
open Go.ChangeShapes Go.WideShapes Go.ChangeAt
theorem ko:aB prog 33=true:=by kernel_rfl
theorem km:(bW prog 28).isSome=true:=by kernel_rfl
theorem bQ:bW prog 28=some (3,1):=by kernel_rfl
theorem gv:∀ (a0:Int) (a1:Int) (a2:Int) (a3:Int) (a4:Int) (a5:Int) (a6:Int) (a7:Int) (a8:Bool) (a9:Option Addr) (a10 a11:Nat) (a12:Int) (a13:ByteArray) (a14:Bool) (a15:Int),prog.built 52 [(0,.agg #[.int .i64 a0,.int .i64 a1,.int .i64 a2,.int .i64 a3,.int .i64 a4,.int .i64 a5,.int .i64 a6,.int .i64 a7,.bool a8,.slice a9 a10 a11,.int .i64 a12,.string a13,.bool a14]),(1,.int .i64 a15)]=some #[.int .i64 a0,.int .i64 a1,.int .i64 a2,.int .i64 a3,.int .i64 a4,.int .i64 a5,.int .i64 a6,.int .i64 a7,.bool a8,.slice a9 a10 a11,.int .i64 a12,.string a13,.bool a14,.int .i64 a15]:=by intros;kernel_rfl
theorem gW:fz prog 52=some (.agg #[.int .i64 0,.int .i64 0,.int .i64 0,.int .i64 0,.int .i64 0,.int .i64 0,.int .i64 0,.int .i64 0,.bool false,.slice none 0 0,.int .i64 0,.string ⟨#[]⟩,.bool false,.int .i64 0]):=by kernel_rfl
theorem kq:aB prog 32=true:=by kernel_rfl
theorem fo:bw prog 52 0=some 0:=by kernel_rfl
theorem gX:aB prog 19=true:=by kernel_rfl
theorem e_:b7 prog 46=some 1:=by kernel_rfl
structure Kp (base b:Nat) (w w':World):Prop where
 os:w'.os=w.os
 tape:w'.tape=w.tape
 output:w'.output=w.output
 size:w.heap.size≤w'.heap.size
 below:∀ k,k<base→k<w.heap.size→w'.heap[k]? =w.heap[k]?
 blk:∀ g t cs,g≠b→t≠52→Blk w g t cs→Blk w' g t cs
section
variable {base b:Nat} {w w1 w':World}
theorem Kp.of_from (h:al w w'):Kp base b w w':=⟨h.os,h.tape,h.output,h.size,fun k _ hk=>h.block k hk,fun _ _ _ _ _ hb=>hb.from_ h⟩
theorem Kp.trans (h:Kp base b w w1) (k:Kp base b w1 w'):Kp base b w w':=
 ⟨k.os.trans h.os,k.tape.trans h.tape,k.output.trans h.output,Nat.le_trans h.size k.size,fun i hi hs=>(k.below i hi (Nat.lt_of_lt_of_le hs h.size)).trans (h.below i hi hs),fun g t cs h1 h2 h3=>k.blk g t cs h1 h2 (h.blk g t cs h1 h2 h3)⟩
theorem Kp.of_only (h:bD b w w') (hb:base≤b):Kp base b w w':=⟨h.os,h.tape,h.output,by rw [h.size];exact Nat.le_refl _,fun k hk _=>h.block k (by omega),fun g t cs hg _ hk=>hk.only h hg⟩
theorem Kp.of_grown {A:Option Addr} {c n:Nat} {xs:List Value} (hg:w.grownBy w' (A.map (·.block))) (ho:w.ownsRow base 52 14 (.slice A n c) n xs):Kp base b w w':=
 ⟨hg.os,hg.tape,hg.output,hg.size,fun k hk hs=>hg.block k hs (fun e=>by have:=(aS ho k e.symm).1;omega),fun g t cs _ ht hk=>hk.grown hg (aD ho hk ht)⟩
theorem Kp.from_ {a:World} (h:al a w) (k:Kp base b w w') (hb:a.heap.size≤base):al a w':=
 ⟨k.os.trans h.os,k.tape.trans h.tape,k.output.trans h.output,Nat.le_trans h.size k.size,fun i hi=>(k.below i (by omega) (Nat.lt_of_lt_of_le hi h.size)).trans (h.block i hi)⟩
end
def aK (L:aG) (x:Int):Nat:=L.countP fun q=>decide (q.2≤x)
def bF (L:aG) (p:Msg×Int):aG:=if L.length=4096 then L else L.take (aK L p.2)++[p]++L.drop (aK L p.2)
def b9 (x:Msg) (ts:List Int) (L:aG):aG:=ts.foldl (fun l a=>bF l (x,a)) L
theorem fw {L:aG} {x:Int} {i:Nat} (h:Cut L x i):aK L x=i:=by
 obtain ⟨h0,h1,h2⟩:=h;unfold aK;have hs:L=L.take i++L.drop i:=(List.take_append_drop i L).symm;rw [hs,List.countP_append]
 have e1:(L.take i).countP (fun q=>decide (q.2≤x))=(L.take i).length:=by
  rw [List.countP_eq_length];intro q hq;obtain ⟨j,hj,rfl⟩:=List.getElem_of_mem hq;rw [List.length_take] at hj;rw [List.getElem_take];exact decide_eq_true (h1 j (by omega) (by omega))
 have e2:(L.drop i).countP (fun q=>decide (q.2≤x))=0:=by
  rw [List.countP_eq_zero];intro q hq;obtain ⟨j,hj,rfl⟩:=List.getElem_of_mem hq;rw [List.length_drop] at hj;rw [List.getElem_drop];have:=h2 (i+j) (by omega) (by omega);simpa using this
 rw [e1,e2,List.length_take];omega
theorem dY {L:aG}:bg L↔L.Pairwise fun a b=>a.2≤b.2:=by
 rw [List.pairwise_iff_getElem];exact Iff.rfl
theorem jU {L:aG} (hs:bg L) (x:Int):Cut L x (aK L x):=by
 have hle:aK L x≤L.length:=List.countP_le_length
 have key:∀ (L:aG),L.Pairwise (fun a b=>a.2≤b.2)→(∀ q∈L.take (aK L x),q.2≤x)∧∀ q∈L.drop (aK L x),x<q.2:=by
  intro L
  induction L with
  |nil=>intro _;simp
  |cons a r ih=>
   intro hp;rw [List.pairwise_cons] at hp;by_cases ha:a.2≤x
   ·have e:aK (a::r) x=aK r x+1:=by unfold aK;rw [List.countP_cons_of_pos (by simpa using ha)]
    rw [e,List.take_succ_cons,List.drop_succ_cons];refine ⟨fun q hq=>?_,(ih hp.2).2⟩;rcases List.mem_cons.1 hq with rfl | hq
    ·exact ha
    ·exact (ih hp.2).1 q hq
   ·have e:aK (a::r) x=0:=by
     unfold aK;rw [List.countP_eq_zero];intro q hq;rcases List.mem_cons.1 hq with rfl | hq
     ·simpa using ha
     ·have:=hp.1 q hq;simp only [decide_eq_true_eq];omega
    rw [e];refine ⟨fun q hq=>by simp at hq,fun q hq=>?_⟩;rw [List.drop_zero] at hq;rcases List.mem_cons.1 hq with rfl | hq
    ·omega
    ·have:=hp.1 q hq;omega
 obtain ⟨k1,k2⟩:=key L (dY.1 hs);refine ⟨hle,fun j hj hjd=>k1 _ ?_,fun j hj hjd=>k2 _ ?_⟩
 ·rw [←List.getElem_take (i:=j) (j:=aK L x) (h:=by rw [List.length_take];omega)];exact List.getElem_mem _
 ·have:=List.getElem_drop (xs:=L) (i:=aK L x) (j:=j-aK L x) (h:=by rw [List.length_drop];omega);have e:aK L x+(j-aK L x)=j:=by omega
  simp only [e] at this;rw [←this];exact List.getElem_mem _
theorem fc {L:aG} {p:Msg×Int} (hs:bg L):bg (bF L p):=by
 unfold bF;split
 ·exact hs
 ·obtain ⟨h0,h1,h2⟩:=jU hs p.2;rw [dY] at hs ⊢;have ht:=hs.sublist (List.take_sublist (aK L p.2) L);have hd:=hs.sublist (List.drop_sublist (aK L p.2) L)
  have m1:∀ q∈L.take (aK L p.2),q.2≤p.2:=fun q hq=>by
   obtain ⟨j,hj,rfl⟩:=List.getElem_of_mem hq;rw [List.length_take] at hj;rw [List.getElem_take];exact h1 j (by omega) (by omega)
  have m2:∀ q∈L.drop (aK L p.2),p.2<q.2:=fun q hq=>by
   obtain ⟨j,hj,rfl⟩:=List.getElem_of_mem hq;rw [List.length_drop] at hj;rw [List.getElem_drop];exact h2 _ (by omega) (by omega)
  rw [List.append_assoc,List.pairwise_append,List.singleton_append,List.pairwise_cons];refine ⟨ht,⟨fun q hq=>by have:=m2 q hq;omega,hd⟩,fun q hq r hr=>?_⟩;have a:=m1 q hq;rcases List.mem_cons.1 hr with rfl | hr
  ·exact a
  ·have:=m2 r hr;omega
theorem kK {L:aG} {p:Msg×Int} (h:L.length≤4096):(bF L p).length≤4096:=by
 unfold bF;split
 ·exact h
 ·have:aK L p.2≤L.length:=List.countP_le_length;simp only [List.length_append,List.length_take,List.length_drop,List.length_singleton];omega
theorem fb {x:Msg}:∀ (ts:List Int) {L:aG},L.length=4096→b9 x ts L=L
 |[],_,_=>rfl
 |a::ts,L,h=>by
  show b9 x ts (bF L (x,a))=L;have:bF L (x,a)=L:=by unfold bF;rw [if_pos h]
  rw [this];exact fb ts h
theorem ib {x:Msg} (ts:List Int) (k:Nat) (L:aG):b9 x ts L=b9 x (ts.drop k) (b9 x (ts.take k) L):=by
 unfold b9;rw [←List.foldl_append,List.take_append_drop]
theorem iL {x:Msg} {ts:List Int} {k:Nat} (h:k<ts.length) (L:aG):b9 x (ts.take (k+1)) L=bF (b9 x (ts.take k) L) (x,ts[k]):=by
 unfold b9;rw [List.take_succ_eq_append_getElem h,List.foldl_append];rfl
theorem mV (p:Msg×Int):Instr.fill (fun i=>some (i*14,14)) ((Array.range (1*14)).map ((.agg #[.int .i64 0,.int .i64 0,.int .i64 0,.int .i64 0,.int .i64 0,.int .i64 0,.int .i64 0,.int .i64 0,.bool false,.slice none 0 0,.int .i64 0,.string ⟨#[]⟩,.bool false,.int .i64 0]:Value).cells[·%(.agg #[.int .i64 0,.int .i64 0,.int .i64 0,.int .i64 0,.int .i64 0,.int .i64 0,.int .i64 0,.int .i64 0,.bool false,.slice none 0 0,.int .i64 0,.string ⟨#[]⟩,.bool false,.int .i64 0]:Value).cells.size]!)) [(0,.agg (cS p).toArray)]=some (cS p).toArray:=by
 first
  |kernel_rfl
  |rfl
theorem lW {L:aG} {p:Msg×Int} {i:Nat} (h:L.length≠4096) (hc:Cut L p.2 i):(L.flatMap cS).take (i*14)++cS p++(L.flatMap cS).drop (i*14)=(bF L p).flatMap cS∧(bF L p).length=L.length+1:=by
 have hi:=hc.1;unfold bF;rw [if_neg h,fw hc,eu fv,de fv];constructor
 ·simp
 ·simp only [List.length_append,List.length_take,List.length_drop,List.length_singleton];omega
theorem bB.ne {w:World} {base b c:Nat} {A:Option Addr} {L:aG} (h:bB w base b A c L):∀ k,A.map (·.block)=some k→k≠b:=aD h.2.2 h.2.1 (by decide)
theorem jD {a b:Int} (hb:0<b):(a.tmod b<0→a.tdiv b-1=a/b∧a.tmod b+b=a%b)∧(0≤a.tmod b→a.tdiv b=a/b∧a.tmod b=a%b):=by
 have h1:=Int.tmod_eq_emod (a:=a) (b:=b);have h2:=Int.tdiv_eq_ediv (a:=a) (b:=b);have h3:0≤a%b:=Int.emod_nonneg a (by omega);have h4:a%b<b:=Int.emod_lt_of_pos a hb;have h5:b.sign=1:=Int.sign_eq_one_of_pos hb;have h6:(b.natAbs:Int)=b:=by omega
 by_cases hc:0≤a∨b∣a
 ·rw [if_pos hc] at h1 h2;constructor <;> intro h <;> constructor <;> omega
 ·rw [if_neg hc] at h1 h2;constructor <;> intro h <;> constructor <;> omega
theorem gQ (a b:Int) (w:World) (hb:b=4∨b=8) (ha:-9223372036854775808≤a∧a≤9223372036854775807) :
 Rt prog 23 [.int .i64 a,.int .i64 b] w (fun v w'=>v=.tuple #[.int .i64 (a/b),.int .i64 (a%b)]∧al w w'):=by
 have hb0:0<b:=by omega
 have hab:-9223372036854775808/4≤a/b∧a/b≤9223372036854775807/4∧0≤a%b∧a%b<8:=by
  rcases hb with rfl | rfl <;> omega
 have hfl:=@jD a b hb0
 generalize hQ:a.tdiv b=q at*
 generalize hR:a.tmod b=r at*
 generalize hX:a/b=x at*
 generalize hY:a%b=y at*
 refine enter (n:=21) Try.func23 rfl rfl rfl (ag (ab (asi rfl (asi rfl (ah (af (ag ?_)))))));apply bY 8 [(6,eqp _),(7,eqp _),(8,eqp _),(9,eqp _),(10,eqp _),(11,eqp _),(4,eqp _),(5,eqp _)] (by repeat first | exact cq | refine cp ?_ | refine bU ?_) (by kernel_rfl) (by kernel_rfl) ⟨aj _,aj _,aj _,aj _,aj _,aj _,aj _,aj _,trivial⟩
 case hop=>
  constructor
  ·rintro-w2 D2;exact ao (av (v:=.int _ _) rfl) rfl
  constructor
  ·rintro-w3 D3;exact ao (av (v:=.int _ _) rfl) rfl
  constructor
  ·rintro-w4 D4;rintro _ rfl _ rfl;exact ao (cX (jq rfl rfl (by omega)) (by rw [hQ,IntWalk.i64_in _ (by omega)])) rfl
  constructor
  ·rintro-w5 D5;exact ao (av (v:=.int _ _) rfl) rfl
  constructor
  ·rintro-w6 D6;exact ao (av (v:=.int _ _) rfl) rfl
  constructor
  ·rintro-w7 D7;rintro _ rfl _ rfl;exact ao (cX (h8 rfl rfl (by omega)) (by rw [hR])) rfl
  constructor
  ·rintro-w8 D8;rintro _ rfl;exact ao (cF (v:=.int _ _) rfl) rfl
  constructor
  ·rintro-w9 D9;rintro _ rfl;exact ao (cF (v:=.int _ _) rfl) rfl
  exact trivial
 case hend=>
  intro w10 D10;rintro _ rfl _ rfl _ rfl _ rfl _ rfl _ rfl _ rfl _ rfl;show St ..;refine ah (af (ag (ag (ab (mvi rfl (aa (bC rfl rfl) (ah (af (m7 rfl (fun Q11=>?_) (fun Q11=>?_))))))))))
  ·refine ag (ab (mvi rfl (aa (dZ rfl rfl (by omega)) (mvi rfl (mvi rfl (aa (bG rfl rfl (by omega)) (asi rfl (asi rfl (ah (af (aA (bd ?_))))))))))));refine lK (v:=.int _ _) (v':=.int _ _) rfl rfl rfl ?_;have h7:=hfl.1 (by omega);exact ⟨by rw [h7.1,h7.2],(al.rfl_.next D10)⟩
  refine aE (af (ag (ab (mvi rfl (mvi rfl (asi rfl (asi rfl (ah (af (aA (lK (v:=.int _ _) (v':=.int _ _) rfl rfl rfl ?_)))))))))));have h7:=hfl.2 (by omega);exact ⟨by rw [h7.1,h7.2],(al.rfl_.next D10)⟩
abbrev mA (x:Msg) (A:Option Addr) (c:Nat):Msg:={ x with E:=A,c:=c }
theorem eF {base b base2 e s n c t:Nat} {A:Option Addr} {xs:List Value} {cs:Array Value} {w w':World} (h:w.ownsRow base2 e s (.slice A n c) n xs) (k:Kp base b w w') (hb:Blk w b t cs) (ht:t≠e) (he:e≠52):w'.ownsRow base2 e s (.slice A n c) n xs:=by
 refine ⟨h.1,?_⟩;rcases h.2 with h0 | ⟨g,cap,cur,h1,h2,h3,h4⟩
 ·exact .inl h0
 ·refine .inr ⟨g,cap,cur,h1,h2,k.blk g e cur (aD h hb ht g ?_) he h3,h4⟩;simp only [Value.slice.injEq] at h1;rw [h1.1];rfl
theorem EOK.kp {base b:Nat} {cs:Array Value} {w w':World} {L:List Msg} (h:EOK w base L) (k:Kp base b w w') (hb:Blk w b 48 cs):EOK w' base L:=⟨fun x hx=>eF (h.1 x hx) k hb (by decide) (by decide),h.2⟩
theorem EOK.only {base g t:Nat} {cs:Array Value} {w w':World} {L:List Msg} (h:EOK w base L) (o:bD g w w') (hb:Blk w g t cs) (ht:t≠60):EOK w' base L:=⟨fun x hx=>aL (h.1 x hx) o (aD (h.1 x hx) hb ht),h.2⟩
theorem EOK.cons {base:Nat} {w w1:World} {L:List Msg} {y:Msg} (h:EOK w base L) (hF:al w w1) (hb:base≤w.heap.size) (ho:w1.ownsRow w.heap.size 60 3 (.slice y.E y.es.length y.c) y.es.length (db y.es)):EOK w1 base (y::L):=
 ⟨fun x hx=>by
  rcases List.mem_cons.1 hx with rfl | hx
  ·exact cW ho hb
  ·exact (h.1 x hx).from_ hF,List.pairwise_cons.2 ⟨fun z hz k hk e=>by
  have h1:=(aS ho k hk).1;have h2:=(h.1 z hz).at k e;omega,h.2⟩⟩
theorem EOK.perm {base:Nat} {w:World} {L L':List Msg} (h:EOK w base L) (p:L'.Perm L):EOK w base L':=⟨fun x hx=>h.1 x (p.mem_iff.1 hx),(p.pairwise_iff (fun h=>h.symm)).2 h.2⟩
theorem en {L:aG} {p:Msg×Int} (h:L.length≠4096):(bF L p).Perm (p::L):=by
 unfold bF;rw [if_neg h,List.append_assoc,List.singleton_append];refine List.perm_middle.trans ?_;rw [List.take_append_drop]
theorem lO (L:aG) (x:Int):aK (plP L) x=aK L x:=by
 unfold aK plP;rw [List.countP_map];rfl
theorem iM (L:aG) (p:Msg×Int):plP (bF L p)=bF (plP L) (pl p.1,p.2):=by
 unfold bF;rw [cK,lO];split
 ·rfl
 ·simp [plP,List.map_append,List.map_take,List.map_drop]
def FR (w:World) (L L':aG):Prop:=∀ p∈L',p.1∈L.map (·.1)∨∀ q,dB p.1=some q→w.heap.size≤q
theorem FR.put {w:World} {L L':aG} {p:Msg×Int} (h:FR w L L') (hne:L'.length≠4096) (hp:∀ q,dB p.1=some q→w.heap.size≤q):FR w L (bF L' p):=fun q hq=>by
 have:=(en hne).mem_iff.1 hq;rcases List.mem_cons.1 this with rfl | hq
 ·exact .inr hp
 ·exact h q hq
theorem hZ (base b:Nat) (A:Option Addr) (c:Nat) (L:aG) (w:World) (hn:bB w base b A c L) (hl:L.length≤4096) (hs:bg L) (x:Msg) (ts:List Int) (g:Nat) (hts:Blk w g 3 (ts.map iV).toArray) (hgb:g≠b) (htl:ts.length≤1000) (hxE:E1 w base x) (hE0:EOK w base (L.map (·.1))) (hxl:x.es.length≤1000000) :
 Rt prog 24 [.pointer (some ⟨b,0,none⟩),.agg (aM x).toArray,.slice (some ⟨g,0,none⟩) ts.length ts.length] w (fun v w'=>v=.tuple #[]∧(∃ A' c' L',bB w' base b A' c' L'∧plP L'=b9 (pl x) ts (plP L)∧EOK w' base (L'.map (·.1))∧bg L'∧FR w L L')∧Kp base b w w'):=by
 refine enter (n:=43) Try.func24 rfl rfl rfl (ag (ab (dg (v:=.agg _) rfl ?_)));intro b4 w1 E4 hb4 hk4;have hmb:b4≠b:=by have:=hn.2.1.lt;omega
 refine ah (af (ag (ab (mvs rfl (aa (bf km rfl) (mvi rfl (ah (af (aO (cg (G:=Nat×Option Addr×Nat×aG) [7,8,12,13,14,15,16,17,18,19,20,21,22,23,24,25,26,27,28,29,30,31,32,33,34,35,36,37,38,39,40,41,42] (fun (k,_,_,_)=>[(11,.int .i64 (k:Nat))]) (fun (k,A',c',L') w'=>k≤ts.length∧plP L'=b9 (pl x) (ts.take k) (plP L)∧bB w' base b A' c' L'∧bg L'∧L'.length≤4096∧Blk w' g 3 (ts.map iV).toArray∧Blk w' b4 33 (aM x).toArray∧Kp base b w w'∧E1 w' base x∧EOK w' base (L'.map (·.1))∧FR w L L') (fun (k,_,_,_)=>ts.length-k) ((0,A,c,L)) ⟨rfl,trivial⟩ ?_ ?_))))))))))
 ·exact ⟨Nat.zero_le _,rfl,hn.from_ (al.rfl_.next E4),hs,hl,hts.from_ (al.rfl_.next E4),hk4,Kp.of_from (al.rfl_.next E4),hxE.from_ (al.rfl_.next E4),hE0.from_ (al.rfl_.next E4),fun p hp=>.inl (List.mem_map_of_mem hp)⟩
 rintro ⟨k,A',c',L'⟩ ρ2 w2 ⟨hk,hL,hn2,hs2,hl2,hg2,hm2,hK2,hx2,hE2,hfr⟩;refine ag (ab (aa (bC rfl rfl) (ah (af (ag (m7 rfl (fun Q3=>?_) (fun Q3=>?_)))))))
 ·have hk2:k<ts.length:=by omega
  refine aE (af (ag (aO (ag (ab (aa (gp bQ rfl rfl (by omega)) (aa (aq ar rfl (by exact hg2.rd k (l7 k hk2))) ?_)))))));refine asi rfl (ah (af (ag (ag (ab (mvp rfl (aa (ax rfl) (aa (ai bm rfl) (aa (aq cv rfl (by exact hn2.2.1.rd 0 rfl)) ?_)))))))));refine aa (bf bq rfl) (aa (bz rfl rfl) (ah (af (m6 rfl (fun Q4=>?_) (fun Q4=>?_)))))
  ·refine aA (bd (cP (bd (bd (cP (eE rfl (⟨rfl,⟨A',c',L',hn2,by rw [ib ts k,←hL,fb _ (by rw [cK];omega)],hE2,hs2,hfr⟩,hK2⟩)))))))
  have hne4:L'.length≠4096:=by omega
  refine aE (af (ag (ab (aa (aP (cs:=[_,_,_,_,_,_,_,_,_,_,_,_,_]) aI ay rfl (by exact hm2.whole)) ?_))));refine mvi rfl (aa (cl (l:=[(0,.tmp 21),(1,.tmp 22)]) (gv _ _ _ _ _ _ _ _ _ _ _ _ _ _ _ _)) (dD gW ?_));intro b8 w5 E8 hb8 hk8;have hz8:=hb8;refine ej (vs:=[_,_,_,_,_,_,_,_,_,_,_,_,_,_]) ct rfl rfl (by simp [Value.oneCell']) (hk8) rfl ?_;intro w6 O5 P5;have hF5:=E8.only O5 (Nat.le_of_eq hb8.symm);have hx5:=hx2.from_ hF5;have hE5:=hE2.from_ hF5;obtain ⟨_,hsr5,hsn5⟩:=kZ hx5.ents;have hz5:base≤(w6).heap.size:=by have:=hn2.2.1.lt;have:=hF5.size;have:=hn.1;omega
  have hw5:w.heap.size≤(w6).heap.size:=Nat.le_trans hK2.size hF5.size;refine ah (af (ag (ab (aa (ai bn rfl) (aa (aq cd rfl (by exact (hm2.from_ hF5).rd 9 rfl)) ?_)))));refine aC kq (bc x.E x.c x.es.length (db x.es) _ (ff _) hsr5 hsn5 (k4 _) (by omega)) ?_;rintro v26 w7 ⟨⟨A26,c26,rfl,ho26⟩,E26⟩;refine aa (ai fo rfl) (aa (ai bn rfl) (dG (v:=.slice _ _ _) fi rfl rfl rfl ((P5.from_ E26)) (by show 0+0+9<14;decide) ?_));intro w8 O6 P6;have hF6:=(hF5.next E26).only O6 (Nat.le_of_eq hb8.symm);have hx6:=aL (hx5.from_ E26) O6 (aD (hx5.from_ E26) (P5.from_ E26) (by decide));have hE6:=(hE5.cons (y:=mA x A26 c26) E26 hz5 ho26).only O6 (P5.from_ E26) (by decide);have hfq:∀ q,dB (mA x A26 c26)=some q→w.heap.size≤q:=fun q hq=>Nat.le_trans hw5 (aS ho26 q hq).1
  have P6b:Blk w8 b8 52 (cS (mA x A26 c26,ts[k]'hk2)).toArray:=P6;have hn7:=hn2.from_ hF6;refine ah (af ?_);apply lf 13 10 [38] [(29,eqp _),(30,eqp _),(31,eqp _),(32,eqp _),(33,eqp _),(34,eqp _),(35,eqp _),(36,fun v _=>∃ i:Nat,v=.int .i64 (i:Nat)∧Cut L' (ts[k]'hk2) i),(37,eqp (.agg (cS (mA x A26 c26,ts[k]'hk2)).toArray)),(38,fun v w'=>∃ q,v=.slice (some ⟨q,0,none⟩) 1 1∧Blk w' q 52 (cS (mA x A26 c26,ts[k]'hk2)).toArray∧(w8).heap.size≤q),(39,fun v w'=>∃ A2 c2,v=.slice A2 (bF L' (mA x A26 c26,ts[k]'hk2)).length c2∧w'.ownsRow base 52 14 (.slice A2 (bF L' (mA x A26 c26,ts[k]'hk2)).length c2) (bF L' (mA x A26 c26,ts[k]'hk2)).length ((bF L' (mA x A26 c26,ts[k]'hk2)).flatMap cS)),(40,eqp _),(41,eqp _)] (fun w'=>al w8 w') (fun w'=>Kp base b w8 w'∧Blk w' b 48 #[.slice A' L'.length c']) (by repeat first | exact cq | refine cp ?_ | refine bU ?_) (by kernel_rfl) (by kernel_rfl) (by kernel_rfl) ⟨aj _,aj _,aj _,aj _,aj _,aj _,aj _,(fun _ _ _ _ h=>h),aj _,(fun _ _ _ hF ⟨q,h1,h2,h3⟩=>⟨q,h1,h2.from_ hF,h3⟩),(fun _ _ _ hF ⟨A2,c2,h1,h2⟩=>⟨A2,c2,h1,h2.kept_from hF⟩),aj _,aj _,trivial⟩ (al.rfl_.d1) (⟨Kp.of_from al.rfl_.d1,hn7.2.1.from_ al.rfl_.d1⟩) (fun _ _ hF h=>h.next hF) (fun _ _ hF h=>⟨h.1.trans (Kp.of_from hF),h.2.from_ hF⟩)
  case hop=>
   constructor
   ·rintro-w10 ⟨hK10,hB10⟩;exact ao (av (v:=.pointer _) rfl) rfl
   constructor
   ·rintro-w11 ⟨hK11,hB11⟩;exact ao (av (v:=.pointer _) rfl) rfl
   constructor
   ·rintro-w12 ⟨hK12,hB12⟩;rintro _ rfl;exact ao (ax rfl) rfl
   constructor
   ·rintro-w13 D13;rintro _ rfl;exact ao (ai bm rfl) rfl
   constructor
   ·rintro-w14 D14;rintro _ rfl;exact ao (aq cv rfl ((hn7.2.1.from_ D14).rd 0 rfl)) rfl
   constructor
   ·rintro-w15 D15;exact ao (av (v:=.pointer _) rfl) rfl
   constructor
   ·rintro-w16 D16;exact ao (av (v:=.int _ _) rfl) rfl
   constructor
   ·rintro-w17 D17;rintro _ rfl _ rfl;refine eP gX ((k6 base b A' c' L' _ (hn7.from_ D17) (by omega) (ts[k]'hk2) hs2).mono ?_);rintro v w2 ⟨⟨i,rfl,hc⟩,hE⟩;exact ⟨hE,i,rfl,hc⟩
   constructor
   ·rintro-w18 D18;exact ao (aP (cs:=cS (mA x A26 c26,ts[k]'hk2)) dy ct rfl ((P6b.from_ D18).whole)) rfl
   constructor
   ·rintro-w19 D19;rintro v19_37 rfl;exact jz (jr (l:=[(0,.tmp 37)]) (cells:=(cS (mA x A26 c26,ts[k]'hk2)).toArray) dw rfl rfl (mV _)) (al.rfl_.new _) ⟨_,rfl,Blk.new _ _ _,D19.size⟩
   constructor
   ·intro h;cases h
   constructor
   ·rintro-w21 ⟨hK21,hB21⟩;rintro _ rfl;exact ao (ax rfl) rfl
   constructor
   ·rintro-w22 ⟨hK22,hB22⟩;rintro _ rfl;exact ao (ai bm rfl) rfl
   exact trivial
  case hmu=>
   rintro w23 D23;rintro _ rfl v23_36 ⟨i23,rfl,hc23⟩ v23_38 ⟨q23,rfl,hq23,hqs23⟩;show jI ..;obtain ⟨hfl,hln⟩:=lW (p:=(mA x A26 c26,ts[k]'hk2)) hne4 hc23;have hn23:=hn7.from_ D23;refine lS ko (kf base A' c' L'.length i23 1 q23 0 1 (L'.flatMap cS) (cS (mA x A26 c26,ts[k]'hk2)) _ _ _ hn23.2.2 (Nat.le_trans hn.1 (Nat.le_of_lt hn23.2.1.lt)) hc23.1 (by decide) rfl hq23.whole hq23 (fun k hk e=>by have:=(aS hn7.2.2 k hk).2;omega) (jP _) (by simp [cS,Value.oneCell']) (by omega)) ?_;rintro v w3 ⟨⟨A2,c2,rfl,ho3⟩,hg3⟩;rw [hfl,←hln] at ho3;refine ⟨⟨(Kp.of_from D23).trans (Kp.of_grown hg3 hn23.2.2),(hn23.2.1).grown hg3 hn23.ne⟩,⟨A2,c2,by rw [hln],ho3⟩,fun t u ht h=>fN (by repeat first | exact trivial | refine ⟨.inl rfl,?_⟩ | refine ⟨.inr (fun _ h=>h),?_⟩) t u ht h⟩
  case hend=>
   rintro w24 ⟨hK24,hB24⟩;rintro _ rfl _ rfl _ rfl _ rfl _ rfl _ rfl _ rfl v36 ⟨i24,rfl,hc24⟩ v37 rfl v38 _ v39 ⟨A39,c39,rfl,ho39⟩ _ rfl _ rfl;show St ..;have hK7:=hK24;have hBb:=hB24;refine dG (v:=.slice _ _ _) e_ rfl rfl rfl (hBb) (by show 0<1;decide) ?_;intro w25 O7 P7;refine ah (aQ (af (ab (aa (bA (b:=1) rfl rfl (by omega)) (mvi rfl (ah ?_))))));refine bL ((k+1,A39,c39,bF L' (mA x A26 c26,ts[k]'hk2))) ⟨(by first | rfl | (refine aU ?_;omega)),trivial⟩ (by (iterate 68 refine a_ rfl ?_);exact bl) ⟨?_,?_⟩
   ·exact ⟨by omega,by rw [iL hk2,iM,←hL];rfl,⟨hn.1,P7,aL ho39 O7 (aD ho39 hBb (by decide))⟩,fc hs2,kK hl2,((hK7.blk _ _ _ hgb (by decide) (hg2.from_ hF6))).only O7 hgb,((hK7.blk _ _ _ hmb (by decide) (hm2.from_ hF6))).only O7 hmb,((hK2.trans (Kp.of_from hF6)).trans hK7).trans (Kp.of_only O7 hn.1),aL (eF hx6 hK7 hn7.2.1 (by decide) (by decide)) O7 (aD (eF hx6 hK7 hn7.2.1 (by decide) (by decide)) hBb (by decide)),((hE6.kp hK7 hn7.2.1).only O7 hBb (by decide)).perm ((en hne4).map _),hfr.put hne4 hfq⟩
   ·show ts.length-(k+1)<ts.length-k;omega
 refine bE (aN (aN (bk (bZ (eE rfl ?_)))));obtain rfl:k=ts.length:=by omega
 rw [List.take_length] at hL;exact ⟨rfl,⟨A',c',L',hn2,hL,hE2,hs2,hfr⟩,hK2⟩
end Go.Proofs.Ytinogeaabocbkaa
namespace Go.Proofs.Ytinogeaabocbkaa
open Go.Proofs.Try (prog)
open Go.RowKit
open Go.ChangeShapes Go.WideShapes Go.ChangeAt
theorem aT:dp prog 27=some (33,13,128,(.agg #[.int .i64 0,.int .i64 0,.int .i64 0,.int .i64 0,.int .i64 0,.int .i64 0,.int .i64 0,.int .i64 0,.bool false,.slice none 0 0,.int .i64 0,.string ⟨#[]⟩,.bool false]:Value)):=by kernel_rfl
theorem fY:aB prog 23=true:=by kernel_rfl
theorem aX:dp prog 28=some (3,1,8,(.int .i64 0)):=by kernel_rfl
theorem eJ:aB prog 24=true:=by kernel_rfl
theorem je:prog.built 48 []=some #[.slice none 0 0]:=by kernel_rfl
theorem jH:aB prog 20=true:=by kernel_rfl
theorem FR.mono {w w1:World} {L L':aG} (h:FR w1 L L') (hs:w.heap.size≤w1.heap.size):FR w L L':=fun p hp=>(h p hp).imp id fun k q hq=>Nat.le_trans hs (k q hq)
theorem FR.rfl_ {w:World} {L:aG}:FR w L L:=fun _ hp=>.inl (List.mem_map_of_mem hp)
def bN (now pick:Int):List Int:=if pick%4=0 then [now+1] else if pick%4=2 then [now+2+pick/4%8] else if pick%4=3 then [now+1,now+2+pick/4%8] else []
theorem gP (x:Msg):Instr.fill (fun i=>some (i*13,13)) ((Array.range (1*13)).map ((.agg #[.int .i64 0,.int .i64 0,.int .i64 0,.int .i64 0,.int .i64 0,.int .i64 0,.int .i64 0,.int .i64 0,.bool false,.slice none 0 0,.int .i64 0,.string ⟨#[]⟩,.bool false]:Value).cells[·%(.agg #[.int .i64 0,.int .i64 0,.int .i64 0,.int .i64 0,.int .i64 0,.int .i64 0,.int .i64 0,.int .i64 0,.bool false,.slice none 0 0,.int .i64 0,.string ⟨#[]⟩,.bool false]:Value).cells.size]!)) [(0,.agg (aM x).toArray)]=some (aM x).toArray:=by
 first
  |kernel_rfl
  |rfl
theorem lP {w:World} {b t:Nat} {p:Msg×Int} (h:Blk w b t (cS p).toArray):w.rangeAt b (0+0) (aM p.1):=h.range 0 _ fun j v hv=>by
 match j,hv with
 |0,hv=>exact hv
 |1,hv=>exact hv
 |2,hv=>exact hv
 |3,hv=>exact hv
 |4,hv=>exact hv
 |5,hv=>exact hv
 |6,hv=>exact hv
 |7,hv=>exact hv
 |8,hv=>exact hv
 |9,hv=>exact hv
 |10,hv=>exact hv
 |11,hv=>exact hv
 |12,hv=>exact hv
 |j+13,hv=>simp [aM] at hv
theorem mE (base:Nat) (A:Option Addr) (c n i:Nat) (xs:List Value) (w:World) (ho:w.ownsRow base 52 14 (.slice A n c) n xs) (hi:i≤n) (h1:∀ u∈xs,u.oneCell'=true) (hl:n≤100000000) :
 Rt prog 20 [.slice A n c,.int .i64 0,.int .i64 (i:Nat)] w fun v w'=>(∃ A' c',v=.slice A' (n-i) c'∧w'.ownsRow base 52 14 (.slice A' (n-i) c') (n-i) (xs.drop (i*14)))∧w.grownBy w' (A.map (·.block)):=by
 rcases Nat.eq_zero_or_pos i with rfl | h0
 ·have hc9:c≤9223372036854775807:=by
   rcases ho.2 with ⟨h0,_⟩ | ⟨g,cap,cur,hv,_,_,_,h4,_⟩
   ·simp only [Value.slice.injEq] at h0;omega
   ·simp only [Value.slice.injEq] at hv;unfold maxLen at h4;omega
  refine (iZ A c n w (dN ho) hc9).mono fun v w' ⟨hv,hw⟩=>?_
  subst hw;exact ⟨⟨A,c,hv,by simpa using ho⟩,World.grownBy.refl _ _⟩
 ·refine (kk base A c n 0 i xs w ho h0 hi h1 (by omega)).mono fun v w' ⟨⟨A',c',hv,ho'⟩,hg⟩=>⟨⟨A',c',?_,?_⟩,hg⟩
  ·simpa using hv
  ·simpa using ho'
theorem bH {w:World} {base base2 e e2 s s2 n m c c2:Nat} {A B:Option Addr} {xs ys:List Value} (h:w.ownsRow base e s (.slice A n c) n xs) (k:w.ownsRow base2 e2 s2 (.slice B m c2) m ys) (hne:e≠e2):(Value.slice A n c).ownBlock=none∨(Value.slice A n c).ownBlock≠B.map (·.block):=by
 rcases h.2 with ⟨h0,_⟩ | ⟨g,cap,cur,hv,hg,hh,r⟩
 ·exact .inl (by rw [h0];rfl)
 ·refine .inr fun e0=>?_
  have hb:Blk w g e cur:=hh;have:=aD k hb hne g (by rw [←e0,hv];rfl);exact this rfl
theorem jl {L:aG} {k:Nat} (h:k<L.length):((L.take k).map (·.1)).flatMap aM++aM L[k].1=((L.take (k+1)).map (·.1)).flatMap aM:=by
 rw [List.take_succ_eq_append_getElem h,List.map_append,List.flatMap_append];simp
theorem kJ (base b:Nat) (A:Option Addr) (c:Nat) (L:aG) (w:World) (hn:bB w base b A c L) (hl:L.length≤4096) (hs:bg L) (x:Msg) (now pick:Int) (hnow:0≤now∧now≤4611686018427387904) (hp:-9223372036854775808≤pick∧pick≤9223372036854775807) (hxE:E1 w base x) (hE0:EOK w base (L.map (·.1))) (hxl:x.es.length≤1000000) :
 Rt prog 13 [.pointer (some ⟨b,0,none⟩),.agg (aM x).toArray,.int .i64 now,.int .i64 pick] w (fun v w'=>v=.tuple #[]∧(∃ A' c' L',bB w' base b A' c' L'∧plP L'=b9 (pl x) (bN now pick) (plP L)∧EOK w' base (L'.map (·.1))∧bg L'∧FR w L L')∧Kp base b w w'):=by
 have hd4:-9223372036854775808≤pick/4∧pick/4≤9223372036854775807:=by omega
 have hd8:0≤pick/4%8∧pick/4%8<8:=by omega
 have hd9:0≤pick%4∧pick%4<4:=by omega
 refine enter (n:=53) Try.func13 rfl rfl rfl (ag (ab (dg (v:=.agg _) rfl ?_)));intro b5 w1 E5 hb5 hk5;refine ah (af (ag (ab (mvi rfl (aC fY (gQ pick 4 _ (.inl rfl) hp) ?_)))));rintro v16 w2 ⟨rfl,E16⟩;refine mvt rfl (aa (cE rfl rfl) (aa (cE rfl rfl) (asi rfl (asi rfl (ah (af (ag (ab (mvi rfl (aC fY (gQ (pick/4) 8 _ (.inr rfl) hd4) ?_))))))))));rintro v21 w3 ⟨rfl,E21⟩;refine mvt rfl (aa (cE rfl rfl) (aa (cE rfl rfl) (asi rfl (asi rfl (ah (af (ag (ab (mvi rfl (aa (bG rfl rfl (by omega)) (mvi rfl ?_)))))))))));refine aa (bG rfl rfl (by omega)) (mvi rfl (aa (bG rfl rfl (by omega)) (asi rfl (asi rfl (ah (af (ag (ab (mvi rfl (ah (af (aO (ag (ab (aa (bz rfl rfl) ?_)))))))))))))));refine asb rfl (ah (af (m6 rfl (fun Q4=>?_) (fun Q4=>?_))))
 ·refine ab (mvp rfl (aa (aP (cs:=[_,_,_,_,_,_,_,_,_,_,_,_,_]) aI ay rfl (by exact (hk5.from_ ((E16.next E21))).whole)) ?_));refine mvi rfl ?_;have hz36:b<(w3).heap.size:=Nat.lt_of_lt_of_le hn.2.1.lt (((al.rfl_.next E5).next E16).next E21).size;have hF36:al w w3:=(((al.rfl_.next E5).next E16).next E21);refine ek (v:=.int _ _) aX rfl rfl rfl ?_;intro b36 w5 E36 hb36 hk36;have hgb36:b36≠b:=by omega
  have hE36:=hF36.next E36;refine aC eJ (hZ base b A c L _ (hn.from_ ((((al.rfl_.next E5).next E16).next E21).next E36)) hl hs x [now+1] b36 hk36 hgb36 (by simp) (hxE.from_ ((((al.rfl_.next E5).next E16).next E21).next E36)) (hE0.from_ ((((al.rfl_.next E5).next E16).next E21).next E36)) hxl) ?_;rintro v37 w6 ⟨rfl,⟨A37,c37,L37,hn37,hp37,he37,hs37,hf37⟩,hK37⟩;refine ah (aQ (bZ (eE rfl ?_)));exact ⟨rfl,⟨A37,c37,L37,hn37,by unfold bN;rw [if_pos (by omega)];exact hp37,he37,hs37,hf37.mono hE36.size⟩,(Kp.of_from hE36).trans hK37⟩
 refine ag (ab (aa (bz rfl rfl) (asb rfl (ah (af (m6 rfl (fun Q7=>?_) (fun Q7=>?_)))))))
 ·refine ab (mvp rfl (aa (aP (cs:=[_,_,_,_,_,_,_,_,_,_,_,_,_]) aI ay rfl (by exact (hk5.from_ ((E16.next E21))).whole)) ?_));refine mvi rfl ?_;have hz43:b<(w3).heap.size:=Nat.lt_of_lt_of_le hn.2.1.lt (((al.rfl_.next E5).next E16).next E21).size;have hF43:al w w3:=(((al.rfl_.next E5).next E16).next E21);refine ek (v:=.int _ _) aX rfl rfl rfl ?_;intro b43 w8 E43 hb43 hk43;have hgb43:b43≠b:=by omega
  have hE43:=hF43.next E43;refine aC eJ (hZ base b A c L _ (hn.from_ ((((al.rfl_.next E5).next E16).next E21).next E43)) hl hs x [now+2+pick/4%8] b43 hk43 hgb43 (by simp) (hxE.from_ ((((al.rfl_.next E5).next E16).next E21).next E43)) (hE0.from_ ((((al.rfl_.next E5).next E16).next E21).next E43)) hxl) ?_;rintro v44 w9 ⟨rfl,⟨A44,c44,L44,hn44,hp44,he44,hs44,hf44⟩,hK44⟩;refine ah (aQ (bZ (eE rfl ?_)));exact ⟨rfl,⟨A44,c44,L44,hn44,by unfold bN;rw [if_neg (by omega),if_pos (by omega)];exact hp44,he44,hs44,hf44.mono hE43.size⟩,(Kp.of_from hE43).trans hK44⟩
 refine ag (ab (aa (bz rfl rfl) (asb rfl (ah (af (m6 rfl (fun Q10=>?_) (fun Q10=>?_)))))))
 ·refine ab (mvp rfl (aa (aP (cs:=[_,_,_,_,_,_,_,_,_,_,_,_,_]) aI ay rfl (by exact (hk5.from_ ((E16.next E21))).whole)) ?_));refine mvi rfl (mvi rfl ?_);have hz51:b<(w3).heap.size:=Nat.lt_of_lt_of_le hn.2.1.lt (((al.rfl_.next E5).next E16).next E21).size;have hF51:al w w3:=(((al.rfl_.next E5).next E16).next E21);refine lC [.tmp 49,.tmp 50] [.int _ _,.int _ _] aX rfl rfl rfl rfl (by simp [Value.cells]) ?_;intro b51 w11 E51 hb51 hk51;have hgb51:b51≠b:=by omega
  have hE51:=hF51.next E51;refine aC eJ (hZ base b A c L _ (hn.from_ ((((al.rfl_.next E5).next E16).next E21).next E51)) hl hs x [now+1,now+2+pick/4%8] b51 hk51 hgb51 (by simp) (hxE.from_ ((((al.rfl_.next E5).next E16).next E21).next E51)) (hE0.from_ ((((al.rfl_.next E5).next E16).next E21).next E51)) hxl) ?_;rintro v52 w12 ⟨rfl,⟨A52,c52,L52,hn52,hp52,he52,hs52,hf52⟩,hK52⟩;refine ah (aQ (bZ (eE rfl ?_)));exact ⟨rfl,⟨A52,c52,L52,hn52,by unfold bN;rw [if_neg (by omega),if_neg (by omega),if_pos (by omega)];exact hp52,he52,hs52,hf52.mono hE51.size⟩,(Kp.of_from hE51).trans hK52⟩
 refine aE (aQ (bZ (eE rfl ?_)));exact ⟨rfl,⟨A,c,L,hn.from_ (((al.rfl_.next E5).next E16).next E21),by unfold bN;rw [if_neg (by omega),if_neg (by omega),if_neg (by omega)];rfl,hE0.from_ (((al.rfl_.next E5).next E16).next E21),hs,FR.rfl_⟩,Kp.of_from (((al.rfl_.next E5).next E16).next E21)⟩
theorem ld (base b:Nat) (A:Option Addr) (c:Nat) (L:aG) (w:World) (hn:bB w base b A c L) :
 Rt prog 11 [.pointer (some ⟨b,0,none⟩)] w (fun v w'=>v=.tuple #[]∧bB w' base b none 0 []∧Kp base b w w'):=by
 refine enter (n:=5) Try.func11 rfl rfl rfl (ab (mvp rfl (aa (ax rfl) (aa (ai bm rfl) (dG (v:=.slice _ _ _) e_ rfl rfl rfl (hn.2.1) (by show 0<1;decide) ?_)))));intro w1 O0 P0;refine ah (bZ (eE rfl (⟨rfl,⟨hn.1,P0,World.ownsRow_nil _ _ _ _⟩,Kp.of_only O0 hn.1⟩)))
theorem kQ (w:World) :
 Rt prog 5 [] w (fun v w'=>(∃ b,v=.pointer (some ⟨b,0,none⟩)∧bB w' w.heap.size b none 0 [])∧al w w'):=by
 refine enter (n:=3) Try.func5 rfl rfl rfl (ag (ab (asp rfl (ah (af (ag (ab (aa (cl (l:=[]) (je)) (dg (v:=.agg _) rfl ?_)))))))));intro b2 w1 E2 hb2 hk2;refine asp rfl (ah (af (aA (bu (v:=.pointer _) rfl rfl (⟨⟨b2,rfl,Nat.le_of_eq hb2.symm,hk2,World.ownsRow_nil _ _ _ _⟩,(al.rfl_.next E2)⟩)))))
theorem hP (base b:Nat) (A:Option Addr) (c:Nat) (L:aG) (w:World) (hn:bB w base b A c L) (hl:L.length≤4096) (hs:bg L) (now:Int) :
 Rt prog 7 [.pointer (some ⟨b,0,none⟩),.int .i64 now] w (fun v w'=>(∃ A' c',v=.slice A' (aK L now) c'∧w'.ownsRow w.heap.size 33 13 (.slice A' (aK L now) c') (aK L now) (((L.take (aK L now)).map (·.1)).flatMap aM))∧(∃ A' c',bB w' base b A' c' (L.drop (aK L now)))∧Kp base b w w'):=by
 refine enter (n:=39) Try.func7 rfl rfl rfl (ag (ab (ass rfl (ah (af (ag (ab (mvp rfl (mvi rfl (aC gX (k6 base b A c L _ (hn.from_ al.rfl_) (by omega) now hs) ?_))))))))));rintro v11 w1 ⟨⟨i,rfl,hcut⟩,E11⟩;obtain hdu:=fw hcut;have hiL:=hcut.1;have hcp:=dN hn.2.2;refine asi rfl (ah (af (ag (ab (ass rfl (ah (af (ag (ag (ab (mvp rfl (aa (ax rfl) (aa (ai bm rfl) (aa (aq cv rfl (by exact (hn.from_ (al.rfl_.next E11)).2.1.rd 0 rfl)) ?_))))))))))))));refine mvi rfl (aa (cX (v':=.slice A i c) (aR (l:=0) (h:=i) az rfl (.inl ⟨rfl,rfl⟩) (.inr ⟨_,_,_,rfl,rfl,rfl⟩) (by omega) (by omega)) (by rw [cR,Nat.sub_zero,Nat.sub_zero])) ?_);refine aa (bf bq rfl) (mvi rfl (ah (af (aO (cg (G:=Nat×Option Addr×Nat) [8,20,21,22,23,24,25,26,27,28] (fun (k,A6,c6)=>[(6,.slice A6 k c6),(19,.int .i64 (k:Nat))]) (fun (k,A6,c6) w'=>k≤i∧w'.ownsRow w.heap.size 33 13 (.slice A6 k c6) k (((L.take k).map (·.1)).flatMap aM)∧al w w') (fun (k,_,_)=>i-k) ((0,none,0)) ⟨rfl,rfl,trivial⟩ ?_ ?_)))))
 ·exact ⟨Nat.zero_le _,World.ownsRow_nil _ _ _ _,(al.rfl_.next E11)⟩
 rintro ⟨k,A6,c6⟩ ρ2 w2 ⟨hk,ho6,hB⟩;refine ag (ab (aa (bC rfl rfl) (ah (af (ag (m7 rfl (fun Q3=>?_) (fun Q3=>?_)))))))
 ·have hkL:k<L.length:=by omega
  obtain ⟨ba,oa,hA,hcs⟩:=hn.row (by omega);subst hA;refine aE (af (ag (aO (ag (ab (aa (aH az rfl rfl (by omega)) (aa (aP (cs:=cS (L[k]'hkL)) dy ct rfl (cj hB (hcs k hkL))) (dD gW ?_))))))));intro b8 w4 E8 hb8 hk8;refine ej (vs:=[_,_,_,_,_,_,_,_,_,_,_,_,_,_]) ct rfl rfl (by simp [Value.oneCell']) (hk8) rfl ?_;intro w5 O5 P5;have hF6:al _ w5:=E8.only O5 (Nat.le_of_eq hb8.symm);refine ah (af (ab (mvs rfl (aa (ai fo rfl) (aa (aP (cs:=aM (L[k]'hkL).1) aI ay rfl (lP (P5.from_ al.rfl_))) (dA (cells:=(aM (L[k]'hkL).1).toArray) aT rfl rfl (gP _) ?_))))));intro b26 w6 E26 hb26 hk26;have hF26:=hF6.next E26;refine eU (a0:=w) (news:=aM (L[k]'hkL).1) aT rfl (by decide) rfl (ho6.kept_from hF26) (((hB.next E8).only O5 (by rw [hb8];exact hB.size)).next E26) rfl rfl (fun _=>⟨b26,0,rfl,hk26.whole⟩) (fun h=>by cases h) (by simp [aM,Value.oneCell']) (by omega) (by omega) ?_;intro A27 c27 w7 ho27 B27 hg27;refine ass rfl (ah (aQ (af (ab (aa (bA (b:=1) rfl rfl (by omega)) (mvi rfl (ah ?_)))))));refine bL ((k+1,A27,c27)) ⟨(by first | rfl | (refine aU ?_;omega)),(by first | rfl | (refine aU ?_;omega)),trivial⟩ (by (iterate 24 refine a_ rfl ?_);exact bl) ⟨?_,?_⟩
  ·exact ⟨by omega,by rw [←jl hkL];exact ho27,B27⟩
  ·show i-(k+1)<i-k;omega
 refine bE (aN (aN (bk (af (ag (ab (mvp rfl (mvp rfl (aa (ax rfl) (aa (ai bm rfl) (aa (aq cv rfl (by exact (hn.from_ hB).2.1.rd 0 rfl)) ?_)))))))))));refine mvi rfl ?_;have hF35:al w w2:=hB;have hn35:=hn.from_ hF35;refine aC jH (mE base A c L.length i (L.flatMap cS) _ (hn.from_ hB).2.2 hcut.1 (jP _) (by omega)) ?_;rintro v35 w8 ⟨⟨A35,c35,rfl,ho35⟩,hg35⟩;have hbt35:Blk w8 b 48 #[.slice A L.length c]:=(hn35.2.1).grown hg35 hn35.ne;refine aa (ax rfl) (aa (ai bm rfl) (dG (v:=.slice _ _ _) e_ rfl rfl rfl (hbt35) (by show 0<1;decide) ?_));intro w9 O8 P8;refine ah (af (ag (ab (mvs rfl (ass rfl (ah (af (aA (bu (v:=.slice _ _ _) rfl rfl ?_)))))))));obtain rfl:k=i:=by omega
 rw [hdu];have hKg:=Kp.of_grown (b:=b) hg35 hn35.2.2;refine ⟨⟨A6,c6,rfl,?_⟩,⟨A35,c35,hn.1,?_,?_⟩,((Kp.of_from hF35).trans hKg).trans (Kp.of_only O8 hn.1)⟩
 ·refine aL ((ho6).kept hg35 ?_) O8 ?_
  ·exact bH ho6 hn35.2.2 (by decide)
  ·exact aD (ho6.kept hg35 (bH ho6 hn35.2.2 (by decide))) hbt35 (by decide)
 ·rw [List.length_drop];exact P8
 ·rw [List.length_drop,←de fv];exact aL ho35 O8 (aD ho35 hbt35 (by decide))
theorem gk:bw prog 33 0=some 0:=by kernel_rfl
theorem gj:bw prog 33 1=some 1:=by kernel_rfl
theorem gi:bw prog 33 2=some 2:=by kernel_rfl
theorem gh:bw prog 33 3=some 3:=by kernel_rfl
theorem gf:bw prog 33 4=some 4:=by kernel_rfl
theorem gd:bw prog 33 5=some 5:=by kernel_rfl
theorem gb:bw prog 33 6=some 6:=by kernel_rfl
theorem ga:bw prog 33 7=some 7:=by kernel_rfl
theorem f_:bw prog 33 8=some 8:=by kernel_rfl
theorem fy:ez prog 4=some false:=by kernel_rfl
theorem lu:aB prog 31=true:=by kernel_rfl
theorem fr:bw prog 33 10=some 10:=by kernel_rfl
theorem ei:bw prog 33 11=some 11:=by kernel_rfl
theorem fx:ez prog 9=some false:=by kernel_rfl
theorem fq:bw prog 33 12=some 12:=by kernel_rfl
theorem cU:(bW prog 27).isSome=true:=by kernel_rfl
theorem cf:bW prog 27=some (33,13):=by kernel_rfl
theorem lv:aB prog 21=true:=by kernel_rfl
theorem toList_inj {a b:ByteArray}:a.toList=b.toList↔a=b:=by
 refine ⟨fun hh=>?_,fun h=>by rw [h]⟩;rw [ByteArray.toList_eq,ByteArray.toList_eq] at hh;obtain ⟨⟨x⟩⟩:=a;obtain ⟨⟨y⟩⟩:=b
 simp_all
instance:DecidableEq Ent:=fun x y=>decidable_of_iff (x.i=y.i∧x.t=y.t∧x.d=y.d) ⟨fun h=>by cases x;cases y;simp_all,fun h=>by rw [h];exact ⟨rfl,rfl,rfl⟩⟩
theorem mX {α:Type} {a b:List α} {k:Nat} (hl:a.length=b.length) (hk:¬ k<a.length) (h:a.take k=b.take k):a=b:=by
 rw [List.take_of_length_le (by omega),List.take_of_length_le (by omega)] at h;exact h
theorem lz {α:Type} {a b:List α} {k:Nat} (ha:k<a.length) (hb:k<b.length) (h:a.take k=b.take k) (he:a[k]=b[k]):a.take (k+1)=b.take (k+1):=by
 rw [List.take_succ_eq_append_getElem ha,List.take_succ_eq_append_getElem hb,h,he]
theorem mY (a b:Ent) (w:World):(Op.equalIn 10000 60 (.agg #[.int .i64 a.i,.int .i64 a.t,.string a.d]) (.agg #[.int .i64 b.i,.int .i64 b.t,.string b.d])).run prog w=.ok (decide (a=b)) w:=by
 have u3:=Try.underlying3;have a3:=Try.isAgg3;have z3:=Try.sizeOf3;have u9:=Try.underlying9;have a9:=Try.isAgg9;have z9:=Try.sizeOf9;have hS:prog.underlying 60=some (.struct (prog.fieldsOf 60)):=by kernel_rfl
 have hp:prog.stoodInHeld 60=false:=by kernel_rfl
 obtain ⟨i1,t1,d1⟩:=a;obtain ⟨i2,t2,d2⟩:=b;rw [show (10000:Nat)=9999+1 from rfl,run_equalIn_agg w 9999 60 _ _ hS hp];simp only [Program.fieldsOf,Try.underlying60 ]
 go_simp
 simp only [toList_inj];by_cases h1:i1=i2 <;> by_cases h2:t1=t2 <;> by_cases h3:d1=d2 <;> simp [h1,h2,h3]
theorem j6 {ρ:Operand→Value} {w:World} {yt:TypeId} {x y:Operand} {a b:Ent} (hx:ρ x=.agg #[.int .i64 a.i,.int .i64 a.t,.string a.d]) (hy:ρ y=.agg #[.int .i64 b.i,.int .i64 b.t,.string b.d]):RO prog ρ (.binOp .neq 60 x y yt) w (.bool (!decide (a=b))) w:=by
 refine eD hx hy (run_eqGuard_agg w _ _ _ _ _ _ (by kernel_rfl)) ?_;rw [run_neq_struct,mY];rfl
theorem nj (a b:ByteArray):(a.toList==b.toList)=decide (a=b):=by
 rw [Bool.eq_iff_iff,beq_iff_eq,decide_eq_true_eq,toList_inj]
theorem m8 (a b:Bool):(a==b)=decide (a=b):=by cases a <;> cases b <;> rfl
theorem kY (A B:Option Addr) (ca cb n m:Nat) (xs ys:List Ent) (w:World) (hn:n=xs.length) (hm:m=ys.length) (h1:cw w (.slice A n ca) xs) (h2:cw w (.slice B m cb) ys) (hl:xs.length≤400000000000) :
 Rt prog 31 [.slice A n ca,.slice B m cb] w (fun v w'=>v=.bool (decide (xs=ys))∧al w w'):=by
 subst hn hm;refine enter (n:=26) Try.func31 rfl rfl rfl (ag (ab (asb rfl (ah (af (ag (ag (ab (mvs rfl (aa (bf cc rfl) (mvs rfl (aa (bf cc rfl) (aa (ia rfl rfl) ?_)))))))))))));refine ah (af (aw rfl (fun Q1=>?_) (fun Q1=>?_)))
 ·replace Q1:=ir Q1;replace Q1:=cD Q1;refine ag (ab (asb rfl (ah (af (aA (bd (bu (v:=.bool _) rfl rfl (⟨congrArg Value.bool (decide_eq_false (fun e=>absurd (congrArg List.length e) (by omega))).symm,al.rfl_⟩))))))))
 replace Q1:=iu Q1;replace Q1:=cC Q1;have hlen:xs.length=ys.length:=by omega
 refine aE (af (ag (ag (ab (asi rfl (ah (af (aO (cg (G:=Nat) [4,11,12,13,14,15,16,17,18,19,20,21,22,23,24,25] (fun k=>[(5,.int .i64 (k:Nat))]) (fun k w'=>k≤xs.length∧xs.take k=ys.take k∧al w w') (fun k=>xs.length-k) (0) ⟨rfl,trivial⟩ ?_ ?_)))))))))
 ·exact ⟨Nat.zero_le _,rfl,al.rfl_⟩
 rintro k ρ2 w2 ⟨hk,ht,hB⟩;refine ag (ag (ab (mvi rfl (mvs rfl (aa (bf cc rfl) (aa (bC rfl rfl) (ah (af (m7 rfl (fun Q3=>?_) (fun Q3=>?_))))))))))
 ·have hkx:k<xs.length:=by omega
  have hky:k<ys.length:=by omega
  obtain ⟨ba,oa,rfl,hca⟩:=eZ h1 (by omega);obtain ⟨bb,ob,rfl,hcb⟩:=eZ h2 (by omega);refine aE (af (ag (aO (ag ?_))));apply bY 9 [(17,eqp _),(18,eqp _),(19,eqp _),(20,eqp (.agg #[.int .i64 (xs[k]'hkx).i,.int .i64 (xs[k]'hkx).t,.string (xs[k]'hkx).d])),(21,eqp _),(22,eqp _),(23,eqp _),(24,eqp (.agg #[.int .i64 (ys[k]'hky).i,.int .i64 (ys[k]'hky).t,.string (ys[k]'hky).d])),(25,eqp (.bool (!decide (xs[k]'hkx=ys[k]'hky))))] (by repeat first | exact cq | refine cp ?_ | refine bU ?_) (by kernel_rfl) (by kernel_rfl) ⟨aj _,aj _,aj _,aj _,aj _,aj _,aj _,aj _,aj _,trivial⟩
  case hop=>
   constructor
   ·rintro-w5 D5;exact ao (av (v:=.slice _ _ _) rfl) rfl
   constructor
   ·rintro-w6 D6;exact ao (av (v:=.int _ _) rfl) rfl
   constructor
   ·rintro-w7 D7;rintro _ rfl _ rfl;exact ao (aH cT rfl rfl (by omega)) rfl
   constructor
   ·rintro-w8 D8;rintro _ rfl;exact ao (aP (cs:=[.int .i64 xs[k].i,.int .i64 xs[k].t,.string xs[k].d]) eh dv rfl (cj (hB.next D8) (hca k hkx))) rfl
   constructor
   ·rintro-w9 D9;exact ao (av (v:=.slice _ _ _) rfl) rfl
   constructor
   ·rintro-w10 D10;exact ao (av (v:=.int _ _) rfl) rfl
   constructor
   ·rintro-w11 D11;rintro _ rfl _ rfl;exact ao (aH cT rfl rfl (by omega)) rfl
   constructor
   ·rintro-w12 D12;rintro _ rfl;exact ao (aP (cs:=[.int .i64 ys[k].i,.int .i64 ys[k].t,.string ys[k].d]) eh dv rfl (cj (hB.next D12) (hcb k hky))) rfl
   constructor
   ·rintro-w13 D13;rintro v13_20 rfl v13_24 rfl;exact ao (j6 (a:=xs[k]) (b:=ys[k]) rfl rfl) rfl
   exact trivial
  case hend=>
   intro w14 D14;rintro _ rfl _ rfl _ rfl v20 rfl _ rfl _ rfl _ rfl v24 rfl v25 rfl;show St ..;refine ah (af (aw rfl (fun Q15=>?_) (fun Q15=>?_)))
   ·replace Q15:=ir Q15;replace Q15:=dF_ Q15;have hne:¬ xs[k]=ys[k]:=by simpa using Q15
    refine ag (ab (asb rfl (ah (af (aA (cP (bd (bd (cP (bd (bu (v:=.bool _) rfl rfl (⟨congrArg Value.bool (decide_eq_false (fun e=>by subst e;exact hne rfl)).symm,(hB.next D14)⟩))))))))))))
   replace Q15:=iu Q15;replace Q15:=dT_ Q15;have heq:xs[k]=ys[k]:=by simpa using Q15
   refine aE (aQ (af (ab (mvi rfl (aa (bA (b:=1) rfl rfl (by omega)) (asi rfl (ah ?_)))))));refine bL (k+1) ⟨(by first | rfl | (refine aU ?_;omega)),trivial⟩ (by (iterate 33 refine a_ rfl ?_);exact bl) ⟨?_,?_⟩
   ·exact ⟨by omega,lz hkx hky ht heq,(hB.next D14)⟩
   ·omega
 refine bE (aN (aN (bk (af (ag (ab (asb rfl (ah (af (aA (bu (v:=.bool _) rfl rfl (⟨congrArg Value.bool (decide_eq_true (mX hlen (by omega) ht)).symm,hB⟩))))))))))))
theorem lZ (k f t tm ix lt cm rd:Int) (ok:Bool) (E:Option Addr) (n c:Nat) (a:Int) (d:ByteArray) (dn:Bool) (k2 f2 t2 tm2 ix2 lt2 cm2 rd2:Int) (ok2:Bool) (Eb:Option Addr) (n2 c2:Nat) (a2:Int) (d2:ByteArray) (dn2:Bool) (w:World) (es es2:List Ent) (hn:n=es.length) (hn2:n2=es2.length) (he:cw w (.slice E n c) es) (he2:cw w (.slice Eb n2 c2) es2) (hl:es.length≤400000000000) :
 Rt prog 21 [.agg #[.int .i64 k,.int .i64 f,.int .i64 t,.int .i64 tm,.int .i64 ix,.int .i64 lt,.int .i64 cm,.int .i64 rd,.bool ok,.slice E n c,.int .i64 a,.string d,.bool dn],.agg #[.int .i64 k2,.int .i64 f2,.int .i64 t2,.int .i64 tm2,.int .i64 ix2,.int .i64 lt2,.int .i64 cm2,.int .i64 rd2,.bool ok2,.slice Eb n2 c2,.int .i64 a2,.string d2,.bool dn2]] w (fun v w'=>v=.bool (decide (k=k2∧f=f2∧t=t2∧tm=tm2∧ix=ix2∧lt=lt2∧cm=cm2∧rd=rd2∧ok=ok2∧es=es2∧a=a2∧d=d2∧dn=dn2))∧al w w'):=by
 refine enter (n:=94) Try.func21 rfl rfl rfl (ag (ab (dg (v:=.agg _) rfl ?_)));intro b2 w1 E2 hb2 hk2;refine dg (v:=.agg _) rfl ?_;intro b3 w2 E3 hb3 hk3;replace hk2:=hk2.from_ E3;refine asb rfl (ah (af (ag (ab (aa (ai gk rfl) (aa (aq ar rfl (by exact (hk2.from_ al.rfl_).rd 0 rfl)) ?_))))));refine aa (ai gk rfl) (aa (aq ar rfl (by exact (hk3.from_ al.rfl_).rd 0 rfl)) ?_);refine aa (bz rfl rfl) (mvb rfl (mL (t:=10) rfl (fun Q3=>?_) (fun Q3=>?_)))
 ·have q0:=Q3;refine ak rfl (aa (ai gj rfl) (ak rfl (aa (aq ar rfl (by exact (hk2.from_ al.rfl_).rd 1 rfl)) ?_)));refine ak rfl (aa (ai gj rfl) (ak rfl (aa (aq ar rfl (by exact (hk3.from_ al.rfl_).rd 1 rfl)) ?_)));refine ak rfl (aa (bz rfl rfl) (aa (bh (v:=.bool _) rfl rfl) (mvb rfl (mL (t:=17) rfl (fun Q4=>?_) (fun Q4=>?_)))))
  ·have q1:=Q4;refine ak rfl (aa (ai gi rfl) (ak rfl (aa (aq ar rfl (by exact (hk2.from_ al.rfl_).rd 2 rfl)) ?_)));refine ak rfl (aa (ai gi rfl) (ak rfl (aa (aq ar rfl (by exact (hk3.from_ al.rfl_).rd 2 rfl)) ?_)));refine ak rfl (aa (bz rfl rfl) (aa (bh (v:=.bool _) rfl rfl) (mvb rfl (mL (t:=24) rfl (fun Q5=>?_) (fun Q5=>?_)))))
   ·have q2:=Q5;refine ak rfl (aa (ai gh rfl) (ak rfl (aa (aq ar rfl (by exact (hk2.from_ al.rfl_).rd 3 rfl)) ?_)));refine ak rfl (aa (ai gh rfl) (ak rfl (aa (aq ar rfl (by exact (hk3.from_ al.rfl_).rd 3 rfl)) ?_)));refine ak rfl (aa (bz rfl rfl) (aa (bh (v:=.bool _) rfl rfl) (mvb rfl (mL (t:=31) rfl (fun Q6=>?_) (fun Q6=>?_)))))
    ·have q3:=Q6;refine ak rfl (aa (ai gf rfl) (ak rfl (aa (aq ar rfl (by exact (hk2.from_ al.rfl_).rd 4 rfl)) ?_)));refine ak rfl (aa (ai gf rfl) (ak rfl (aa (aq ar rfl (by exact (hk3.from_ al.rfl_).rd 4 rfl)) ?_)));refine ak rfl (aa (bz rfl rfl) (aa (bh (v:=.bool _) rfl rfl) (mvb rfl (mL (t:=38) rfl (fun Q7=>?_) (fun Q7=>?_)))))
     ·have q4:=Q7;refine ak rfl (aa (ai gd rfl) (ak rfl (aa (aq ar rfl (by exact (hk2.from_ al.rfl_).rd 5 rfl)) ?_)));refine ak rfl (aa (ai gd rfl) (ak rfl (aa (aq ar rfl (by exact (hk3.from_ al.rfl_).rd 5 rfl)) ?_)));refine ak rfl (aa (bz rfl rfl) (aa (bh (v:=.bool _) rfl rfl) (mvb rfl (mL (t:=45) rfl (fun Q8=>?_) (fun Q8=>?_)))))
      ·have q5:=Q8;refine ak rfl (aa (ai gb rfl) (ak rfl (aa (aq ar rfl (by exact (hk2.from_ al.rfl_).rd 6 rfl)) ?_)));refine ak rfl (aa (ai gb rfl) (ak rfl (aa (aq ar rfl (by exact (hk3.from_ al.rfl_).rd 6 rfl)) ?_)));refine ak rfl (aa (bz rfl rfl) (aa (bh (v:=.bool _) rfl rfl) (mvb rfl (mL (t:=52) rfl (fun Q9=>?_) (fun Q9=>?_)))))
       ·have q6:=Q9;refine ak rfl (aa (ai ga rfl) (ak rfl (aa (aq ar rfl (by exact (hk2.from_ al.rfl_).rd 7 rfl)) ?_)));refine ak rfl (aa (ai ga rfl) (ak rfl (aa (aq ar rfl (by exact (hk3.from_ al.rfl_).rd 7 rfl)) ?_)));refine ak rfl (aa (bz rfl rfl) (aa (bh (v:=.bool _) rfl rfl) (mvb rfl (mL (t:=59) rfl (fun Q10=>?_) (fun Q10=>?_)))))
        ·have q7:=Q10;refine ak rfl (aa (ai f_ rfl) (ak rfl (aa (aq fy rfl (by exact (hk2.from_ al.rfl_).rd 8 rfl)) ?_)));refine ak rfl (aa (ai f_ rfl) (ak rfl (aa (aq fy rfl (by exact (hk3.from_ al.rfl_).rd 8 rfl)) ?_)));refine ak rfl (aa (cX (jN (by kernel_rfl) rfl rfl) (congrArg Value.bool (m8 ok ok2))) (aa (bh (v:=.bool _) rfl rfl) (mvb rfl (mM (t:=66) rfl (fun Q11=>?_) (fun Q11=>?_)))))
         ·have q8:=Q11;refine ak rfl (aa (ai bn rfl) (ak rfl (aa (aq cd rfl (by exact (hk2.from_ al.rfl_).rd 9 rfl)) ?_)));refine ak rfl (aa (ai bn rfl) (ak rfl (aa (aq cd rfl (by exact (hk3.from_ al.rfl_).rd 9 rfl)) ?_)));refine ak rfl (aC lu (kY E Eb c c2 n n2 es es2 _ hn hn2 (he.from_ ((al.rfl_.next E2).next E3)) (he2.from_ ((al.rfl_.next E2).next E3)) hl) ?_);rintro v71 w12 ⟨rfl,E71⟩;refine aa (bh (v:=.bool _) rfl rfl) (mvb rfl (mM (t:=73) rfl (fun Q13=>?_) (fun Q13=>?_)))
          ·have q9:=Q13;refine ak rfl (aa (ai fr rfl) (ak rfl (aa (aq ar rfl (by exact (hk2.from_ (al.rfl_.next E71)).rd 10 rfl)) ?_)));refine ak rfl (aa (ai fr rfl) (ak rfl (aa (aq ar rfl (by exact (hk3.from_ (al.rfl_.next E71)).rd 10 rfl)) ?_)));refine ak rfl (aa (bz rfl rfl) (aa (bh (v:=.bool _) rfl rfl) (mvb rfl (mL (t:=80) rfl (fun Q14=>?_) (fun Q14=>?_)))))
           ·have q10:=Q14;refine ak rfl (aa (ai ei rfl) (ak rfl (aa (aq fx rfl (by exact (hk2.from_ (al.rfl_.next E71)).rd 11 rfl)) ?_)));refine ak rfl (aa (ai ei rfl) (ak rfl (aa (aq fx rfl (by exact (hk3.from_ (al.rfl_.next E71)).rd 11 rfl)) ?_)));refine ak rfl (aa (cX (lJ rfl rfl) (congrArg Value.bool (nj d d2))) (aa (bh (v:=.bool _) rfl rfl) (mvb rfl (mM (t:=87) rfl (fun Q15=>?_) (fun Q15=>?_)))))
            ·have q11:=Q15;refine ak rfl (aa (ai fq rfl) (ak rfl (aa (aq fy rfl (by exact (hk2.from_ (al.rfl_.next E71)).rd 12 rfl)) ?_)));refine ak rfl (aa (ai fq rfl) (ak rfl (aa (aq fy rfl (by exact (hk3.from_ (al.rfl_.next E71)).rd 12 rfl)) ?_)));refine ak rfl (aa (cX (jN (by kernel_rfl) rfl rfl) (congrArg Value.bool (m8 dn dn2))) (aa (bh (v:=.bool _) rfl rfl) (asb rfl (ah (af (aA (bu (v:=.bool _) rfl rfl (⟨congrArg Value.bool ?_,(((al.rfl_.next E2).next E3).next E71)⟩))))))))
             first
              |exact (decide_eq_false hno).symm
              |(rw [decide_eq_decide];exact ⟨fun h=>⟨q0,q1,q2,q3,q4,q5,q6,q7,q8,q9,q10,q11,h⟩,fun h=>h.2.2.2.2.2.2.2.2.2.2.2.2⟩)
            have hno:¬ (k=k2∧f=f2∧t=t2∧tm=tm2∧ix=ix2∧lt=lt2∧cm=cm2∧rd=rd2∧ok=ok2∧es=es2∧a=a2∧d=d2∧dn=dn2):=fun e=>Q15 e.2.2.2.2.2.2.2.2.2.2.2.1
            refine ae rfl rfl (ae rfl rfl (ae rfl rfl (ae rfl rfl (ae rfl rfl (aa (an (v:=.bool _) rfl rfl) (asb rfl (ah (af (aA (bu (v:=.bool _) rfl rfl ?_))))))))));refine ⟨congrArg Value.bool ?_,(((al.rfl_.next E2).next E3).next E71)⟩
            first
             |exact (decide_eq_false hno).symm
             |(rw [decide_eq_decide];exact ⟨fun h=>⟨q0,q1,q2,q3,q4,q5,q6,q7,q8,q9,q10,q11,h⟩,fun h=>h.2.2.2.2.2.2.2.2.2.2.2.2⟩)
           have hno:¬ (k=k2∧f=f2∧t=t2∧tm=tm2∧ix=ix2∧lt=lt2∧cm=cm2∧rd=rd2∧ok=ok2∧es=es2∧a=a2∧d=d2∧dn=dn2):=fun e=>Q14 e.2.2.2.2.2.2.2.2.2.2.1
           refine ae rfl rfl (ae rfl rfl (ae rfl rfl (ae rfl rfl (ae rfl rfl (aa (an (v:=.bool _) rfl rfl) (mvb rfl (ae rfl rfl (ae rfl rfl ?_))))))));refine ae rfl rfl (ae rfl rfl (ae rfl rfl (aa (an (v:=.bool _) rfl rfl) (asb rfl (ah (af (aA (bu (v:=.bool _) rfl rfl (⟨congrArg Value.bool ?_,(((al.rfl_.next E2).next E3).next E71)⟩)))))))))
           first
            |exact (decide_eq_false hno).symm
            |(rw [decide_eq_decide];exact ⟨fun h=>⟨q0,q1,q2,q3,q4,q5,q6,q7,q8,q9,q10,q11,h⟩,fun h=>h.2.2.2.2.2.2.2.2.2.2.2.2⟩)
          have hno:¬ (k=k2∧f=f2∧t=t2∧tm=tm2∧ix=ix2∧lt=lt2∧cm=cm2∧rd=rd2∧ok=ok2∧es=es2∧a=a2∧d=d2∧dn=dn2):=fun e=>Q13 e.2.2.2.2.2.2.2.2.2.1
          refine ae rfl rfl (ae rfl rfl (ae rfl rfl (ae rfl rfl (ae rfl rfl (aa (an (v:=.bool _) rfl rfl) (mvb rfl (ae rfl rfl (ae rfl rfl ?_))))))));refine ae rfl rfl (ae rfl rfl (ae rfl rfl (aa (an (v:=.bool _) rfl rfl) (mvb rfl (ae rfl rfl (ae rfl rfl (ae rfl rfl (ae rfl rfl ?_))))))));refine ae rfl rfl (aa (an (v:=.bool _) rfl rfl) (asb rfl (ah (af (aA (bu (v:=.bool _) rfl rfl (⟨congrArg Value.bool ?_,(((al.rfl_.next E2).next E3).next E71)⟩)))))))
          first
           |exact (decide_eq_false hno).symm
           |(rw [decide_eq_decide];exact ⟨fun h=>⟨q0,q1,q2,q3,q4,q5,q6,q7,q8,q9,q10,q11,h⟩,fun h=>h.2.2.2.2.2.2.2.2.2.2.2.2⟩)
         have hno:¬ (k=k2∧f=f2∧t=t2∧tm=tm2∧ix=ix2∧lt=lt2∧cm=cm2∧rd=rd2∧ok=ok2∧es=es2∧a=a2∧d=d2∧dn=dn2):=fun e=>Q11 e.2.2.2.2.2.2.2.2.1
         refine ae rfl rfl (ae rfl rfl (ae rfl rfl (ae rfl rfl (ae rfl rfl (aa (an (v:=.bool _) rfl rfl) (mvb rfl (ae rfl rfl (ae rfl rfl ?_))))))));refine ae rfl rfl (ae rfl rfl (ae rfl rfl (aa (an (v:=.bool _) rfl rfl) (mvb rfl (ae rfl rfl (ae rfl rfl (ae rfl rfl (ae rfl rfl ?_))))))));refine ae rfl rfl (aa (an (v:=.bool _) rfl rfl) (mvb rfl (ae rfl rfl (ae rfl rfl (ae rfl rfl (ae rfl rfl (ae rfl rfl (aa (an (v:=.bool _) rfl rfl) ?_))))))));refine asb rfl (ah (af (aA (bu (v:=.bool _) rfl rfl (⟨congrArg Value.bool ?_,((al.rfl_.next E2).next E3)⟩)))))
         first
          |exact (decide_eq_false hno).symm
          |(rw [decide_eq_decide];exact ⟨fun h=>⟨q0,q1,q2,q3,q4,q5,q6,q7,q8,q9,q10,q11,h⟩,fun h=>h.2.2.2.2.2.2.2.2.2.2.2.2⟩)
        have hno:¬ (k=k2∧f=f2∧t=t2∧tm=tm2∧ix=ix2∧lt=lt2∧cm=cm2∧rd=rd2∧ok=ok2∧es=es2∧a=a2∧d=d2∧dn=dn2):=fun e=>Q10 e.2.2.2.2.2.2.2.1
        refine ae rfl rfl (ae rfl rfl (ae rfl rfl (ae rfl rfl (ae rfl rfl (aa (an (v:=.bool _) rfl rfl) (mvb rfl (ae rfl rfl (ae rfl rfl ?_))))))));refine ae rfl rfl (ae rfl rfl (ae rfl rfl (aa (an (v:=.bool _) rfl rfl) (mvb rfl (ae rfl rfl (ae rfl rfl (ae rfl rfl (ae rfl rfl ?_))))))));refine ae rfl rfl (aa (an (v:=.bool _) rfl rfl) (mvb rfl (ae rfl rfl (ae rfl rfl (ae rfl rfl (ae rfl rfl (ae rfl rfl (aa (an (v:=.bool _) rfl rfl) ?_))))))));refine mvb rfl (ae rfl rfl (ae rfl rfl (ae rfl rfl (ae rfl rfl (ae rfl rfl (aa (an (v:=.bool _) rfl rfl) (asb rfl (ah (af (aA ?_))))))))));refine bu (v:=.bool _) rfl rfl (⟨congrArg Value.bool ?_,((al.rfl_.next E2).next E3)⟩)
        first
         |exact (decide_eq_false hno).symm
         |(rw [decide_eq_decide];exact ⟨fun h=>⟨q0,q1,q2,q3,q4,q5,q6,q7,q8,q9,q10,q11,h⟩,fun h=>h.2.2.2.2.2.2.2.2.2.2.2.2⟩)
       have hno:¬ (k=k2∧f=f2∧t=t2∧tm=tm2∧ix=ix2∧lt=lt2∧cm=cm2∧rd=rd2∧ok=ok2∧es=es2∧a=a2∧d=d2∧dn=dn2):=fun e=>Q9 e.2.2.2.2.2.2.1
       refine ae rfl rfl (ae rfl rfl (ae rfl rfl (ae rfl rfl (ae rfl rfl (aa (an (v:=.bool _) rfl rfl) (mvb rfl (ae rfl rfl (ae rfl rfl ?_))))))));refine ae rfl rfl (ae rfl rfl (ae rfl rfl (aa (an (v:=.bool _) rfl rfl) (mvb rfl (ae rfl rfl (ae rfl rfl (ae rfl rfl (ae rfl rfl ?_))))))));refine ae rfl rfl (aa (an (v:=.bool _) rfl rfl) (mvb rfl (ae rfl rfl (ae rfl rfl (ae rfl rfl (ae rfl rfl (ae rfl rfl (aa (an (v:=.bool _) rfl rfl) ?_))))))));refine mvb rfl (ae rfl rfl (ae rfl rfl (ae rfl rfl (ae rfl rfl (ae rfl rfl (aa (an (v:=.bool _) rfl rfl) (mvb rfl (ae rfl rfl ?_))))))));refine ae rfl rfl (ae rfl rfl (ae rfl rfl (ae rfl rfl (aa (an (v:=.bool _) rfl rfl) (asb rfl (ah (af (aA (bu (v:=.bool _) rfl rfl (⟨congrArg Value.bool ?_,((al.rfl_.next E2).next E3)⟩))))))))))
       first
        |exact (decide_eq_false hno).symm
        |(rw [decide_eq_decide];exact ⟨fun h=>⟨q0,q1,q2,q3,q4,q5,q6,q7,q8,q9,q10,q11,h⟩,fun h=>h.2.2.2.2.2.2.2.2.2.2.2.2⟩)
      have hno:¬ (k=k2∧f=f2∧t=t2∧tm=tm2∧ix=ix2∧lt=lt2∧cm=cm2∧rd=rd2∧ok=ok2∧es=es2∧a=a2∧d=d2∧dn=dn2):=fun e=>Q8 e.2.2.2.2.2.1
      refine ae rfl rfl (ae rfl rfl (ae rfl rfl (ae rfl rfl (ae rfl rfl (aa (an (v:=.bool _) rfl rfl) (mvb rfl (ae rfl rfl (ae rfl rfl ?_))))))));refine ae rfl rfl (ae rfl rfl (ae rfl rfl (aa (an (v:=.bool _) rfl rfl) (mvb rfl (ae rfl rfl (ae rfl rfl (ae rfl rfl (ae rfl rfl ?_))))))));refine ae rfl rfl (aa (an (v:=.bool _) rfl rfl) (mvb rfl (ae rfl rfl (ae rfl rfl (ae rfl rfl (ae rfl rfl (ae rfl rfl (aa (an (v:=.bool _) rfl rfl) ?_))))))));refine mvb rfl (ae rfl rfl (ae rfl rfl (ae rfl rfl (ae rfl rfl (ae rfl rfl (aa (an (v:=.bool _) rfl rfl) (mvb rfl (ae rfl rfl ?_))))))));refine ae rfl rfl (ae rfl rfl (ae rfl rfl (ae rfl rfl (aa (an (v:=.bool _) rfl rfl) (mvb rfl (ae rfl rfl (ae rfl rfl (ae rfl rfl ?_))))))));refine ae rfl rfl (ae rfl rfl (aa (an (v:=.bool _) rfl rfl) (asb rfl (ah (af (aA (bu (v:=.bool _) rfl rfl (⟨congrArg Value.bool ?_,((al.rfl_.next E2).next E3)⟩))))))))
      first
       |exact (decide_eq_false hno).symm
       |(rw [decide_eq_decide];exact ⟨fun h=>⟨q0,q1,q2,q3,q4,q5,q6,q7,q8,q9,q10,q11,h⟩,fun h=>h.2.2.2.2.2.2.2.2.2.2.2.2⟩)
     have hno:¬ (k=k2∧f=f2∧t=t2∧tm=tm2∧ix=ix2∧lt=lt2∧cm=cm2∧rd=rd2∧ok=ok2∧es=es2∧a=a2∧d=d2∧dn=dn2):=fun e=>Q7 e.2.2.2.2.1
     refine ae rfl rfl (ae rfl rfl (ae rfl rfl (ae rfl rfl (ae rfl rfl (aa (an (v:=.bool _) rfl rfl) (mvb rfl (ae rfl rfl (ae rfl rfl ?_))))))));refine ae rfl rfl (ae rfl rfl (ae rfl rfl (aa (an (v:=.bool _) rfl rfl) (mvb rfl (ae rfl rfl (ae rfl rfl (ae rfl rfl (ae rfl rfl ?_))))))));refine ae rfl rfl (aa (an (v:=.bool _) rfl rfl) (mvb rfl (ae rfl rfl (ae rfl rfl (ae rfl rfl (ae rfl rfl (ae rfl rfl (aa (an (v:=.bool _) rfl rfl) ?_))))))));refine mvb rfl (ae rfl rfl (ae rfl rfl (ae rfl rfl (ae rfl rfl (ae rfl rfl (aa (an (v:=.bool _) rfl rfl) (mvb rfl (ae rfl rfl ?_))))))));refine ae rfl rfl (ae rfl rfl (ae rfl rfl (ae rfl rfl (aa (an (v:=.bool _) rfl rfl) (mvb rfl (ae rfl rfl (ae rfl rfl (ae rfl rfl ?_))))))));refine ae rfl rfl (ae rfl rfl (aa (an (v:=.bool _) rfl rfl) (mvb rfl (ae rfl rfl (ae rfl rfl (ae rfl rfl (ae rfl rfl (ae rfl rfl ?_))))))));refine aa (an (v:=.bool _) rfl rfl) (asb rfl (ah (af (aA (bu (v:=.bool _) rfl rfl (⟨congrArg Value.bool ?_,((al.rfl_.next E2).next E3)⟩))))))
     first
      |exact (decide_eq_false hno).symm
      |(rw [decide_eq_decide];exact ⟨fun h=>⟨q0,q1,q2,q3,q4,q5,q6,q7,q8,q9,q10,q11,h⟩,fun h=>h.2.2.2.2.2.2.2.2.2.2.2.2⟩)
    have hno:¬ (k=k2∧f=f2∧t=t2∧tm=tm2∧ix=ix2∧lt=lt2∧cm=cm2∧rd=rd2∧ok=ok2∧es=es2∧a=a2∧d=d2∧dn=dn2):=fun e=>Q6 e.2.2.2.1
    refine ae rfl rfl (ae rfl rfl (ae rfl rfl (ae rfl rfl (ae rfl rfl (aa (an (v:=.bool _) rfl rfl) (mvb rfl (ae rfl rfl (ae rfl rfl ?_))))))));refine ae rfl rfl (ae rfl rfl (ae rfl rfl (aa (an (v:=.bool _) rfl rfl) (mvb rfl (ae rfl rfl (ae rfl rfl (ae rfl rfl (ae rfl rfl ?_))))))));refine ae rfl rfl (aa (an (v:=.bool _) rfl rfl) (mvb rfl (ae rfl rfl (ae rfl rfl (ae rfl rfl (ae rfl rfl (ae rfl rfl (aa (an (v:=.bool _) rfl rfl) ?_))))))));refine mvb rfl (ae rfl rfl (ae rfl rfl (ae rfl rfl (ae rfl rfl (ae rfl rfl (aa (an (v:=.bool _) rfl rfl) (mvb rfl (ae rfl rfl ?_))))))));refine ae rfl rfl (ae rfl rfl (ae rfl rfl (ae rfl rfl (aa (an (v:=.bool _) rfl rfl) (mvb rfl (ae rfl rfl (ae rfl rfl (ae rfl rfl ?_))))))));refine ae rfl rfl (ae rfl rfl (aa (an (v:=.bool _) rfl rfl) (mvb rfl (ae rfl rfl (ae rfl rfl (ae rfl rfl (ae rfl rfl (ae rfl rfl ?_))))))));refine aa (an (v:=.bool _) rfl rfl) (mvb rfl (ae rfl rfl (ae rfl rfl (ae rfl rfl (ae rfl rfl (ae rfl rfl (aa (an (v:=.bool _) rfl rfl) (asb rfl ?_))))))));refine ah (af (aA (bu (v:=.bool _) rfl rfl (⟨congrArg Value.bool ?_,((al.rfl_.next E2).next E3)⟩))))
    first
     |exact (decide_eq_false hno).symm
     |(rw [decide_eq_decide];exact ⟨fun h=>⟨q0,q1,q2,q3,q4,q5,q6,q7,q8,q9,q10,q11,h⟩,fun h=>h.2.2.2.2.2.2.2.2.2.2.2.2⟩)
   have hno:¬ (k=k2∧f=f2∧t=t2∧tm=tm2∧ix=ix2∧lt=lt2∧cm=cm2∧rd=rd2∧ok=ok2∧es=es2∧a=a2∧d=d2∧dn=dn2):=fun e=>Q5 e.2.2.1
   refine ae rfl rfl (ae rfl rfl (ae rfl rfl (ae rfl rfl (ae rfl rfl (aa (an (v:=.bool _) rfl rfl) (mvb rfl (ae rfl rfl (ae rfl rfl ?_))))))));refine ae rfl rfl (ae rfl rfl (ae rfl rfl (aa (an (v:=.bool _) rfl rfl) (mvb rfl (ae rfl rfl (ae rfl rfl (ae rfl rfl (ae rfl rfl ?_))))))));refine ae rfl rfl (aa (an (v:=.bool _) rfl rfl) (mvb rfl (ae rfl rfl (ae rfl rfl (ae rfl rfl (ae rfl rfl (ae rfl rfl (aa (an (v:=.bool _) rfl rfl) ?_))))))));refine mvb rfl (ae rfl rfl (ae rfl rfl (ae rfl rfl (ae rfl rfl (ae rfl rfl (aa (an (v:=.bool _) rfl rfl) (mvb rfl (ae rfl rfl ?_))))))));refine ae rfl rfl (ae rfl rfl (ae rfl rfl (ae rfl rfl (aa (an (v:=.bool _) rfl rfl) (mvb rfl (ae rfl rfl (ae rfl rfl (ae rfl rfl ?_))))))));refine ae rfl rfl (ae rfl rfl (aa (an (v:=.bool _) rfl rfl) (mvb rfl (ae rfl rfl (ae rfl rfl (ae rfl rfl (ae rfl rfl (ae rfl rfl ?_))))))));refine aa (an (v:=.bool _) rfl rfl) (mvb rfl (ae rfl rfl (ae rfl rfl (ae rfl rfl (ae rfl rfl (ae rfl rfl (aa (an (v:=.bool _) rfl rfl) (mvb rfl ?_))))))));refine ae rfl rfl (ae rfl rfl (ae rfl rfl (ae rfl rfl (ae rfl rfl (aa (an (v:=.bool _) rfl rfl) (asb rfl (ah (af (aA (bu (v:=.bool _) rfl rfl ?_))))))))));refine ⟨congrArg Value.bool ?_,((al.rfl_.next E2).next E3)⟩
   first
    |exact (decide_eq_false hno).symm
    |(rw [decide_eq_decide];exact ⟨fun h=>⟨q0,q1,q2,q3,q4,q5,q6,q7,q8,q9,q10,q11,h⟩,fun h=>h.2.2.2.2.2.2.2.2.2.2.2.2⟩)
  have hno:¬ (k=k2∧f=f2∧t=t2∧tm=tm2∧ix=ix2∧lt=lt2∧cm=cm2∧rd=rd2∧ok=ok2∧es=es2∧a=a2∧d=d2∧dn=dn2):=fun e=>Q4 e.2.1
  refine ae rfl rfl (ae rfl rfl (ae rfl rfl (ae rfl rfl (ae rfl rfl (aa (an (v:=.bool _) rfl rfl) (mvb rfl (ae rfl rfl (ae rfl rfl ?_))))))));refine ae rfl rfl (ae rfl rfl (ae rfl rfl (aa (an (v:=.bool _) rfl rfl) (mvb rfl (ae rfl rfl (ae rfl rfl (ae rfl rfl (ae rfl rfl ?_))))))));refine ae rfl rfl (aa (an (v:=.bool _) rfl rfl) (mvb rfl (ae rfl rfl (ae rfl rfl (ae rfl rfl (ae rfl rfl (ae rfl rfl (aa (an (v:=.bool _) rfl rfl) ?_))))))));refine mvb rfl (ae rfl rfl (ae rfl rfl (ae rfl rfl (ae rfl rfl (ae rfl rfl (aa (an (v:=.bool _) rfl rfl) (mvb rfl (ae rfl rfl ?_))))))));refine ae rfl rfl (ae rfl rfl (ae rfl rfl (ae rfl rfl (aa (an (v:=.bool _) rfl rfl) (mvb rfl (ae rfl rfl (ae rfl rfl (ae rfl rfl ?_))))))));refine ae rfl rfl (ae rfl rfl (aa (an (v:=.bool _) rfl rfl) (mvb rfl (ae rfl rfl (ae rfl rfl (ae rfl rfl (ae rfl rfl (ae rfl rfl ?_))))))));refine aa (an (v:=.bool _) rfl rfl) (mvb rfl (ae rfl rfl (ae rfl rfl (ae rfl rfl (ae rfl rfl (ae rfl rfl (aa (an (v:=.bool _) rfl rfl) (mvb rfl ?_))))))));refine ae rfl rfl (ae rfl rfl (ae rfl rfl (ae rfl rfl (ae rfl rfl (aa (an (v:=.bool _) rfl rfl) (mvb rfl (ae rfl rfl (ae rfl rfl ?_))))))));refine ae rfl rfl (ae rfl rfl (ae rfl rfl (aa (an (v:=.bool _) rfl rfl) (asb rfl (ah (af (aA (bu (v:=.bool _) rfl rfl (⟨congrArg Value.bool ?_,((al.rfl_.next E2).next E3)⟩)))))))))
  first
   |exact (decide_eq_false hno).symm
   |(rw [decide_eq_decide];exact ⟨fun h=>⟨q0,q1,q2,q3,q4,q5,q6,q7,q8,q9,q10,q11,h⟩,fun h=>h.2.2.2.2.2.2.2.2.2.2.2.2⟩)
 have hno:¬ (k=k2∧f=f2∧t=t2∧tm=tm2∧ix=ix2∧lt=lt2∧cm=cm2∧rd=rd2∧ok=ok2∧es=es2∧a=a2∧d=d2∧dn=dn2):=fun e=>Q3 e.1
 refine ae rfl rfl (ae rfl rfl (ae rfl rfl (ae rfl rfl (ae rfl rfl (aa (an (v:=.bool _) rfl rfl) (mvb rfl (ae rfl rfl (ae rfl rfl ?_))))))));refine ae rfl rfl (ae rfl rfl (ae rfl rfl (aa (an (v:=.bool _) rfl rfl) (mvb rfl (ae rfl rfl (ae rfl rfl (ae rfl rfl (ae rfl rfl ?_))))))));refine ae rfl rfl (aa (an (v:=.bool _) rfl rfl) (mvb rfl (ae rfl rfl (ae rfl rfl (ae rfl rfl (ae rfl rfl (ae rfl rfl (aa (an (v:=.bool _) rfl rfl) ?_))))))));refine mvb rfl (ae rfl rfl (ae rfl rfl (ae rfl rfl (ae rfl rfl (ae rfl rfl (aa (an (v:=.bool _) rfl rfl) (mvb rfl (ae rfl rfl ?_))))))));refine ae rfl rfl (ae rfl rfl (ae rfl rfl (ae rfl rfl (aa (an (v:=.bool _) rfl rfl) (mvb rfl (ae rfl rfl (ae rfl rfl (ae rfl rfl ?_))))))));refine ae rfl rfl (ae rfl rfl (aa (an (v:=.bool _) rfl rfl) (mvb rfl (ae rfl rfl (ae rfl rfl (ae rfl rfl (ae rfl rfl (ae rfl rfl ?_))))))));refine aa (an (v:=.bool _) rfl rfl) (mvb rfl (ae rfl rfl (ae rfl rfl (ae rfl rfl (ae rfl rfl (ae rfl rfl (aa (an (v:=.bool _) rfl rfl) (mvb rfl ?_))))))));refine ae rfl rfl (ae rfl rfl (ae rfl rfl (ae rfl rfl (ae rfl rfl (aa (an (v:=.bool _) rfl rfl) (mvb rfl (ae rfl rfl (ae rfl rfl ?_))))))));refine ae rfl rfl (ae rfl rfl (ae rfl rfl (aa (an (v:=.bool _) rfl rfl) (mvb rfl (ae rfl rfl (ae rfl rfl (ae rfl rfl (ae rfl rfl ?_))))))));refine ae rfl rfl (aa (an (v:=.bool _) rfl rfl) (asb rfl (ah (af (aA (bu (v:=.bool _) rfl rfl (⟨congrArg Value.bool ?_,((al.rfl_.next E2).next E3)⟩)))))))
 first
  |exact (decide_eq_false hno).symm
  |(rw [decide_eq_decide];exact ⟨fun h=>⟨q0,q1,q2,q3,q4,q5,q6,q7,q8,q9,q10,q11,h⟩,fun h=>h.2.2.2.2.2.2.2.2.2.2.2.2⟩)
theorem lY (x y:Msg) (w:World) (h:pl x=pl y) (hx:cw w (.slice x.E x.es.length x.c) x.es) (hy:cw w (.slice y.E y.es.length y.c) y.es) (hl:x.es.length≤1000000) :
 Rt prog 21 [.agg (aM x).toArray,.agg (aM y).toArray] w fun v w'=>v=.bool true∧al w w':=
 (lZ x.k x.f x.t x.tm x.ix x.lt x.cm x.rd x.ok x.E x.es.length x.c x.a x.d x.dn y.k y.f y.t y.tm y.ix y.lt y.cm y.rd y.ok y.E y.es.length y.c y.a y.d y.dn w x.es y.es rfl rfl hx hy (by omega)).mono fun v w' hv=>⟨by
  rw [hv.1];exact congrArg Value.bool (decide_eq_true ⟨(show (pl x).k=(pl y).k from congrArg Msg.k h),(show (pl x).f=(pl y).f from congrArg Msg.f h),(show (pl x).t=(pl y).t from congrArg Msg.t h),(show (pl x).tm=(pl y).tm from congrArg Msg.tm h),(show (pl x).ix=(pl y).ix from congrArg Msg.ix h),(show (pl x).lt=(pl y).lt from congrArg Msg.lt h),(show (pl x).cm=(pl y).cm from congrArg Msg.cm h),(show (pl x).rd=(pl y).rd from congrArg Msg.rd h),(show (pl x).ok=(pl y).ok from congrArg Msg.ok h),(show (pl x).es=(pl y).es from congrArg Msg.es h),(show (pl x).a=(pl y).a from congrArg Msg.a h),(show (pl x).d=(pl y).d from congrArg Msg.d h),(show (pl x).dn=(pl y).dn from congrArg Msg.dn h)⟩),hv.2⟩
theorem mR {X Y:List Msg} (h:X.map pl=Y.map pl) {k:Nat} (hx:k<X.length) (hy:k<Y.length):pl X[k]=pl Y[k]:=by
 have:(X.map pl)[k]'(by simpa using hx)=(Y.map pl)[k]'(by simpa using hy):=by simp only [h]
 simpa using this
theorem fT (A B:Option Addr) (c c2 n:Nat) (X Y:List Msg) (w:World) (hr:ee 13 aM w A X) (hr2:ee 13 aM w B Y) (hX:X.length=n) (hY:Y.length=n) (hp:X.map pl=Y.map pl) (hE:∀ x∈X,cw w (.slice x.E x.es.length x.c) x.es) (hE2:∀ x∈Y,cw w (.slice x.E x.es.length x.c) x.es) (hle:∀ x∈X,x.es.length≤1000000) (hn:n≤100000) :
 Rt prog 8 [.slice A n c,.slice B n c2] w (fun v w'=>v=.bool true∧al w w'):=by
 refine enter (n:=27) Try.func8 rfl rfl rfl (ag (ab (asb rfl (ah (af (ag (ag (ab (mvs rfl (aa (bf cU rfl) (mvs rfl (aa (bf cU rfl) (aa (fI (ia rfl rfl) (bne_self_eq_false _)) ?_)))))))))))));refine ah (af (cB rfl (aE (af (ag (ag (ab (asi rfl (ah (af (aO (cg (G:=Nat) [4,11,12,13,14,15,16,17,18,19,20,21,22,23,24,25,26] (fun k=>[(5,.int .i64 (k:Nat))]) (fun k w'=>k≤n∧al w w') (fun k=>n-k) (0) ⟨rfl,trivial⟩ ?_ ?_))))))))))))
 ·exact ⟨Nat.zero_le _,al.rfl_⟩
 rintro k ρ1 w1 ⟨hk,hB⟩;refine ag (ag (ab (mvi rfl (mvs rfl (aa (bf cU rfl) (aa (bC rfl rfl) (ah (af (m7 rfl (fun Q2=>?_) (fun Q2=>?_))))))))))
 ·have hkX:k<X.length:=by omega
  have hkY:k<Y.length:=by omega
  obtain ⟨ba,oa,rfl,hca⟩:=hr (by omega);obtain ⟨bb,ob,rfl,hcb⟩:=hr2 (by omega);have hxk:=hE _ (List.getElem_mem hkX);have hyk:=hE2 _ (List.getElem_mem hkY);have hlk:=hle _ (List.getElem_mem hkX);refine aE (af (ag (aO (ag ?_))));apply bY 10 [(17,eqp _),(18,eqp _),(19,eqp _),(20,eqp (.agg (aM (X[k]'hkX)).toArray)),(21,eqp _),(22,eqp _),(23,eqp _),(24,eqp (.agg (aM (Y[k]'hkY)).toArray)),(25,eqp _),(26,eqp _)] (by repeat first | exact cq | refine cp ?_ | refine bU ?_) (by kernel_rfl) (by kernel_rfl) ⟨aj _,aj _,aj _,aj _,aj _,aj _,aj _,aj _,aj _,aj _,trivial⟩
  case hop=>
   constructor
   ·rintro-w4 D4;exact ao (av (v:=.slice _ _ _) rfl) rfl
   constructor
   ·rintro-w5 D5;exact ao (av (v:=.int _ _) rfl) rfl
   constructor
   ·rintro-w6 D6;rintro _ rfl _ rfl;exact ao (aH cf rfl rfl (by omega)) rfl
   constructor
   ·rintro-w7 D7;rintro _ rfl;exact ao (aP (cs:=aM (X[k]'hkX)) aI ay rfl (cj (hB.next D7) (hca k hkX))) rfl
   constructor
   ·rintro-w8 D8;exact ao (av (v:=.slice _ _ _) rfl) rfl
   constructor
   ·rintro-w9 D9;exact ao (av (v:=.int _ _) rfl) rfl
   constructor
   ·rintro-w10 D10;rintro _ rfl _ rfl;exact ao (aH cf rfl rfl (by omega)) rfl
   constructor
   ·rintro-w11 D11;rintro _ rfl;exact ao (aP (cs:=aM (Y[k]'hkY)) aI ay rfl (cj (hB.next D11) (hcb k hkY))) rfl
   constructor
   ·rintro-w12 D12;rintro v12_20 rfl v12_24 rfl;refine eP lv ((lY (X[k]'hkX) (Y[k]'hkY) _ (mR hp hkX hkY) (hxk.from_ (hB.next D12)) (hyk.from_ (hB.next D12)) hlk).mono ?_);rintro v _ ⟨rfl,E12'⟩;exact ⟨E12',rfl⟩
   constructor
   ·rintro-w13 D13;rintro _ rfl;exact ao (h_ rfl) rfl
   exact trivial
  case hend=>
   intro w14 D14;rintro _ rfl _ rfl _ rfl v20 rfl _ rfl _ rfl _ rfl v24 rfl _ rfl _ rfl;show St ..;refine ah (af (m5 rfl (fun Q15=>?_) (fun Q15=>?_)))
   ·exfalso;contradiction
   refine aE (aQ (af (ab (mvi rfl (aa (bA (b:=1) rfl rfl (by omega)) (asi rfl (ah ?_)))))));refine bL (k+1) ⟨(by first | rfl | (refine aU ?_;omega)),trivial⟩ (by (iterate 35 refine a_ rfl ?_);exact bl) ⟨?_,?_⟩
   ·exact ⟨by omega,(hB.next D14)⟩
   ·omega
 refine bE (aN (aN (bk (af (ag (ab (asb rfl (ah (af (aA (bu (v:=.bool _) rfl rfl (⟨rfl,hB⟩))))))))))))
theorem dV:prog.built 60 [(0,.int .i64 (-9))]=some #[.int .i64 (-9),.int .i64 0,.string ⟨#[]⟩]:=by kernel_rfl
theorem iB:prog.built 60 []=some #[.int .i64 0,.int .i64 0,.string ⟨#[]⟩]:=by kernel_rfl
theorem fm:aB prog 14=true:=by kernel_rfl
theorem dW:prog.built 33 [(0,.int .i64 (-9))]=some #[.int .i64 (-9),.int .i64 0,.int .i64 0,.int .i64 0,.int .i64 0,.int .i64 0,.int .i64 0,.int .i64 0,.bool false,.slice none 0 0,.int .i64 0,.string ⟨#[]⟩,.bool false]:=by kernel_rfl
theorem iC:prog.built 33 []=some #[.int .i64 0,.int .i64 0,.int .i64 0,.int .i64 0,.int .i64 0,.int .i64 0,.int .i64 0,.int .i64 0,.bool false,.slice none 0 0,.int .i64 0,.string ⟨#[]⟩,.bool false]:=by kernel_rfl
theorem gB (base:Nat) (A:Option Addr) (c n:Nat) (xs:List Value) (w:World) (ho:w.ownsRow base 60 3 (.slice A n c) n xs) (hb:base≤w.heap.size) (hl:n≤1000000000) :
 Rt prog 14 [.slice A n c] w (fun v w'=>v=.tuple #[]∧w.grownBy w' (A.map (·.block))):=by
 refine enter (n:=17) Try.func14 rfl rfl rfl (ag (ag (ab (asi rfl (ah (af (aO (cg (G:=Nat×List Value) [3,4,5,6,7,8,9,10,11,12] (fun (k,_)=>[(2,.int .i64 (k:Nat))]) (fun (k,ys) w'=>k≤n∧w'.ownsRow base 60 3 (.slice A n c) n ys∧w.grownBy w' (A.map (·.block))) (fun (k,_)=>n-k) ((0,xs)) ⟨rfl,trivial⟩ ?_ ?_))))))))
 ·exact ⟨Nat.zero_le _,ho,World.grownBy.refl _ _⟩
 rintro ⟨k,ys⟩ ρ1 w1 ⟨hk,ho2,hG⟩;refine ag (ag (ab (mvi rfl (mvs rfl (aa (bf cc rfl) (aa (bC rfl rfl) (ah (af (m7 rfl (fun Q2=>?_) (fun Q2=>?_))))))))))
 ·obtain ⟨g,rfl⟩:=d_ ho2 (by omega);refine aE (af (ag (aO (ab (mvs rfl (mvi rfl (aa (cl (l:=[(0,.const (.int .i64 (-9)))]) (dV)) (aa (cy cT rfl rfl (by omega)) ?_))))))));refine fE (size:=3) (o:=k*3) (vs:=[.int .i64 (-9),.int .i64 0,.string ⟨#[]⟩]) dv (by show Value.pointer (some ⟨g,0+k*3,none⟩)=_;rw [Nat.zero_add]) rfl (by simp [Value.oneCell']) ho2 (by omega) (by show k*3+3≤n*3;omega) ?_;intro w3 O3 P3;refine ah (aQ (af (ab (mvi rfl (aa (bG rfl rfl (by omega)) (asi rfl (ah ?_)))))));refine bL ((k+1,bM ys (k*3) [.int .i64 (-9),.int .i64 0,.string ⟨#[]⟩])) ⟨(by first | rfl | (refine aU ?_;omega)),trivial⟩ (by (iterate 22 refine a_ rfl ?_);exact bl) ⟨?_,?_⟩
  ·exact ⟨by omega,P3,bp hG (bD.grown O3)⟩
  ·show n-(k+1)<n-k;omega
 refine bE (aN (aN (bk (af (ab (mvs rfl (aa (cl (l:=[]) (iB)) ?_)))))));refine dA (l:=[(0,.tmp 14)]) (cells:=[.int .i64 0,.int .i64 0,.string ⟨#[]⟩].toArray) cu rfl rfl (by show Instr.fill _ _ [(0,Value.agg [.int .i64 0,.int .i64 0,.string ⟨#[]⟩].toArray)]=_;kernel_rfl) ?_;intro b15 w4 E15 hb15 hk15;refine aW (news:=[.int .i64 0,.int .i64 0,.string ⟨#[]⟩]) cu rfl (by decide) rfl (ho2.kept_from E15) (Nat.le_trans hb (Nat.le_trans hG.size E15.size)) rfl rfl (fun _=>⟨b15,0,rfl,hk15.whole⟩) (fun h=>by cases h) (by simp [Value.oneCell']) (by omega) (by omega) ?_;intro A16 c16 w5 ho16 hg16;refine ass rfl (ah (bZ (eE rfl (⟨rfl,bp (bp hG (E15.grown _)) hg16⟩))))
def mZ (k:Int):Msg:=⟨k,0,0,0,0,0,0,0,false,0,⟨#[]⟩,false,none,0,[]⟩
def spX (X:List Msg) (k:Nat):List Msg:=List.replicate k (mZ (-9))++X.drop k
theorem fu {X:List Msg} {k:Nat} (h:k≤X.length):(spX X k).length=X.length:=by simp [spX];omega
theorem ml {X:List Msg} {k:Nat} (h:k<X.length):(spX X k)[k]'(by rw [fu (by omega)];exact h)=X[k]:=by
 simp [spX,List.getElem_append_right]
theorem lD {X:List Msg} {k:Nat} (h:k<X.length):(spX X k).set k (mZ (-9))=spX X (k+1):=by
 unfold spX;rw [List.set_append_right _ _ (by simp),List.length_replicate,Nat.sub_self,List.drop_eq_getElem_cons h,List.set_cons_zero,List.replicate_succ',List.append_assoc];rfl
def spU (A:Option Addr) (X:List Msg) (k:Nat):Prop:=A.map (·.block)=some k∨∃ x∈X,dB x=some k
theorem mU (k:Int):Instr.fill (fun i=>some (i*13,13)) ((Array.range (1*13)).map ((.agg (aM (mZ 0)).toArray:Value).cells[·%(.agg (aM (mZ 0)).toArray:Value).cells.size]!)) [(0,.agg (aM (mZ k)).toArray)]=some (aM (mZ k)).toArray:=by
 first
  |kernel_rfl
  |rfl
theorem k7 {X:List Msg} {k:Nat} {x:Msg} (h:x∈X.drop (k+1)):x∈X.drop k:=by
 rw [←List.drop_drop] at h;exact List.mem_of_mem_drop h
theorem gA (base base2:Nat) (A:Option Addr) (c n:Nat) (X:List Msg) (w:World) (ho:w.ownsRow base 33 13 (.slice A n c) n (X.flatMap aM)) (hX:X.length=n) (hb:base≤w.heap.size) (hb2:base2≤w.heap.size) (hE:∀ x∈X,E1 w base2 x) (hA:X.Pairwise Ap) (hl:n≤100000) (hle:∀ x∈X,x.es.length≤1000000) :
 Rt prog 10 [.slice A n c] w (fun v w'=>v=.tuple #[]∧Ch (spU A X) w w'):=by
 refine enter (n:=23) Try.func10 rfl rfl rfl (ag (ag (ab (asi rfl (ah (af (aO (cg (G:=Nat) [3,4,5,6,7,8,9,10,11,12,13,14,15,16,17,18] (fun k=>[(2,.int .i64 (k:Nat))]) (fun k w'=>k≤n∧w'.ownsRow base 33 13 (.slice A n c) n ((spX X k).flatMap aM)∧(∀ x∈X.drop k,E1 w' base2 x)∧Ch (spU A X) w w') (fun k=>n-k) (0) ⟨rfl,trivial⟩ ?_ ?_))))))))
 ·exact ⟨Nat.zero_le _,ho,hE,Ch.of_from al.rfl_⟩
 rintro k ρ1 w1 ⟨hk,ho2,hE2,hC⟩;refine ag (ag (ab (mvi rfl (mvs rfl (aa (bf cU rfl) (aa (bC rfl rfl) (ah (af (m7 rfl (fun Q2=>?_) (fun Q2=>?_))))))))))
 ·have hkX:k<X.length:=by omega
  obtain ⟨g,rfl⟩:=d_ ho2 (by omega);have hEk:=hE2 X[k] (by rw [List.drop_eq_getElem_cons hkX];exact List.mem_cons_self ..);have hlk:=hle _ (List.getElem_mem hkX);obtain ⟨bx,ox,hAx,hcx⟩:=(ee.own dP (by decide) ho2).2 (by rw [fu (by omega)];omega);cases hAx;have hvx:=hcx k (by rw [fu (by omega)];exact hkX);rw [ml hkX] at hvx;refine aE (af (ag (aO (ag (ab (mvs rfl (mvi rfl (aa (cy cf rfl rfl (by omega)) (aa (ai bn rfl) (aa (aq cd rfl (by exact hvx 9 _ rfl)) ?_))))))))));refine aC fm (gB base2 X[k].E X[k].c X[k].es.length (db X[k].es) _ hEk (Nat.le_trans hb2 hC.size) (by omega)) ?_;rintro v14 w3 ⟨rfl,hg14⟩;refine ah (af (ab (mvs rfl (mvi rfl (aa (cl (l:=[(0,.const (.int .i64 (-9)))]) (dW)) (aa (cy cf rfl rfl (by omega)) ?_))))));have hP14:=ho2.kept hg14 (bH ho2 hEk (by decide));obtain ⟨g',cur,hgA,_,hbk14,_⟩:=dO hP14 (by omega);cases hgA
  have hE14:∀ x∈X.drop (k+1),E1 w3 base2 x:=fun x hx=>E1.ch (hE2 x (k7 hx)) (Ch.of_grown (U:=fun q=>dB X[k]=some q) hg14 (fun _ h=>h)) (fun q hq hU=>by
   have hpw:=hA.sublist (List.drop_sublist k X);rw [List.drop_eq_getElem_cons hkX,List.pairwise_cons] at hpw;exact hpw.1 x hx q hU hq)
  refine fE (size:=13) (o:=k*13) (vs:=aM (mZ (-9))) ay (by show Value.pointer (some ⟨g,0+k*13,none⟩)=_;rw [Nat.zero_add]) rfl (by simp [aM,mZ,Value.oneCell']) hP14 (by omega) (by show k*13+13≤n*13;omega) ?_;intro w4 O4 P4;rw [ka dP _ k (by rw [fu (by omega)];exact hkX),lD hkX] at P4;refine ah (aQ (af (ab (mvi rfl (aa (bG rfl rfl (by omega)) (asi rfl (ah ?_)))))));refine bL (k+1) ⟨(by first | rfl | (refine aU ?_;omega)),trivial⟩ (by (iterate 34 refine a_ rfl ?_);exact bl) ⟨?_,?_⟩
  ·exact ⟨by omega,P4,fun x hx=>aL (hE14 x hx) O4 (aD (hE14 x hx) hbk14 (by decide)),(hC.trans (Ch.of_grown hg14 fun q hq=>.inr ⟨_,List.getElem_mem hkX,hq⟩)).trans (Ch.of_only O4 (.inl rfl))⟩
  ·omega
 refine bE (aN (aN (bk (af (ab (mvs rfl (aa (cl (l:=[]) (iC)) (dA (l:=[(0,.tmp 20)]) (cells:=(aM (mZ 0)).toArray) aT rfl rfl (mU 0) ?_))))))));intro b21 w5 E21 hb21 hk21;refine aW (news:=aM (mZ 0)) aT rfl (by decide) rfl (ho2.kept_from E21) (Nat.le_trans hb (Nat.le_trans hC.size E21.size)) rfl rfl (fun _=>⟨b21,0,rfl,hk21.whole⟩) (fun h=>by cases h) (by simp [aM,mZ,Value.oneCell']) (by omega) (by omega) ?_;intro A22 c22 w6 ho22 hg22;refine ass rfl (ah (bZ (eE rfl (⟨rfl,(hC.trans (Ch.of_from E21)).trans (Ch.of_grown hg22 fun q hq=>.inl hq)⟩))))
theorem cI:ez prog 27=some false:=by kernel_rfl
theorem bI:bw prog 30 0=some 0:=by kernel_rfl
theorem gV:aB prog 12=true:=by kernel_rfl
theorem gU:b7 prog 27=some 1:=by kernel_rfl
theorem bR:bw prog 30 1=some 1:=by kernel_rfl
theorem df:ez prog 28=some false:=by kernel_rfl
theorem gT:b7 prog 28=some 1:=by kernel_rfl
theorem kS (a b:Int) (w:World) (hb:b=4∨b=8) (ha:-9223372036854775808≤a∧a≤9223372036854775807) :
 Rt prog 25 [.int .i64 a,.int .i64 b] w (fun v w'=>v=.int .i64 (a%b)∧w=w'):=by
 have hb0:0<b:=by omega
 have hab:-9223372036854775808/4≤a/b∧a/b≤9223372036854775807/4∧0≤a%b∧a%b<8:=by
  rcases hb with rfl | rfl <;> omega
 have hfl:=@jD a b hb0
 generalize hQ:a.tdiv b=q at*
 generalize hR:a.tmod b=r at*
 generalize hX:a/b=x at*
 generalize hY:a%b=y at*
 refine enter (n:=14) Try.func25 rfl rfl rfl (ag (ab (asi rfl (ah (af (ag (ab (mvi rfl (mvi rfl (aa (cX (h8 rfl rfl (by omega)) (by rw [hR])) ?_))))))))));refine asi rfl (ah (af (ag (ag (ab (mvi rfl (aa (bC rfl rfl) (ah (af (m7 rfl (fun Q1=>?_) (fun Q1=>?_)))))))))))
 ·refine ab (mvi rfl (mvi rfl (aa (bG rfl rfl (by omega)) (asi rfl (ah (af (ag (ab (mvi rfl (asi rfl (ah (af (aA ?_)))))))))))));refine bu (v:=.int _ _) rfl rfl ?_;exact ⟨aU (by first | (have h7:=hfl.1 (by omega);omega) | (have h7:=hfl.2 (by omega);omega)),rfl⟩
 refine aE (af (ag (ab (mvi rfl (asi rfl (ah (af (aA (bu (v:=.int _ _) rfl rfl ?_)))))))));exact ⟨aU (by first | (have h7:=hfl.1 (by omega);omega) | (have h7:=hfl.2 (by omega);omega)),rfl⟩
theorem mD (a b:Int) (w:World) (hb:b=4∨b=8) (ha:-9223372036854775808≤a∧a≤9223372036854775807) :
 Rt prog 26 [.int .i64 a,.int .i64 b] w (fun v w'=>v=.int .i64 (a/b)∧w=w'):=by
 have hb0:0<b:=by omega
 have hab:-9223372036854775808/4≤a/b∧a/b≤9223372036854775807/4∧0≤a%b∧a%b<8:=by
  rcases hb with rfl | rfl <;> omega
 have hfl:=@jD a b hb0
 generalize hQ:a.tdiv b=q at*
 generalize hR:a.tmod b=r at*
 generalize hX:a/b=x at*
 generalize hY:a%b=y at*
 refine enter (n:=16) Try.func26 rfl rfl rfl (ag (ab (asi rfl (ah (af (ag (ag (ab (mvi rfl (mvi rfl (aa (cX (h8 rfl rfl (by omega)) (by rw [hR])) ?_)))))))))));refine aa (bC rfl rfl) (ah (af (m7 rfl (fun Q1=>?_) (fun Q1=>?_))))
 ·refine ag (ab (mvi rfl (mvi rfl (aa (cX (jq rfl rfl (by omega)) (by rw [hQ,IntWalk.i64_in _ (by omega)])) ?_))));refine aa (dZ rfl rfl (by omega)) (asi rfl (ah (af (aA (bd (bu (v:=.int _ _) rfl rfl ?_))))));exact ⟨aU (by first | (have h7:=hfl.1 (by omega);omega) | (have h7:=hfl.2 (by omega);omega)),rfl⟩
 refine aE (af (ag (ab (mvi rfl (mvi rfl (aa (cX (jq rfl rfl (by omega)) (by rw [hQ,IntWalk.i64_in _ (by omega)])) ?_))))));refine asi rfl (ah (af (aA (bu (v:=.int _ _) rfl rfl ?_))));exact ⟨aU (by first | (have h7:=hfl.1 (by omega);omega) | (have h7:=hfl.2 (by omega);omega)),rfl⟩
structure Kr (base b:Nat) (w w':World):Prop where
 os:w'.os=w.os
 tape:w'.tape=w.tape
 output:w'.output=w.output
 size:w.heap.size≤w'.heap.size
 below:∀ k,k<base→k<w.heap.size→w'.heap[k]? =w.heap[k]?
 blk:∀ g t cs,g≠b→t≠33→t≠3→Blk w g t cs→Blk w' g t cs
section
variable {base b:Nat} {w w1 w':World}
theorem Kr.of_from (h:al w w'):Kr base b w w':=⟨h.os,h.tape,h.output,h.size,fun k _ hk=>h.block k hk,fun _ _ _ _ _ _ hb=>hb.from_ h⟩
theorem Kr.trans (h:Kr base b w w1) (k:Kr base b w1 w'):Kr base b w w':=
 ⟨k.os.trans h.os,k.tape.trans h.tape,k.output.trans h.output,Nat.le_trans h.size k.size,fun i hi hs=>(k.below i hi (Nat.lt_of_lt_of_le hs h.size)).trans (h.below i hi hs),fun g t cs h1 h2 h3 h4=>k.blk g t cs h1 h2 h3 (h.blk g t cs h1 h2 h3 h4)⟩
theorem Kr.of_only (h:bD b w w') (hb:base≤b):Kr base b w w':=⟨h.os,h.tape,h.output,by rw [h.size];exact Nat.le_refl _,fun k hk _=>h.block k (by omega),fun g t cs hg _ _ hk=>hk.only h hg⟩
theorem Kr.of_grown {A:Option Addr} {e s c n:Nat} {xs:List Value} (hg:w.grownBy w' (A.map (·.block))) (ho:w.ownsRow base e s (.slice A n c) n xs) (he:e=33∨e=3):Kr base b w w':=
 ⟨hg.os,hg.tape,hg.output,hg.size,fun k hk hs=>hg.block k hs (fun e=>by have:=(aS ho k e.symm).1;omega),fun g t cs _ ht ht2 hk=>hk.grown hg (aD ho hk (by rcases he with rfl | rfl <;> assumption))⟩
theorem Kr.from_ {a:World} (h:al a w) (k:Kr base b w w') (hb:a.heap.size≤base):al a w':=
 ⟨k.os.trans h.os,k.tape.trans h.tape,k.output.trans h.output,Nat.le_trans h.size k.size,fun i hi=>(k.below i (by omega) (Nat.lt_of_lt_of_le hi h.size)).trans (h.block i hi)⟩
theorem ij {base2 e s n c t:Nat} {A:Option Addr} {xs:List Value} {cs:Array Value} (h:w.ownsRow base2 e s (.slice A n c) n xs) (k:Kr base b w w') (hb:Blk w b t cs) (ht:t≠e) (he:e≠33) (he2:e≠3):w'.ownsRow base2 e s (.slice A n c) n xs:=by
 refine ⟨h.1,?_⟩;rcases h.2 with h0 | ⟨g,cap,cur,h1,h2,h3,h4⟩
 ·exact .inl h0
 ·refine .inr ⟨g,cap,cur,h1,h2,k.blk g e cur (aD h hb ht g ?_) he he2 h3,h4⟩;simp only [Value.slice.injEq] at h1;rw [h1.1];rfl
end
theorem dC {w:World} {g g':Nat} {t t':TypeId} {cs cs':Array Value} (h:Blk w g t cs) (k:Blk w g' t' cs') (ht:t≠t'):g≠g':=by
 rintro rfl;have e:some (Obj.cells cs t (0,0))=some (Obj.cells cs' t' (0,0)):=(show w.heap[g]? =some (Obj.cells cs t (0,0)) from h).symm.trans k;simp only [Option.some.injEq,Obj.cells.injEq] at e;exact ht e.2.1
def Kq (A:Option Addr) (w w':World):Prop:=∀ g cs,A.map (·.block)≠some g→Blk w g 33 cs→Blk w' g 33 cs
section
variable {A:Option Addr} {w w1 w':World}
theorem Kq.of_from (h:al w w'):Kq A w w':=fun _ _ _ hb=>hb.from_ h
theorem Kq.trans (h:Kq A w w1) (k:Kq A w1 w'):Kq A w w':=fun g cs ha hb=>k g cs ha (h g cs ha hb)
theorem Kq.of_self (hg:w.grownBy w' (A.map (·.block))):Kq A w w':=fun _ _ h hb=>hb.grown hg (fun _ hk e=>h (e ▸ hk))
theorem Kq.of_row {B:Option Addr} {base e s c n:Nat} {xs:List Value} (hg:w.grownBy w' (B.map (·.block))) (ho:w.ownsRow base e s (.slice B n c) n xs) (he:33≠e):Kq A w w':=fun _ _ _ hb=>hb.grown hg (aD ho hb he)
theorem Kq.of_only {b t:Nat} {cs0:Array Value} (o:bD b w w') (hB:Blk w b t cs0) (ht:33≠t):Kq A w w':=fun _ _ _ hb=>hb.only o (dC hb hB ht)
end
def bP (w:World) (base b:Nat) (A1:Option Addr) (c1:Nat) (A2:Option Addr) (c2:Nat) (ms:List Msg) (ats:List Int):Prop:=
 base≤b∧Blk w b 30 #[.slice A1 ms.length c1,.slice A2 ats.length c2]∧w.ownsRow base 33 13 (.slice A1 ms.length c1) ms.length (ms.flatMap aM)∧w.ownsRow base 3 1 (.slice A2 ats.length c2) ats.length (ats.map iV)∧ats.length=ms.length∧∀ x∈ms,E1 w base x
theorem bP.from_ {w w':World} {base b c1 c2:Nat} {A1 A2:Option Addr} {ms:List Msg} {ats:List Int} (h:bP w base b A1 c1 A2 c2 ms ats) (hF:al w w'):bP w' base b A1 c1 A2 c2 ms ats:=
 ⟨h.1,h.2.1.from_ hF,h.2.2.1.kept_from hF,h.2.2.2.1.kept_from hF,h.2.2.2.2.1,fun x hx=>(h.2.2.2.2.2 x hx).from_ hF⟩
def rz (ms:List Msg) (ats:List Int):aG:=(ms.map pl).zip ats
theorem dI {ms:List Msg} {ats:List Int} (h:ats.length=ms.length):(rz ms ats).length=ms.length:=by simp [rz,h]
def e7 (R:aG) (p:Msg×Int):aG:=if R.length<4096 then R++[p] else R
def dS (x:Msg) (ts:List Int) (R:aG):aG:=ts.foldl (fun r a=>e7 r (x,a)) R
theorem jK {ms:List Msg} {ats:List Int} (h:ats.length=ms.length) (x:Msg) (a:Int):rz (ms++[x]) (ats++[a])=rz ms ats++[(pl x,a)]:=by
 unfold rz;rw [List.map_append,List.zip_append (by simp [h])];rfl
def FM (w:World) (ms ms':List Msg):Prop:=∀ p∈ms',p∈ms∨∀ q,dB p=some q→w.heap.size≤q
theorem FM.rfl_ {w:World} {ms:List Msg}:FM w ms ms:=fun _ h=>.inl h
theorem FM.trans {w w1:World} {ms ms1 ms2:List Msg} (h:FM w ms ms1) (k:FM w1 ms1 ms2) (hs:w.heap.size≤w1.heap.size):FM w ms ms2:=fun p hp=>by
 rcases k p hp with x | x
 ·exact h p x
 ·exact .inr fun q hq=>Nat.le_trans hs (x q hq)
theorem iv (base b:Nat) (A1:Option Addr) (c1:Nat) (A2:Option Addr) (c2:Nat) (ms:List Msg) (ats:List Int) (w:World) (hr:bP w base b A1 c1 A2 c2 ms ats) (w0:World) (x:Msg) (hx:cw w0 (.slice x.E x.es.length x.c) x.es) (_:w0.heap.size≤base) (hF0:al w0 w) (hxl:x.es.length≤1000000) (hml:ms.length≤4096) (a:Int) :
 Rt prog 27 [.pointer (some ⟨b,0,none⟩),.agg (aM x).toArray,.int .i64 a] w (fun v w'=>v=.tuple #[]∧(∃ A1' c1' A2' c2' ms' ats',bP w' base b A1' c1' A2' c2' ms' ats'∧rz ms' ats'=e7 (rz ms ats) (pl x,a)∧FM w ms ms'∧ms'.length≤4096)∧Kr base b w w'∧Kq A1 w w'):=by
 refine enter (n:=33) Try.func27 rfl rfl rfl (ag (ab (dg (v:=.agg _) rfl ?_)));intro b4 w1 E4 hb4 hk4;have hr4:=hr.from_ (al.rfl_.next E4);have hF4:=(al.rfl_.next E4);refine ah (af (ag (ab (mvp rfl (aa (ax rfl) (aa (ai bI rfl) (aa (aq cI rfl (by exact hr4.2.1.rd 0 rfl)) ?_)))))));refine aa (bf cU rfl) (aa (bC rfl rfl) (ah (af (m7 rfl (fun Q2=>?_) (fun Q2=>?_)))))
 ·refine ag ?_;apply lf 9 8 [18,19] [(12,eqp _),(13,eqp _),(14,eqp _),(15,eqp _),(16,eqp _),(17,eqp _),(18,fun v w'=>∃ A' c',v=.agg (aM (mA x A' c')).toArray∧E1 w' (w1).heap.size (mA x A' c')),(19,fun v w'=>∃ q A' c',v=.slice (some ⟨q,0,none⟩) 1 1∧Blk w' q 33 (aM (mA x A' c')).toArray∧E1 w' (w1).heap.size (mA x A' c')),(20,fun v w'=>∃ A3 c3 A' c',v=.slice A3 (ms.length+1) c3∧w'.ownsRow base 33 13 (.slice A3 (ms.length+1) c3) (ms.length+1) (ms.flatMap aM++aM (mA x A' c'))∧E1 w' (w1).heap.size (mA x A' c'))] (fun w'=>al w1 w') (fun w'=>Kr base b w1 w'∧Blk w' b 30 #[.slice A1 ms.length c1,.slice A2 ats.length c2]∧w'.ownsRow base 3 1 (.slice A2 ats.length c2) ats.length (ats.map iV)∧Kq A1 w1 w') (by repeat first | exact cq | refine cp ?_ | refine bU ?_) (by kernel_rfl) (by kernel_rfl) (by kernel_rfl) ⟨aj _,aj _,aj _,aj _,aj _,aj _,(fun _ _ _ hF ⟨A2,c2,h1,h2⟩=>⟨A2,c2,h1,h2.from_ hF⟩),(fun _ _ _ hF ⟨q,A2,c2,h1,h2,h3⟩=>⟨q,A2,c2,h1,h2.from_ hF,h3.from_ hF⟩),(fun _ _ _ hF ⟨A3,c3,A2,c2,h1,h2,h3⟩=>⟨A3,c3,A2,c2,h1,h2.kept_from hF,h3.from_ hF⟩),trivial⟩ (al.rfl_.d1) (⟨Kr.of_from al.rfl_.d1,hr4.2.1.from_ al.rfl_.d1,hr4.2.2.2.1.kept_from al.rfl_.d1,Kq.of_from al.rfl_.d1⟩) (fun _ _ hF h=>h.next hF) (fun _ _ hF h=>⟨h.1.trans (Kr.of_from hF),h.2.1.from_ hF,h.2.2.1.kept_from hF,h.2.2.2.trans (Kq.of_from hF)⟩)
  case hop=>
   constructor
   ·rintro-w4 ⟨hK4,hB4,hT4,hQ4⟩;exact ao (av (v:=.pointer _) rfl) rfl
   constructor
   ·rintro-w5 ⟨hK5,hB5,hT5,hQ5⟩;exact ao (av (v:=.pointer _) rfl) rfl
   constructor
   ·rintro-w6 ⟨hK6,hB6,hT6,hQ6⟩;rintro _ rfl;exact ao (ax rfl) rfl
   constructor
   ·rintro-w7 D7;rintro _ rfl;exact ao (ai bI rfl) rfl
   constructor
   ·rintro-w8 D8;rintro _ rfl;exact ao (aq cI rfl ((hr4.2.1.from_ D8).rd 0 rfl)) rfl
   constructor
   ·rintro-w9 D9;exact ao (aP (cs:=aM x) aI ay rfl ((hk4.from_ D9).whole)) rfl
   constructor
   ·rintro-w10 D10;rintro _ rfl;refine eP gV ((i_ x _ (hx.from_ (hF0.next ((al.rfl_.next E4).next D10))) (by omega)).mono ?_);rintro v w2 ⟨⟨A',c',rfl,hE⟩,hF⟩;exact ⟨hF,A',c',rfl,cW hE D10.size⟩
   constructor
   ·rintro-w11 D11;rintro v11_18 ⟨A11,c11,rfl,hE11⟩;exact jz (jr (l:=[(0,.tmp 18)]) (cells:=(aM (mA x A11 c11)).toArray) aT rfl rfl (gP _)) (al.rfl_.new _) ⟨_,A11,c11,rfl,Blk.new _ _ _,hE11.from_ (al.rfl_.new _)⟩
   constructor
   ·intro h;cases h
   exact trivial
  case hmu=>
   rintro w13 D13;rintro _ rfl v13_19 ⟨q13,A13,c13,rfl,hq13,hE13⟩;show jI ..;have hn13:=hr4.from_ D13;refine kc (news:=aM (mA x A13 c13)) aT rfl (by decide) rfl hn13.2.2.1 (Nat.le_trans hr.1 (Nat.le_of_lt hn13.2.1.lt)) rfl rfl ⟨_,_,rfl,hq13.whole⟩ (by simp [aM,Value.oneCell']) (by omega) (by omega) ?_;intro A3 c3 w3 ho3 hg3;exact ⟨⟨(Kr.of_from D13).trans (Kr.of_grown hg3 hn13.2.2.1 (.inl rfl)),hn13.2.1.grown hg3 (aD hn13.2.2.1 hn13.2.1 (by decide)),hn13.2.2.2.1.kept hg3 (bH hn13.2.2.2.1 hn13.2.2.1 (by decide)),(Kq.of_from D13).trans (Kq.of_self hg3)⟩,⟨A3,c3,A13,c13,rfl,ho3,World.ownsRow.kept hE13 hg3 (bH hE13 hn13.2.2.1 (by decide))⟩,fun t u ht h=>fN (by repeat first | exact trivial | refine ⟨.inl rfl,?_⟩ | refine ⟨.inr (fun _ h=>h),?_⟩) t u ht h⟩
  case hend=>
   rintro w14 ⟨hK14,hB14,hT14,hQ14⟩;rintro _ rfl _ rfl _ rfl _ rfl _ rfl _ rfl v18 _ v19 _ v20 ⟨A20,c20,Ax,cx,rfl,ho20,hE20⟩;show St ..;have hK2:=hK14;have hB2:=hB14;have hT2:=hT14;have hQ2:=hQ14;have hw2:=hK14.size;refine aa (ax rfl) (aa (ai bI rfl) (dG (v:=.slice _ _ _) gU rfl rfl rfl (hB2) (by show 0<2;decide) ?_));intro w15 O2 P2;have hT3:=aL hT2 O2 (aD hT2 hB2 (by decide));have ho3:=aL ho20 O2 (aD ho20 hB2 (by decide));have hE3:=aL hE20 O2 (aD hE20 hB2 (by decide));refine ah (af (ab (mvp rfl (mvp rfl (aa (ax rfl) (aa (ai bR rfl) (aa (aq df rfl (by exact P2.rd 1 rfl)) ?_)))))));refine mvi rfl (ek (v:=.int _ _) aX rfl rfl rfl ?_);intro b29 w16 E29 hb29 hk29;refine aW (news:=[iV a]) aX rfl (by decide) rfl (hT3.kept_from E29) (Nat.le_trans hr.1 (Nat.le_of_lt (P2.from_ E29).lt)) rfl rfl (fun _=>⟨b29,0,rfl,hk29.whole⟩) (fun h=>by cases h) (by simp [Value.oneCell']) (by have:=hr.2.2.2.2.1;omega) (by have:=hr.2.2.2.2.1;omega) ?_;intro A30 c30 w17 ho30 hg30;have hB3:=(P2.from_ E29).grown hg30 (aD (hT3.kept_from E29) (P2.from_ E29) (by decide));have ho4:=(ho3.kept_from E29).kept hg30 (bH (ho3.kept_from E29) (hT3.kept_from E29) (by decide));have hE4:=World.ownsRow.kept (World.ownsRow.kept_from hE3 E29) hg30 (bH (World.ownsRow.kept_from hE3 E29) (hT3.kept_from E29) (by decide));have hK4:Kr base b w _:=(((Kr.of_from hF4).trans hK2).trans (Kr.of_only O2 hr.1)).trans ((Kr.of_from E29).trans (Kr.of_grown hg30 (hT3.kept_from E29) (.inr rfl)));have hQ4:Kq A1 w _:=(((Kq.of_from hF4).trans hQ2).trans (Kq.of_only O2 hB2 (by decide))).trans ((Kq.of_from E29).trans (Kq.of_row hg30 (hT3.kept_from E29) (by decide)));refine aa (ax rfl) (aa (ai bR rfl) (dG (v:=.slice _ _ _) gT rfl rfl rfl (hB3) (by show 1<2;decide) ?_));intro w18 O3 P3;refine ah (bZ (eE rfl ?_))
   first
    |(have hge:¬ ms.length<4096:=by omega
      exact ⟨rfl,⟨A1,c1,A2,c2,ms,ats,hr4,by unfold e7;rw [dI hr.2.2.2.2.1,if_neg hge],FM.rfl_,hml⟩,Kr.of_from (HB.only O3 (HG)),Kq.of_from (HB.only O3 (HG))⟩)
    |(have hlt:ms.length<4096:=by omega
      have hKz:=hK4.trans (Kr.of_only O3 hr.1);refine ⟨rfl,⟨A20,c20,A30,c30,ms++[mA x Ax cx],ats++[a],⟨hr.1,?_,?_,?_,?_,?_⟩,?_,?_,?_⟩,hKz,hQ4.trans (Kq.of_only O3 hB3 (by decide))⟩
      ·rw [List.length_append,List.length_append];exact P3
      ·rw [List.length_append,List.flatMap_append,List.flatMap_singleton];exact aL ho4 O3 (aD ho4 hB3 (by decide))
      ·rw [List.length_append,List.map_append];exact aL ho30 O3 (aD ho30 hB3 (by decide))
      ·rw [List.length_append,List.length_append,hr.2.2.2.2.1];rfl
      ·intro y hy;rcases List.mem_append.1 hy with hy | hy
       ·exact ij (hr.2.2.2.2.2 y hy) hKz hr.2.1 (by decide) (by decide) (by decide)
       ·obtain rfl:=List.mem_singleton.1 hy;exact cW (aL hE4 O3 (aD hE4 hB3 (by decide))) (Nat.le_trans hr.1 (Nat.le_of_lt hr4.2.1.lt))
      ·unfold e7;rw [dI hr.2.2.2.2.1,if_pos hlt,jK hr.2.2.2.2.1];rfl
      ·intro y hy;rcases List.mem_append.1 hy with hy | hy
       ·exact .inl hy
       ·obtain rfl:=List.mem_singleton.1 hy;exact .inr fun q hq=>Nat.le_trans hF4.size (aS hE4 q hq).1
      ·rw [List.length_append,List.length_singleton];omega)
 refine aE (bZ (eE rfl ?_))
 first
  |(have hge:¬ ms.length<4096:=by omega
    exact ⟨rfl,⟨A1,c1,A2,c2,ms,ats,hr4,by unfold e7;rw [dI hr.2.2.2.2.1,if_neg hge],FM.rfl_,hml⟩,Kr.of_from (al.rfl_.next E4),Kq.of_from (al.rfl_.next E4)⟩)
  |(have hlt:ms.length<4096:=by omega
    have hKz:=hK4.trans (Kr.of_only O3 hr.1);refine ⟨rfl,⟨A20,c20,A30,c30,ms++[mA x Ax cx],ats++[a],⟨hr.1,?_,?_,?_,?_,?_⟩,?_,?_,?_⟩,hKz,hQ4.trans (Kq.of_only O3 hB3 (by decide))⟩
    ·rw [List.length_append,List.length_append];exact P3
    ·rw [List.length_append,List.flatMap_append,List.flatMap_singleton];exact aL ho4 O3 (aD ho4 hB3 (by decide))
    ·rw [List.length_append,List.map_append];exact aL ho30 O3 (aD ho30 hB3 (by decide))
    ·rw [List.length_append,List.length_append,hr.2.2.2.2.1];rfl
    ·intro y hy;rcases List.mem_append.1 hy with hy | hy
     ·exact ij (hr.2.2.2.2.2 y hy) hKz hr.2.1 (by decide) (by decide) (by decide)
     ·obtain rfl:=List.mem_singleton.1 hy;exact cW (aL hE4 O3 (aD hE4 hB3 (by decide))) (Nat.le_trans hr.1 (Nat.le_of_lt hr4.2.1.lt))
    ·unfold e7;rw [dI hr.2.2.2.2.1,if_pos hlt,jK hr.2.2.2.2.1];rfl
    ·intro y hy;rcases List.mem_append.1 hy with hy | hy
     ·exact .inl hy
     ·obtain rfl:=List.mem_singleton.1 hy;exact .inr fun q hq=>Nat.le_trans hF4.size (aS hE4 q hq).1
    ·rw [List.length_append,List.length_singleton];omega)
end Go.Proofs.Ytinogeaabocbkaa
namespace Go.Proofs.Ytinogeaabocbkaa
open Go.Proofs.Try (prog)
open Go.RowKit
open Go.ChangeShapes Go.WideShapes Go.ChangeAt
theorem iD:aB prog 26=true:=by kernel_rfl
theorem eS:aB prog 25=true:=by kernel_rfl
theorem dc:aB prog 27=true:=by kernel_rfl
theorem lF (base b:Nat) (A1:Option Addr) (c1:Nat) (A2:Option Addr) (c2:Nat) (ms:List Msg) (ats:List Int) (w:World) (hr:bP w base b A1 c1 A2 c2 ms ats) (w0:World) (x:Msg) (hx:cw w0 (.slice x.E x.es.length x.c) x.es) (h0:w0.heap.size≤base) (hF0:al w0 w) (hxl:x.es.length≤1000000) (hml:ms.length≤4096) (now pick:Int) (hnow:0≤now∧now≤4611686018427387904) (hp:-9223372036854775808≤pick∧pick≤9223372036854775807) :
 Rt prog 15 [.pointer (some ⟨b,0,none⟩),.agg (aM x).toArray,.int .i64 now,.int .i64 pick] w (fun v w'=>v=.tuple #[]∧(∃ A1' c1' A2' c2' ms' ats',bP w' base b A1' c1' A2' c2' ms' ats'∧rz ms' ats'=dS (pl x) (bN now pick) (rz ms ats)∧FM w ms ms'∧ms'.length≤4096)∧Kr base b w w'):=by
 have hd4:-9223372036854775808≤pick/4∧pick/4≤9223372036854775807:=by omega
 have hd8:0≤pick/4%8∧pick/4%8<8:=by omega
 have hd9:0≤pick%4∧pick%4<4:=by omega
 refine enter (n:=43) Try.func15 rfl rfl rfl (ag (ab (dg (v:=.agg _) rfl ?_)));intro b5 w1 E5 hb5 hk5;have h5b:A1.map (·.block)≠some b5:=fun e=>by have:=(aS hr.2.2.1 b5 e).2;omega
 refine ah (af (ag (ab (mvi rfl (aC iD (mD pick 4 _ (.inl rfl) hp) ?_)))));rintro v10 w2 ⟨rfl,rfl⟩;refine aC eS (kS (pick/4) 8 _ (.inr rfl) hd4) ?_;rintro v11 w3 ⟨rfl,rfl⟩;refine aa (bG rfl rfl (by omega)) (asi rfl (ah (af (ag (ab (mvi rfl (aC eS (kS pick 4 _ (.inl rfl) hp) ?_)))))));rintro v14 w4 ⟨rfl,rfl⟩;refine ah (af (aO (ag (ab (aa (bz rfl rfl) (asb rfl (ah (af (m6 rfl (fun Q5=>?_) (fun Q5=>?_))))))))))
 ·refine ab (mvp rfl (aa (aP (cs:=aM x) aI ay rfl ((hk5.from_ al.rfl_).whole)) (mvi rfl (aa (bG rfl rfl (by omega)) ?_))));have hFc:=(al.rfl_.next E5);refine aC dc (iv base b A1 c1 A2 c2 ms ats _ (hr.from_ (al.rfl_.next E5)) w0 x hx h0 (hF0.next (al.rfl_.next E5)) hxl hml (now+1)) ?_;rintro v21 w6 ⟨rfl,⟨A21,c21,B21,d21,ms21,ats21,hr21,hz21,hf21,hl21⟩,hK21,hQ21⟩;have hfin:(∃ A1' c1' A2' c2' ms' ats',bP w6 base b A1' c1' A2' c2' ms' ats'∧rz ms' ats'=dS (pl x) (bN now pick) (rz ms ats)∧FM w ms ms'∧ms'.length≤4096)∧Kr base b w w6:=⟨⟨_,_,_,_,_,_,hr21,by unfold bN;rw [if_pos (by omega)];exact hz21,FM.trans (FM.rfl_ (w:=w)) hf21 hFc.size,hl21⟩,(Kr.of_from hFc).trans hK21⟩;refine ah (aQ (bZ (eE rfl (⟨rfl,hfin⟩))))
 refine ag (ab (aa (bz rfl rfl) (asb rfl (ah (af (m6 rfl (fun Q7=>?_) (fun Q7=>?_)))))))
 ·refine ab (mvp rfl (aa (aP (cs:=aM x) aI ay rfl ((hk5.from_ al.rfl_).whole)) (mvi rfl (mvi rfl (aa (cX (bG rfl rfl (by omega)) (congrArg (Value.int .i64) (show (now+(2+pick/4%8):Int)=now+2+pick/4%8 by omega))) ?_)))));have hFc:=(al.rfl_.next E5);refine aC dc (iv base b A1 c1 A2 c2 ms ats _ (hr.from_ (al.rfl_.next E5)) w0 x hx h0 (hF0.next (al.rfl_.next E5)) hxl hml (now+2+pick/4%8)) ?_;rintro v29 w8 ⟨rfl,⟨A29,c29,B29,d29,ms29,ats29,hr29,hz29,hf29,hl29⟩,hK29,hQ29⟩;have hfin:(∃ A1' c1' A2' c2' ms' ats',bP w8 base b A1' c1' A2' c2' ms' ats'∧rz ms' ats'=dS (pl x) (bN now pick) (rz ms ats)∧FM w ms ms'∧ms'.length≤4096)∧Kr base b w w8:=⟨⟨_,_,_,_,_,_,hr29,by unfold bN;rw [if_neg (by omega),if_pos (by omega)];exact hz29,FM.trans (FM.rfl_ (w:=w)) hf29 hFc.size,hl29⟩,(Kr.of_from hFc).trans hK29⟩;refine ah (aQ (bZ (eE rfl (⟨rfl,hfin⟩))))
 refine ag (ab (aa (bz rfl rfl) (asb rfl (ah (af (m6 rfl (fun Q9=>?_) (fun Q9=>?_)))))))
 ·refine ag (ab (mvp rfl (aa (aP (cs:=aM x) aI ay rfl ((hk5.from_ al.rfl_).whole)) (mvi rfl (aa (bG rfl rfl (by omega)) ?_)))));have hFc:=(al.rfl_.next E5);have hk5z:=hk5.from_ al.rfl_;refine aC dc (iv base b A1 c1 A2 c2 ms ats _ (hr.from_ (al.rfl_.next E5)) w0 x hx h0 (hF0.next (al.rfl_.next E5)) hxl hml (now+1)) ?_;rintro v36 w10 ⟨rfl,⟨A36,c36,B36,d36,ms36,ats36,hr36,hz36,hf36,hl36⟩,hK36,hQ36⟩;have hk5b:=hQ36 b5 _ h5b hk5z;refine ah (af (ab (mvp rfl (aa (aP (cs:=aM x) aI ay rfl ((hk5b).whole)) (mvi rfl (mvi rfl (aa (cX (bG rfl rfl (by omega)) (congrArg (Value.int .i64) (show (now+(2+pick/4%8):Int)=now+2+pick/4%8 by omega))) ?_)))))));refine aC dc (iv base b A36 c36 B36 d36 ms36 ats36 _ hr36 w0 x hx h0 (Kr.from_ (hF0.next hFc) hK36 h0) hxl hl36 (now+2+pick/4%8)) ?_;rintro v42 w11 ⟨rfl,⟨A42,c42,B42,d42,ms42,ats42,hr42,hz42,hf42,hl42⟩,hK42,hQ42⟩;have hfin:(∃ A1' c1' A2' c2' ms' ats',bP w11 base b A1' c1' A2' c2' ms' ats'∧rz ms' ats'=dS (pl x) (bN now pick) (rz ms ats)∧FM w ms ms'∧ms'.length≤4096)∧Kr base b w w11:=⟨⟨_,_,_,_,_,_,hr42,by unfold bN;rw [if_neg (by omega),if_neg (by omega),if_pos (by omega)];exact (by rw [hz42,hz36];rfl),FM.trans (FM.trans (FM.rfl_ (w:=w)) hf36 hFc.size) hf42 (Nat.le_trans hFc.size hK36.size),hl42⟩,((Kr.of_from hFc).trans hK36).trans hK42⟩;refine ah (aQ (bZ (eE rfl (⟨rfl,hfin⟩))))
 have hfin:(∃ A1' c1' A2' c2' ms' ats',bP w1 base b A1' c1' A2' c2' ms' ats'∧rz ms' ats'=dS (pl x) (bN now pick) (rz ms ats)∧FM w ms ms'∧ms'.length≤4096)∧Kr base b w w1:=⟨⟨_,_,_,_,_,_,hr.from_ (al.rfl_.next E5),by unfold bN;rw [if_neg (by omega),if_neg (by omega),if_neg (by omega)];rfl,FM.rfl_,hml⟩,Kr.of_from (al.rfl_.next E5)⟩;refine aE (aQ (bZ (eE rfl (⟨rfl,hfin⟩))))
end Go.Proofs.Ytinogeaabocbkaa
namespace Go.Proofs.Ytinogeaabocbkaa
open Go.Proofs.Try (prog)
open Go.RowKit
def ni (l:List Oper):Bool:=(List.range l.length).all fun i=>match l[i]? with
 |none=>false
 |some o=>o.guard.isNone&&o.after.toList.all fun e=> !Region.binds .any e||decide (e.on<i)
def mm (S:Nat→Bool) (i:Nat):Nat→Bool:=fun j=>if j=i then true else S j
def me (P:Program) (n:Fr) (o:Oper) (Inv:List (Nat×Value)→World→Prop) (L':List (Nat×Value)) (w':World):Prop:=
 (∃ d v w'',o.dst=some d∧(execOp (ev n L') o).run P w'=.ok (.value v) w''∧Inv ((d,v)::L') w'')∨
 (∃ w'',o.dst=none∧(execOp (ev n L') o).run P w'=.ok .skip w''∧Inv L' w'')∨
 (∃ d f args,o.dst=some d∧(execOp (ev n L') o).run P w'=.ok (.enter f (List.toArray args)) w'∧Rt P f args w' fun v w''=>Inv ((d,v)::L') w'')
section
variable {P:Program} {Q:Exit→Act→World→Prop} {n:Fr} {L:List (Nat×Value)} {w:World} {l:List Oper}
def na (L:List (Nat×Value)) (T:List (Nat×Nat×Value)) (S:Nat→Bool) (L':List (Nat×Value)):Prop:=
 (∀ t,(∀ p∈T,p.2.1≠t)→aJ L' t=aJ L t)∧(∀ p∈T,S p.1=true→aJ L' p.2.1=p.2.2)∧∀ p∈T,S p.1=false→aJ L' p.2.1=aJ L p.2.1
def nk:List (Nat×Nat×Value)→Prop
 |[]=>True
 |p::r=>(∀ q∈r,q.1≠p.1∧q.2.1≠p.2.1)∧nk r
def iE (S:Nat→Bool):List Edge→Prop
 |[]=>True
 |e::r=>(bif Region.binds .any e then S e.on=true else True)∧iE S r
def mG (P:Program) (n:Fr) (L:List (Nat×Value)) (T:List (Nat×Nat×Value)) (Mem:(Nat→Bool)→World→Prop):Nat→List Oper→Prop
 |_,[]=>True
 |i,o::r=>(∀ S L' w',na L T S L'→Mem S w'→S i=false→iE S o.after.toList→me P n o (fun L2 w2=>na L T (mm S i) L2∧Mem (mm S i) w2) L' w')∧mG P n L T Mem (i+1) r
end
end Go.Proofs.Ytinogeaabocbkaa
namespace Go.Proofs.Ytinogeaabocbkaa
open Go.Proofs.Try (prog)
open Go.RowKit
def nz (w:World) (base:Nat) (e:TypeId) (A:Option Addr) (n c:Nat) (xs:List Value):Prop:=
 xs.length=n∧n≤c∧c≤maxLen∧∃ g off cs,A=some ⟨g,off,none⟩∧base≤g∧Blk w g e cs∧off+c≤cs.size∧(cs.toList.drop off).take n=xs
section
variable {P:Program} {Q:Exit→Act→World→Prop} {n:Fr} {L:List (Nat×Value)} {w:World} {l:List Oper}
def mH (P:Program) (n:Fr) (Inv:(Nat→Bool)→List (Nat×Value)→World→Prop):Nat→List Oper→Prop
 |_,[]=>True
 |i,o::r=>(∀ S L' w',Inv S L' w'→S i=false→iE S o.after.toList→me P n o (Inv (mm S i)) L' w')∧mH P n Inv (i+1) r
end
theorem jv {P:Program} {ρ:Operand→Value} {w:World} {s x:Operand} {t base:Nat} {A A2:Option Addr} {m j cap c2 e size by_:Nat} {z:Value} {xs news:List Value} (hq:dp P t=some (e,size,by_,z)) (hzs:z.cells.size=size) (hs0:0<size)
 (hs:ρ s=.slice A m cap) (hown:w.ownsRow base e size (.slice A m cap) m xs) (hB:base≤w.heap.size)
 (hx:ρ x=.slice A2 j c2) (hl:news.length=j*size) (hsrc:∃ b o,A2=some ⟨b,o,none⟩∧w.rangeAt b o news) (h1:∀ u∈news,u.oneCell'=true) (h63:m+j≤9223372036854775807) (hby:(m+j)*by_≤140737488355328) :
 ∃ A' cap' w',RO P ρ (.call { callee:=.builtin .append,args:=#[s,x],argTypes:=#[t,t] }) w (.slice A' (m+j) cap') w'∧w'.ownsRow base e size (.slice A' (m+j) cap') (m+j) (xs++news)∧w.grownBy w' (A.map (·.block))∧(A'.map (·.block)=A.map (·.block)∨A'.map (·.block)=some w.heap.size):=by
 obtain ⟨i,hu,hi,hsz,hb,hz⟩:=eG hq;obtain ⟨b,o,rfl,hr⟩:=hsrc;have hobl:∀ (A:Option Addr) (m c:Nat),(Value.slice A m c).ownBlock=A.map (·.block):=fun A m c=>by cases A <;> rfl
 obtain ⟨v',w',hrun,hown',hg,_,h5⟩:=run_append_own_at (P:=P) w base t 0 e i z size by_ hu hi hz hsz hb hzs hs0 _ m xs hown ⟨b,o,none⟩ j c2 news hl (fun i u hu=>by rw [Addr.add_mid];exact hr i u hu) h1 (by unfold maxLen;omega) hby hB;obtain ⟨A',cap',rfl⟩:=eO hown';rw [hobl,hobl] at h5;refine ⟨A',cap',w',fun dst ty pos after g=>?_,hown',by rw [←hobl A m cap];exact hg,h5⟩;have hty:(Builtin.append_ #[t,t] ty #[.slice A m cap,.slice (some ⟨b,o,none⟩) j c2]).run P w=(Builtin.append_ #[t,t] 0 #[.slice A m cap,.slice (some ⟨b,o,none⟩) j c2]).run P w:=rfl;unfold execOp;simp only [resolve,invoke,builtin,Sem.run_bind,Sem.run_pure,Result.andThen_ok,List.map_toArray,List.map_cons,List.map_nil,hs,hx,hty,hrun]
end Go.Proofs.Ytinogeaabocbkaa
namespace Go.Proofs.Ytinogeaabocbkaa
open Go.Proofs.Try (prog)
open Go.RowKit Go.ChangeShapes Go.WideShapes Go.ChangeAt
def cn (A B:Option Addr):Prop:=∀ p,A.map (·.block)=some p→∀ q,B.map (·.block)=some q→p≠q
theorem cn.none_ {B:Option Addr}:cn none B:=fun p hp=>by cases hp
theorem gH {w w':World} {base e s n c:Nat} {A B:Option Addr} {xs:List Value} (h:w.ownsRow base e s (.slice A n c) n xs) (hg:w.grownBy w' (B.map (·.block))) (hne:cn B A):w'.ownsRow base e s (.slice A n c) n xs:=by
 refine ⟨h.1,?_⟩;rcases h.2 with h0 | ⟨g,cap,cur,h1,h2,h3,h4⟩
 ·exact .inl h0
 ·refine .inr ⟨g,cap,cur,h1,h2,?_,h4⟩;simp only [Value.slice.injEq] at h1;obtain ⟨rfl,_,_⟩:=h1
  have hlt:g<w.heap.size:=by
   rcases Nat.lt_or_ge g w.heap.size with a | a
   ·exact a
   ·rw [Array.getElem?_eq_none a] at h3;cases h3
  exact (hg.block g hlt fun e=>hne g e.symm g rfl rfl).trans h3
theorem cn.new {A A' B:Option Addr} {N:Nat} (h:cn A B) (hB:∀ q,B.map (·.block)=some q→q<N) (hL:A'.map (·.block)=A.map (·.block)∨A'.map (·.block)=some N):cn A' B:=fun p hp q hq=>by
 rcases hL with e | e
 ·exact h p (e ▸ hp) q hq
 ·rw [e] at hp;cases hp;have:=hB q hq;omega
theorem cn.fresh {A B:Option Addr} {w:World} {base e s n c:Nat} {xs:List Value} (h:w.ownsRow base e s (.slice A n c) n xs) (hB:∀ q,B.map (·.block)=some q→w.heap.size≤q):cn A B:=fun p hp q hq e=>by
 have h1:=(aS h p hp).2;have h2:=hB q hq;omega
theorem kM {w:World} {base e s n c:Nat} {xs:List Value} (h:w.ownsRow base e s (.slice none n c) n xs):c=0:=by
 rcases h.2 with ⟨h1,_⟩ | ⟨g,cap,cur,hv,_⟩
 ·simp only [Value.slice.injEq] at h1;omega
 ·simp only [Value.slice.injEq] at hv;cases hv.1
theorem cr {w:World} {b1 b2 e1 e2 s1 s2 n1 n2 c1 c2:Nat} {A1 A2:Option Addr} {xs1 xs2:List Value} (h1:w.ownsRow b1 e1 s1 (.slice A1 n1 c1) n1 xs1) (h2:w.ownsRow b2 e2 s2 (.slice A2 n2 c2) n2 xs2) (hne:e1≠e2):cn A1 A2:=fun p hp q hq e=>by
 rcases h1.2 with ⟨k1,_⟩ | ⟨g1,cap1,cur1,k1,_,k2,_⟩
 ·simp only [Value.slice.injEq] at k1;rw [k1.1] at hp;cases hp
 ·rcases h2.2 with ⟨j1,_⟩ | ⟨g2,cap2,cur2,j1,_,j2,_⟩
  ·simp only [Value.slice.injEq] at j1;rw [j1.1] at hq;cases hq
  ·simp only [Value.slice.injEq] at k1 j1;rw [k1.1] at hp;rw [j1.1] at hq;cases hp;cases hq;have e:g1=g2:=e;rw [e,j2] at k2;simp only [Option.some.injEq,Obj.cells.injEq] at k2;exact hne k2.2.1.symm
section
variable {P:Program} {ops:Array Oper} {Q:Exit→Act→World→Prop} {rest:List Oper} {n:Fr} {L:List (Nat×Value)} {w:World} {ty:TypeId} {pos:String} {after:Array Edge} {d:Nat} {t:TypeId} {s x y:Operand}
theorem fF {base:Nat} {A A2:Option Addr} {m j cap c2 e size by_:Nat} {z:Value} {xs news:List Value} (hq:dp P t=some (e,size,by_,z)) (hzs:z.cells.size=size) (hs0:0<size)
 (hs:ev n L s=.slice A m cap) (hown:w.ownsRow base e size (.slice A m cap) m xs) (hB:base≤w.heap.size)
 (hx:ev n L x=.slice A2 j c2) (hl:news.length=j*size) (hsrc:∃ b o,A2=some ⟨b,o,none⟩∧w.rangeAt b o news) (h1:∀ u∈news,u.oneCell'=true) (h63:m+j≤9223372036854775807) (hby:(m+j)*by_≤140737488355328)
 (k:∀ A' cap' w',w'.ownsRow base e size (.slice A' (m+j) cap') (m+j) (xs++news)→w.grownBy w' (A.map (·.block))→(A'.map (·.block)=A.map (·.block)∨A'.map (·.block)=some w.heap.size)→St P ops Q rest n ((d,.slice A' (m+j) cap')::L) w') :
 St P ops Q (⟨some d,.call { callee:=.builtin .append,args:=#[s,x],argTypes:=#[t,t] },ty,pos,after,none⟩::rest) n L w:=by
 obtain ⟨A',cap',w',hR,h2,h3,h4⟩:=jv (P:=P) (ρ:=ev n L) (s:=s) (x:=x) (w:=w) hq hzs hs0 hs hown hB hx hl hsrc h1 h63 hby;exact aa hR (k A' cap' w' h2 h3 h4)
end
end Go.Proofs.Ytinogeaabocbkaa
namespace Go.Proofs.Ytinogeaabocbkaa
open Go.Proofs.Try (prog)
open Go.RowKit
open Go.ChangeShapes Go.WideShapes Go.ChangeAt
theorem eb {α:Type} {motive:List α→Prop} (nil:motive []) (append_singleton:∀ (l:List α) (a:α),motive l→motive (l++[a])) (t:List α):motive t:=by
 have key:∀ (n:Nat) (l:List α),l.length=n→motive l:=by
  intro n
  induction n with
  |zero=>intro l h;rw [List.eq_nil_of_length_eq_zero h];exact nil
  |succ n ih=>
   intro l h;have hne:l≠[]:=by rintro rfl;simp at h
   rw [←List.dropLast_concat_getLast hne];exact append_singleton _ _ (ih _ (by rw [List.length_dropLast,h];rfl))
 exact key _ t rfl
def srt (R:aG):aG:=R.foldl bF []
theorem ck (R:aG) (q:Msg×Int):srt (R++[q])=bF (srt R) q:=by unfold srt;rw [List.foldl_append];rfl
theorem dH:∀ (R:aG),bg (srt R):=fun R=>by
 have key:∀ (R S:aG),bg S→bg (R.foldl bF S):=by
  intro R
  induction R with
  |nil=>intro S h;exact h
  |cons a r ih=>intro S h;exact ih _ (fc h)
 exact key R [] (fun i j hi=>absurd hi (by simp))
theorem b_ {S:aG} {q:Msg×Int} (h:S.length≠4096):(bF S q).length=S.length+1:=by rw [(en h).length_eq];rfl
theorem el:∀ (R:aG),R.length≤4096→(srt R).length=R.length:=fun R=>by
 induction R using eb with
 |nil=>intro _;rfl
 |append_singleton r q ih=>
  intro h;rw [List.length_append,List.length_singleton] at h ⊢;rw [ck,b_ (by rw [ih (by omega)];omega),ih (by omega)]
theorem iF {L:aG} (hs:bg L) (x:Int):L.take (aK L x)=L.filter (fun p=>decide (p.2≤x))∧L.drop (aK L x)=L.filter (fun p=>decide (x<p.2)):=by
 obtain ⟨h0,h1,h2⟩:=jU hs x
 have m1:∀ q∈L.take (aK L x),q.2≤x:=fun q hq=>by
  obtain ⟨j,hj,rfl⟩:=List.getElem_of_mem hq;rw [List.length_take] at hj;rw [List.getElem_take];exact h1 j (by omega) (by omega)
 have m2:∀ q∈L.drop (aK L x),x<q.2:=fun q hq=>by
  obtain ⟨j,hj,rfl⟩:=List.getElem_of_mem hq;rw [List.length_drop] at hj;rw [List.getElem_drop];exact h2 _ (by omega) (by omega)
 have e:L.take (aK L x)++L.drop (aK L x)=L:=List.take_append_drop _ _;constructor
 ·conv=>rhs;rw [←e,List.filter_append]
  rw [List.filter_eq_self.2 (fun q hq=>decide_eq_true (m1 q hq)),List.filter_eq_nil_iff.2 (fun q hq=>by have:=m2 q hq;simp only [decide_eq_true_eq];omega),List.append_nil]
 ·conv=>rhs;rw [←e,List.filter_append]
  rw [List.filter_eq_self.2 (fun q hq=>decide_eq_true (m2 q hq)),List.filter_eq_nil_iff.2 (fun q hq=>by have:=m1 q hq;simp only [decide_eq_true_eq];omega),List.nil_append]
theorem eo {S:aG} {q:Msg×Int} (hs:bg S) (h:S.length≠4096):bF S q=S.filter (fun p=>decide (p.2≤q.2))++[q]++S.filter (fun p=>decide (q.2<p.2)):=by
 obtain ⟨a,b⟩:=iF hs q.2;unfold bF;rw [if_neg h,a,b]
theorem fe {S:aG} (hs:bg S) (P:Msg×Int→Bool):bg (S.filter P):=by
 rw [dY] at hs ⊢;exact hs.filter P
theorem ew (S:aG) (P Q:Msg×Int→Bool):(S.filter P).filter Q=(S.filter Q).filter P:=by
 rw [List.filter_filter,List.filter_filter]
 congr 1
 funext p
 exact Bool.and_comm _ _
theorem iW (S:aG) (P:Msg×Int→Bool) (h:S.length<4096):(S.filter P).length≠4096:=by
 have:=List.length_filter_le P S;omega
theorem lL {S:aG} {q:Msg×Int} (hs:bg S) (h:S.length<4096) (x:Int):(bF S q).filter (fun p=>decide (p.2≤x))=if q.2≤x then bF (S.filter (fun p=>decide (p.2≤x))) q else S.filter (fun p=>decide (p.2≤x)):=by
 rw [eo hs (by omega),List.filter_append,List.filter_append,ew,ew S (fun p=>decide (q.2<p.2))];split
 ·rename_i hq;rw [eo (fe hs _) (iW _ _ h)]
  congr 2
  simp [hq]
 ·rename_i hq;have e1:(S.filter (fun p=>decide (p.2≤x))).filter (fun p=>decide (p.2≤q.2))=S.filter (fun p=>decide (p.2≤x)):=List.filter_eq_self.2 (fun p hp=>by have:=(List.mem_filter.1 hp).2;simp only [decide_eq_true_eq] at this ⊢;omega);have e2:(S.filter (fun p=>decide (p.2≤x))).filter (fun p=>decide (q.2<p.2))=[]:=List.filter_eq_nil_iff.2 (fun p hp=>by have:=(List.mem_filter.1 hp).2;simp only [decide_eq_true_eq] at this ⊢;omega);rw [e1,e2];simp [hq]
theorem lM {S:aG} {q:Msg×Int} (hs:bg S) (h:S.length<4096) (x:Int):(bF S q).filter (fun p=>decide (x<p.2))=if x<q.2 then bF (S.filter (fun p=>decide (x<p.2))) q else S.filter (fun p=>decide (x<p.2)):=by
 rw [eo hs (by omega),List.filter_append,List.filter_append,ew,ew S (fun p=>decide (q.2<p.2))];split
 ·rename_i hq;rw [eo (fe hs _) (iW _ _ h)]
  congr 2
  simp [hq]
 ·rename_i hq;have e1:(S.filter (fun p=>decide (x<p.2))).filter (fun p=>decide (p.2≤q.2))=[]:=List.filter_eq_nil_iff.2 (fun p hp=>by have:=(List.mem_filter.1 hp).2;simp only [decide_eq_true_eq] at this ⊢;omega);have e2:(S.filter (fun p=>decide (x<p.2))).filter (fun p=>decide (q.2<p.2))=S.filter (fun p=>decide (x<p.2)):=List.filter_eq_self.2 (fun p hp=>by have:=(List.mem_filter.1 hp).2;simp only [decide_eq_true_eq] at this ⊢;omega);rw [e1,e2];simp [hq]
theorem mi (x:Int):∀ (R:aG),R.length≤4096→(srt R).filter (fun p=>decide (p.2≤x))=srt (R.filter (fun p=>decide (p.2≤x))):=fun R=>by
 induction R using eb with
 |nil=>intro _;rfl
 |append_singleton r q ih=>
  intro h;rw [List.length_append,List.length_singleton] at h;rw [ck,lL (dH _) (by rw [el _ (by omega)];omega),ih (by omega),List.filter_append];split
  ·rename_i hq;rw [List.filter_cons_of_pos (by simpa using hq),List.filter_nil,ck]
  ·rename_i hq;rw [List.filter_cons_of_neg (by simpa using hq),List.filter_nil,List.append_nil]
theorem mj (x:Int):∀ (R:aG),R.length≤4096→(srt R).filter (fun p=>decide (x<p.2))=srt (R.filter (fun p=>decide (x<p.2))):=fun R=>by
 induction R using eb with
 |nil=>intro _;rfl
 |append_singleton r q ih=>
  intro h;rw [List.length_append,List.length_singleton] at h;rw [ck,lM (dH _) (by rw [el _ (by omega)];omega),ih (by omega),List.filter_append];split
  ·rename_i hq;rw [List.filter_cons_of_pos (by simpa using hq),List.filter_nil,ck]
  ·rename_i hq;rw [List.filter_cons_of_neg (by simpa using hq),List.filter_nil,List.append_nil]
def dm (now:Int) (Q:aG):aG:=srt (Q.filter fun p=>decide (p.2≤now))
def cV (now:Int) (Q:aG):aG:=Q.filter fun p=>decide (now<p.2)
theorem kP (now:Int) (Q:aG) (h:Q.length≤4096):(dm now Q).length≤Q.length:=by
 unfold dm;have:=List.length_filter_le (fun p:Msg×Int=>decide (p.2≤now)) Q;rw [el _ (by omega)];exact this
theorem kO {now:Int} {Q:aG} {i:Nat} (h:i<Q.length):dm now (Q.take (i+1))=(if Q[i].2≤now then bF (dm now (Q.take i)) Q[i] else dm now (Q.take i))∧cV now (Q.take (i+1))=(if now<Q[i].2 then cV now (Q.take i)++[Q[i]] else cV now (Q.take i)):=by
 unfold dm cV;rw [List.take_succ_eq_append_getElem h,List.filter_append,List.filter_append];constructor
 ·split
  ·rename_i hq;rw [List.filter_cons_of_pos (by simpa using hq),List.filter_nil,ck]
  ·rename_i hq;rw [List.filter_cons_of_neg (by simpa using hq),List.filter_nil,List.append_nil]
 ·split
  ·rename_i hq;rw [List.filter_cons_of_pos (by simpa using hq),List.filter_nil]
  ·rename_i hq;rw [List.filter_cons_of_neg (by simpa using hq),List.filter_nil,List.append_nil]
def XO (O:aG):List Value:=(O.map (·.1)).flatMap aM
def TO (O:aG):List Value:=(O.map (·.2)).map iV
theorem iy (O:aG):(XO O).length=O.length*13:=by unfold XO;rw [fR dP,List.length_map]
theorem iA (O:aG):(TO O).length=O.length:=by simp [TO]
theorem iw (O:aG):∀ u∈XO O,u.oneCell'=true:=lT _
theorem iz (O:aG):∀ u∈TO O,u.oneCell'=true:=fun u hu=>by
 obtain ⟨x,_,rfl⟩:=List.mem_map.1 hu;rfl
theorem l8 (O:aG) (p:Msg×Int):XO (O++[p])=XO O++aM p.1:=by simp [XO,List.flatMap_append]
theorem l9 (O:aG) (p:Msg×Int):TO (O++[p])=TO O++[iV p.2]:=by simp [TO]
theorem ll {O:aG} {p:Msg×Int} {k:Nat} (h:O.length≠4096) (hk:aK O p.2=k):[]++(XO O).take (k*13)++aM p.1++(XO O).drop (k*13)=XO (bF O p):=by
 unfold XO;rw [eu dP,de dP];unfold bF;rw [if_neg h,hk];simp [List.map_append,List.flatMap_append,List.map_take,List.map_drop]
theorem ln {O:aG} {p:Msg×Int} {k:Nat} (h:O.length≠4096) (hk:aK O p.2=k):[]++(TO O).take (k*1)++[iV p.2]++(TO O).drop (k*1)=TO (bF O p):=by
 unfold TO bF;rw [if_neg h,hk];simp [List.map_append,List.map_take,List.map_drop]
theorem j_ {w:World} {base e s n c k:Nat} {A:Option Addr} {xs:List Value} (h:w.ownsRow base e s (.slice A n c) n xs) (hk:k≤n):0<k→∃ b o,A=some ⟨b,o,none⟩∧w.rangeAt b o (xs.take (k*s)):=fun h0=>by
 obtain ⟨g,cur,hA,_,hb,_,_,_,hct⟩:=dO h (by omega);exact ⟨g,0,hA,iH hb hct⟩
theorem ep {w:World} {base e s n c k:Nat} {A:Option Addr} {xs:List Value} (h:w.ownsRow base e s (.slice A n c) n xs) (hk:k≤n):0<k-0→∃ b o,cG A c 0 s=some ⟨b,o,none⟩∧w.rangeAt b o (xs.take (k*s)):=fun h0=>by
 rw [cR];exact j_ h hk (by omega)
theorem er {w:World} {base e s n c k:Nat} {A:Option Addr} {xs:List Value} (h:w.ownsRow base e s (.slice A n c) n xs):0<n-k→∃ b o,cG A c k s=some ⟨b,o,none⟩∧w.rangeAt b o (xs.drop (k*s)):=fun h0=>by
 obtain ⟨g,cur,hA,_,hb,hnc,_,_,hct⟩:=dO h (by omega);subst hA;exact ⟨g,0+k*s,bK (by omega),by have:=eN (o:=k*s) hb hct;rwa [Nat.zero_add]⟩
theorem cQ {w:World} {base e s n c k:Nat} {A:Option Addr} {xs:List Value} (h:w.ownsRow base e s (.slice A n c) n xs):cG A c k s=none→c-k=0:=fun h0=>by
 unfold cG at h0
 have hA:A=none:=by
  split at h0
  ·exact h0
  ·cases A
   ·rfl
   ·cases h0
 subst hA;rw [kM h];omega
theorem kE (base b:Nat) (A1:Option Addr) (c1:Nat) (A2:Option Addr) (c2:Nat) (ms:List Msg) (ats:List Int) (w:World) (hr:bP w base b A1 c1 A2 c2 ms ats) (hml:ms.length≤4096) (now:Int) :
 Rt prog 9 [.pointer (some ⟨b,0,none⟩),.int .i64 now] w (fun v w'=>(∃ A' c',v=.slice A' (dm now (ms.zip ats)).length c'∧w'.ownsRow w.heap.size 33 13 (.slice A' (dm now (ms.zip ats)).length c') (dm now (ms.zip ats)).length (XO (dm now (ms.zip ats))))∧(∃ A1' c1' A2' c2',bP w' base b A1' c1' A2' c2' ((cV now (ms.zip ats)).map (·.1)) ((cV now (ms.zip ats)).map (·.2))∧∀ q,A1'.map (·.block)=some q→w.heap.size≤q)∧Ch (fun q=>q=b) w w'):=by
 have hlm:=hr.2.2.2.2.1;have hrm:=(ee.own dP (by decide) hr.2.2.1).2;have hqz:(ms.zip ats).length=ms.length:=by simp [hlm]
 have hcB:base≤w.heap.size:=Nat.le_trans hr.1 (Nat.le_of_lt hr.2.1.lt);refine enter (n:=121) Try.func9 rfl rfl rfl (ag (ab (ass rfl (ah (af (ag (ab (ass rfl (ass rfl (ah (af (ag (ab (ass rfl (ass rfl ?_)))))))))))))));refine ah (af (ag (ag (ab (asi rfl (ah (af (aO (cg (G:=Nat×aG×aG×(Option Addr×Nat)×(Option Addr×Nat)×(Option Addr×Nat)×(Option Addr×Nat)) (10::11::12::13::14::15::16::17::18::19::20::21::22::23::24::25::26::27::28::29::30::31::32::33::34::35::36::37::38::39::40::41::42::43::44::45::46::47::48::49::50::51::52::53::54::55::56::57::58::59::60::61::62::63::64::65::66::67::68::69::70::71::72::73::74::75::76::77::78::79::80::81::82::83::84::85::86::87::88::89::90::91::92::93::94::95::96::97::98::99::100::101::102::103::104::105::106::107::108::109::110::111::[]) (fun (i,O,R,(A5,c5),(A6,c6),(A7,c7),(A8,c8))=>[(5,.slice A5 O.length c5),(6,.slice A6 R.length c6),(7,.slice A7 O.length c7),(8,.slice A8 R.length c8),(9,.int .i64 (i:Nat))]) (fun (i,O,R,(A5,c5),(A6,c6),(A7,c7),(A8,c8)) w'=>i≤ms.length∧O=dm now ((ms.zip ats).take i)∧R=cV now ((ms.zip ats).take i)∧w'.ownsRow w.heap.size 33 13 (.slice A5 O.length c5) O.length (XO O)∧w'.ownsRow w.heap.size 33 13 (.slice A6 R.length c6) R.length (XO R)∧w'.ownsRow w.heap.size 3 1 (.slice A7 O.length c7) O.length (TO O)∧w'.ownsRow w.heap.size 3 1 (.slice A8 R.length c8) R.length (TO R)∧cn A6 A5∧cn A8 A7∧al w w') (fun (i,_)=>ms.length-i) ((0,[],[],(none,0),(none,0),(none,0),(none,0))) ⟨rfl,rfl,rfl,rfl,rfl,trivial⟩ ?_ ?_)))))))))
 ·exact ⟨Nat.zero_le _,rfl,rfl,World.ownsRow_nil _ _ _ _,World.ownsRow_nil _ _ _ _,World.ownsRow_nil _ _ _ _,World.ownsRow_nil _ _ _ _,cn.none_,cn.none_,al.rfl_⟩
 rintro ⟨i,O,R,⟨A5,c5⟩,⟨A6,c6⟩,⟨A7,c7⟩,⟨A8,c8⟩⟩ ρ1 w1 ⟨hi,hO,hR,ho5,ho6,ho7,ho8,hD5,hD7,hB⟩;refine ag (ag (ab (mvi rfl (mvp rfl (aa (ax rfl) (aa (ai bI rfl) (aa (aq cI rfl (by exact (hr.2.1.from_ hB).rd 0 rfl)) ?_)))))));refine aa (bf cU rfl) (aa (bC rfl rfl) (ah (af (m7 rfl (fun Q2=>?_) (fun Q2=>?_)))))
 ·have him:i<ms.length:=by omega
  have hia:i<ats.length:=by omega
  obtain ⟨ba,oa,hA,hcm⟩:=hrm (by omega);subst hA;obtain ⟨bt,rfl⟩:=d_ hr.2.2.2.1 (by omega);have hct:∀ j (h:j<ats.length),w.cell? ⟨bt,0+j,none⟩=some (iV ats[j]):=fun j h=>by rw [Nat.zero_add];exact iO hr.2.2.2.1 j h
  have hiz:i<(ms.zip ats).length:=by omega
  have hsn:=kO (now:=now) hiz;have hzi:(ms.zip ats)[i]=(ms[i]'him,ats[i]'hia):=List.getElem_zip;have hOl:O.length≤i:=by rw [hO];exact Nat.le_trans (kP now _ (by rw [List.length_take];omega)) (by rw [List.length_take];omega)
  have hRl:R.length≤i:=by rw [hR];unfold cV;exact Nat.le_trans (List.length_filter_le _ _) (by rw [List.length_take];omega)
  have hne4:O.length≠4096:=by omega
  have hOs:bg O:=by rw [hO];exact dH _
  refine aE (af (lg (G:=aG×aG×(Option Addr×Nat)×(Option Addr×Nat)×(Option Addr×Nat)×(Option Addr×Nat)) [10,11,12,22,23,24,25,26,27,28,29,30,31,32,33,34,35,36,37,38,39,40,41,42,43,44,45,46,47,48,49,50,51,52,53,54,55,56,57,58,59,60,61,62,63,64,65,66,67,68,69,70,71,72,73,74,75,76,77,78,79,80,81,82,83,84,85,86,87,88,89,90,91,92,93,94,95,96,97,98,99,100,101,102,103,104,105,106,107,108,109,110,111] (fun (O,R,(A5,c5),(A6,c6),(A7,c7),(A8,c8))=>[(5,.slice A5 O.length c5),(6,.slice A6 R.length c6),(7,.slice A7 O.length c7),(8,.slice A8 R.length c8)]) (fun (O,R,(A5,c5),(A6,c6),(A7,c7),(A8,c8)) w'=>O=dm now ((ms.zip ats).take (i+1))∧R=cV now ((ms.zip ats).take (i+1))∧w'.ownsRow w.heap.size 33 13 (.slice A5 O.length c5) O.length (XO O)∧w'.ownsRow w.heap.size 33 13 (.slice A6 R.length c6) R.length (XO R)∧w'.ownsRow w.heap.size 3 1 (.slice A7 O.length c7) O.length (TO O)∧w'.ownsRow w.heap.size 3 1 (.slice A8 R.length c8) R.length (TO R)∧cn A6 A5∧cn A8 A7∧al w w') ?_ ?_))
  ·refine aO (ag (ag (ab (mvp rfl (aa (ax rfl) (aa (ai bR rfl) (aa (aq df rfl ((hr.2.1.from_ hB).rd 1 rfl)) (mvi rfl (aa (bJ bQ rfl rfl (by omega)) (aa (aq ar rfl (ed hB (hct i hia))) (mvi rfl ?_)))))))))));refine aa (dK rfl rfl) (ah (af (m7 rfl (fun Q3=>?_) (fun Q3=>?_))))
   ·refine ag (ab (mvs rfl (mvp rfl (aa (ax rfl) (aa (ai bI rfl) (aa (aq cI rfl (by exact (hr.2.1.from_ hB).rd 0 rfl)) ?_))))));refine mvi rfl (aa (aH cf rfl rfl (by omega)) (aa (aP (cs:=aM (ms[i]'him)) aI ay rfl (cj hB (hcm i him))) ?_));have hDo5:=hD5;refine dA (cells:=(aM (ms[i]'him)).toArray) aT rfl rfl (gP _) ?_;intro b39 w4 E39 hb39 hk39;refine fF (news:=aM (ms[i]'him)) aT rfl (by decide) rfl (ho6.kept_from E39) (((hB.next E39)).size) rfl rfl ⟨b39,0,rfl,hk39.whole⟩ (by simp [Value.oneCell',aM]) (by omega) (by omega) ?_;intro A40 c40 w5 ho40 hg40 hL40;have hB40:=((hB.next E39)).grew hg40 (fun q hq=>(aS (ho6.kept_from E39) q hq).1);replace hD5:=cn.new hD5 (fun q hq=>(aS (ho5.kept_from E39) q hq).2) hL40;replace ho7:=(ho7.kept_from E39).kept hg40 (bH (ho7.kept_from E39) (ho6.kept_from E39) (by decide));replace ho8:=(ho8.kept_from E39).kept hg40 (bH (ho8.kept_from E39) (ho6.kept_from E39) (by decide));replace ho5:=gH (ho5.kept_from E39) hg40 hDo5;refine ass rfl (ah (af (ag (ab (mvs rfl (mvp rfl (aa (ax rfl) (aa (ai bR rfl) (aa (aq df rfl (by exact (hr.2.1.from_ hB40).rd 1 rfl)) ?_)))))))));refine mvi rfl (aa (bJ bQ rfl rfl (by omega)) (aa (aq ar rfl (ed hB40 (hct i hia))) (ek (v:=.int _ _) aX rfl rfl rfl ?_)));intro b49 w6 E49 hb49 hk49;have ho7l:=ho7.kept_from E49;refine fF (news:=[iV (ats[i]'hia)]) aX rfl (by decide) rfl (ho8.kept_from E49) (((hB40.next E49)).size) rfl rfl ⟨b49,0,rfl,hk49.whole⟩ (by simp [Value.oneCell']) (by omega) (by omega) ?_;intro A50 c50 w7 ho50 hg50 hL50;have hB50:=((hB40.next E49)).grew hg50 (fun q hq=>(aS (ho8.kept_from E49) q hq).1);replace ho5:=(ho5.kept_from E49).kept hg50 (bH (ho5.kept_from E49) (ho8.kept_from E49) (by decide));replace ho40:=(ho40.kept_from E49).kept hg50 (bH (ho40.kept_from E49) (ho8.kept_from E49) (by decide));replace ho7:=gH (ho7.kept_from E49) hg50 hD7;replace hD7:=cn.new hD7 (fun q hq=>(aS ho7l q hq).2) hL50;refine ass rfl (ah (af (bE (aN (bk ?_)))));refine bL ((O,R++[(ms[i]'him,ats[i]'hia)],(A5,c5),(A40,c40),(A7,c7),(A50,c50))) ⟨rfl,(congrArg (fun n=>Value.slice _ n _) (by rw [List.length_append];rfl)),rfl,(congrArg (fun n=>Value.slice _ n _) (by rw [List.length_append];rfl)),trivial⟩ (by (iterate 31 refine a_ rfl ?_);exact bl) ?_;exact ⟨by rw [hsn.1,hzi,if_neg (by show ¬ ats[i]≤now;omega),←hO],by rw [hsn.2,hzi,if_pos (by show now<ats[i];omega),←hR],ho5,by rw [l8,List.length_append];exact ho40,ho7,by rw [l9,List.length_append];exact ho50,hD5,hD7,hB50⟩
   refine aE (af (ag (ab (mvs rfl (aa (bf cU rfl) (asi rfl (ah (af (ag (aO (cg (G:=Nat) [53,54,55,56,57,58,59,60,61,62,63,64,65,66,67,68,69,70,71] (fun k=>[(10,.int .i64 (k:Nat))]) (fun k w'=>k≤O.length∧(∀ j (h:j<O.length),k≤j→ats[i]'hia<O[j].2)∧al w1 w') (fun k=>k) (O.length) ⟨rfl,trivial⟩ ?_ ?_)))))))))))
   ·exact ⟨Nat.le_refl _,fun j h1 h2=>absurd h1 (by omega),al.rfl_⟩
   rintro k ρ8 w8 ⟨hk,hgt,hJ⟩;refine ag (ag ?_);rcases Nat.eq_zero_or_pos k with hk0 | hkp
   ·have hle69:k=0∨∀ (h:k-1<O.length),(O[k-1]'h).2≤ats[i]'hia:=.inl hk0;apply bY 17 [(53,eqp _),(54,eqp _),(55,eqp _),(56,eqp _),(57,eqp _),(58,eqp _),(59,eqp _),(60,eqp _),(61,eqp _),(62,eqp _),(63,eqp _),(64,eqp _),(65,eqp _),(66,eqp _),(67,eqp _),(68,eqp _),(69,eqp _)] (by repeat first | exact cq | refine cp ?_ | refine bU ?_) (by kernel_rfl) (by kernel_rfl) ⟨aj _,aj _,aj _,aj _,aj _,aj _,aj _,aj _,aj _,aj _,aj _,aj _,aj _,aj _,aj _,aj _,aj _,trivial⟩
    case hop=>
     constructor
     ·rintro-w10 D10;exact ao (av (v:=.int _ _) rfl) rfl
     constructor
     ·rintro-w11 D11;rintro _ rfl;exact ao (fI (dK rfl rfl) (decide_eq_false (by omega))) rfl
     constructor
     ·rintro-w12 D12;rintro _ rfl;exact ao (av (v:=.bool _) rfl) rfl
     constructor
     ·rintro-w13 D13;rintro _ rfl;exact cH rfl rfl rfl
     constructor
     ·rintro-w14 D14;rintro _ rfl;exact cH rfl rfl rfl
     constructor
     ·rintro-w15 D15;rintro _ rfl _ rfl;exact cH rfl rfl rfl
     constructor
     ·rintro-w16 D16;rintro _ rfl _ rfl _ rfl;exact cH rfl rfl rfl
     constructor
     ·rintro-w17 D17;rintro _ rfl _ rfl;exact cH rfl rfl rfl
     constructor
     ·rintro-w18 D18;rintro _ rfl;exact cH rfl rfl rfl
     constructor
     ·rintro-w19 D19;rintro _ rfl _ rfl;exact cH rfl rfl rfl
     constructor
     ·rintro-w20 D20;rintro _ rfl _ rfl;exact cH rfl rfl rfl
     constructor
     ·rintro-w21 D21;rintro _ rfl _ rfl;exact cH rfl rfl rfl
     constructor
     ·rintro-w22 D22;rintro _ rfl;exact cH rfl rfl rfl
     constructor
     ·rintro-w23 D23;rintro _ rfl _ rfl _ rfl;exact cH rfl rfl rfl
     constructor
     ·rintro-w24 D24;rintro _ rfl _ rfl;exact cH rfl rfl rfl
     constructor
     ·rintro-w25 D25;rintro _ rfl _ rfl _ rfl;exact cH rfl rfl rfl
     constructor
     ·rintro-w26 D26;rintro _ rfl _ rfl;exact ao (an (v:=.bool _) rfl rfl) rfl
     exact trivial
    case hend=>
     intro w27 D27;rintro _ rfl _ rfl _ rfl _ rfl _ rfl _ rfl _ rfl _ rfl _ rfl _ rfl _ rfl _ rfl _ rfl _ rfl _ rfl _ rfl _ rfl;show St ..;refine ah (af (cB rfl (bE (aN (aN (bk (af (ag (ab ?_)))))))))
     have hdk:aK O (ats[i]'hia)=k:=fw ⟨hk,fun j h1 h2=>(hle69.elim (fun h0=>by omega) fun h0=>by
      rcases Nat.lt_or_ge j (k-1) with a | a
      ·exact Int.le_trans (hOs j (k-1) h1 (by omega) a) (h0 (by omega))
      ·obtain rfl:j=k-1:=by omega
       exact h0 h1),hgt⟩
     have hBj:=((hB.next hJ).next D27);have hzB:=hBj.size;replace ho5:=ho5.kept_from (hJ.next (al.rfl_.next D27));replace ho6:=ho6.kept_from (hJ.next (al.rfl_.next D27));replace ho7:=ho7.kept_from (hJ.next (al.rfl_.next D27));replace ho8:=ho8.kept_from (hJ.next (al.rfl_.next D27));have hc5:=dN ho5;have hc7:=dN ho7;refine eK aT _ (Nat.le_refl _) ?_;intro b72 w28 E72 hb72 ho72;have hF72:=E72;refine mvs rfl (mvi rfl (aa (aR (l:=0) (h:=k) cf rfl (.inl ⟨rfl,rfl⟩) (.inr ⟨_,_,_,rfl,rfl,rfl⟩) (by omega) (by omega)) (aW (news:=(XO O).take (k*13)) aT rfl (by decide) rfl (ho72) (hF72).size rfl (by rw [List.length_take,iy,Nat.min_eq_left (Nat.mul_le_mul_right _ hk),Nat.sub_zero]) (ep (ho5.kept_from hF72) hk) (cQ (k:=0) ho5) (fun u hu=>iw O u (List.mem_of_mem_take hu)) (by omega) (by omega) ?_)));intro A76 c76 w29 ho76 hg76;have hF76:=(hF72).grew hg76 (fun q hq=>(aS (ho72) q hq).1);refine ass rfl (ah (af (ag (ab (mvs rfl (mvp rfl (aa (ax rfl) (aa (ai bI rfl) (aa (aq cI rfl (by exact (hr.2.1.from_ (hBj.next hF76)).rd 0 rfl)) ?_)))))))));refine mvi rfl (aa (aH cf rfl rfl (by omega)) (aa (aP (cs:=aM (ms[i]'him)) aI ay rfl (cj (hBj.next hF76) (hcm i him))) (dA (cells:=(aM (ms[i]'him)).toArray) aT rfl rfl (gP _) ?_)));intro b85 w30 E85 hb85 hk85;have hF85:=hF76.next E85;refine aW (news:=aM (ms[i]'him)) aT rfl (by decide) rfl (ho76.kept_from E85) (hF85).size rfl (rfl) (fun _=>⟨b85,0,rfl,hk85.whole⟩) (fun h=>by cases h) (by simp [Value.oneCell',aM]) (by omega) (by omega) ?_;intro A86 c86 w31 ho86 hg86;have hF86:=(hF85).grew hg86 (fun q hq=>(aS (ho76.kept_from E85) q hq).1);refine ass rfl (ah (af (ag (ab (mvs rfl (mvs rfl (mvi rfl (aa (aR (l:=k) (h:=O.length) cf rfl (.inr ⟨_,_,_,rfl,rfl,rfl⟩) (.inl ⟨rfl,rfl⟩) (by omega) (by omega)) (aW (news:=(XO O).drop (k*13)) aT rfl (by decide) rfl (ho86) (hF86).size rfl (by rw [List.length_drop,iy,←Nat.sub_mul]) (er (ho5.kept_from hF86)) (cQ ho5) (fun u hu=>iw O u (List.mem_of_mem_drop hu)) (by omega) (by omega) ?_)))))))));intro A91 c91 w32 ho91 hg91;have hF91:=(hF86).grew hg91 (fun q hq=>(aS (ho86) q hq).1);refine ass rfl (ah (af (ag (ab (eK aX _ (hF91.size) ?_)))));intro b92 w33 E92 hb92 ho92;have hF92:=hF91.next E92;replace ho91:=ho91.kept_from E92;refine mvs rfl (mvi rfl (aa (aR (l:=0) (h:=k) bQ rfl (.inl ⟨rfl,rfl⟩) (.inr ⟨_,_,_,rfl,rfl,rfl⟩) (by omega) (by omega)) (aW (news:=(TO O).take (k*1)) aX rfl (by decide) rfl (ho92) (hF92).size rfl (by rw [List.length_take,iA,Nat.mul_one,Nat.min_eq_left hk,Nat.sub_zero,Nat.mul_one]) (ep (ho7.kept_from hF92) hk) (cQ (k:=0) ho7) (fun u hu=>iz O u (List.mem_of_mem_take hu)) (by omega) (by omega) ?_)));intro A96 c96 w34 ho96 hg96;have hF96:=(hF92).grew hg96 (fun q hq=>(aS (ho92) q hq).1);replace ho91:=ho91.kept hg96 (bH ho91 (ho92) (by decide));refine ass rfl (ah (af (ag (ab (mvs rfl (mvp rfl (aa (ax rfl) (aa (ai bR rfl) (aa (aq df rfl (by exact (hr.2.1.from_ (hBj.next hF96)).rd 1 rfl)) ?_)))))))));refine mvi rfl (aa (bJ bQ rfl rfl (by omega)) (aa (aq ar rfl (ed (hBj.next hF96) (hct i hia))) (ek (v:=.int _ _) aX rfl rfl rfl ?_)));intro b105 w35 E105 hb105 hk105;have hF105:=hF96.next E105;replace ho91:=ho91.kept_from E105;refine aW (news:=[iV (ats[i]'hia)]) aX rfl (by decide) rfl (ho96.kept_from E105) (hF105).size rfl (rfl) (fun _=>⟨b105,0,rfl,hk105.whole⟩) (fun h=>by cases h) (by simp [Value.oneCell']) (by omega) (by omega) ?_;intro A106 c106 w36 ho106 hg106;have hF106:=(hF105).grew hg106 (fun q hq=>(aS (ho96.kept_from E105) q hq).1);replace ho91:=ho91.kept hg106 (bH ho91 (ho96.kept_from E105) (by decide));refine ass rfl (ah (af (ab (mvs rfl (mvs rfl (mvi rfl (aa (aR (l:=k) (h:=O.length) bQ rfl (.inr ⟨_,_,_,rfl,rfl,rfl⟩) (.inl ⟨rfl,rfl⟩) (by omega) (by omega)) (aW (news:=(TO O).drop (k*1)) aX rfl (by decide) rfl (ho106) (hF106).size rfl (by rw [List.length_drop,iA,Nat.mul_one,Nat.mul_one]) (er (ho7.kept_from hF106)) (cQ ho7) (fun u hu=>iz O u (List.mem_of_mem_drop hu)) (by omega) (by omega) ?_))))))));intro A111 c111 w37 ho111 hg111;have hF111:=(hF106).grew hg111 (fun q hq=>(aS (ho106) q hq).1);replace ho91:=ho91.kept hg111 (bH ho91 (ho106) (by decide));refine ass rfl (ah (aQ ?_));refine bL ((bF O (ms[i]'him,ats[i]'hia),R,(A91,c91),(A6,c6),(A111,c111),(A8,c8))) ⟨(congrArg (fun n=>Value.slice _ n _) (by rw [b_ hne4];omega)),rfl,(congrArg (fun n=>Value.slice _ n _) (by rw [b_ hne4];omega)),rfl,trivial⟩ (by (iterate 95 refine a_ rfl ?_);exact bl) ?_;have hl91:0+(k-0)+1+(O.length-k)=(bF O (ms[i]'him,ats[i]'hia)).length:=by rw [b_ hne4];omega
     rw [ll (p:=(ms[i]'him,ats[i]'hia)) hne4 hdk,hl91] at ho91;rw [ln (p:=(ms[i]'him,ats[i]'hia)) hne4 hdk,hl91] at ho111;exact ⟨by rw [hsn.1,hzi,if_pos (by show ats[i]≤now;omega),←hO],by rw [hsn.2,hzi,if_neg (by show ¬ now<ats[i];omega),←hR],cW ho91 hzB,ho6.kept_from hF111,cW ho111 hzB,ho8.kept_from hF111,cn.fresh ho6 (fun q hq=>(aS ho91 q hq).1),cn.fresh ho8 (fun q hq=>(aS ho111 q hq).1),(hBj.next hF111)⟩
   have hkO:k-1<O.length:=by omega
   have hkT:k-1<(O.map (·.2)).length:=by rw [List.length_map];exact hkO
   obtain ⟨g7,rfl⟩:=d_ ho7 (by omega);have hc60:∀ w9,al w8 w9→w9.cell? ⟨g7,0+(k-1),none⟩=some (iV (O[k-1]'hkO).2):=fun w9 h9=>by rw [Nat.zero_add,iO (f:=iV) (l:=O.map (·.2)) ((ho7.kept_from hJ).kept_from h9) (k-1) hkT,List.getElem_map]
   apply bY 17 [(53,eqp _),(54,eqp _),(55,eqp _),(56,eqp _),(57,eqp _),(58,eqp (.int .i64 ((k-1:Nat):Int))),(59,eqp _),(60,eqp (iV (O[k-1]'hkO).2)),(61,eqp _),(62,eqp _),(63,eqp _),(64,eqp _),(65,eqp _),(66,eqp _),(67,eqp (iV (ats[i]'hia))),(68,eqp _),(69,eqp _)] (by repeat first | exact cq | refine cp ?_ | refine bU ?_) (by kernel_rfl) (by kernel_rfl) ⟨aj _,aj _,aj _,aj _,aj _,aj _,aj _,aj _,aj _,aj _,aj _,aj _,aj _,aj _,aj _,aj _,aj _,trivial⟩
   case hop=>
    constructor
    ·rintro-w39 D39;exact ao (av (v:=.int _ _) rfl) rfl
    constructor
    ·rintro-w40 D40;rintro _ rfl;exact ao (kH (dK rfl rfl) (decide_eq_true (by omega))) rfl
    constructor
    ·rintro-w41 D41;rintro _ rfl;exact ao (av (v:=.bool _) rfl) rfl
    constructor
    ·rintro-w42 D42;rintro _ rfl;exact bO rfl (av (v:=.slice _ _ _) rfl) rfl
    constructor
    ·rintro-w43 D43;rintro _ rfl;exact bO rfl (av (v:=.int _ _) rfl) rfl
    constructor
    ·rintro-w44 D44;rintro _ rfl _ rfl;exact bO rfl (cX (dZ rfl rfl (by omega)) (congrArg (Value.int .i64) (show ((k:Int)-1)=((k-1:Nat):Int) by omega))) rfl
    constructor
    ·rintro-w45 D45;rintro _ rfl _ rfl v45_58 rfl;exact bO rfl (bJ bQ rfl rfl (by omega)) rfl
    constructor
    ·rintro-w46 D46;rintro _ rfl _ rfl;exact bO rfl (aq ar rfl (hc60 _ D46)) rfl
    constructor
    ·rintro-w47 D47;rintro _ rfl;exact bO rfl (av (v:=.pointer _) rfl) rfl
    constructor
    ·rintro-w48 D48;rintro _ rfl _ rfl;exact bO rfl (ax rfl) rfl
    constructor
    ·rintro-w49 D49;rintro _ rfl _ rfl;exact bO rfl (ai bR rfl) rfl
    constructor
    ·rintro-w50 D50;rintro _ rfl _ rfl;exact bO rfl (aq df rfl ((hr.2.1.from_ ((hB.next hJ).next D50)).rd 1 rfl)) rfl
    constructor
    ·rintro-w51 D51;rintro _ rfl;exact bO rfl (av (v:=.int _ _) rfl) rfl
    constructor
    ·rintro-w52 D52;rintro _ rfl _ rfl _ rfl;exact bO rfl (bJ bQ rfl rfl (by omega)) rfl
    constructor
    ·rintro-w53 D53;rintro _ rfl _ rfl;exact bO rfl (aq ar rfl (ed ((hB.next hJ).next D53) (hct i hia))) rfl
    constructor
    ·rintro-w54 D54;rintro _ rfl v54_60 rfl v54_67 rfl;exact bO rfl (dK rfl rfl) rfl
    constructor
    ·rintro-w55 D55;rintro _ rfl _ rfl;exact ao (bh (v:=.bool _) rfl rfl) rfl
    exact trivial
   case hend=>
    intro w56 D56;rintro _ rfl _ rfl _ rfl _ rfl _ rfl v58 rfl _ rfl v60 rfl _ rfl _ rfl _ rfl _ rfl _ rfl _ rfl v67 rfl _ rfl _ rfl;show St ..;refine ah (af (m7 rfl (fun Q57=>?_) (fun Q57=>?_)))
    ·have hlt69:ats[i]'hia<(O[k-1]'hkO).2:=by omega
     refine aE (af (aO (ab (mvi rfl (aa (dZ rfl rfl (by omega)) (asi rfl (ah (aQ ?_))))))));refine bL (k-1) ⟨(congrArg (Value.int .i64) (by omega)),trivial⟩ (by (iterate 40 refine a_ rfl ?_);exact bl) ⟨?_,?_⟩
     ·refine ⟨by omega,fun j h1 h2=>?_,hJ.next (al.rfl_.next D56)⟩;rcases Nat.lt_or_ge j k with a | a
      ·obtain rfl:j=k-1:=by omega
       exact hlt69
      ·exact hgt j h1 a
     ·omega
    have hle69:k=0∨∀ (h:k-1<O.length),(O[k-1]'h).2≤ats[i]'hia:=.inr fun _=>by omega
    refine bE (aN (aN (bk (af (ag (ab ?_))))))
    have hdk:aK O (ats[i]'hia)=k:=fw ⟨hk,fun j h1 h2=>(hle69.elim (fun h0=>by omega) fun h0=>by
     rcases Nat.lt_or_ge j (k-1) with a | a
     ·exact Int.le_trans (hOs j (k-1) h1 (by omega) a) (h0 (by omega))
     ·obtain rfl:j=k-1:=by omega
      exact h0 h1),hgt⟩
    have hBj:=((hB.next hJ).next D56);have hzB:=hBj.size;replace ho5:=ho5.kept_from (hJ.next (al.rfl_.next D56));replace ho6:=ho6.kept_from (hJ.next (al.rfl_.next D56));replace ho7:=ho7.kept_from (hJ.next (al.rfl_.next D56));replace ho8:=ho8.kept_from (hJ.next (al.rfl_.next D56));have hc5:=dN ho5;have hc7:=dN ho7;refine eK aT _ (Nat.le_refl _) ?_;intro b72 w58 E72 hb72 ho72;have hF72:=E72;refine mvs rfl (mvi rfl (aa (aR (l:=0) (h:=k) cf rfl (.inl ⟨rfl,rfl⟩) (.inr ⟨_,_,_,rfl,rfl,rfl⟩) (by omega) (by omega)) (aW (news:=(XO O).take (k*13)) aT rfl (by decide) rfl (ho72) (hF72).size rfl (by rw [List.length_take,iy,Nat.min_eq_left (Nat.mul_le_mul_right _ hk),Nat.sub_zero]) (ep (ho5.kept_from hF72) hk) (cQ (k:=0) ho5) (fun u hu=>iw O u (List.mem_of_mem_take hu)) (by omega) (by omega) ?_)));intro A76 c76 w59 ho76 hg76;have hF76:=(hF72).grew hg76 (fun q hq=>(aS (ho72) q hq).1);refine ass rfl (ah (af (ag (ab (mvs rfl (mvp rfl (aa (ax rfl) (aa (ai bI rfl) (aa (aq cI rfl (by exact (hr.2.1.from_ (hBj.next hF76)).rd 0 rfl)) ?_)))))))));refine mvi rfl (aa (aH cf rfl rfl (by omega)) (aa (aP (cs:=aM (ms[i]'him)) aI ay rfl (cj (hBj.next hF76) (hcm i him))) (dA (cells:=(aM (ms[i]'him)).toArray) aT rfl rfl (gP _) ?_)));intro b85 w60 E85 hb85 hk85;have hF85:=hF76.next E85;refine aW (news:=aM (ms[i]'him)) aT rfl (by decide) rfl (ho76.kept_from E85) (hF85).size rfl (rfl) (fun _=>⟨b85,0,rfl,hk85.whole⟩) (fun h=>by cases h) (by simp [Value.oneCell',aM]) (by omega) (by omega) ?_;intro A86 c86 w61 ho86 hg86;have hF86:=(hF85).grew hg86 (fun q hq=>(aS (ho76.kept_from E85) q hq).1);refine ass rfl (ah (af (ag (ab (mvs rfl (mvs rfl (mvi rfl (aa (aR (l:=k) (h:=O.length) cf rfl (.inr ⟨_,_,_,rfl,rfl,rfl⟩) (.inl ⟨rfl,rfl⟩) (by omega) (by omega)) (aW (news:=(XO O).drop (k*13)) aT rfl (by decide) rfl (ho86) (hF86).size rfl (by rw [List.length_drop,iy,←Nat.sub_mul]) (er (ho5.kept_from hF86)) (cQ ho5) (fun u hu=>iw O u (List.mem_of_mem_drop hu)) (by omega) (by omega) ?_)))))))));intro A91 c91 w62 ho91 hg91;have hF91:=(hF86).grew hg91 (fun q hq=>(aS (ho86) q hq).1);refine ass rfl (ah (af (ag (ab (eK aX _ (hF91.size) ?_)))));intro b92 w63 E92 hb92 ho92;have hF92:=hF91.next E92;replace ho91:=ho91.kept_from E92;refine mvs rfl (mvi rfl (aa (aR (l:=0) (h:=k) bQ rfl (.inl ⟨rfl,rfl⟩) (.inr ⟨_,_,_,rfl,rfl,rfl⟩) (by omega) (by omega)) (aW (news:=(TO O).take (k*1)) aX rfl (by decide) rfl (ho92) (hF92).size rfl (by rw [List.length_take,iA,Nat.mul_one,Nat.min_eq_left hk,Nat.sub_zero,Nat.mul_one]) (ep (ho7.kept_from hF92) hk) (cQ (k:=0) ho7) (fun u hu=>iz O u (List.mem_of_mem_take hu)) (by omega) (by omega) ?_)));intro A96 c96 w64 ho96 hg96;have hF96:=(hF92).grew hg96 (fun q hq=>(aS (ho92) q hq).1);replace ho91:=ho91.kept hg96 (bH ho91 (ho92) (by decide));refine ass rfl (ah (af (ag (ab (mvs rfl (mvp rfl (aa (ax rfl) (aa (ai bR rfl) (aa (aq df rfl (by exact (hr.2.1.from_ (hBj.next hF96)).rd 1 rfl)) ?_)))))))));refine mvi rfl (aa (bJ bQ rfl rfl (by omega)) (aa (aq ar rfl (ed (hBj.next hF96) (hct i hia))) (ek (v:=.int _ _) aX rfl rfl rfl ?_)));intro b105 w65 E105 hb105 hk105;have hF105:=hF96.next E105;replace ho91:=ho91.kept_from E105;refine aW (news:=[iV (ats[i]'hia)]) aX rfl (by decide) rfl (ho96.kept_from E105) (hF105).size rfl (rfl) (fun _=>⟨b105,0,rfl,hk105.whole⟩) (fun h=>by cases h) (by simp [Value.oneCell']) (by omega) (by omega) ?_;intro A106 c106 w66 ho106 hg106;have hF106:=(hF105).grew hg106 (fun q hq=>(aS (ho96.kept_from E105) q hq).1);replace ho91:=ho91.kept hg106 (bH ho91 (ho96.kept_from E105) (by decide));refine ass rfl (ah (af (ab (mvs rfl (mvs rfl (mvi rfl (aa (aR (l:=k) (h:=O.length) bQ rfl (.inr ⟨_,_,_,rfl,rfl,rfl⟩) (.inl ⟨rfl,rfl⟩) (by omega) (by omega)) (aW (news:=(TO O).drop (k*1)) aX rfl (by decide) rfl (ho106) (hF106).size rfl (by rw [List.length_drop,iA,Nat.mul_one,Nat.mul_one]) (er (ho7.kept_from hF106)) (cQ ho7) (fun u hu=>iz O u (List.mem_of_mem_drop hu)) (by omega) (by omega) ?_))))))));intro A111 c111 w67 ho111 hg111;have hF111:=(hF106).grew hg111 (fun q hq=>(aS (ho106) q hq).1);replace ho91:=ho91.kept hg111 (bH ho91 (ho106) (by decide));refine ass rfl (ah (aQ ?_));refine bL ((bF O (ms[i]'him,ats[i]'hia),R,(A91,c91),(A6,c6),(A111,c111),(A8,c8))) ⟨(congrArg (fun n=>Value.slice _ n _) (by rw [b_ hne4];omega)),rfl,(congrArg (fun n=>Value.slice _ n _) (by rw [b_ hne4];omega)),rfl,trivial⟩ (by (iterate 95 refine a_ rfl ?_);exact bl) ?_;have hl91:0+(k-0)+1+(O.length-k)=(bF O (ms[i]'him,ats[i]'hia)).length:=by rw [b_ hne4];omega
    rw [ll (p:=(ms[i]'him,ats[i]'hia)) hne4 hdk,hl91] at ho91;rw [ln (p:=(ms[i]'him,ats[i]'hia)) hne4 hdk,hl91] at ho111;exact ⟨by rw [hsn.1,hzi,if_pos (by show ats[i]≤now;omega),←hO],by rw [hsn.2,hzi,if_neg (by show ¬ now<ats[i];omega),←hR],cW ho91 hzB,ho6.kept_from hF111,cW ho111 hzB,ho8.kept_from hF111,cn.fresh ho6 (fun q hq=>(aS ho91 q hq).1),cn.fresh ho8 (fun q hq=>(aS ho111 q hq).1),(hBj.next hF111)⟩
  rintro ⟨O2,R2,⟨P5,d5⟩,⟨P6,d6⟩,⟨P7,d7⟩,⟨P8,d8⟩⟩ ρ68 w68 ⟨hO2,hR2,hp5,hp6,hp7,hp8,hE5,hE7,hB⟩;refine ab (mvi rfl (aa (bA (b:=1) rfl rfl (by omega)) (asi rfl (ah ?_))));refine bL ((i+1,O2,R2,(P5,d5),(P6,d6),(P7,d7),(P8,d8))) ⟨(by first | rfl | (refine aU ?_;omega)),(by first | rfl | (refine aU ?_;omega)),(by first | rfl | (refine aU ?_;omega)),(by first | rfl | (refine aU ?_;omega)),(by first | rfl | (refine aU ?_;omega)),trivial⟩ (by (iterate 214 refine a_ rfl ?_);exact bl) ⟨?_,?_⟩
  ·exact ⟨by omega,hO2,hR2,hp5,hp6,hp7,hp8,hE5,hE7,hB⟩
  ·show ms.length-(i+1)<ms.length-i;omega
 obtain rfl:i=ms.length:=by omega
 rw [List.take_of_length_le (by omega)] at hO hR;subst hO;subst hR;have hBz:=hB;have hbz:=hr.2.1.from_ hBz;refine bE (aN (aN (bk (af (ag (ab (mvp rfl (mvs rfl (aa (ax rfl) (aa (ai bI rfl) (dG (v:=.slice _ _ _) gU rfl rfl rfl (hbz) (by show 0<2;decide) ?_)))))))))));intro w69 O18 P18;have ho5a:=aL ho5 O18 (aD ho5 hbz (by decide));have ho6a:=aL ho6 O18 (aD ho6 hbz (by decide));have ho8a:=aL ho8 O18 (aD ho8 hbz (by decide));refine ah (af (ag (ab (mvp rfl (mvs rfl (aa (ax rfl) (aa (ai bR rfl) (dG (v:=.slice _ _ _) gT rfl rfl rfl (P18) (by show 1<2;decide) ?_))))))));intro w70 O19 P19;refine ah (af (ag (ab (mvs rfl (ass rfl (ah (af (aA (bu (v:=.slice _ _ _) rfl rfl ?_)))))))));have hCz:=((Ch.of_from (U:=fun q=>q=b) hBz).trans (Ch.of_only O18 rfl)).trans (Ch.of_only O19 rfl)
 exact ⟨⟨A5,c5,rfl,aL ho5a O19 (aD ho5a P18 (by decide))⟩,⟨A6,c6,A8,c8,⟨hr.1,by rw [List.length_map,List.length_map];exact P19,by rw [List.length_map];exact cW (aL ho6a O19 (aD ho6a P18 (by decide))) hcB,by rw [List.length_map];exact cW (aL ho8a O19 (aD ho8a P18 (by decide))) hcB,by rw [List.length_map,List.length_map],fun x hx=>by
  obtain ⟨p,hp,rfl⟩:=List.mem_map.1 hx;have hpm:=(List.of_mem_zip (List.mem_filter.1 hp).1).1;exact E1.ch (hr.2.2.2.2.2 _ hpm) hCz (fun q hq e=>E1.off (hr.2.2.2.2.2 _ hpm) hr.2.1 (by decide) (e ▸ hq))⟩,fun q hq=>(aS ho6 q hq).1⟩,hCz⟩
end Go.Proofs.Ytinogeaabocbkaa
namespace Go.Proofs.Ytinogeaabocbkaa
open Go.Proofs.Try (prog)
open Go.RowKit
abbrev mf:Ty:=.pr (.int .i64) (.pr (.int .i64) (.pr .str .unit))
theorem l3 {w:World} {c:Nat→Option Value} {xs:List mf.den} (h:(Ty.sl mf).At w c xs) :
 ∃ (v:Value) (es:List Ent),c 0=some v∧cw w v es∧(∀ e∈es,e.Ok)∧es.length*32≤140737488351232:=by
 obtain ⟨A,cap,h0,h1,h2,h3⟩:=h;refine ⟨_,xs.map fun x=>⟨x.1,x.2.1,x.2.2.1⟩,h0,⟨A,cap,by rw [List.length_map],by rw [List.length_map];exact h2.1,h2.2.1,h2.2.2,fun hp=>?_⟩,?_,by rw [List.length_map];exact h1⟩
 ·rw [List.length_map] at hp;obtain ⟨b,o,hA,hb,hi⟩:=h3 hp;refine ⟨b,o,hA,hb,fun i hil=>?_⟩;rw [List.length_map] at hil;obtain ⟨⟨c1,_⟩,⟨c2,_⟩,⟨c3,_⟩,_⟩:=hi i _ (List.getElem?_eq_getElem hil);rw [List.getElem_map];exact ⟨c1,c2,c3⟩
 ·intro e he;simp only [List.mem_map] at he;obtain ⟨x,hx,rfl⟩:=he;obtain ⟨i,hil,rfl⟩:=List.mem_iff_getElem.1 hx;obtain ⟨b,o,hA,hb,hi⟩:=h3 (Nat.lt_of_le_of_lt (Nat.zero_le _) hil);obtain ⟨⟨_,c1⟩,⟨_,c2⟩,⟨_,c3⟩,_⟩:=hi i _ (List.getElem?_eq_getElem hil);have b1:=bounds_i64 c1;have b2:=bounds_i64 c2;exact ⟨b1.1,b1.2,b2.1,b2.2,c3⟩
end Go.Proofs.Ytinogeaabocbkaa
