/- texts that the claim stands on. -/
import Derived.Test.YtaohnmneccbljaaGreatDoorSlWlLawM5
import Derived.Lib.BufferMore
import Derived.Test.YtaohnmneccbljaaGreatDoorCards
import Derived.Test.YtaohnmneccbljaaGreatDoorTie
import Derived.Lay
import Derived.MakeChecks
set_option maxRecDepth 100000
set_option maxHeartbeats 4000000
namespace Go.Proofs.YtaohnmneccbljaaGreatDoor
open Go.Proofs.Tryz (prog)
open Go.RowKit
theorem tC (W:World) (g:Nat) (hg:W.heap.size=g) (t:TypeId) (cs:Array Value):Blk (W.alloc (.cells cs t)) g t cs:=hg ▸ Blk.new W t cs
theorem zM {w:World} {g:Nat} {e:Ent} (h:Blk w g 49 #[.int .i64 e.i,.int .i64 e.t,.string e.d]):bm w (.slice (some ⟨g,0,none⟩) 1 1) [e]:=by
 refine ⟨_,_,rfl,by simp,by decide,fun h=>(by cases h),fun _=>⟨g,0,rfl,h.lt,fun i hi=>?_⟩⟩;obtain rfl:i=0:=by simp at hi;omega
 exact ⟨by show w.cell? ⟨g,0,none⟩=_;rw [h.cell 0];rfl,by show w.cell? ⟨g,1,none⟩=_;rw [h.cell 1];rfl,by show w.cell? ⟨g,2,none⟩=_;rw [h.cell 2];rfl⟩
theorem jA (v:Value) (xs:List Ent) (w:World) (h:bm w v xs) (hl:xs.length≤400000000000) :
 Calls prog 55 #[v] w fun e w'=>∃ v',e=.returned v'∧w'.ownsRow w.heap.size 49 3 v' xs.length (bJ xs)∧ag w w':=by
 obtain ⟨A,cap,rfl,hc1,hc2,hc3,hrow⟩:=h
 go_enter Tryz.func55,Tryz.ntmps55
 go_wp2
 go_loopw [3,4] (fun v i wr=>∃ j:Nat,j≤xs.length∧i=.int .i64 j∧wr.ownsRow w.heap.size 49 3 v j (bJ (xs.take j))∧ag w wr) (fun _ i _=>xs.length-(intOf i).toNat)
 case atStart=>exact ⟨0,by omega,rfl,World.ownsRow_nil _ _ _ _,ag.rfl_⟩
 case round=>
  obtain ⟨j,hj,rfl,hown,hw⟩:=hrel;by_cases hlt:j<xs.length
  ·obtain ⟨b,o,rfl,hb,hc⟩:=hrow (by omega);obtain ⟨c1,c2,c3⟩:=hc j hlt;have d1:∀ w',ag w w'→w'.cell? ⟨b,o+j*3,none⟩=some (.int .i64 xs[j].i):=fun w' h=>(h.cells b _ hb).trans c1
   have d2:∀ w',ag w w'→w'.cell? ⟨b,o+j*3+1,none⟩=some (.int .i64 xs[j].t):=fun w' h=>(h.cells b _ hb).trans c2
   have d3:∀ w',ag w w'→w'.cell? ⟨b,o+j*3+2,none⟩=some (.string xs[j].d):=fun w' h=>(h.cells b _ hb).trans c3
   have i1:(0:Int)≤(j:Int):=by omega
   have i2:(j:Int)<(xs.length:Int):=by omega
   have hsn:xs.take (j+1)=xs.take j++[xs[j]]:=List.take_succ_eq_append_getElem hlt;have HS:=Lib.hid hsn;have HO:=Lib.hid hown;clear hc c1 c2 c3 hrow hsn hown
   generalize xs[j]=e at*
   have hjn:j+[e].length≤1000000000000:=by simp;omega
   go_wp2_with (at_builtin;refine pV w rfl (.tmp 11) (.tmp 16) 34 rfl Tryz.underlying34 _ j (xs.take j) rfl (HO.out.alloc _) (hw.new _) _ [e] rfl (zM (Blk.new _ _ _)) hjn ?_;intro v1 w1 hown1 hw1)
   go_roundw
   case rel=>exact ⟨j+1,by omega,by go_num,by rw [HS.out];exact hown1,hw1⟩
   case measure=>simp [intOf];omega
  ·obtain hjl:j=xs.length:=by omega
   have HJ:=Lib.hid hjl;clear hjl
   go_wp2
   go_ret
   exact ⟨_,rfl,by rw [HJ.out,List.take_length] at hown;exact hown,hw⟩
abbrev l9 (w:World) (B T:Int) (v:Value):World:=(jk w B T v).alloc (.cells #[.int .i64 B,.int .i64 T,v] 36)
theorem mv (B T:Int) (v:Value) (xs:List Ent) (w:World) (h:bm w v xs) (hl:xs.length≤400000000000) :
 Calls prog 54 #[.agg #[.int .i64 B,.int .i64 T,v]] w fun e w'=>∃ v',e=.returned (.agg #[.int .i64 B,.int .i64 T,v'])∧w'.ownsRow w.heap.size 49 3 v' xs.length (bJ xs)∧ag w w':=by
 obtain ⟨f0,f1,f2,hbb,hwb⟩:=ke (w:=w) (B:=B) (T:=T) (v:=v) (t:=36);have hce:=fun w' (hw:ag w w')=>jA v xs w' (h.from_ hw) hl
 have HC:=Lib.hid hce;have h3:ag w (l9 w B T v):=(mA w B T v).new _;have hsz:(l9 w B T v).heap.size=w.heap.size+3:=by simp
 have hbl1:Blk (l9 w B T v) (w.heap.size+1) 36 #[.int .i64 0,.int .i64 0,.slice none 0 0]:=(og ag.rfl_).alloc _;have hbl2:Blk (l9 w B T v) (w.heap.size+2) 36 #[.int .i64 B,.int .i64 T,v]:=tC _ _ (by simp) _ _
 have hk:∀ w1 v1,ag (l9 w B T v) w1→
  (w1.cell? ⟨w.heap.size+2,2,none⟩=some v∧w1.frozen? ⟨w.heap.size+2,2,none⟩=false)∧
  ((w1.setCell ⟨w.heap.size+2,2,none⟩ v1).cell? ⟨w.heap.size+2,0,none⟩=some (.int .i64 B)∧(w1.setCell ⟨w.heap.size+2,2,none⟩ v1).cell? ⟨w.heap.size+2,1,none⟩=some (.int .i64 T)∧(w1.setCell ⟨w.heap.size+2,2,none⟩ v1).cell? ⟨w.heap.size+2,2,none⟩=some v1)∧
  Blk (w1.setCell ⟨w.heap.size+2,2,none⟩ v1) (w.heap.size+1) 36 #[.int .i64 0,.int .i64 0,.slice none 0 0]:=fun w1 v1 h=>by
  have b1:=hbl2.from_ h;have b2:=hbl1.from_ h;have b3:=b1.set_ 2 v1;exact ⟨⟨by rw [b1.cell 2];rfl,b1.frozen 2⟩,⟨by rw [b3.cell 0];rfl,by rw [b3.cell 1];rfl,by rw [b3.cell 2];rfl⟩,b2.far (p:=⟨w.heap.size+2,2,none⟩) (by simp) v1⟩
 have HK:=Lib.hid hk;have HSZ:=Lib.hid hsz;obtain ⟨A,cap,rfl,-⟩:=h;simp only [l9,jk] at h3 HK HSZ;clear hce hbl1 hbl2 hk hsz
 go_enter Tryz.func54,Tryz.ntmps54
 go_wp2_with (go_at_call 55;(with_reducible refine (HC.out _ h3).mono ?_);rintro e w1 ⟨v1,rfl,hown1,hb1⟩;obtain ⟨A4,c4,rfl⟩:=fp hown1;have HO:=Lib.hid (And.intro hown1 hb1);clear hown1;obtain ⟨⟨q1,q2⟩,⟨r0,r1,r2⟩,b4⟩:=HK.out w1 (.slice A4 xs.length c4) hb1;obtain ⟨⟨s0,s1,s2⟩,t0,t1,t2⟩:=gJ b4;obtain ⟨x0,x1,x2⟩:=iY b4 (.int .i64 B) (.int .i64 T) (.slice A4 xs.length c4);simp only [rj] at x0 x1 x2)
 (try simp only [Exit.inBlock,Exit.then])
 refine bodyPost_ret (v:=.agg #[.int .i64 B,.int .i64 T,.slice A4 xs.length c4]) (by simp [results,Tryz.results54,go_sem,x0,x1,x2]) rfl ?_;obtain ⟨ho,hb⟩:=HO.out;rw [HSZ.out] at ho;refine ⟨_,rfl,?_,j_ (ag.set_ (p:=⟨w.heap.size+2,2,none⟩) (h3.next hb) (by simp) _) (by omega)⟩;refine iZ (base:=w.heap.size+3) ?_ (by omega);refine ownsRow_setCell_below (ownsRow_setCell_below (ownsRow_setCell_below (ownsRow_setCell_below ho ?_ _) ?_ _) ?_ _) ?_ _
 all_goals (show _<w.heap.size+3;simp)
def B4 (B T:Int) (xs:List Ent) (i:Int):Int:=if ek B T xs=true then (if B≤i∧i≤dH B xs then 0 else 1) else 1
def jD (B T:Int) (xs:List Ent) (i:Int):Int:=if i=B then T else match xs[(i-B-1).toNat]? with | some e=>e.t | none=>0
def Ca (B T:Int) (xs:List Ent) (i:Int):Value:=
 if ek B T xs=true then (if B≤i∧i≤dH B xs then .tuple #[.int .i64 (jD B T xs i),.int .i64 0] else .tuple #[.int .i64 0,.int .i64 3]) else .tuple #[.int .i64 0,.int .i64 1]
theorem pe:∀ (xs:List Ent) (B T:Int),cG xs B T=true→dH B xs=B+xs.length
 |[],B,T,_=>by simp [dH]
 |[e],B,T,h=>by
  simp only [cG,iO,Bool.and_eq_true,decide_eq_true_eq] at h;simp [dH];omega
 |e::f::r,B,T,h=>by
  simp only [cG,Bool.and_eq_true] at h
  have he:e.i=B+1:=by
   have:=h.1;simp only [iO,Bool.and_eq_true,decide_eq_true_eq] at this;omega
  have ih:=pe (f::r) (B+1) e.t (by simp only [cG,Bool.and_eq_true];exact h.2)
  have:dH B (e::f::r)=dH (B+1) (f::r):=by
   obtain ⟨l,hl⟩:∃ l,(f::r).getLast? =some l:=by
    rw [List.getLast?_eq_getElem?];exact ⟨_,List.getElem?_eq_getElem (by simp)⟩
   unfold dH;rw [List.getLast?_cons_cons,hl]
  rw [this,ih];simp only [List.length_cons];omega
theorem lk {B T:Int} {xs:List Ent} (h:ek B T xs=true):dH B xs=B+xs.length∧0≤B∧B≤1099511625728∧xs.length≤512:=by
 simp only [ek,Bool.and_eq_true,decide_eq_true_eq] at h;obtain ⟨⟨⟨h1,h2⟩,h3⟩,h4⟩:=h;have:=lq h1;exact ⟨pe xs B T h4,this.1,this.2,h3⟩
def k9 (B T:Int) (xs:List Ent) (i:Int):Value:=
 if B≤i∧i≤dH B xs then .tuple #[.int .i64 (jD B T xs i),.bool true] else .tuple #[.int .i64 0,.bool false]
theorem mo (B T i:Int) (v:Value) (xs:List Ent) (w:World) (h:bm w v xs) (hm:ek B T xs=true) :
 Calls prog 30 #[.agg #[.int .i64 B,.int .i64 T,v],.int .i64 i] w fun e w'=>e=.returned (k9 B T xs i)∧ag w w':=by
 obtain ⟨f0,f1,f2,hbb,hwb⟩:=ke (w:=w) (B:=B) (T:=T) (v:=v) (t:=36);have hlo:=fun w' (hw:ag w w')=>jG B T v xs w' (h.from_ hw)
 obtain ⟨A,cap,rfl,hc1,hc2,hc3,hrow⟩:=h;obtain ⟨hl,hB0,hB1,hx⟩:=lk hm;have HL:=Lib.hid hlo;unfold k9;clear hlo hm;by_cases hin:B≤i∧i≤dH B xs
 ·rw [if_pos hin];have e1:decide (i<B)=false:=by simp;omega
  have e2:decide (dH B xs<i)=false:=by simp;omega
  by_cases h0:i=B
  ·have e0:(i==B)=true:=by simpa using h0
   have ht:jD B T xs i=T:=if_pos h0;rw [ht];clear h0 hin ht hl hrow
   go_enter Tryz.func30,Tryz.ntmps30
   go_wp2_with (first
    |(go_at_call 28;(with_reducible refine (HL.out _ hwb).mono ?_);rintro e w2 ⟨rfl,hb2⟩;have hw2:=ag.next (a:=w) hwb hb2))
   go_ret2
   exact ⟨rfl,hw2⟩
  ·have e0:(i==B)=false:=by simpa using h0
   obtain ⟨k,hk⟩:∃ k:Nat,i=B+k+1:=⟨(i-B-1).toNat,by omega⟩;have hkl:k<xs.length:=by omega
   have ht:jD B T xs i=xs[k].t:=by
    unfold jD;rw [if_neg h0,show (i-B-1).toNat=k by omega,List.getElem?_eq_getElem hkl]
   obtain ⟨b,o,rfl,hb,hc⟩:=hrow (by omega);obtain ⟨c1,c2,c3⟩:=hc k hkl;have d2:∀ w',ag w w'→w'.cell? ⟨b,o+k*3+1,none⟩=some (.int .i64 xs[k].t):=fun w' h=>(h.cells b _ hb).trans c2
   rw [ht];have j0:i-B-1=(k:Int):=by omega
   have j1:(0:Int)≤(k:Int):=by omega
   have j2:(k:Int)<(xs.length:Int):=by omega
   clear hc c1 c2 c3 hrow ht h0 hk hl
   generalize xs[k].t=y at*
   go_enter Tryz.func30,Tryz.ntmps30
   go_wp2_with (first
    |(go_at_call 28;(with_reducible refine (HL.out _ hwb).mono ?_);rintro e w2 ⟨rfl,hb2⟩;have hw2:=ag.next (a:=w) hwb hb2))
   go_ret2
   exact ⟨rfl,hw2⟩
 ·rw [if_neg hin];clear hrow hl;by_cases h1:i<B
  ·have e1:decide (i<B)=true:=by simpa using h1
   clear hin h1
   go_enter Tryz.func30,Tryz.ntmps30
   go_wp2_with (first
    |(go_at_call 28;(with_reducible refine (HL.out _ hwb).mono ?_);rintro e w2 ⟨rfl,hb2⟩;have hw2:=ag.next (a:=w) hwb hb2))
   go_ret2
   exact ⟨rfl,hw2⟩
  ·have e1:decide (i<B)=false:=by simpa using h1
   have e2:decide (dH B xs<i)=true:=by simp;omega
   clear hin h1
   go_enter Tryz.func30,Tryz.ntmps30
   go_wp2_with (first
    |(go_at_call 28;(with_reducible refine (HL.out _ hwb).mono ?_);rintro e w2 ⟨rfl,hb2⟩;have hw2:=ag.next (a:=w) hwb hb2))
   go_ret2
   exact ⟨rfl,hw2⟩
def Ch (B T:Int) (xs:List Ent) (i:Int):Int:=if ek B T xs=true then (if B+1≤i∧i≤min (dH B xs) 1099511625728 then 0 else 1) else 1
def Cj (w w':World) (i t:Int) (xs:List Ent) (c:Int) (L:Value):Prop:=
 (c≠0→L=tZ)∧(c=0→∃ A cap,L=.agg #[.int .i64 i,.int .i64 t,.slice A xs.length cap]∧w'.ownsRow w.heap.size 49 3 (.slice A xs.length cap) xs.length (bJ xs))
theorem bm.restA {w:World} {A:Option Addr} {n cap:Nat} {xs:List Ent} (h:bm w (.slice A n cap) xs) {k:Nat} (hk:k≤xs.length):bm w (.slice (dm A cap k 3) (n-k) (cap-k)) (xs.drop k):=h.rest hk
theorem rn {w w':World} {base g:Nat} {e n:Nat} {A:Option Addr} {c m:Nat} {xs:List Value} (h:w.ownsRow base e 3 (.slice A n c) m xs) (o:cY g w w') (hg:g<base):w'.ownsRow base e 3 (.slice A n c) m xs:=by
 refine ⟨h.1,?_⟩;rcases h.2 with h0 | ⟨b,cap,cur,h1,h2,h3,h4⟩
 ·exact .inl h0
 ·exact .inr ⟨b,cap,cur,h1,h2,(o.block b (by omega)).trans h3,h4⟩
end Go.Proofs.YtaohnmneccbljaaGreatDoor
namespace Go.Proofs.YtaohnmneccbljaaGreatDoor
open Go.Proofs.Tryz (prog)
open Go.RowKit
open Go.ChangeShapes Go.WideShapes Go.ChangeAt
end Go.Proofs.YtaohnmneccbljaaGreatDoor
namespace Go.Proofs.YtaohnmneccbljaaGreatDoor
open Go.Proofs.Tryz (prog)
open Go.RowKit
theorem Blk.grownA {w w':World} {g:Nat} {t:TypeId} {cs:Array Value} {row:Option Nat} (h:Blk w g t cs) (hg:w.grownBy w' row) (hne:some g≠row):Blk w' g t cs:=(hg.block g h.lt hne).trans h
theorem oP {ops:Array Oper} {rest:List Oper} {o:Oper} {a:Act} {Q:Exit→Act→World→Prop} {wr:World} (a0:World) (hgd:o.guard=none) (s x:Operand) (t:TypeId)
 (ho:o.op=.call { callee:=.builtin .append,args:=#[s,x],argTypes:=#[t,t] }) (ht:prog.underlying t=some (.slice 49))
 (v:Value) (n:Nat) (xs:List Ent) (hs:a.eval s=v) (hown:wr.ownsRow a0.heap.size 49 3 v n (bJ xs)) (hw:ag a0 wr) (v2:Value) (news:List Ent) (hx:a.eval x=v2) (hr:bm wr v2 news)
 (hroom:n+news.length≤1000000000000)
 (h:∀ v' w',w'.ownsRow a0.heap.size 49 3 v' (n+news.length) (bJ (xs++news))→ag a0 w'→wr.grownBy w' v.ownBlock→wpList prog ops Q rest (a.put o.dst v') w'):wpList prog ops Q (o::rest) a wr:=by
 obtain ⟨i0,hi0,hz0,hz1,hz2⟩:=info_parts rS;have hr0:=hr;obtain ⟨A,cap,rfl,hc1,hc2,hc3,hp⟩:=hr;cases A with
 |none=>
  have h0:=hc3 rfl;subst h0;have hnn:news=[]:=List.eq_nil_of_length_eq_zero (by omega);subst hnn;refine wpList_append_own_none (P:=prog) hgd s x t ho a0.heap.size 49 i0 3 ht hi0 v n (bJ xs) hs hown hx (h v wr ?_ hw ⟨rfl,rfl,rfl,Nat.le_refl _,fun _ _ _=>rfl⟩);simpa using hown
 |some ad=>
  refine wpList_append_own (P:=prog) _ hgd s x t ho a0.heap.size 49 i0 _ 3 32 ht hi0 hz0 hz1 hz2 rfl (by decide) v n (bJ xs) hs hown ad news.length cap (bJ news) hx (cN news) (hr0.cellV rfl) (jN news) (by unfold maxLen;omega) (by omega) hw.size ?_;intro v' w' hown' hg _;rw [←dz] at hown';exact h v' w' hown' (hw.grew hg (fun k hk=>(hown.lt k hk).1)) hg
theorem zl {w:World} {base size n g:Nat} {e t:TypeId} {v:Value} {xs:List Value} {cs:Array Value} (h:w.ownsRow base e size v n xs) (hb:Blk w g t cs) (hne:t≠e) (i:Nat) (u:Value):(w.setCell ⟨g,i,none⟩ u).ownsRow base e size v n xs:=by
 refine ⟨h.1,?_⟩;rcases h.2 with h2 | ⟨g',cap,cur,hv,hg,hh,r⟩
 ·exact .inl h2
 ·refine .inr ⟨g',cap,cur,hv,hg,?_,r⟩
  have hd:g'≠g:=by
   rintro rfl;unfold Blk at hb;rw [hb] at hh;simp only [Option.some.injEq,Obj.cells.injEq] at hh;exact hne hh.2.1
  rw [Below.heap_setCell w ⟨g,i,none⟩ u g' hd];exact hh
def gS (B T:Int) (xs ys:List Ent):Int:=if cG ys (dH B xs) (iu T xs)=true then (if xs.length+ys.length≤512 then 0 else 6) else 1
theorem ri {B T:Int} {xs ys:List Ent} (hm:ek B T xs=true):mC B T xs ys=gS B T xs ys:=by unfold mC gS;rw [if_pos hm]
theorem oR (B T:Int) (v u:Value) (xs ys:List Ent) (w:World) (h:bm w v xs) (hu:bm w u ys) (hm:ek B T xs=true) (hy:ys.length≤400000000000) :
 Calls prog 32 #[.agg #[.int .i64 B,.int .i64 T,v],u] w fun e w'=>∃ L,e=.returned (.tuple #[L,.int .i64 (gS B T xs ys)])∧AE w w' B T (xs++ys) (gS B T xs ys) L∧ag w w':=by
 obtain ⟨f0,f1,f2,hbb,hwb⟩:=ke (w:=w) (B:=B) (T:=T) (v:=v) (t:=36);have hlo:=fun w' (hw:ag w w')=>jG B T v xs w' (h.from_ hw)
 have h2:=mA w B T v;have hb2:=rY w B T v;have h22:ag (jk w B T v) (jk w B T v):=ag.rfl_;have hres:∀ w1,ag (jk w B T v) w1→Blk w1 (w.heap.size+1) 36 #[.int .i64 0,.int .i64 0,.slice none 0 0]:=fun w1 h=>og h
 have HRES:=Lib.hid hres;have HE:=Lib.hid h;have HU:=Lib.hid hu;have hdef:gS B T xs ys=gS B T xs ys:=rfl
 conv at hdef=>rhs;unfold gS
 simp only [AD,jk] at h2 hb2 h22 HRES;obtain ⟨A,cap,rfl,hc1,hc2,hc3,hrow⟩:=h;obtain ⟨A2,cap2,rfl,hd1,hd2,hd3,hrow2⟩:=hu;clear hc3 hrow hd3 hrow2 hres;obtain ⟨hl,hB0,hB1,hx⟩:=vw hm;rw [hl] at hlo hdef;have hru:=fun w' (hw:ag w w')=>wW (B+xs.length) (iu T xs) _ ys w' (HU.out.from_ hw) (by omega) (by omega) (by omega)
 have HL:=Lib.hid hlo;clear hlo hm hl;rcases hr:cG ys (B+xs.length) (iu T xs) with _ | _
 ·rw [hr] at hru hdef;rw [if_neg (by simp)] at hdef;rw [hdef];have HR:=Lib.hid hru;clear hr hdef hru
  go_enter Tryz.func32,Tryz.ntmps32
  go_wp2_with (first
   |(go_at_call 28;(with_reducible refine (HL.out _ h2).mono ?_);rintro e w2 ⟨rfl,hb3⟩;have hw2:=ag.next (a:=w) h2 hb3;have h23:=ag.next (a:=_) h22 hb3;have hbw2:=ag.next (a:=_) hb2 hb3)
   |(go_at_call 56;(with_reducible refine (HR.out _ hw2).mono ?_);rintro e w3 ⟨rfl,hb4⟩;have hw3:=ag.next (a:=w) hw2 hb4;have h24:=ag.next (a:=_) h23 hb4;have hbw3:=ag.next (a:=_) hbw2 hb4;have hk:=HRES.out w3 h24;obtain ⟨⟨s0,s1,s2⟩,t0,t1,t2⟩:=gJ hk))
  have hk2:=HRES.out w3 h24;obtain ⟨x0,x1,x2⟩:=iY hk2 (.int .i64 0) (.int .i64 0) (.slice none 0 0);simp only [rj] at x0 x1 x2
  (try simp only [Exit.inBlock,Exit.then])
  refine bodyPost_ret (v:=.tuple #[.agg #[.int .i64 0,.int .i64 0,.slice none 0 0],.int .i64 1]) (by simp [results,Tryz.results32,go_sem,x0,x1,x2]) rfl ?_;exact ⟨_,rfl,⟨fun _=>rfl,fun h=>absurd h (by decide)⟩,j_ hw3 (by omega)⟩
 ·rw [hr] at hru hdef;rw [if_pos rfl] at hdef;have HR:=Lib.hid hru;by_cases hsum:xs.length+ys.length≤512
  ·rw [if_pos hsum] at hdef;rw [hdef];have hd:decide ((512:Int)<(xs.length:Int)+(ys.length:Int))=false:=by simp;omega
   have hcp:=fun w' (hw:ag w w')=>mv B T _ xs w' (HE.out.from_ hw) (by omega)
   have HCP:=Lib.hid hcp;have hroom:xs.length+ys.length≤1000000000000:=by omega
   clear hr hdef hru hcp hsum
   go_enter Tryz.func32,Tryz.ntmps32
   go_wp2_with (first
    |(go_at_call 28;(with_reducible refine (HL.out _ h2).mono ?_);rintro e w2 ⟨rfl,hb3⟩;have hw2:=ag.next (a:=w) h2 hb3;have h23:=ag.next (a:=_) h22 hb3;have hbw2:=ag.next (a:=_) hb2 hb3)
    |(go_at_call 56;(with_reducible refine (HR.out _ hw2).mono ?_);rintro e w3 ⟨rfl,hb4⟩;have hw3:=ag.next (a:=w) hw2 hb4;have h24:=ag.next (a:=_) h23 hb4;have hbw3:=ag.next (a:=_) hbw2 hb4)
    |(go_at_call 54;(with_reducible refine (HCP.out _ hw3).mono ?_);rintro e w4 ⟨v4,rfl,hown4,hb5⟩;obtain ⟨A4,c4,rfl⟩:=fp hown4;have HO:=Lib.hid hown4;clear hown4;have hw4:=ag.next (a:=w) hw3 hb5;have h25:=ag.next (a:=_) h24 hb5;have h34:=ag.next (a:=w3) ag.rfl_ hb5;have h34n:=ag.new h34 (.cells #[.int .i64 B,.int .i64 T,.slice A4 xs.length c4] 36))
    |(at_builtin;refine oP w3 rfl (.tmp 31) (.tmp 32) 34 rfl Tryz.underlying34 _ xs.length xs rfl (HO.out.alloc _) h34n _ ys rfl (HU.out.from_ (hw3.next h34n)) hroom ?_;intro v5 w5 hown5 hw5 hgr;obtain ⟨A5,c5,rfl⟩:=fp hown5;have HO5:=Lib.hid hown5;clear hown5;have hbk:=(Blk.new w4 36 #[.int .i64 B,.int .i64 T,.slice A4 xs.length c4]).grownA hgr (fun e=>Nat.lt_irrefl _ (HO.out.lt _ e.symm).2);have hrs:=HRES.out w5 (h24.next hw5);have q1:=(gJ hbk).1.2.2;have q2:=(gJ hbk).2.2.2;have b3:=hbk.set_ 2 (.slice A5 (xs.length+ys.length) c5);have r0:=b3.cell 0;have r1:=b3.cell 1;have r2:=b3.cell 2;simp at r0 r1 r2;have hlt:=h25.size;have hrs2:=hrs.far (p:=⟨w4.heap.size,2,none⟩) (by intro e;simp at e hlt;omega) (.slice A5 (xs.length+ys.length) c5);obtain ⟨⟨s0,s1,s2⟩,t0,t1,t2⟩:=gJ hrs2))
   obtain ⟨x0,x1,x2⟩:=iY hrs2 (.int .i64 B) (.int .i64 T) (.slice A5 (xs.length+ys.length) c5);simp only [rj] at x0 x1 x2
   (try simp only [Exit.inBlock,Exit.then])
   refine bodyPost_ret (v:=.tuple #[.agg #[.int .i64 B,.int .i64 T,.slice A5 (xs.length+ys.length) c5],.int .i64 0]) (by simp [results,Tryz.results32,go_sem,x0,x1,x2]) rfl ?_;have hsz2:w.heap.size+2≤w3.heap.size:=by simpa using h24.size
   have h34s:=h34.size;refine ⟨_,rfl,⟨fun h=>absurd rfl h,fun _=>⟨_,rfl,?_⟩⟩,j_ (ag.set_ (p:=⟨w4.heap.size,2,none⟩) (hw3.next hw5) (by show w.heap.size≤w4.heap.size;omega) _) (by omega)⟩;rw [List.length_append];refine iZ (base:=w3.heap.size) ?_ (by omega);refine ownsRow_setCell_below (ownsRow_setCell_below (ownsRow_setCell_below (zl HO5.out hbk (by decide) 2 _) ?_ _) ?_ _) ?_ _
   all_goals (show _<w3.heap.size;simp;omega)
  ·rw [if_neg hsum] at hdef;rw [hdef];have hd:decide ((512:Int)<(xs.length:Int)+(ys.length:Int))=true:=by simp;omega
   clear hr hdef hru hsum
   go_enter Tryz.func32,Tryz.ntmps32
   go_wp2_with (first
    |(go_at_call 28;(with_reducible refine (HL.out _ h2).mono ?_);rintro e w2 ⟨rfl,hb3⟩;have hw2:=ag.next (a:=w) h2 hb3;have h23:=ag.next (a:=_) h22 hb3;have hbw2:=ag.next (a:=_) hb2 hb3)
    |(go_at_call 56;(with_reducible refine (HR.out _ hw2).mono ?_);rintro e w3 ⟨rfl,hb4⟩;have hw3:=ag.next (a:=w) hw2 hb4;have h24:=ag.next (a:=_) h23 hb4;have hbw3:=ag.next (a:=_) hbw2 hb4;have hk:=HRES.out w3 h24;obtain ⟨⟨s0,s1,s2⟩,t0,t1,t2⟩:=gJ hk))
   have hk2:=HRES.out w3 h24;obtain ⟨x0,x1,x2⟩:=iY hk2 (.int .i64 0) (.int .i64 0) (.slice none 0 0);simp only [rj] at x0 x1 x2
   (try simp only [Exit.inBlock,Exit.then])
   refine bodyPost_ret (v:=.tuple #[.agg #[.int .i64 0,.int .i64 0,.slice none 0 0],.int .i64 6]) (by simp [results,Tryz.results32,go_sem,x0,x1,x2]) rfl ?_;exact ⟨_,rfl,⟨fun _=>rfl,fun h=>absurd h (by decide)⟩,j_ hw3 (by omega)⟩
theorem qP:aH prog 54=true:=by kernel_rfl
theorem jy:aH prog 30=true:=by kernel_rfl
theorem lG:aH prog 55=true:=by kernel_rfl
theorem kP:∀ (a0:Int) (a1:Int) (a2:Option Addr) (a3 a4:Nat),prog.built 36 [(0,.int .i64 a0),(1,.int .i64 a1),(2,.slice a2 a3 a4)]=some #[.int .i64 a0,.int .i64 a1,.slice a2 a3 a4]:=by intros;kernel_rfl
theorem tw (B T:Int) (A:Option Addr) (n c:Nat) (xs:List Ent) (w:World) (h:bm w (.slice A n c) xs) (hl:xs.length≤400000000000) :
 Rt prog 54 [.agg #[.int .i64 B,.int .i64 T,.slice A n c]] w fun v w'=>∃ A' c',v=.agg #[.int .i64 B,.int .i64 T,.slice A' xs.length c']∧w'.ownsRow w.heap.size 49 3 (.slice A' xs.length c') xs.length (bJ xs)∧bm w' (.slice A' xs.length c') xs∧ag w w':=
 Calls.mono (mv B T _ xs w h hl) fun e w' ⟨v',he,ho,hF⟩=>⟨_,he,by obtain ⟨A',c',rfl⟩:=fp ho;exact ⟨A',c',rfl,ho,bm.of_own ho rfl,hF⟩⟩
theorem mw (A:Option Addr) (n c:Nat) (xs:List Ent) (w:World) (h:bm w (.slice A n c) xs) (hl:xs.length≤400000000000) :
 Rt prog 55 [.slice A n c] w fun v w'=>∃ A' c',v=.slice A' xs.length c'∧w'.ownsRow w.heap.size 49 3 (.slice A' xs.length c') xs.length (bJ xs)∧bm w' (.slice A' xs.length c') xs∧ag w w':=
 Calls.mono (jA _ xs w h hl) fun e w' ⟨v',he,ho,hF⟩=>⟨v',he,by obtain ⟨A',c',rfl⟩:=fp ho;exact ⟨A',c',rfl,ho,bm.of_own ho rfl,hF⟩⟩
theorem bm.lenR {w:World} {A:Option Addr} {n c:Nat} {xs:List Ent} (h:bm w (.slice A n c) xs):n=xs.length∧xs.length≤c:=by
 obtain ⟨A',c',hv,h1,_⟩:=h;simp only [Value.slice.injEq] at hv;obtain ⟨_,rfl,rfl⟩:=hv;exact ⟨rfl,h1⟩
theorem vK (xs:List Ent) (k:Nat) (hk:k≤xs.length):bJ (xs.take k)=(bJ xs).take (k*3):=by
 have h:bJ xs=bJ (xs.take k)++bJ (xs.drop k):=by rw [←dz,List.take_append_drop]
 have hl:(bJ (xs.take k)).length=k*3:=by rw [cN,List.length_take];congr 1;omega
 have h2:(bJ (xs.take k)++bJ (xs.drop k)).take (k*3)=bJ (xs.take k):=by
  rw [List.take_append_of_le_length (by omega),List.take_of_length_le (by omega)]
 rw [←h] at h2;exact h2.symm
theorem zm {w:World} {base e n c k:Nat} {A:Option Addr} {xs:List Ent} (h:w.ownsRow base e 3 (.slice A n c) n (bJ xs)) (hn:n=xs.length) (hk:k≤n):w.ownsRow base e 3 (.slice (dm A c 0 3) (k-0) (c-0)) k (bJ (xs.take k)):=by
 have e0:dm A c 0 3=A:=by
  unfold dm;split
  ·rfl
  ·cases A with
   |none=>rfl
   |some a=>simp [Addr.add_zero']
 rw [e0];refine ⟨by rw [cN,List.length_take];congr 1;omega,?_⟩;rcases h.2 with ⟨h1,h2⟩ | ⟨g,cap,cur,hv,hb,hg,h3,h4,h5,h6⟩
 ·simp only [Value.slice.injEq] at h1;obtain ⟨rfl,rfl,rfl⟩:=h1;exact .inl ⟨by rw [show k-0=0 by omega],by omega⟩
 ·simp only [Value.slice.injEq] at hv;obtain ⟨rfl,_,rfl⟩:=hv;refine .inr ⟨g,c,cur,by simp,hb,hg,by omega,h4,h5,?_⟩;rw [vK xs k (by omega),←h6,List.take_take]
  congr 1
  have:k*3≤n*3:=Nat.mul_le_mul_right _ hk;omega
theorem sY (B T i:Int) (A:Option Addr) (n c:Nat) (xs:List Ent) (w:World) (h:bm w (.slice A n c) xs) (hm:ek B T xs=true) (hi:B≤i∧i≤B+xs.length) :
 Rt prog 30 [.agg #[.int .i64 B,.int .i64 T,.slice A n c],.int .i64 i] w fun v w'=>v=.tuple #[.int .i64 (jD B T xs i),.bool true]∧ag w w':=
 Rt.mono (Rt.of (mo B T i _ xs w h hm)) fun v w' h=>⟨by rw [h.1];unfold k9;rw [if_pos ⟨hi.1,by rw [(lk hm).1];exact hi.2⟩],h.2⟩
def Cl (B T:Int) (xs:List Ent) (i t:Int):Bool:=decide (iu T xs<t∨(t=iu T xs∧dH B xs≤i))
theorem vh (B T i:Int) (A:Option Addr) (c:Nat) (xs:List Ent) (w:World) (h:bm w (.slice A xs.length c) xs) (hl:xs.length≤512) (_:0≤B∧B≤1099511625728) (hi:B≤i∧i≤B+xs.length) :
 Rt prog 29 [.agg #[.int .i64 B,.int .i64 T,.slice A xs.length c],.int .i64 i] w (fun v w'=>∃ A' k' c',v=.agg #[.int .i64 B,.int .i64 T,.slice A' k' c']∧w'.ownsRow w.heap.size 49 3 (.slice A' k' c') k' (bJ (xs.take (i-B).toNat))∧ag w w'):=by
 refine enter (n:=17) Tryz.func29 rfl rfl rfl (af (ab (bu (v:=.agg _) rfl ?_)));intro b2 w1 E2 hb2 hk2;have hl2:=hk2.lt;refine aZ bA ?_;intro b4 w2 E4 hb4 hk4;have hl4a:=hk4.lt;replace hk2:=hk2.from_ E4;have hg4:w.heap.size≤b4:=by rw [hb4];exact E2.size
 refine ah (ae (af (ab (aa (aG (cs:=[_,_,_]) az aq rfl (by first | (first | exact (hk2.from_ ag.rfl_).whole | exact (hk2.from_ ag.rfl_).rd 0 rfl | exact (hk2.from_ ag.rfl_).rd 1 rfl | exact (hk2.from_ ag.rfl_).rd 2 rfl))) ?_))));refine av qP (tw B T A _ c xs _ (h.from_ ((ag.rfl_.next E2).next E4)) (by omega)) ?_;rintro v7 w3 ⟨A7,c7,rfl,ho7,he7,E7⟩;have hk2c:=hk2.from_ (ag.rfl_.next E7);have hk4c:=hk4.from_ (ag.rfl_.next E7);have hl4:=hk4c.lt;have hl2b:=hk2c.lt;refine aZ bA ?_;intro b5 w4 E5 hb5 hk5;have hg5:w.heap.size≤b5:=by rw [hb5];exact ((((ag.rfl_.next E2).next E4).next E7)).size
 refine aV (vs:=[_,_,_]) aq rfl rfl (by simp [Value.oneCell']) (hk5) rfl ?_;intro w5 O1 P1;replace hk2:=(hk2c.from_ E5).only O1 (by omega);replace hk4:=(hk4c.from_ E5).only O1 (by omega);refine ah (ae (af (ab (aa (ai a8 rfl) (aa (ao bC rfl (by first | exact (P1.from_ ag.rfl_).whole | exact (P1.from_ ag.rfl_).rd 2 rfl)) ?_)))));refine mvi rfl (aa (ai cC rfl) (aa (ao aD rfl (by exact hk2.rd 0 rfl)) ?_));refine aa (dv rfl rfl (by omega)) (aa (bk (l:=0) (h:=(i-B).toNat) cM rfl (.inl ⟨rfl,rfl⟩) (.inr ⟨_,_,_,rfl,rfl,(by omega)⟩) (by omega) (by have:=he7.lenR;omega)) ?_);refine aa (ai a8 rfl) (cT (v:=.slice _ _ _) gM rfl rfl rfl (P1) (by simp) ?_);intro w6 O2 P2;replace hk4:=hk4.only O2 (by omega);refine ah (ae (af (ab (aa (aG (cs:=[_,_,_]) az aq rfl (by exact P2.whole)) ?_))));refine aV (vs:=[_,_,_]) aq rfl rfl (by simp [Value.oneCell']) (hk4) rfl ?_;intro w7 O3 P3;refine ah (ae (aC (rh rfl (bx (cs:=[_,_,_]) az aq rfl (by exact P3.whole)) ?_)));exact ⟨_,_,_,rfl,iZ (zm (rn (ho7.kept_from (((E5).only O1 (by omega)).only O2 (by omega))) O3 (by omega)) rfl (by omega)) (by omega),(((((((ag.rfl_.next E2).next E4).next E7).next E5).only O1 (hg5)).only O2 (hg5)).only O3 (hg4))⟩
theorem kt (B T i:Int) (A:Option Addr) (c:Nat) (xs:List Ent) (w:World) (h:bm w (.slice A xs.length c) xs) (hm:ek B T xs=true) (hi:B≤i∧i≤B+xs.length) :
 Rt prog 31 [.agg #[.int .i64 B,.int .i64 T,.slice A xs.length c],.int .i64 i] w (fun v w'=>∃ A' k' c',v=.agg #[.int .i64 i,.int .i64 (jD B T xs i),.slice A' k' c']∧w'.ownsRow w.heap.size 49 3 (.slice A' k' c') k' (bJ (xs.drop (i-B).toNat))∧ag w w'):=by
 obtain ⟨hl,hB0,hB1,hx⟩:=lk hm;have hcap:=h.lenR;refine enter (n:=24) Tryz.func31 rfl rfl rfl (af (ab (bu (v:=.agg _) rfl ?_)));intro b2 w1 E2 hb2 hk2;have hl2:=hk2.lt;refine aZ bA ?_;intro b4 w2 E4 hb4 hk4;replace hk2:=hk2.from_ E4;have hg4:w.heap.size≤b4:=by rw [hb4];exact E2.size
 refine ah (ae (af (ab (aa (aG (cs:=[_,_,_]) az aq rfl (by first | (first | exact (hk2.from_ ag.rfl_).whole | exact (hk2.from_ ag.rfl_).rd 0 rfl | exact (hk2.from_ ag.rfl_).rd 1 rfl | exact (hk2.from_ ag.rfl_).rd 2 rfl))) ?_))));refine mvi rfl (av jy (sY B T i A _ c xs _ (h.from_ ((ag.rfl_.next E2).next E4)) hm hi) ?_);rintro v10 w3 ⟨rfl,E10⟩;refine mvt rfl (aa (ar rfl rfl) (aa (ar rfl rfl) (asi rfl (asb rfl (ah (ae (af (ab (mvi rfl (mvi rfl (aa (ai a8 rfl) ?_)))))))))));refine aa (ao bC rfl (by first | (first | exact (hk2.from_ (ag.rfl_.next E10)).whole | exact (hk2.from_ (ag.rfl_.next E10)).rd 0 rfl | exact (hk2.from_ (ag.rfl_.next E10)).rd 1 rfl | exact (hk2.from_ (ag.rfl_.next E10)).rd 2 rfl))) ?_;refine mvi rfl (aa (ai cC rfl) (aa (ao aD rfl (by first | (first | exact (hk2.from_ (ag.rfl_.next E10)).whole | exact (hk2.from_ (ag.rfl_.next E10)).rd 0 rfl | exact (hk2.from_ (ag.rfl_.next E10)).rd 1 rfl | exact (hk2.from_ (ag.rfl_.next E10)).rd 2 rfl))) ?_));refine aa (dv rfl rfl (by omega)) (aa (bk (l:=(i-B).toNat) cM rfl (.inr ⟨_,_,_,rfl,rfl,(by omega)⟩) (.inl ⟨rfl,rfl⟩) (by omega) (by omega)) ?_);have hl4:=(hk4.from_ (ag.rfl_.next E10)).lt;refine av lG (mw _ _ _ _ _ ((h.from_ (((ag.rfl_.next E2).next E4).next E10)).restA (k:=(i-B).toNat) (by omega)) (by rw [List.length_drop];omega)) ?_;rintro v22 w4 ⟨A22,c22,rfl,ho22,he22,E22⟩;refine aa (bN (l:=[(0,.tmp 13),(1,.tmp 14),(2,.tmp 22)]) (kP _ _ _ _ _)) (aV (vs:=[_,_,_]) aq rfl rfl (by simp [Value.oneCell']) (hk4.from_ ((ag.rfl_.next E10).next E22)) rfl ?_);intro w5 O2 P2;refine ah (ae (aC (rh rfl (bx (cs:=[_,_,_]) az aq rfl (by exact P2.whole)) ?_)));exact ⟨_,_,_,rfl,iZ (rn ho22 O2 hl4) (by omega),(((((ag.rfl_.next E2).next E4).next E10).next E22).only O2 (hg4))⟩
theorem jx:prog.built 49 [(0,.int .i64 (-9))]=some #[.int .i64 (-9),.int .i64 0,.string ⟨#[]⟩]:=by kernel_rfl
theorem o0:prog.built 49 []=some #[.int .i64 0,.int .i64 0,.string ⟨#[]⟩]:=by kernel_rfl
section
variable {P:Program} {ops:Array Oper} {Q:Exit→Act→World→Prop} {rest:List Oper} {n:Fr} {L:List (Nat×Value)} {w:World} {ty:TypeId} {pos:String} {after:Array Edge} {t:TypeId} {x y:Operand}
theorem mq {cs vs:List Value} {o:Nat} (h:o+vs.length≤cs.length):(over cs o vs).length=cs.length:=by
 unfold over;simp;omega
theorem sF {g i m cap e base sz:Nat} {xs vs:List Value} (ht:cS P t=some vs.length) (hsz:vs.length=sz) (hx:ev n L x=.pointer (some ⟨g,i*sz,none⟩)) (hy:ev n L y=.agg vs.toArray) (h1:∀ v∈vs,v.oneCell'=true)
 (ho:w.ownsRow base e sz (.slice (some ⟨g,0,none⟩) m cap) m xs) (hi:i<m)
 (k:∀ w' xs',cY g w w'→w'.ownsRow base e sz (.slice (some ⟨g,0,none⟩) m cap) m xs'→St P ops Q rest n L w'):St P ops Q (⟨none,.store t x y,ty,pos,after,none⟩::rest) n L w:=by
 rcases ho.2 with ⟨h0,_⟩ | ⟨g',cap',cur,hv,hb,hg,hmc,hmax,hs,_⟩
 ·cases h0
 ·simp only [Value.slice.injEq,Option.some.injEq,Addr.mk.injEq] at hv;obtain ⟨⟨rfl,_⟩,_,rfl⟩:=hv
  have hin:i*sz+vs.length≤cur.toList.length:=by
   have h2:(i+1)*sz≤cap*sz:=Nat.mul_le_mul_right _ (by omega);rw [Nat.succ_mul] at h2;simp only [Array.length_toList,hs];omega
  refine ik (cs:=cur.toList) (u:=e) ht hx hy h1 hg hin fun w' o b=>k w' ((over cur.toList (i*sz) vs).take (m*sz)) o ⟨?_,.inr ⟨g,cap,_,rfl,hb,b,hmc,hmax,?_,?_⟩⟩
  ·have h3:m*sz≤cap*sz:=Nat.mul_le_mul_right _ hmc;rw [List.length_take,mq hin];simp only [Array.length_toList,hs];omega
  ·simp only [List.size_toArray,mq hin,Array.length_toList,hs]
  ·simp
end
theorem kq (base:Nat) (A:Option Addr) (n c:Nat) (l:List Value) (w:World) (ho:w.ownsRow base 49 3 (.slice A n c) n l) (hn:n≤1000000000000) (hbs:base≤w.heap.size) :
 Rt prog 13 [.slice A n c] w (fun _ w'=>w.grownBy w' (A.map (·.block))):=by
 refine enter (n:=17) Tryz.func13 rfl rfl rfl (af (af (ab (asi rfl (ah (ae (aP (cH (G:=List Value×Nat) [3,4,5,6,7,8,9,10,11,12] (fun (_,k)=>[(2,.int .i64 (k:Nat))]) (fun (l1,k) w'=>k≤n∧w'.ownsRow base 49 3 (.slice A n c) n l1∧w.grownBy w' (A.map (·.block))) (fun (_,k)=>n-k) ((l,0)) ⟨rfl,trivial⟩ ?_ ?_))))))))
 ·exact ⟨Nat.zero_le _,ho,(ag.rfl_ (a:=w)).grown _⟩
 rintro ⟨l1,k⟩ ρ1 w1 ⟨hk,ho1,hG⟩;refine af (af (ab (mvi rfl (mvs rfl (aa (bb cj rfl) (aa (cl rfl rfl) (ah (ae (BM rfl (fun Q2=>?_) (fun Q2=>?_))))))))))
 ·obtain ⟨g,rfl⟩:=rm ho (by omega);refine aE (ae (af (aP (ab (mvs rfl (mvi rfl (aa (bN (l:=[(0,.const (.int .i64 (-9)))]) (jx)) (aa (bH (v':=.pointer (some ⟨g,k*3,none⟩)) (bf cM rfl rfl (by omega)) (by rw [Nat.zero_add])) ?_))))))));refine sF (vs:=[.int .i64 (-9),.int .i64 0,.string ⟨#[]⟩]) eZ rfl rfl rfl (by simp [Value.oneCell']) ho1 (by omega) ?_;intro w3 l2 O3 P3;refine ah (bI (ae (ab (mvi rfl (aa (cf (b:=1) rfl rfl (by omega)) (asi rfl (ah ?_)))))));refine bW ((l2,k+1)) ⟨(by first | rfl | (refine bD ?_;omega)),trivial⟩ (by (iterate 22 refine bg rfl ?_);exact bw) ⟨?_,?_⟩
  ·exact ⟨by omega,P3,dw hG O3.grown⟩
  ·show _-_<_-_;omega
 refine cx (bc (bc (bX (ae (ab (mvs rfl (aa (bN (l:=[]) (o0)) ?_)))))));refine gi (cells:=#[.int .i64 0,.int .i64 0,.string ⟨#[]⟩]) eG rfl rfl (by show Instr.fill _ _ [(0,Value.agg #[.int .i64 0,.int .i64 0,.string ⟨#[]⟩])]=_;kernel_rfl) ?_;intro b15 w4 E15 hb15 hk15;refine kB (base:=base) eG rfl (by decide) rfl (A:=A) (xs:=l1) (news:=[.int .i64 0,.int .i64 0,.string ⟨#[]⟩]) (ho1.kept_from E15) (by have:=hG.size;have:=E15.size;omega) rfl rfl (fun _=>⟨b15,0,rfl,hk15.whole⟩) (fun h=>by cases h) (by simp [Value.oneCell']) (by omega) (by omega) ?_;intro A16 c16 w5 ho16 hg16;refine ass rfl (ah (m_ (zf rfl (dw hG (dw (E15.grown _) hg16)))))
end Go.Proofs.YtaohnmneccbljaaGreatDoor
namespace Go.Proofs.YtaohnmneccbljaaGreatDoor
open Go.Proofs.Tryz (prog)
open Go.RowKit
def Cb (B T:Int) (xs:List Ent) (i n:Int):Int:=if ek B T xs=true then (if B+1≤i∧i≤dH B xs+1 then (if n<0 then 1 else 0) else 3) else 1
def Ci (w w':World) (ys:List Ent) (c:Int) (v:Value):Prop:=(c≠0→v=.slice none 0 0)∧(c=0→w'.ownsRow w.heap.size 49 3 v ys.length (bJ ys))
def Cc (A:Option Addr) (cap k:Nat):Option Addr:=if cap=k then A else Option.map (fun x=>x.add (k*3)) A
end Go.Proofs.YtaohnmneccbljaaGreatDoor
namespace Go.Proofs.YtaohnmneccbljaaGreatDoor
open Go.Proofs.Tryz (prog)
open Go.RowKit
open Go.ChangeShapes Go.WideShapes Go.ChangeAt
structure yF (w:World) (bs:Nat) (err B T:Int) (ys:List Ent) (X Y:Int) (A:Option Addr) (n c:Nat):Prop where
 x:X=if err=0 then B else 0
 y:Y=if err=0 then T else 0
 own:w.ownsRow bs 49 3 (.slice A n c) n (bJ (if err=0 then ys else []))
theorem uT (w:World) (bs:Nat) (err B T:Int) (ys:List Ent) (he:err≠0):yF w bs err B T ys 0 0 none 0 0:=⟨by rw [if_neg he],by rw [if_neg he],by rw [if_neg he];exact World.ownsRow_nil _ _ _ _⟩
theorem yS {w w':World} {err B T:Int} {ys:List Ent} {L:Value} (h:AE w w' B T ys err L):∃ X Y A n c,L=.agg #[.int .i64 X,.int .i64 Y,.slice A n c]∧yF w' w.heap.size err B T ys X Y A n c:=by
 by_cases he:err=0
 ·obtain ⟨v',rfl,ho⟩:=h.2 he;obtain ⟨A,c,rfl⟩:=fp ho;exact ⟨B,T,A,_,c,rfl,by rw [if_pos he],by rw [if_pos he],by rw [if_pos he];exact ho⟩
 ·rw [h.1 he];exact ⟨0,0,none,0,0,rfl,uT _ _ _ _ _ _ he⟩
theorem k_ (B T:Int) (A A':Option Addr) (n c m d:Nat) (xs ys:List Ent) (w:World) (h:bm w (.slice A n c) xs) (hu:bm w (.slice A' m d) ys) (hm:ek B T xs=true) (hy:ys.length≤400000000000) :
 Rt prog 32 [.agg #[.int .i64 B,.int .i64 T,.slice A n c],.slice A' m d] w fun v w'=>∃ X Y A2 k c2,v=.tuple #[.agg #[.int .i64 X,.int .i64 Y,.slice A2 k c2],.int .i64 (mC B T xs ys)]∧yF w' w.heap.size (mC B T xs ys) B T (xs++ys) X Y A2 k c2∧ag w w':=
 Calls.mono (oR B T _ _ xs ys w h hu hm hy) fun e w' ⟨L,he,hg,hF⟩=>⟨_,he,by rw [←ri hm] at hg ⊢;obtain ⟨X,Y,A2,k,c2,rfl,ht⟩:=yS hg;exact ⟨X,Y,A2,k,c2,rfl,ht,hF⟩⟩
end Go.Proofs.YtaohnmneccbljaaGreatDoor
namespace Go.Proofs.YtaohnmneccbljaaGreatDoor
open Go.Proofs.Tryz (prog)
open Go.RowKit
abbrev yH:Ty:=.pr (.int .i64) (.pr (.int .i64) (.pr .str .unit))
theorem zL {w:World} {c:Nat→Option Value} {xs:List yH.den} (h:(Ty.sl yH).At w c xs) :
 ∃ (v:Value) (es:List Ent),c 0=some v∧bm w v es∧(∀ e∈es,e.Ok)∧es.length*32≤140737488351232:=by
 obtain ⟨A,cap,h0,h1,h2,h3⟩:=h;refine ⟨_,xs.map fun x=>⟨x.1,x.2.1,x.2.2.1⟩,h0,⟨A,cap,by rw [List.length_map],by rw [List.length_map];exact h2.1,h2.2.1,h2.2.2,fun hp=>?_⟩,?_,by rw [List.length_map];exact h1⟩
 ·rw [List.length_map] at hp;obtain ⟨b,o,hA,hb,hi⟩:=h3 hp;refine ⟨b,o,hA,hb,fun i hil=>?_⟩;rw [List.length_map] at hil;obtain ⟨⟨c1,_⟩,⟨c2,_⟩,⟨c3,_⟩,_⟩:=hi i _ (List.getElem?_eq_getElem hil);rw [List.getElem_map];exact ⟨c1,c2,c3⟩
 ·intro e he;simp only [List.mem_map] at he;obtain ⟨x,hx,rfl⟩:=he;obtain ⟨i,hil,rfl⟩:=List.mem_iff_getElem.1 hx;obtain ⟨b,o,hA,hb,hi⟩:=h3 (Nat.lt_of_le_of_lt (Nat.zero_le _) hil);obtain ⟨⟨_,c1⟩,⟨_,c2⟩,⟨_,c3⟩,_⟩:=hi i _ (List.getElem?_eq_getElem hil);have b1:=bounds_i64 c1;have b2:=bounds_i64 c2;exact ⟨b1.1,b1.2,b2.1,b2.2,c3⟩
end Go.Proofs.YtaohnmneccbljaaGreatDoor
namespace Go.Proofs.YtaohnmneccbljaaGreatDoor
open Go.Proofs.Tryz (prog)
open Go.RowKit
open Go.ChangeShapes Go.WideShapes Go.ChangeAt
open Go.Lib
theorem jv:ch prog 38 1=some 1:=by kernel_rfl
theorem qK:ch prog 38 2=some 2:=by kernel_rfl
theorem ez:aH prog 28=true:=by kernel_rfl
theorem rF {α:Type} {n:Nat} {P:Nat→α→Prop} (h:∀ i,i<n→∃ x,P i x):∃ L:List α,L.length=n∧∀ i (hi:i<L.length),P i L[i]:=
 ⟨List.ofFn fun i:Fin n=>Classical.choose (h i i.2),by simp,fun i hi=>by
  rw [List.getElem_ofFn];exact Classical.choose_spec (h i (by simpa using hi))⟩
theorem CK {w:World} {c:Nat→Option Value} {xs:List Int} (h:(Ty.sl (.int .i64)).At w c xs) :
 ∃ (A:Option Addr) (cap:Nat),c 0=some (.slice A xs.length cap)∧d_ iV w A xs∧(∀ x∈xs,-9223372036854775808≤x∧x≤9223372036854775807)∧xs.length*8≤140737488351232∧xs.length≤cap∧cap≤9223372036854775807:=by
 obtain ⟨A,cap,h0,hr,hb,hl,hc⟩:=z_ h;obtain ⟨A',cap',h0',_,h3,_⟩:=h;rw [h0] at h0';simp only [Option.some.injEq,Value.slice.injEq] at h0';obtain ⟨rfl,_,rfl⟩:=h0';exact ⟨A,cap,h0,hr,hb,hl,hc,h3.2.1⟩
theorem AU {w:World} {b a:Nat} {v0 v1 v2 v3 v4 v5:Value} (h0:w.cell? ⟨b,a+0,none⟩=some v0) (h1:w.cell? ⟨b,a+1,none⟩=some v1) (h2:w.cell? ⟨b,a+2,none⟩=some v2) (h3:w.cell? ⟨b,a+3,none⟩=some v3) (h4:w.cell? ⟨b,a+4,none⟩=some v4) (h5:w.cell? ⟨b,a+5,none⟩=some v5):w.rangeAt b a [v0,v1,v2,v3,v4,v5]:=fun j v hv=>by
 match j,hv with
 |0,hv=>simp at hv;subst hv;exact h0
 |1,hv=>simp at hv;subst hv;exact h1
 |2,hv=>simp at hv;subst hv;exact h2
 |3,hv=>simp at hv;subst hv;exact h3
 |4,hv=>simp at hv;subst hv;exact h4
 |5,hv=>simp at hv;subst hv;exact h5
 |j+6,hv=>simp at hv
structure Aw where
 d:Int
 A:Option Addr
 ac:Nat
 ls:List Ent
 on:Bool
 i:Int
 t:Int
 Y:Option Addr
 yc:Nat
 ys:List Int
def awV (x:Aw):List Value:=[.int .i64 x.d,.slice x.A x.ls.length x.ac,.bool x.on,.int .i64 x.i,.int .i64 x.t,.slice x.Y x.ys.length x.yc]
structure gh (w:World) (x:Aw):Prop where
 le:bm w (.slice x.A x.ls.length x.ac) x.ls
 eok:∀ e∈x.ls,e.Ok
 ll:x.ls.length≤140737488351232
 ib:-9223372036854775808≤x.i∧x.i≤9223372036854775807
 tb:-9223372036854775808≤x.t∧x.t≤9223372036854775807
 ry:d_ iV w x.Y x.ys
 fy:∀ y∈x.ys,-9223372036854775808≤y∧y≤9223372036854775807
 ly:x.ys.length≤140737488351232
 cy:x.ys.length≤x.yc∧x.yc≤9223372036854775807
abbrev Ai:Ty:=.pr (.int .i64) (.pr (.sl yH) (.pr .bool (.pr (.int .i64) (.pr (.int .i64) (.pr (.sl (.int .i64)) .unit)))))
abbrev y8:Ty:=.pr (.sl Ai) (.pr (.sl (.int .i64)) .unit)
theorem Ab {w:World} {c:Nat→Option Value} {xs:List Ai.den} (h:(Ty.sl Ai).At w c xs):∃ (A:Option Addr) (cap:Nat) (L:List Aw),c 0=some (.slice A L.length cap)∧gH 6 awV w A L∧(∀ x∈L,gh w x)∧L.length≤140737488351232:=by
 obtain ⟨A,cap,h0,hb,_,hi⟩:=h;have hb2:xs.length≤140737488351232:=Nat.le_trans (Nat.le_mul_of_pos_right _ (by decide)) hb;rcases Nat.eq_zero_or_pos (List.length xs) with hz | hz
 ·exact ⟨A,cap,[],by rw [h0,hz];rfl,fun h=>absurd h (by simp),fun f hf=>(by cases hf),by simp⟩
 ·obtain ⟨b,o,hA,_,hx⟩:=hi hz
  obtain ⟨L,hL,hP⟩:=rF (α:=Aw) (n:=xs.length) (P:=fun i x=>w.rangeAt b (o+i*6) (awV x)∧gh w x) (fun i hi=>by
   obtain ⟨g0,g1,g2,g3,g4,g5,_⟩:=hx i _ (List.getElem?_eq_getElem hi);obtain ⟨v1,es,e0,e1,e2,e3⟩:=zL g1;obtain ⟨Y,yc,m0,m1,m2,m3,m4⟩:=CK g5;obtain ⟨A1,c1,hv,_⟩:=e1;subst hv;exact ⟨⟨_,A1,c1,es,_,_,_,Y,yc,_⟩,AU (a:=o+i*6) g0.1 e0 g2 g3.1 g4.1 m0,⟨A1,c1,rfl,by assumption⟩,e2,(show es.length≤140737488351232 by omega),bounds_i64 g3.2,bounds_i64 g4.2,m1,m2,Nat.le_trans (Nat.le_mul_of_pos_right _ (by decide)) m3,m4⟩)
  refine ⟨A,cap,L,by rw [h0,hL],fun _=>⟨b,o,hA,fun i hi=>(hP i hi).1⟩,fun f hf=>?_,by omega⟩;obtain ⟨i,hi,rfl⟩:=List.getElem_of_mem hf;exact (hP i hi).2
theorem gh.from_ {w w':World} {x:Aw} (h:gh w x) (hF:ag w w'):gh w' x:=⟨h.le.from_ hF,h.eok,h.ll,h.ib,h.tb,h.ry.from_ hF,h.fy,h.ly,h.cy⟩
structure wx (w:World) (A:Option Addr) (m:Nat) (L:List Aw):Prop where
 rowL:gH 6 awV w A L
 okL:∀ x∈L,gh w x
 lenL:L.length≤140737488351232
 lenM:m≤140737488351232
theorem wx.from_ {w w':World} {A:Option Addr} {m:Nat} {L:List Aw} (h:wx w A m L) (hF:ag w w'):wx w' A m L:=⟨h.rowL.from_ hF,fun x hx=>(h.okL x hx).from_ hF,h.lenL,h.lenM⟩
theorem yy {w:World} {cs:Array Value} {x:y8.den} (hs:cs.size=2) (h:y8.At w (fun j=>cs[j]?) x) :
 ∃ (A B:Option Addr) (ca cb m:Nat) (L:List Aw),cs=#[.slice A L.length ca,.slice B m cb]∧wx w A m L:=by
 obtain ⟨h1,h2,_⟩:=h;obtain ⟨A,ca,L,a0,a1,a2,a3⟩:=Ab h1;obtain ⟨B,cb,b0,_,_,b3,_⟩:=CK h2;have e0:cs[0]? =some _:=a0;have e1:cs[1]? =some _:=b0;refine ⟨A,B,ca,cb,_,L,?_,⟨a1,a2,a3,Nat.le_trans (Nat.le_mul_of_pos_right _ (by decide)) b3⟩⟩;obtain ⟨l⟩:=cs
 match l,hs with
 |[a,b],_=>
  simp only [List.getElem?_toArray,List.getElem?_cons_zero,List.getElem?_cons_succ,Option.some.injEq] at e0 e1;rw [e0,e1]
def tK:List Ent→Int→Nat→Int
 |_,t,0=>t
 |[],t,_+1=>t
 |e::r,t,k+1=>tK r (max t (min e.t 100)) k
def goE:List Ent→Int→Int→List Ent
 |[],_,_=>[]
 |e::r,p,t=>⟨p+1,max t (min e.t 100),e.d⟩::goE r (p+1) (max t (min e.t 100))
theorem je:∀ (ls:List Ent) (p t:Int),(goE ls p t).length=ls.length
 |[],_,_=>rfl
 |_::r,p,t=>by simp [goE,je r]
theorem ub:∀ (ls:List Ent) (t:Int) (k:Nat) (h:k<ls.length),tK ls t (k+1)=max (tK ls t k) (min ls[k].t 100)
 |e::r,t,0,_=>by
  show tK r (max t (min e.t 100)) 0=max t (min e.t 100);cases r <;> rfl
 |e::r,t,k+1,h=>ub r (max t (min e.t 100)) k (by simpa using h)
theorem xX:∀ (ls:List Ent) (p t:Int) (k:Nat) (h:k<ls.length) (h':k<(goE ls p t).length),(goE ls p t)[k]=⟨p+1+(k:Int),tK ls t (k+1),ls[k].d⟩
 |e::r,p,t,0,_,_=>by
  show (⟨p+1,max t (min e.t 100),e.d⟩:Ent)=⟨p+1+((0:Nat):Int),tK r (max t (min e.t 100)) 0,e.d⟩;have:tK r (max t (min e.t 100)) 0=max t (min e.t 100):=by cases r <;> rfl
  rw [this];simp
 |e::r,p,t,k+1,h,h'=>by
  have:=xX r (p+1) (max t (min e.t 100)) k (by simpa using h) (by simpa [goE] using h');show (goE r (p+1) (max t (min e.t 100)))[k]'_=_;rw [this];show (⟨p+1+1+(k:Int),_,_⟩:Ent)=⟨p+1+((k+1:Nat):Int),_,_⟩;rw [show p+1+1+(k:Int)=p+1+((k+1:Nat):Int) by omega];rfl
def rK (ls:List Ent) (p t:Int) (k:Nat):List Ent:=(goE ls p t).take k++ls.drop k
theorem AW (ls:List Ent) (p t:Int) (k:Nat) (hk:k≤ls.length):(rK ls p t k).length=ls.length:=by
 unfold rK;rw [List.length_append,List.length_take,List.length_drop,je];omega
theorem AX {ls:List Ent} {p t:Int} {k:Nat} (hk:k<ls.length) (h':k<(rK ls p t k).length):(rK ls p t k)[k]=ls[k]:=by
 have e:(rK ls p t k)[k]? =ls[k]? :=by
  unfold rK;rw [List.getElem?_append_right (by rw [List.length_take,je];omega),List.length_take,je,Nat.min_eq_left (Nat.le_of_lt hk),Nat.sub_self,List.getElem?_drop,Nat.add_zero]
 rw [List.getElem?_eq_getElem h',List.getElem?_eq_getElem hk] at e;exact Option.some.inj e
theorem AV {ls:List Ent} {p t:Int} {k:Nat} (hk:k<ls.length):(rK ls p t k).set k ⟨p+1+(k:Int),tK ls t (k+1),ls[k].d⟩=rK ls p t (k+1):=by
 have hl:=je ls p t;unfold rK;rw [List.set_append_right _ _ (by rw [List.length_take];omega),List.length_take,hl,Nat.min_eq_left (Nat.le_of_lt hk),Nat.sub_self,List.drop_eq_getElem_cons hk,List.set_cons_zero,List.take_succ_eq_append_getElem (by omega),xX ls p t k hk (by omega),List.append_assoc];rfl
theorem vL {xs:List Ent} {k:Nat} (hk:k<xs.length) (a b:Int):((bJ xs).set (k*3) (.int .i64 a)).set (k*3+1) (.int .i64 b)=bJ (xs.set k ⟨a,b,xs[k].d⟩):=by
 have hl:(bJ (xs.take k)).length=k*3:=by rw [cN,List.length_take];congr 1;omega
 have h1:bJ xs=bJ (xs.take k)++(.int .i64 xs[k].i::.int .i64 xs[k].t::.string xs[k].d::bJ (xs.drop (k+1))):=by
  have h2:xs=xs.take k++(xs[k]::xs.drop (k+1)):=by rw [←List.drop_eq_getElem_cons hk,List.take_append_drop]
  exact (congrArg bJ h2).trans (dz _ _)
 have h3:xs.set k ⟨a,b,xs[k].d⟩=xs.take k++(⟨a,b,xs[k].d⟩::xs.drop (k+1)):=List.set_eq_take_append_cons_drop.trans (if_pos hk);rw [h3,dz,h1,List.set_append_right _ _ (by omega),List.set_append_right _ _ (by omega),hl];simp only [Nat.sub_self,Nat.add_sub_cancel_left,List.set_cons_zero,List.set_cons_succ];rfl
def cL (x:Aw) (L:Lg):List Ent:=if x.on then goE x.ls (lL L).1 (lL L).2 else x.ls
theorem jP (x:Aw) (L:Lg):(cL x L).length=x.ls.length:=by unfold cL;split;exact je _ _ _;rfl
theorem Bv:∀ {ls:List Ent} {t:Int},(0≤t∧t<1099511627776)→∀ k,0≤tK ls t k∧tK ls t k<1099511627776
 |[],t,ht,0=>ht
 |[],t,ht,_+1=>ht
 |_::_,t,ht,0=>ht
 |e::r,t,ht,k+1=>Bv (ls:=r) (t:=max t (min e.t 100)) (by omega) k
theorem vn {w:World} {base e n c g:Nat} {xs:List Ent} {k:Nat} {u:Value} {z:Ent} (h:w.ownsRow base e 3 (.slice (some ⟨g,0,none⟩) n c) n ((bJ xs).set (k*3) u)) (hk:k<xs.length) (hz:xs[k]=z):w.cell? ⟨g,k*3+1,none⟩=some (.int .i64 z.t):=by
 have hl:=h.1;rw [List.length_set,cN] at hl;rw [h.cellAt (k*3+1) (by omega),List.getElem?_set_ne (by omega),(n3 xs k hk).2.1,hz]
theorem pX (b t:Int) (es:List Ent):bo b t es=(dH b es,iu t es):=by unfold bo dH iu;split <;> simp_all
theorem et (L:Lg) (A:Option Addr) (n c:Nat) (w:World) (h:bm w (.slice A n c) L.es) :
 Rt prog 28 [.agg (lgV L.b L.t A n c).toArray] w fun v w'=>v=.tuple #[.int .i64 (lL L).1,.int .i64 (lL L).2]∧ag w w':=
 Rt.mono (Rt.of (jG L.b L.t _ L.es w h)) fun v w' h=>⟨by rw [h.1];show _=Value.tuple #[.int .i64 (bo L.b L.t L.es).1,.int .i64 (bo L.b L.t L.es).2];rw [pX],h.2⟩
theorem yp (A:Option Addr) (n c:Nat) (xs:List Ent) (w:World) (h:bm w (.slice A n c) xs) (_:xs.length≤400000000000000) (hl2:xs.length≤400000000000) :
 Rt prog 55 [.slice A n c] w fun v w'=>(∃ A' c',v=.slice A' xs.length c'∧w'.ownsRow w.heap.size 49 3 (.slice A' xs.length c') xs.length (bJ xs))∧ag w w':=
 (mw A n c xs w h hl2).mono fun _ _ ⟨A',c',h1,h2,_,h3⟩=>⟨⟨A',c',h1,h2⟩,h3⟩
theorem kF (x:Aw) (L:Lg) (E:Option Addr) (c n:Nat) (w:World) (hx:gh w x) (hxl:x.ls.length≤1000000) (hL:dh L) (hE:bm w (.slice E n c) L.es) :
 Rt prog 33 [.agg (awV x).toArray,.agg (lgV L.b L.t E n c).toArray] w (fun v w'=>(∃ A' c',v=.slice A' x.ls.length c'∧w'.ownsRow w.heap.size 49 3 (.slice A' x.ls.length c') x.ls.length (bJ (cL x L)))∧ag w w'):=by
 have hf:=hL.f;have hfb:=hf.b;have hfn:=hf.n;have hfl:=hf.l;have hfl2:=hf.l2;have htb:∀ k,-9223372036854775808≤tK x.ls (lL L).2 k∧tK x.ls (lL L).2 k≤9223372036854775807:=fun k=>by have:=Bv (ls:=x.ls) hfl2 k;omega
 refine enter (n:=49) Tryz.func33 rfl rfl rfl (af (ab (bu (v:=.agg _) rfl ?_)));intro b2 w1 E2 hb2 hk2;refine bu (v:=.agg _) rfl ?_;intro b3 w2 E3 hb3 hk3;replace hk2:=hk2.from_ E3;refine ass rfl (ah (ae (af (ab (aa (ai jv rfl) (aa (ao bC rfl (by exact (hk2.from_ ag.rfl_).rd 1 rfl)) ?_))))));have hM11:ag _ w2:=ag.rfl_;have hz11:=(((ag.rfl_.next E2).next E3)).size;refine av lG (yp x.A x.ls.length x.ac x.ls _ (hx.le.from_ ((ag.rfl_.next E2).next E3)) (by omega) (by omega)) ?_;rintro v11 w3 ⟨⟨A5,c5,rfl,ho11a⟩,E11⟩;have ho11:=dI ho11a hz11;replace hk3:=hk3.from_ (hM11.next E11);replace hk2:=hk2.from_ (hM11.next E11);refine ass rfl (ah (ae (af (af (ab (aa (ai qK rfl) (aa (ao di rfl (by exact (hk2.from_ ag.rfl_).rd 2 rfl)) ?_)))))));refine aa (bG rfl) (ah (ae (BK rfl (fun Q4=>?_) (fun Q4=>?_))))
 ·have hon:x.on=false:=by simpa using Q4
  refine af (ab (mvs rfl (ass rfl (ah (ae (aC (aF (bz (v:=.slice _ _ _) rfl rfl ?_))))))));have he:cL x L=x.ls:=by unfold cL;rw [hon];rfl
  rw [he];exact ⟨⟨A5,c5,rfl,ho11.kept_from ag.rfl_⟩,(((ag.rfl_.next E2).next E3).next E11)⟩
 have hon:x.on=true:=by simpa using Q4
 refine aE (ae (af (ab (aa (aG (cs:=lgV L.b L.t E n c) az aq rfl ((hk3.from_ ag.rfl_).whole)) (av ez (et L E n c _ (hE.from_ (((ag.rfl_.next E2).next E3).next E11))) ?_)))));rintro v18 w5 ⟨rfl,E18⟩;refine mvt rfl (aa (ar rfl rfl) (aa (ar rfl rfl) (asi rfl (asi rfl (ah (ae (af (af (ab (asi rfl (ah (ae (aP ?_)))))))))))));refine cH (G:=Nat) [21,22,23,24,25,26,27,28,29,30,31,32,33,34,35,36,37,38,39,40,41,42,43,44,45,46,47] (fun k=>[(7,.int .i64 (tK x.ls (lL L).2 k)),(8,.int .i64 (k:Nat))]) (fun k w'=>k≤x.ls.length∧w'.ownsRow w.heap.size 49 3 (.slice A5 x.ls.length c5) x.ls.length (bJ (rK x.ls (lL L).1 (lL L).2 k))∧ag w w') (fun k=>x.ls.length-k) (0) ⟨(by cases x.ls <;> rfl),rfl,trivial⟩ ?_ ?_
 ·exact ⟨Nat.zero_le _,by rw [show rK x.ls (lL L).1 (lL L).2 0=x.ls from rfl];exact ho11.kept_from (ag.rfl_.next E18),((((ag.rfl_.next E2).next E3).next E11).next E18)⟩
 rintro k ρ6 w6 ⟨hk,ho,hB⟩;refine af (af (ab (mvi rfl (mvs rfl (aa (bb cj rfl) (aa (cl rfl rfl) (ah (ae (BM rfl (fun Q7=>?_) (fun Q7=>?_))))))))))
 ·have hkl:k<x.ls.length:=by omega
  obtain ⟨g5,cur5,hA5,hg5,_⟩:=ka ho (by omega);subst hA5;have hkl2:k<(rK x.ls (lL L).1 (lL L).2 k).length:=by rw [AW _ _ _ _ hk];exact hkl
  have hrg:=AX (p:=(lL L).1) (t:=(lL L).2) hkl hkl2;have htk:=ub x.ls (lL L).2 k hkl;have heo:=hx.eok _ (List.getElem_mem hkl);unfold Ent.Ok at heo;have htbk:=htb k;have htbk1:=htb (k+1);have hrk:(⟨(lL L).1+1+(k:Int),tK x.ls (lL L).2 (k+1),(rK x.ls (lL L).1 (lL L).2 k)[k].d⟩:Ent)=⟨(lL L).1+1+(k:Int),tK x.ls (lL L).2 (k+1),x.ls[k].d⟩:=by rw [hrg]
  refine aE (ae (af (aP (af (ab (mvs rfl (mvi rfl (mvi rfl (aa (br rfl rfl (by omega)) (mvi rfl (aa (br rfl rfl (by omega)) (aa (bH (v':=.pointer (some ⟨g5,k*3,none⟩)) (bf cM rfl rfl (by omega)) (by rw [Nat.zero_add])) ?_))))))))))));refine aa (ai ft rfl) ?_;have hM8:ag _ w6:=ag.rfl_;refine kA (base:=w.heap.size) en rfl rfl rfl (ho.kept_from hM8) (by omega) ?_;intro w8 O8 ho8;refine ah (ae (af (ab (mvi rfl (mvs rfl (mvi rfl (aa (bH (v':=.pointer (some ⟨g5,k*3,none⟩)) (bf cM rfl rfl (by omega)) (by rw [Nat.zero_add])) ?_)))))));refine aa (ai dK rfl) (aa (ao (v:=.int .i64 x.ls[k].t) aD rfl (vn ho8 hkl2 hrg)) (aa (xc rfl rfl) (aa (p_ rfl rfl) (asi rfl (ah (ae (ab (mvs rfl (mvi rfl (mvi rfl ?_))))))))));refine aa (bH (v':=.pointer (some ⟨g5,k*3,none⟩)) (bf cM rfl rfl (by omega)) (by rw [Nat.zero_add])) ?_;refine aa (ai dK rfl) ?_;have hM10:ag _ w8:=ag.rfl_;refine kA (base:=w.heap.size) en rfl rfl rfl (ho8.kept_from hM10) (by omega) ?_;intro w9 O10 ho10;refine ah (bI (ae (ab (mvi rfl (aa (br rfl rfl (by omega)) (asi rfl (ah ?_)))))));refine bW (k+1) ⟨(bD htk.symm),(by first | rfl | (refine bD ?_;omega)),trivial⟩ (by (iterate 58 refine bg rfl ?_);exact bw) ⟨?_,?_⟩
  ·refine ⟨by omega,?_,((hB.only O8 hg5).only O10 hg5)⟩;rw [←AV hkl,←hrk,←vL hkl2];rw [htk];exact ho10.kept_from ag.rfl_
  ·show x.ls.length-(k+1)<x.ls.length-k;omega
 refine cx (bc (bc (bX (ae (af (ab (mvs rfl (ass rfl (ah (ae (aC (bz (v:=.slice _ _ _) rfl rfl ?_))))))))))))
 have he:cL x L=rK x.ls (lL L).1 (lL L).2 x.ls.length:=by
  unfold cL rK;rw [if_pos hon,List.take_of_length_le (by rw [je];exact Nat.le_refl _),List.drop_of_length_le (Nat.le_refl _),List.append_nil]
 obtain rfl:k=x.ls.length:=by omega
 rw [he];exact ⟨⟨A5,c5,rfl,ho⟩,hB⟩
theorem fL:fK prog 38=some true:=by kernel_rfl
theorem e_:cS prog 38=some 6:=by kernel_rfl
theorem cE:ch prog 38 0=some 0:=by kernel_rfl
theorem db:aH prog 14=true:=by kernel_rfl
theorem cc:ch prog 38 3=some 3:=by kernel_rfl
theorem tL:aH prog 29=true:=by kernel_rfl
theorem dL:ch prog 38 4=some 4:=by kernel_rfl
theorem oB:aH prog 31=true:=by kernel_rfl
theorem jV:∀ (a0:Int) (a1:Int),prog.built 36 [(0,.int .i64 a0),(1,.int .i64 a1)]=some #[.int .i64 a0,.int .i64 a1,.slice none 0 0]:=by intros;kernel_rfl
theorem kM:aH prog 33=true:=by kernel_rfl
theorem oA:aH prog 32=true:=by kernel_rfl
def wiN (i:Int) (n:Nat):Nat:=(IntKind.u64.wrap i).toNat%n
inductive Nxt (L:Lg) (x:Aw):Lg→Int→Prop
 |cut (k:Nat) (hm:wiN x.d 8=4) (hi:x.i=L.b+(k:Int)) (hk:k≤L.es.length):Nxt L x ⟨L.b,L.t,L.es.take k⟩ 0
 |cutNo (hm:wiN x.d 8=4) (hno:¬ (L.b≤x.i∧x.i≤L.b+(L.es.length:Int))):Nxt L x L 1
 |drop (hm:wiN x.d 8=5) (h:mh L x.i x.t):Nxt L x (eC L x.i x.t) 0
 |dropNo (hm:wiN x.d 8=5) (h:¬ mh L x.i x.t):Nxt L x L 1
 |sync (hm:wiN x.d 8=6∨wiN x.d 8=7):Nxt L x L 0
 |app (hm:wiN x.d 8<4) (hr:cG (cL x L) (bo L.b L.t L.es).1 (bo L.b L.t L.es).2=true) (hl:L.es.length+(cL x L).length≤512):Nxt L x ⟨L.b,L.t,L.es++cL x L⟩ 0
 |full (hm:wiN x.d 8<4) (hr:cG (cL x L) (bo L.b L.t L.es).1 (bo L.b L.t L.es).2=true) (hl:512<L.es.length+(cL x L).length):Nxt L x L 6
 |appNo (hm:wiN x.d 8<4) (hr:cG (cL x L) (bo L.b L.t L.es).1 (bo L.b L.t L.es).2=false):Nxt L x L 1
theorem Nxt.ok {L M:Lg} {x:Aw} {e:Int} (h:Nxt L x M e) (hL:dh L):dh M:=by
 cases h with
 |cut k hm hi hk=>
  have:=hL.f.b;exact (Ap.cut L (qw x.i) k rfl hk (show ((x.i.toNat:Nat):Int)=L.b+(k:Int) by omega)).ok hL
 |cutNo _ _=>exact hL
 |drop _ h=>exact (n8 hL h).1.ok hL
 |dropNo _ _=>exact hL
 |sync _=>exact hL
 |app _ hr hl=>exact (cI.ents _ hL hr hl).okL hL
 |full _ _ _=>exact hL
 |appNo _ _=>exact hL
theorem pj (L:Lg) (i:Int) (A:Option Addr) (n c:Nat) (w:World) (hL:dh L) (h:bm w (.slice A n c) L.es) :
 Rt prog 30 [.agg (lgV L.b L.t A n c).toArray,.int .i64 i] w fun v w'=>(∃ tv,v=.tuple #[.int .i64 tv,.bool (decide (L.b≤i∧i≤L.b+(L.es.length:Int)))]∧∀ (k:Nat) (hk:k<L.es.length),i=L.b+(k:Int)+1→tv=L.es[k].t)∧ag w w':=by
 have hl:=(lk hL.1).1;refine Rt.mono (Rt.of (mo L.b L.t i _ L.es w h hL.1)) fun v w' h=>⟨?_,h.2⟩
 rw [h.1];unfold k9;rw [hl];by_cases hi:L.b≤i∧i≤L.b+(L.es.length:Int)
 ·rw [if_pos hi,decide_eq_true hi];refine ⟨_,rfl,fun k hk hik=>?_⟩;unfold jD;rw [if_neg (by omega),show (i-L.b-1).toNat=k by omega,List.getElem?_eq_getElem hk]
 ·rw [if_neg hi,decide_eq_false hi];exact ⟨0,rfl,fun k hk hik=>absurd ⟨by omega,by omega⟩ hi⟩
theorem wE (L:Lg) {i:Int} {k:Nat} (hk:k<L.es.length) (hik:i=L.b+(k:Int)+1):jD L.b L.t L.es i=L.es[k].t:=by
 unfold jD;rw [if_neg (by omega),show (i-L.b-1).toNat=k by omega,List.getElem?_eq_getElem hk]
theorem uJ {L:Lg} {i tm tv:Int} (htv:∀ (k:Nat) (hk:k<L.es.length),i=L.b+(k:Int)+1→tv=L.es[k].t) (h0:okD L.b L.t i tm) (h:¬ (L.b≤i∧i≤L.b+(L.es.length:Int))∨tv=tm):mh L i tm:=by
 refine ⟨h0,?_⟩;unfold okD at h0;by_cases hle:i≤L.b+(L.es.length:Int)
 ·have hk:(i-L.b-1).toNat<L.es.length:=by omega
  have h1:=htv _ hk (by omega);exact .inr ⟨_,hk,by omega,by rw [←h1];omega⟩
 ·exact .inl (by omega)
theorem zZ {L:Lg} {i tm tv:Int} (htv:∀ (k:Nat) (hk:k<L.es.length),i=L.b+(k:Int)+1→tv=L.es[k].t) (h:mh L i tm) (hle:i≤L.b+(L.es.length:Int)):tv=tm:=by
 obtain ⟨_,h | ⟨k,hk,hik,hkt⟩⟩:=h
 ·omega
 ·rw [htv k hk hik,hkt]
theorem rT {L:Lg} {i tm:Int} (h:mh L i tm) (hle:i≤L.b+(L.es.length:Int)):eC L i tm=⟨i,tm,L.es.drop (i-L.b).toNat⟩∧jD L.b L.t L.es i=tm:=by
 refine ⟨by unfold eC;rw [if_neg (by omega)],?_⟩;obtain ⟨_,h | ⟨k,hk,hik,hkt⟩⟩:=h
 ·omega
 ·rw [wE L hk hik,hkt]
theorem xi (L:Lg) (A A':Option Addr) (n c m d:Nat) (ys:List Ent) (w:World) (hL:dh L) (h:bm w (.slice A n c) L.es) (hu:bm w (.slice A' m d) ys) (hy:ys.length≤400000000000) (hr:cG ys (bo L.b L.t L.es).1 (bo L.b L.t L.es).2=true) (hl:L.es.length+ys.length≤512) :
 Rt prog 32 [.agg (lgV L.b L.t A n c).toArray,.slice A' m d] w fun v w'=>(∃ A2 k c2,v=.tuple #[.agg (lgV L.b L.t A2 k c2).toArray,.int .i64 0]∧w'.ownsRow w.heap.size 49 3 (.slice A2 k c2) k (bJ (L.es++ys)))∧ag w w':=by
 rw [pX] at hr;have he:mC L.b L.t L.es ys=0:=by unfold mC;rw [if_pos hL.1,if_pos hr,if_pos hl]
 refine (k_ L.b L.t A A' n c m d L.es ys w h hu hL.1 hy).mono fun v w' ⟨X,Y,A2,k,c2,h1,h2,h3⟩=>⟨?_,h3⟩
 rw [he] at h1 h2;have hX:=h2.x;have hY:=h2.y;have ho:=h2.own;rw [if_pos rfl] at hX hY ho;subst hX;subst hY;exact ⟨A2,k,c2,h1,ho⟩
theorem vi (L:Lg) (A A':Option Addr) (n c m d:Nat) (ys:List Ent) (e:Int) (w:World) (hL:dh L) (h:bm w (.slice A n c) L.es) (hu:bm w (.slice A' m d) ys) (hy:ys.length≤400000000000) (he:(cG ys (bo L.b L.t L.es).1 (bo L.b L.t L.es).2=false∧e=1)∨(cG ys (bo L.b L.t L.es).1 (bo L.b L.t L.es).2=true∧512<L.es.length+ys.length∧e=6)) :
 Rt prog 32 [.agg (lgV L.b L.t A n c).toArray,.slice A' m d] w fun v w'=>(∃ X Y A2 k c2,v=.tuple #[.agg (lgV X Y A2 k c2).toArray,.int .i64 e])∧ag w w':=by
 rw [pX] at he
 have he:mC L.b L.t L.es ys=e:=by
  unfold mC;rw [if_pos hL.1];rcases he with ⟨h1,rfl⟩ | ⟨h1,h2,rfl⟩
  ·simp only at h1;rw [h1];rfl
  ·rw [if_pos h1,if_neg (by omega)]
 refine (k_ L.b L.t A A' n c m d L.es ys w h hu hL.1 hy).mono fun v w' ⟨X,Y,A2,k,c2,h1,_,h3⟩=>⟨?_,h3⟩
 rw [he] at h1;exact ⟨X,Y,A2,k,c2,h1⟩
theorem dW (i:Int) (n:Nat) (w:World) (hn:0<n∧n≤1000) :
 Rt prog 14 [.int .i64 i,.int .i64 (n:Nat)] w (fun v w'=>v=.int .i64 (wiN i n:Nat)∧w=w'):=by
 obtain ⟨a,ha,ha2⟩:∃ a:Nat,IntKind.u64.wrap i=(a:Int)∧a<18446744073709551616:=⟨(IntKind.u64.wrap i).toNat,by rw [IntKind.wrap_u64];omega,by rw [IntKind.wrap_u64];omega⟩;have hm:a%n<n:=Nat.mod_lt _ hn.1;have hwi:wiN i n=a%n:=by unfold wiN;rw [ha];rfl
 refine enter (n:=11) Tryz.func14 rfl rfl rfl (af (ab (asi rfl (ah (ae (af (ab (mvi rfl (aa (ui lI mf rfl) (iI (t:=6) (v:=.int _ _) (v':=.int .u64 (a:Nat)) rfl (by rw [ha]) ?_))))))))));refine mvi rfl (aa (pg lI mf rfl (by omega)) (aa (w_ rfl rfl (by omega)) ?_));refine iI (t:=9) (v:=.int _ _) (v':=.int .u64 ((a%n:Nat):Int)) rfl (by rw [Int.tmod_eq_emod_of_nonneg (by omega)];rfl) ?_;refine aa (jE pQ jZ rfl (by omega)) (asi rfl (ah (ae (aC (bz (v:=.int _ _) rfl rfl ?_)))));rw [hwi];exact ⟨rfl,rfl⟩
theorem s6 (L:Lg) (x:Aw) (E:Option Addr) (c:Nat) (w:World) (hL:dh L) (hx:gh w x) (_:x.ls.length≤1000000) (hE:bm w (.slice E L.es.length c) L.es) (hm:wiN x.d 8=4) (hno:¬ (L.b≤x.i∧x.i≤L.b+(L.es.length:Int))) :
 Rt prog 9 [.agg (lgV L.b L.t E L.es.length c).toArray,.agg (awV x).toArray] w (fun v w'=>(∃ E' n' c',v=.tuple #[.agg (lgV L.b L.t E' n' c').toArray,.int .i64 1]∧bm w' (.slice E' n' c') L.es∧∀ q,E'.map (·.block)=some q→E.map (·.block)=some q∨(w.heap.size≤q∧q<w'.heap.size))∧ag w w'):=by
 have hf:=hL.f;have hfb:=hf.b;have hfn:=hf.n;have hfl:=hf.l;have hxi:=hx.ib;have hxt:=hx.tb;refine enter (n:=106) Tryz.func9 rfl rfl rfl (af (ab (bu (v:=.agg _) rfl ?_)));intro b2 w1 E2 hb2 hk2;have hg2:w.heap.size≤b2:=by rw [hb2];exact (ag.rfl_).size
 refine bu (v:=.agg _) rfl ?_;intro b3 w2 E3 hb3 hk3;have h23:b2≠b3:=by have:=hk2.lt;omega
 replace hk2:=hk2.from_ E3;refine aZ bA ?_;intro b4 w3 E4 hb4 hk4;replace hk2:=hk2.from_ E4;replace hk3:=hk3.from_ E4;have hg4:w.heap.size≤b4:=by rw [hb4];exact (((ag.rfl_.next E2).next E3)).size
 refine asi rfl (ah (ae (af (ab (aa (aG (cs:=lgV L.b L.t E L.es.length c) az aq rfl ((hk2.from_ ag.rfl_).whole)) (av ez (et L E L.es.length c _ (hE.from_ (((ag.rfl_.next E2).next E3).next E4))) ?_))))));rintro v14 w4 ⟨rfl,E14⟩;refine mvt rfl (aa (ar rfl rfl) (aa (ar rfl rfl) (asi rfl (asi rfl (ah (ae (af (af (ab (aa (ai cE rfl) (aa (ao aD rfl (by exact (hk3.from_ (ag.rfl_.next E14)).rd 0 rfl)) ?_)))))))))));refine av db (dW x.d 8 _ (by decide)) ?_;rintro v19 w5 ⟨rfl,rfl⟩;have hB19:ag w w4:=((((ag.rfl_.next E2).next E3).next E4).next E14);have hs17:=hB19.size;have hM19:ag _ w4:=(ag.rfl_.next E14);have hs19:=hM19.size;refine ah (ae (aP (af (ab (aa (cU (a7 rfl rfl) (by rw [hm];rfl)) ?_)))));refine asb rfl (ah (ae (aY rfl (af (af (ab (aa (ai cc rfl) (aa (ao aD rfl (by exact (hk3.from_ (ag.rfl_.next E14)).rd 3 rfl)) ?_))))))));refine aa (ai cC rfl) (aa (ao aD rfl (by exact (hk2.from_ (ag.rfl_.next E14)).rd 0 rfl)) ?_);refine aa (cl rfl rfl) (mvb rfl (Bs (t:=27) rfl (fun Q6=>?_) (fun Q6=>?_)))
 ·refine aA rfl rfl (aA rfl rfl (aA rfl rfl (aA rfl rfl (aa (aO (v:=.bool _) rfl rfl) (ah (ae (aY rfl (af (ab (aa (aG (cs:=lgV L.b L.t E L.es.length c) az aq rfl ((hk2.from_ (ag.rfl_.next E14)).whole)) ?_))))))))));refine aV (vs:=[_,_,_]) aq rfl rfl (by simp [Value.oneCell']) ((hk4.from_ (ag.rfl_.next E14))) rfl ?_;intro w7 O5 P5;refine asi rfl (ah (ae (aC (aF (aW (aF (dN rfl (bx (cs:=[_,_,_]) az aq rfl (by first | exact P5.whole | exact P6.whole)) (cD (v:=.int _ _) rfl) ?_)))))));exact ⟨⟨E,L.es.length,c,rfl,hE.from_ (((((ag.rfl_.next E2).next E3).next E4).next E14).only O5 (hg4)),fun q hq=>.inl hq⟩,(((((ag.rfl_.next E2).next E3).next E4).next E14).only O5 (hg4))⟩
 refine ak rfl (aa (ai cc rfl) (ak rfl (aa (ao aD rfl (by exact (hk3.from_ (ag.rfl_.next E14)).rd 3 rfl)) ?_)));refine ak rfl (mvi rfl (ak rfl (aa (cn rfl rfl) (aa (aQ (v:=.bool _) rfl rfl) (ah (ae (BM rfl (fun Q8=>?_) (fun Q8=>?_))))))));rotate_left
 ·exfalso;omega
 refine af (ab (aa (aG (cs:=lgV L.b L.t E L.es.length c) az aq rfl ((hk2.from_ (ag.rfl_.next E14)).whole)) (aV (vs:=[_,_,_]) aq rfl rfl (by simp [Value.oneCell']) ((hk4.from_ (ag.rfl_.next E14))) rfl ?_)));intro w11 O5 P5;refine asi rfl (ah (ae (aC (aF (aW (aF (dN rfl (bx (cs:=[_,_,_]) az aq rfl (by first | exact P5.whole | exact P6.whole)) (cD (v:=.int _ _) rfl) ?_)))))));exact ⟨⟨E,L.es.length,c,rfl,hE.from_ (((((ag.rfl_.next E2).next E3).next E4).next E14).only O5 (hg4)),fun q hq=>.inl hq⟩,(((((ag.rfl_.next E2).next E3).next E4).next E14).only O5 (hg4))⟩
theorem xz (L:Lg) (x:Aw) (E:Option Addr) (c:Nat) (w:World) (hL:dh L) (hx:gh w x) (_:x.ls.length≤1000000) (hE:bm w (.slice E L.es.length c) L.es) (k:Nat) (hm:wiN x.d 8=4) (hi:x.i=L.b+(k:Int)) (hk:k≤L.es.length) :
 Rt prog 9 [.agg (lgV L.b L.t E L.es.length c).toArray,.agg (awV x).toArray] w (fun v w'=>(∃ E' n' c',v=.tuple #[.agg (lgV (⟨L.b,L.t,L.es.take k⟩:Lg).b (⟨L.b,L.t,L.es.take k⟩:Lg).t E' n' c').toArray,.int .i64 0]∧bm w' (.slice E' n' c') (⟨L.b,L.t,L.es.take k⟩:Lg).es∧∀ q,E'.map (·.block)=some q→E.map (·.block)=some q∨(w.heap.size≤q∧q<w'.heap.size))∧ag w w'):=by
 have hf:=hL.f;have hfb:=hf.b;have hfn:=hf.n;have hfl:=hf.l;have hxi:=hx.ib;have hxt:=hx.tb;refine enter (n:=106) Tryz.func9 rfl rfl rfl (af (ab (bu (v:=.agg _) rfl ?_)));intro b2 w1 E2 hb2 hk2;have hg2:w.heap.size≤b2:=by rw [hb2];exact (ag.rfl_).size
 refine bu (v:=.agg _) rfl ?_;intro b3 w2 E3 hb3 hk3;have h23:b2≠b3:=by have:=hk2.lt;omega
 replace hk2:=hk2.from_ E3;refine aZ bA ?_;intro b4 w3 E4 hb4 hk4;replace hk2:=hk2.from_ E4;replace hk3:=hk3.from_ E4;have hg4:w.heap.size≤b4:=by rw [hb4];exact (((ag.rfl_.next E2).next E3)).size
 refine asi rfl (ah (ae (af (ab (aa (aG (cs:=lgV L.b L.t E L.es.length c) az aq rfl ((hk2.from_ ag.rfl_).whole)) (av ez (et L E L.es.length c _ (hE.from_ (((ag.rfl_.next E2).next E3).next E4))) ?_))))));rintro v14 w4 ⟨rfl,E14⟩;refine mvt rfl (aa (ar rfl rfl) (aa (ar rfl rfl) (asi rfl (asi rfl (ah (ae (af (af (ab (aa (ai cE rfl) (aa (ao aD rfl (by exact (hk3.from_ (ag.rfl_.next E14)).rd 0 rfl)) ?_)))))))))));refine av db (dW x.d 8 _ (by decide)) ?_;rintro v19 w5 ⟨rfl,rfl⟩;have hB19:ag w w4:=((((ag.rfl_.next E2).next E3).next E4).next E14);have hs17:=hB19.size;have hM19:ag _ w4:=(ag.rfl_.next E14);have hs19:=hM19.size;refine ah (ae (aP (af (ab (aa (cU (a7 rfl rfl) (by rw [hm];rfl)) ?_)))));refine asb rfl (ah (ae (aY rfl (af (af (ab (aa (ai cc rfl) (aa (ao aD rfl (by exact (hk3.from_ (ag.rfl_.next E14)).rd 3 rfl)) ?_))))))));refine aa (ai cC rfl) (aa (ao aD rfl (by exact (hk2.from_ (ag.rfl_.next E14)).rd 0 rfl)) ?_);refine aa (cl rfl rfl) (mvb rfl (Bs (t:=27) rfl (fun Q6=>?_) (fun Q6=>?_)))
 ·exfalso;omega
 refine ak rfl (aa (ai cc rfl) (ak rfl (aa (ao aD rfl (by exact (hk3.from_ (ag.rfl_.next E14)).rd 3 rfl)) ?_)));refine ak rfl (mvi rfl (ak rfl (aa (cn rfl rfl) (aa (aQ (v:=.bool _) rfl rfl) (ah (ae (BM rfl (fun Q8=>?_) (fun Q8=>?_))))))))
 ·exfalso;omega
 refine aE (ae (af (ab (aa (aG (cs:=lgV L.b L.t E L.es.length c) az aq rfl ((hk2.from_ (ag.rfl_.next E14)).whole)) (aa (ai cc rfl) (aa (ao aD rfl (by exact (hk3.from_ (ag.rfl_.next E14)).rd 3 rfl)) ?_))))));have hz37:=(((((ag.rfl_.next E2).next E3).next E4).next E14)).size;have hM37:ag _ w4:=(ag.rfl_.next E14);refine av tL (vh L.b L.t x.i E c L.es _ (hE.from_ ((((ag.rfl_.next E2).next E3).next E4).next E14)) (by omega) hfb (by omega)) ?_;rintro v37 w10 ⟨A9,n9,c9,rfl,ho9,E37⟩;refine aV (vs:=[_,_,_]) aq rfl rfl (by simp [Value.oneCell']) ((hk4.from_ ((ag.rfl_.next E14).next E37))) rfl ?_;intro w11 O6 P6;have hx37:=(cJ.of_own ho9).le hz37;have hx6a:=hx37.only O6 (hk4.from_ (hM37.next E37)) (by decide)
 have hx6:dp w11 w.heap.size A9 n9 c9 (L.es.take k):=by
  have:=hx6a;rw [show (x.i-L.b).toNat=k by omega] at this;exact this
 refine asi rfl (ah (ae (aC (aW (aF (dN rfl (bx (cs:=[_,_,_]) az aq rfl (by first | exact P5.whole | exact P6.whole)) (cD (v:=.int _ _) rfl) ?_))))));have hx9:=hx6.from_ ag.rfl_;exact ⟨⟨A9,n9,c9,rfl,dp.ents hx9,fun q hq=>.inr (hx9.at_ q hq)⟩,((((((ag.rfl_.next E2).next E3).next E4).next E14).next E37).only O6 (hg4))⟩
theorem xx (L:Lg) (x:Aw) (E:Option Addr) (c:Nat) (w:World) (hL:dh L) (hx:gh w x) (_:x.ls.length≤1000000) (hE:bm w (.slice E L.es.length c) L.es) (hm:wiN x.d 8=6) :
 Rt prog 9 [.agg (lgV L.b L.t E L.es.length c).toArray,.agg (awV x).toArray] w (fun v w'=>(∃ E' n' c',v=.tuple #[.agg (lgV L.b L.t E' n' c').toArray,.int .i64 0]∧bm w' (.slice E' n' c') L.es∧∀ q,E'.map (·.block)=some q→E.map (·.block)=some q∨(w.heap.size≤q∧q<w'.heap.size))∧ag w w'):=by
 have hf:=hL.f;have hfb:=hf.b;have hfn:=hf.n;have hfl:=hf.l;have hxi:=hx.ib;have hxt:=hx.tb;refine enter (n:=106) Tryz.func9 rfl rfl rfl (af (ab (bu (v:=.agg _) rfl ?_)));intro b2 w1 E2 hb2 hk2;have hg2:w.heap.size≤b2:=by rw [hb2];exact (ag.rfl_).size
 refine bu (v:=.agg _) rfl ?_;intro b3 w2 E3 hb3 hk3;have h23:b2≠b3:=by have:=hk2.lt;omega
 replace hk2:=hk2.from_ E3;refine aZ bA ?_;intro b4 w3 E4 hb4 hk4;replace hk2:=hk2.from_ E4;replace hk3:=hk3.from_ E4;have hg4:w.heap.size≤b4:=by rw [hb4];exact (((ag.rfl_.next E2).next E3)).size
 refine asi rfl (ah (ae (af (ab (aa (aG (cs:=lgV L.b L.t E L.es.length c) az aq rfl ((hk2.from_ ag.rfl_).whole)) (av ez (et L E L.es.length c _ (hE.from_ (((ag.rfl_.next E2).next E3).next E4))) ?_))))));rintro v14 w4 ⟨rfl,E14⟩;refine mvt rfl (aa (ar rfl rfl) (aa (ar rfl rfl) (asi rfl (asi rfl (ah (ae (af (af (ab (aa (ai cE rfl) (aa (ao aD rfl (by exact (hk3.from_ (ag.rfl_.next E14)).rd 0 rfl)) ?_)))))))))));refine av db (dW x.d 8 _ (by decide)) ?_;rintro v19 w5 ⟨rfl,rfl⟩;have hB19:ag w w4:=((((ag.rfl_.next E2).next E3).next E4).next E14);have hs17:=hB19.size;have hM19:ag _ w4:=(ag.rfl_.next E14);have hs19:=hM19.size;refine ah (ae (aP (af (ab (aa (bh (a7 rfl rfl) (by rw [beq_eq_false_iff_ne];omega)) ?_)))));refine asb rfl (ah (ae (aI rfl (af (ab (aa (bh (a7 rfl rfl) (by rw [beq_eq_false_iff_ne];omega)) ?_))))));refine asb rfl (ah (ae (aI rfl (af (af (ab (aa (cU (a7 rfl rfl) (by rw [hm];rfl)) ?_)))))));refine asb rfl (ah (ae (aY rfl (aE (ae (aY rfl (af (ab (aa (aG (cs:=lgV L.b L.t E L.es.length c) az aq rfl ((hk2.from_ (ag.rfl_.next E14)).whole)) (aV (vs:=[_,_,_]) aq rfl rfl (by simp [Value.oneCell']) ((hk4.from_ (ag.rfl_.next E14))) rfl ?_))))))))));intro w6 O16 P16;refine asi rfl (ah (ae (aC (aW (aF (dN rfl (bx (cs:=[_,_,_]) az aq rfl (by exact P16.whole)) (cD (v:=.int _ _) rfl) ?_))))));exact ⟨⟨E,L.es.length,c,rfl,hE.from_ (((((ag.rfl_.next E2).next E3).next E4).next E14).only O16 (hg4)),fun q hq=>.inl hq⟩,(((((ag.rfl_.next E2).next E3).next E4).next E14).only O16 (hg4))⟩
theorem xw (L:Lg) (x:Aw) (E:Option Addr) (c:Nat) (w:World) (hL:dh L) (hx:gh w x) (_:x.ls.length≤1000000) (hE:bm w (.slice E L.es.length c) L.es) (hm:wiN x.d 8=7) :
 Rt prog 9 [.agg (lgV L.b L.t E L.es.length c).toArray,.agg (awV x).toArray] w (fun v w'=>(∃ E' n' c',v=.tuple #[.agg (lgV L.b L.t E' n' c').toArray,.int .i64 0]∧bm w' (.slice E' n' c') L.es∧∀ q,E'.map (·.block)=some q→E.map (·.block)=some q∨(w.heap.size≤q∧q<w'.heap.size))∧ag w w'):=by
 have hf:=hL.f;have hfb:=hf.b;have hfn:=hf.n;have hfl:=hf.l;have hxi:=hx.ib;have hxt:=hx.tb;refine enter (n:=106) Tryz.func9 rfl rfl rfl (af (ab (bu (v:=.agg _) rfl ?_)));intro b2 w1 E2 hb2 hk2;have hg2:w.heap.size≤b2:=by rw [hb2];exact (ag.rfl_).size
 refine bu (v:=.agg _) rfl ?_;intro b3 w2 E3 hb3 hk3;have h23:b2≠b3:=by have:=hk2.lt;omega
 replace hk2:=hk2.from_ E3;refine aZ bA ?_;intro b4 w3 E4 hb4 hk4;replace hk2:=hk2.from_ E4;replace hk3:=hk3.from_ E4;have hg4:w.heap.size≤b4:=by rw [hb4];exact (((ag.rfl_.next E2).next E3)).size
 refine asi rfl (ah (ae (af (ab (aa (aG (cs:=lgV L.b L.t E L.es.length c) az aq rfl ((hk2.from_ ag.rfl_).whole)) (av ez (et L E L.es.length c _ (hE.from_ (((ag.rfl_.next E2).next E3).next E4))) ?_))))));rintro v14 w4 ⟨rfl,E14⟩;refine mvt rfl (aa (ar rfl rfl) (aa (ar rfl rfl) (asi rfl (asi rfl (ah (ae (af (af (ab (aa (ai cE rfl) (aa (ao aD rfl (by exact (hk3.from_ (ag.rfl_.next E14)).rd 0 rfl)) ?_)))))))))));refine av db (dW x.d 8 _ (by decide)) ?_;rintro v19 w5 ⟨rfl,rfl⟩;have hB19:ag w w4:=((((ag.rfl_.next E2).next E3).next E4).next E14);have hs17:=hB19.size;have hM19:ag _ w4:=(ag.rfl_.next E14);have hs19:=hM19.size;refine ah (ae (aP (af (ab (aa (bh (a7 rfl rfl) (by rw [beq_eq_false_iff_ne];omega)) ?_)))));refine asb rfl (ah (ae (aI rfl (af (ab (aa (bh (a7 rfl rfl) (by rw [beq_eq_false_iff_ne];omega)) ?_))))));refine asb rfl (ah (ae (aI rfl (af (af (ab (aa (bh (a7 rfl rfl) (by rw [beq_eq_false_iff_ne];omega)) ?_)))))));refine asb rfl (ah (ae (aI rfl (ab (aa (cU (a7 rfl rfl) (by rw [hm];rfl)) ?_)))));refine asb rfl (ah (ae (aY rfl (af (ab (aa (aG (cs:=lgV L.b L.t E L.es.length c) az aq rfl ((hk2.from_ (ag.rfl_.next E14)).whole)) (aV (vs:=[_,_,_]) aq rfl rfl (by simp [Value.oneCell']) ((hk4.from_ (ag.rfl_.next E14))) rfl ?_)))))));intro w6 O16 P16;refine asi rfl (ah (ae (aC (aW (aF (dN rfl (bx (cs:=[_,_,_]) az aq rfl (by exact P16.whole)) (cD (v:=.int _ _) rfl) ?_))))));exact ⟨⟨E,L.es.length,c,rfl,hE.from_ (((((ag.rfl_.next E2).next E3).next E4).next E14).only O16 (hg4)),fun q hq=>.inl hq⟩,(((((ag.rfl_.next E2).next E3).next E4).next E14).only O16 (hg4))⟩
theorem s5 (L:Lg) (x:Aw) (E:Option Addr) (c:Nat) (w:World) (hL:dh L) (hx:gh w x) (_:x.ls.length≤1000000) (hE:bm w (.slice E L.es.length c) L.es) (hm:wiN x.d 8=5) (hno:¬ mh L x.i x.t) :
 Rt prog 9 [.agg (lgV L.b L.t E L.es.length c).toArray,.agg (awV x).toArray] w (fun v w'=>(∃ E' n' c',v=.tuple #[.agg (lgV L.b L.t E' n' c').toArray,.int .i64 1]∧bm w' (.slice E' n' c') L.es∧∀ q,E'.map (·.block)=some q→E.map (·.block)=some q∨(w.heap.size≤q∧q<w'.heap.size))∧ag w w'):=by
 have hf:=hL.f;have hfb:=hf.b;have hfn:=hf.n;have hfl:=hf.l;have hxi:=hx.ib;have hxt:=hx.tb;refine enter (n:=106) Tryz.func9 rfl rfl rfl (af (ab (bu (v:=.agg _) rfl ?_)));intro b2 w1 E2 hb2 hk2;have hg2:w.heap.size≤b2:=by rw [hb2];exact (ag.rfl_).size
 refine bu (v:=.agg _) rfl ?_;intro b3 w2 E3 hb3 hk3;have h23:b2≠b3:=by have:=hk2.lt;omega
 replace hk2:=hk2.from_ E3;refine aZ bA ?_;intro b4 w3 E4 hb4 hk4;replace hk2:=hk2.from_ E4;replace hk3:=hk3.from_ E4;have hg4:w.heap.size≤b4:=by rw [hb4];exact (((ag.rfl_.next E2).next E3)).size
 refine asi rfl (ah (ae (af (ab (aa (aG (cs:=lgV L.b L.t E L.es.length c) az aq rfl ((hk2.from_ ag.rfl_).whole)) (av ez (et L E L.es.length c _ (hE.from_ (((ag.rfl_.next E2).next E3).next E4))) ?_))))));rintro v14 w4 ⟨rfl,E14⟩;refine mvt rfl (aa (ar rfl rfl) (aa (ar rfl rfl) (asi rfl (asi rfl (ah (ae (af (af (ab (aa (ai cE rfl) (aa (ao aD rfl (by exact (hk3.from_ (ag.rfl_.next E14)).rd 0 rfl)) ?_)))))))))));refine av db (dW x.d 8 _ (by decide)) ?_;rintro v19 w5 ⟨rfl,rfl⟩;have hB19:ag w w4:=((((ag.rfl_.next E2).next E3).next E4).next E14);have hs17:=hB19.size;have hM19:ag _ w4:=(ag.rfl_.next E14);have hs19:=hM19.size;refine ah (ae (aP (af (ab (aa (bh (a7 rfl rfl) (by rw [beq_eq_false_iff_ne];omega)) ?_)))));refine asb rfl (ah (ae (aI rfl (af (ab (aa (cU (a7 rfl rfl) (by rw [hm];rfl)) ?_))))));refine asb rfl (ah (ae (aY rfl (af (ab (aa (aG (cs:=lgV L.b L.t E L.es.length c) az aq rfl ((hk2.from_ (ag.rfl_.next E14)).whole)) (aa (ai cc rfl) (aa (ao aD rfl (by exact (hk3.from_ (ag.rfl_.next E14)).rd 3 rfl)) ?_))))))));refine av jy (pj L x.i E L.es.length c _ hL (hE.from_ ((((ag.rfl_.next E2).next E3).next E4).next E14))) ?_;rintro v44 w6 ⟨⟨tv,rfl,htv⟩,E44⟩;refine mvt rfl (aa (ar rfl rfl) (aa (ar rfl rfl) (asi rfl (asb rfl (ah (ae (af (af (ab (aa (ai cc rfl) (aa (ao aD rfl (by exact (hk3.from_ ((ag.rfl_.next E14).next E44)).rd 3 rfl)) ?_)))))))))));refine aa (ai cC rfl) (aa (ao aD rfl (by exact (hk2.from_ ((ag.rfl_.next E14).next E44)).rd 0 rfl)) ?_);refine aa (kC rfl rfl) (mvb rfl (Bs (t:=52) rfl (fun Q7=>?_) (fun Q7=>?_)))
 ·refine aA rfl rfl (aA rfl rfl (aA rfl rfl (aa (aO (v:=.bool _) rfl rfl) (mvb rfl (aA rfl rfl (aA rfl rfl (aA rfl rfl (aA rfl rfl ?_))))))));refine aA rfl rfl (aa (aO (v:=.bool _) rfl rfl) (mvb rfl (aA rfl rfl (aA rfl rfl (aA rfl rfl (aa (aO (v:=.bool _) rfl rfl) (mvb rfl (aA rfl rfl ?_))))))));refine aA rfl rfl (dC rfl (dC rfl (dC rfl (dC rfl (aA rfl rfl (aa (aO (v:=.bool _) rfl rfl) (ah (ae (aY rfl ?_)))))))));refine af (ab (aa (aG (cs:=lgV L.b L.t E L.es.length c) az aq rfl ((hk2.from_ ((ag.rfl_.next E14).next E44)).whole)) (aV (vs:=[_,_,_]) aq rfl rfl (by simp [Value.oneCell']) ((hk4.from_ ((ag.rfl_.next E14).next E44))) rfl ?_)));intro w8 O10 P10;refine asi rfl (ah (ae (aC (aF (aW (aF (dN rfl (bx (cs:=[_,_,_]) az aq rfl (by first | exact P10.whole | exact P12.whole | exact P13.whole)) (cD (v:=.int _ _) rfl) ?_)))))));exact ⟨⟨E,L.es.length,c,rfl,hE.from_ ((((((ag.rfl_.next E2).next E3).next E4).next E14).next E44).only O10 (hg4)),fun q hq=>.inl hq⟩,((((((ag.rfl_.next E2).next E3).next E4).next E14).next E44).only O10 (hg4))⟩
 refine ak rfl (aa (ai cc rfl) (ak rfl (aa (ao aD rfl (by exact (hk3.from_ ((ag.rfl_.next E14).next E44)).rd 3 rfl)) ?_)));refine ak rfl (aa (cn rfl rfl) (aa (aQ (v:=.bool _) rfl rfl) (mvb rfl (Bs (t:=57) rfl (fun Q9=>?_) (fun Q9=>?_)))))
 ·refine aA rfl rfl (aA rfl rfl (aA rfl rfl (aA rfl rfl (aA rfl rfl (aa (aO (v:=.bool _) rfl rfl) (mvb rfl (aA rfl rfl (aA rfl rfl ?_))))))));refine aA rfl rfl (aa (aO (v:=.bool _) rfl rfl) (mvb rfl (aA rfl rfl (aA rfl rfl (dC rfl (dC rfl (dC rfl (dC rfl ?_))))))));refine aA rfl rfl (aa (aO (v:=.bool _) rfl rfl) (ah (ae (aY rfl (af (ab (aa (aG (cs:=lgV L.b L.t E L.es.length c) az aq rfl ((hk2.from_ ((ag.rfl_.next E14).next E44)).whole)) (aV (vs:=[_,_,_]) aq rfl rfl (by simp [Value.oneCell']) ((hk4.from_ ((ag.rfl_.next E14).next E44))) rfl ?_))))))));intro w10 O10 P10;refine asi rfl (ah (ae (aC (aF (aW (aF (dN rfl (bx (cs:=[_,_,_]) az aq rfl (by first | exact P10.whole | exact P12.whole | exact P13.whole)) (cD (v:=.int _ _) rfl) ?_)))))));exact ⟨⟨E,L.es.length,c,rfl,hE.from_ ((((((ag.rfl_.next E2).next E3).next E4).next E14).next E44).only O10 (hg4)),fun q hq=>.inl hq⟩,((((((ag.rfl_.next E2).next E3).next E4).next E14).next E44).only O10 (hg4))⟩
 refine ak rfl (aa (ai dL rfl) (ak rfl (aa (ao aD rfl (by exact (hk3.from_ ((ag.rfl_.next E14).next E44)).rd 4 rfl)) ?_)));refine ak rfl (aa (ai gb rfl) (ak rfl (aa (ao aD rfl (by exact (hk2.from_ ((ag.rfl_.next E14).next E44)).rd 1 rfl)) ?_)));refine ak rfl (aa (cl rfl rfl) (aa (aQ (v:=.bool _) rfl rfl) (mvb rfl (Bs (t:=64) rfl (fun Q11=>?_) (fun Q11=>?_)))))
 ·refine aA rfl rfl (aA rfl rfl (aA rfl rfl (aa (aO (v:=.bool _) rfl rfl) (mvb rfl (aA rfl rfl (aA rfl rfl (dC rfl (dC rfl ?_))))))));refine dC rfl (dC rfl (aA rfl rfl (aa (aO (v:=.bool _) rfl rfl) (ah (ae (aY rfl (af (ab (aa (aG (cs:=lgV L.b L.t E L.es.length c) az aq rfl ((hk2.from_ ((ag.rfl_.next E14).next E44)).whole)) (aV (vs:=[_,_,_]) aq rfl rfl (by simp [Value.oneCell']) ((hk4.from_ ((ag.rfl_.next E14).next E44))) rfl ?_))))))))));intro w12 O10 P10;refine asi rfl (ah (ae (aC (aF (aW (aF (dN rfl (bx (cs:=[_,_,_]) az aq rfl (by first | exact P10.whole | exact P12.whole | exact P13.whole)) (cD (v:=.int _ _) rfl) ?_)))))));exact ⟨⟨E,L.es.length,c,rfl,hE.from_ ((((((ag.rfl_.next E2).next E3).next E4).next E14).next E44).only O10 (hg4)),fun q hq=>.inl hq⟩,((((((ag.rfl_.next E2).next E3).next E4).next E14).next E44).only O10 (hg4))⟩
 refine ak rfl (aa (ai dL rfl) (ak rfl (aa (ao aD rfl (by exact (hk3.from_ ((ag.rfl_.next E14).next E44)).rd 4 rfl)) ?_)));refine ak rfl (aa (cn rfl rfl) (aa (aQ (v:=.bool _) rfl rfl) (mvb rfl (Bs (t:=69) rfl (fun Q13=>?_) (fun Q13=>?_)))))
 ·refine aA rfl rfl (aA rfl rfl (dC rfl (dC rfl (dC rfl (dC rfl (aA rfl rfl (aa (aO (v:=.bool _) rfl rfl) (ah (ae ?_)))))))));refine aY rfl (af (ab (aa (aG (cs:=lgV L.b L.t E L.es.length c) az aq rfl ((hk2.from_ ((ag.rfl_.next E14).next E44)).whole)) (aV (vs:=[_,_,_]) aq rfl rfl (by simp [Value.oneCell']) ((hk4.from_ ((ag.rfl_.next E14).next E44))) rfl ?_))));intro w14 O10 P10;refine asi rfl (ah (ae (aC (aF (aW (aF (dN rfl (bx (cs:=[_,_,_]) az aq rfl (by first | exact P10.whole | exact P12.whole | exact P13.whole)) (cD (v:=.int _ _) rfl) ?_)))))));exact ⟨⟨E,L.es.length,c,rfl,hE.from_ ((((((ag.rfl_.next E2).next E3).next E4).next E14).next E44).only O10 (hg4)),fun q hq=>.inl hq⟩,((((((ag.rfl_.next E2).next E3).next E4).next E14).next E44).only O10 (hg4))⟩
 refine ak rfl (mvb rfl (ak rfl (mvb rfl (Bs (t:=71) rfl (fun Q15=>?_) (fun Q15=>?_)))))
 ·refine ak rfl (mvi rfl (ak rfl (aa (ai dL rfl) (ak rfl (aa (ao aD rfl (by exact (hk3.from_ ((ag.rfl_.next E14).next E44)).rd 4 rfl)) ?_)))));refine ak rfl (aa (cv rfl rfl) (ak rfl (aa (aO (v:=.bool _) rfl rfl) (aa (aQ (v:=.bool _) rfl rfl) (ah (ae (BJ rfl (fun Q16=>?_) (fun Q16=>?_))))))))
  ·refine af (ab (aa (aG (cs:=lgV L.b L.t E L.es.length c) az aq rfl ((hk2.from_ ((ag.rfl_.next E14).next E44)).whole)) (aV (vs:=[_,_,_]) aq rfl rfl (by simp [Value.oneCell']) ((hk4.from_ ((ag.rfl_.next E14).next E44))) rfl ?_)));intro w17 O10 P10;refine asi rfl (ah (ae (aC (aF (aW (aF (dN rfl (bx (cs:=[_,_,_]) az aq rfl (by first | exact P10.whole | exact P12.whole | exact P13.whole)) (cD (v:=.int _ _) rfl) ?_)))))));exact ⟨⟨E,L.es.length,c,rfl,hE.from_ ((((((ag.rfl_.next E2).next E3).next E4).next E14).next E44).only O10 (hg4)),fun q hq=>.inl hq⟩,((((((ag.rfl_.next E2).next E3).next E4).next E14).next E44).only O10 (hg4))⟩
  refine aE (ae (af (af (ab (mvb rfl (ah (ae (BM rfl (fun Q18=>?_) (fun Q18=>?_)))))))));rotate_left
  ·exfalso;omega
  refine af (ab (aa (aG (cs:=lgV L.b L.t E L.es.length c) az aq rfl ((hk2.from_ ((ag.rfl_.next E14).next E44)).whole)) (aa (ai cc rfl) (aa (ao aD rfl (by exact (hk3.from_ ((ag.rfl_.next E14).next E44)).rd 3 rfl)) ?_))));refine av oB (kt L.b L.t x.i E c L.es _ (hE.from_ (((((ag.rfl_.next E2).next E3).next E4).next E14).next E44)) hL.1 (by first | omega | simp_all)) ?_;rintro v83 w20 ⟨A9,n9,c9,rfl,ho9,E83⟩;refine aV (vs:=[_,_,_]) aq rfl rfl (by simp [Value.oneCell']) ((hk4.from_ (((ag.rfl_.next E14).next E44).next E83))) rfl ?_;intro w21 O12 P12;refine asi rfl (ah (ae (aC (aF (aW (aF (dN rfl (bx (cs:=[_,_,_]) az aq rfl (by first | exact P10.whole | exact P12.whole | exact P13.whole)) (cD (v:=.int _ _) rfl) ?_)))))));exact absurd (uJ htv (by unfold okD;omega) (by first | omega | simp_all)) hno
 refine aA rfl rfl (aA rfl rfl (aA rfl rfl (aA rfl rfl (ak rfl (aa (aQ (v:=.bool _) rfl rfl) (aa (aQ (v:=.bool _) rfl rfl) (ah (ae (aI rfl ?_)))))))));refine aE (ae (af (af (ab (mvb rfl (ah (ae (BM rfl (fun Q22=>?_) (fun Q22=>?_)))))))))
 ·exfalso;omega
 refine aE (ae (af (ab (aa (ai cc rfl) (aa (ao aD rfl (by exact (hk3.from_ ((ag.rfl_.next E14).next E44)).rd 3 rfl)) ?_)))));refine aa (ai dL rfl) (aa (ao aD rfl (by exact (hk3.from_ ((ag.rfl_.next E14).next E44)).rd 4 rfl)) ?_);refine aa (bN (l:=[(0,.tmp 85),(1,.tmp 87)]) (jV _ _)) (aV (vs:=[_,_,_]) aq rfl rfl (by simp [Value.oneCell']) ((hk4.from_ ((ag.rfl_.next E14).next E44))) rfl ?_);intro w25 O13 P13;refine asi rfl (ah (ae (aC (aW (aF (dN rfl (bx (cs:=[_,_,_]) az aq rfl (by first | exact P10.whole | exact P12.whole | exact P13.whole)) (cD (v:=.int _ _) rfl) ?_))))));exact absurd (uJ htv (by unfold okD;omega) (by first | omega | simp_all)) hno
theorem xy (L:Lg) (x:Aw) (E:Option Addr) (c:Nat) (w:World) (hL:dh L) (hx:gh w x) (_:x.ls.length≤1000000) (hE:bm w (.slice E L.es.length c) L.es) (hm:wiN x.d 8=5) (hcan:mh L x.i x.t) :
 Rt prog 9 [.agg (lgV L.b L.t E L.es.length c).toArray,.agg (awV x).toArray] w (fun v w'=>(∃ E' n' c',v=.tuple #[.agg (lgV (eC L x.i x.t).b (eC L x.i x.t).t E' n' c').toArray,.int .i64 0]∧bm w' (.slice E' n' c') (eC L x.i x.t).es∧∀ q,E'.map (·.block)=some q→E.map (·.block)=some q∨(w.heap.size≤q∧q<w'.heap.size))∧ag w w'):=by
 have hf:=hL.f;have hfb:=hf.b;have hfn:=hf.n;have hfl:=hf.l;have hxi:=hx.ib;have hxt:=hx.tb;refine enter (n:=106) Tryz.func9 rfl rfl rfl (af (ab (bu (v:=.agg _) rfl ?_)));intro b2 w1 E2 hb2 hk2;have hg2:w.heap.size≤b2:=by rw [hb2];exact (ag.rfl_).size
 refine bu (v:=.agg _) rfl ?_;intro b3 w2 E3 hb3 hk3;have h23:b2≠b3:=by have:=hk2.lt;omega
 replace hk2:=hk2.from_ E3;refine aZ bA ?_;intro b4 w3 E4 hb4 hk4;replace hk2:=hk2.from_ E4;replace hk3:=hk3.from_ E4;have hg4:w.heap.size≤b4:=by rw [hb4];exact (((ag.rfl_.next E2).next E3)).size
 refine asi rfl (ah (ae (af (ab (aa (aG (cs:=lgV L.b L.t E L.es.length c) az aq rfl ((hk2.from_ ag.rfl_).whole)) (av ez (et L E L.es.length c _ (hE.from_ (((ag.rfl_.next E2).next E3).next E4))) ?_))))));rintro v14 w4 ⟨rfl,E14⟩;refine mvt rfl (aa (ar rfl rfl) (aa (ar rfl rfl) (asi rfl (asi rfl (ah (ae (af (af (ab (aa (ai cE rfl) (aa (ao aD rfl (by exact (hk3.from_ (ag.rfl_.next E14)).rd 0 rfl)) ?_)))))))))));refine av db (dW x.d 8 _ (by decide)) ?_;rintro v19 w5 ⟨rfl,rfl⟩;have hB19:ag w w4:=((((ag.rfl_.next E2).next E3).next E4).next E14);have hs17:=hB19.size;have hM19:ag _ w4:=(ag.rfl_.next E14);have hs19:=hM19.size;refine ah (ae (aP (af (ab (aa (bh (a7 rfl rfl) (by rw [beq_eq_false_iff_ne];omega)) ?_)))));refine asb rfl (ah (ae (aI rfl (af (ab (aa (cU (a7 rfl rfl) (by rw [hm];rfl)) ?_))))));refine asb rfl (ah (ae (aY rfl (af (ab (aa (aG (cs:=lgV L.b L.t E L.es.length c) az aq rfl ((hk2.from_ (ag.rfl_.next E14)).whole)) (aa (ai cc rfl) (aa (ao aD rfl (by exact (hk3.from_ (ag.rfl_.next E14)).rd 3 rfl)) ?_))))))));refine av jy (pj L x.i E L.es.length c _ hL (hE.from_ ((((ag.rfl_.next E2).next E3).next E4).next E14))) ?_;rintro v44 w6 ⟨⟨tv,rfl,htv⟩,E44⟩;have hok:=hcan.1;unfold okD at hok;have htm:=zZ htv hcan;refine mvt rfl (aa (ar rfl rfl) (aa (ar rfl rfl) (asi rfl (asb rfl (ah (ae (af (af (ab (aa (ai cc rfl) (aa (ao aD rfl (by exact (hk3.from_ ((ag.rfl_.next E14).next E44)).rd 3 rfl)) ?_)))))))))));refine aa (ai cC rfl) (aa (ao aD rfl (by exact (hk2.from_ ((ag.rfl_.next E14).next E44)).rd 0 rfl)) ?_);refine aa (kC rfl rfl) (mvb rfl (Bs (t:=52) rfl (fun Q7=>?_) (fun Q7=>?_)))
 ·exfalso;omega
 refine ak rfl (aa (ai cc rfl) (ak rfl (aa (ao aD rfl (by exact (hk3.from_ ((ag.rfl_.next E14).next E44)).rd 3 rfl)) ?_)));refine ak rfl (aa (cn rfl rfl) (aa (aQ (v:=.bool _) rfl rfl) (mvb rfl (Bs (t:=57) rfl (fun Q9=>?_) (fun Q9=>?_)))))
 ·exfalso;omega
 refine ak rfl (aa (ai dL rfl) (ak rfl (aa (ao aD rfl (by exact (hk3.from_ ((ag.rfl_.next E14).next E44)).rd 4 rfl)) ?_)));refine ak rfl (aa (ai gb rfl) (ak rfl (aa (ao aD rfl (by exact (hk2.from_ ((ag.rfl_.next E14).next E44)).rd 1 rfl)) ?_)));refine ak rfl (aa (cl rfl rfl) (aa (aQ (v:=.bool _) rfl rfl) (mvb rfl (Bs (t:=64) rfl (fun Q11=>?_) (fun Q11=>?_)))))
 ·exfalso;omega
 refine ak rfl (aa (ai dL rfl) (ak rfl (aa (ao aD rfl (by exact (hk3.from_ ((ag.rfl_.next E14).next E44)).rd 4 rfl)) ?_)));refine ak rfl (aa (cn rfl rfl) (aa (aQ (v:=.bool _) rfl rfl) (mvb rfl (Bs (t:=69) rfl (fun Q13=>?_) (fun Q13=>?_)))))
 ·exfalso;omega
 refine ak rfl (mvb rfl (ak rfl (mvb rfl (Bs (t:=71) rfl (fun Q15=>?_) (fun Q15=>?_)))))
 ·refine ak rfl (mvi rfl (ak rfl (aa (ai dL rfl) (ak rfl (aa (ao aD rfl (by exact (hk3.from_ ((ag.rfl_.next E14).next E44)).rd 4 rfl)) ?_)))));refine ak rfl (aa (cv rfl rfl) (ak rfl (aa (aO (v:=.bool _) rfl rfl) (aa (aQ (v:=.bool _) rfl rfl) (ah (ae (BJ rfl (fun Q16=>?_) (fun Q16=>?_))))))))
  ·exfalso;omega
  refine aE (ae (af (af (ab (mvb rfl (ah (ae (BM rfl (fun Q18=>?_) (fun Q18=>?_)))))))));rotate_left
  ·exfalso;omega
  refine af (ab (aa (aG (cs:=lgV L.b L.t E L.es.length c) az aq rfl ((hk2.from_ ((ag.rfl_.next E14).next E44)).whole)) (aa (ai cc rfl) (aa (ao aD rfl (by exact (hk3.from_ ((ag.rfl_.next E14).next E44)).rd 3 rfl)) ?_))));have hz83:=((((((ag.rfl_.next E2).next E3).next E4).next E14).next E44)).size;have hM83:ag _ w6:=((ag.rfl_.next E14).next E44);refine av oB (kt L.b L.t x.i E c L.es _ (hE.from_ (((((ag.rfl_.next E2).next E3).next E4).next E14).next E44)) hL.1 (by first | omega | simp_all)) ?_;rintro v83 w20 ⟨A9,n9,c9,rfl,ho9,E83⟩;refine aV (vs:=[_,_,_]) aq rfl rfl (by simp [Value.oneCell']) ((hk4.from_ (((ag.rfl_.next E14).next E44).next E83))) rfl ?_;intro w21 O12 P12;have hx83:=(cJ.of_own ho9).le hz83;have hx12:dp w21 w.heap.size A9 n9 c9 (L.es.drop (x.i-L.b).toNat):=hx83.only O12 (hk4.from_ (hM83.next E83)) (by decide);refine asi rfl (ah (ae (aC (aF (aW (aF (dN rfl (bx (cs:=[_,_,_]) az aq rfl (by first | exact P10.whole | exact P12.whole | exact P13.whole)) (cD (v:=.int _ _) rfl) ?_)))))));have hle:x.i≤L.b+(L.es.length:Int):=by first | omega | simp_all
  obtain ⟨hdm,hti⟩:=rT hcan hle;have hx9:=hx12.from_ ag.rfl_;rw [hdm,hti];exact ⟨⟨A9,n9,c9,rfl,dp.ents hx9,fun q hq=>.inr (hx9.at_ q hq)⟩,(((((((ag.rfl_.next E2).next E3).next E4).next E14).next E44).next E83).only O12 (hg4))⟩
 refine aA rfl rfl (aA rfl rfl (aA rfl rfl (aA rfl rfl (ak rfl (aa (aQ (v:=.bool _) rfl rfl) (aa (aQ (v:=.bool _) rfl rfl) (ah (ae (aI rfl ?_)))))))));refine aE (ae (af (af (ab (mvb rfl (ah (ae (BM rfl (fun Q22=>?_) (fun Q22=>?_)))))))))
 ·exfalso;omega
 refine aE (ae (af (ab (aa (ai cc rfl) (aa (ao aD rfl (by exact (hk3.from_ ((ag.rfl_.next E14).next E44)).rd 3 rfl)) ?_)))));refine aa (ai dL rfl) (aa (ao aD rfl (by exact (hk3.from_ ((ag.rfl_.next E14).next E44)).rd 4 rfl)) ?_);refine aa (bN (l:=[(0,.tmp 85),(1,.tmp 87)]) (jV _ _)) (aV (vs:=[_,_,_]) aq rfl rfl (by simp [Value.oneCell']) ((hk4.from_ ((ag.rfl_.next E14).next E44))) rfl ?_);intro w25 O13 P13;refine asi rfl (ah (ae (aC (aW (aF (dN rfl (bx (cs:=[_,_,_]) az aq rfl (by first | exact P10.whole | exact P12.whole | exact P13.whole)) (cD (v:=.int _ _) rfl) ?_))))));have hle:L.b+(L.es.length:Int)<x.i:=by first | omega | simp_all
 have hdm:eC L x.i x.t=⟨x.i,x.t,[]⟩:=by unfold eC;rw [if_pos hle]
 rw [hdm];exact ⟨⟨none,0,0,rfl,bm.nil_ _,fun q hq=>by cases hq⟩,((((((ag.rfl_.next E2).next E3).next E4).next E14).next E44).only O13 (hg4))⟩
theorem xA (L:Lg) (x:Aw) (E:Option Addr) (c:Nat) (w:World) (hL:dh L) (hx:gh w x) (hxl:x.ls.length≤1000000) (hE:bm w (.slice E L.es.length c) L.es) (hm:wiN x.d 8<4) (hr:cG (cL x L) (bo L.b L.t L.es).1 (bo L.b L.t L.es).2=true) (hl:L.es.length+(cL x L).length≤512) :
 Rt prog 9 [.agg (lgV L.b L.t E L.es.length c).toArray,.agg (awV x).toArray] w (fun v w'=>(∃ E' n' c',v=.tuple #[.agg (lgV (⟨L.b,L.t,L.es++cL x L⟩:Lg).b (⟨L.b,L.t,L.es++cL x L⟩:Lg).t E' n' c').toArray,.int .i64 0]∧bm w' (.slice E' n' c') (⟨L.b,L.t,L.es++cL x L⟩:Lg).es∧∀ q,E'.map (·.block)=some q→E.map (·.block)=some q∨(w.heap.size≤q∧q<w'.heap.size))∧ag w w'):=by
 have hf:=hL.f;have hfb:=hf.b;have hfn:=hf.n;have hfl:=hf.l;have hxi:=hx.ib;have hxt:=hx.tb;refine enter (n:=106) Tryz.func9 rfl rfl rfl (af (ab (bu (v:=.agg _) rfl ?_)));intro b2 w1 E2 hb2 hk2;have hg2:w.heap.size≤b2:=by rw [hb2];exact (ag.rfl_).size
 refine bu (v:=.agg _) rfl ?_;intro b3 w2 E3 hb3 hk3;have h23:b2≠b3:=by have:=hk2.lt;omega
 replace hk2:=hk2.from_ E3;refine aZ bA ?_;intro b4 w3 E4 hb4 hk4;replace hk2:=hk2.from_ E4;replace hk3:=hk3.from_ E4;have hg4:w.heap.size≤b4:=by rw [hb4];exact (((ag.rfl_.next E2).next E3)).size
 refine asi rfl (ah (ae (af (ab (aa (aG (cs:=lgV L.b L.t E L.es.length c) az aq rfl ((hk2.from_ ag.rfl_).whole)) (av ez (et L E L.es.length c _ (hE.from_ (((ag.rfl_.next E2).next E3).next E4))) ?_))))));rintro v14 w4 ⟨rfl,E14⟩;refine mvt rfl (aa (ar rfl rfl) (aa (ar rfl rfl) (asi rfl (asi rfl (ah (ae (af (af (ab (aa (ai cE rfl) (aa (ao aD rfl (by exact (hk3.from_ (ag.rfl_.next E14)).rd 0 rfl)) ?_)))))))))));refine av db (dW x.d 8 _ (by decide)) ?_;rintro v19 w5 ⟨rfl,rfl⟩;have hB19:ag w w4:=((((ag.rfl_.next E2).next E3).next E4).next E14);have hs17:=hB19.size;have hM19:ag _ w4:=(ag.rfl_.next E14);have hs19:=hM19.size;refine ah (ae (aP (af (ab (aa (bh (a7 rfl rfl) (by rw [beq_eq_false_iff_ne];omega)) ?_)))));refine asb rfl (ah (ae (aI rfl (af (ab (aa (bh (a7 rfl rfl) (by rw [beq_eq_false_iff_ne];omega)) ?_))))));refine asb rfl (ah (ae (aI rfl (af (af (ab (aa (bh (a7 rfl rfl) (by rw [beq_eq_false_iff_ne];omega)) ?_)))))));refine asb rfl (ah (ae (aI rfl (ab (aa (bh (a7 rfl rfl) (by rw [beq_eq_false_iff_ne];omega)) ?_)))));refine asb rfl (ah (ae (aI rfl (aE (bI (ae (af ?_)))))));apply bO 9 [(94,eqp (.agg (lgV L.b L.t E L.es.length c).toArray)),(95,eqp (.agg (awV x).toArray)),(96,eqp (.agg (lgV L.b L.t E L.es.length c).toArray)),(97,fun v w'=>∃ A' c',v=.slice A' x.ls.length c'∧w'.ownsRow (w4).heap.size 49 3 (.slice A' x.ls.length c') x.ls.length (bJ (cL x L))),(98,fun v w'=>∃ A2 k2 c2,v=.tuple #[.agg (lgV L.b L.t A2 k2 c2).toArray,.int .i64 0]∧w'.ownsRow (w4).heap.size 49 3 (.slice A2 k2 c2) k2 (bJ (L.es++(cL x L)))),(93,fun v w'=>∃ A2 k2 c2,v=.tuple #[.agg (lgV L.b L.t A2 k2 c2).toArray,.int .i64 0]∧w'.ownsRow (w4).heap.size 49 3 (.slice A2 k2 c2) k2 (bJ (L.es++(cL x L)))),(99,fun v w'=>∃ A2 k2 c2,v=.agg (lgV L.b L.t A2 k2 c2).toArray∧w'.ownsRow (w4).heap.size 49 3 (.slice A2 k2 c2) k2 (bJ (L.es++(cL x L)))),(100,eqp _),(10,fun v w'=>∃ y,v=.pointer (some ⟨y,0,none⟩)∧(w4).heap.size≤y∧Blk w' y 36 #[.int .i64 0,.int .i64 0,.slice none 0 0])] (by repeat first | exact cr | refine cq ?_ | refine bU ?_) (by kernel_rfl) (by kernel_rfl) ⟨aj _,aj _,aj _,(fun _ _ _ hF ⟨a,b,h1,h2⟩=>⟨a,b,h1,h2.kept_from hF⟩),(fun _ _ _ hF ⟨a,b,c,h1,h2⟩=>⟨a,b,c,h1,h2.kept_from hF⟩),(fun _ _ _ hF ⟨a,b,c,h1,h2⟩=>⟨a,b,c,h1,h2.kept_from hF⟩),(fun _ _ _ hF ⟨a,b,c,h1,h2⟩=>⟨a,b,c,h1,h2.kept_from hF⟩),aj _,(fun _ _ _ hF ⟨a,h1,h2,h3⟩=>⟨a,h1,h2,h3.from_ hF⟩),trivial⟩
 case hop=>
  constructor
  ·rintro-w7 D7;exact an (aG (cs:=lgV L.b L.t E L.es.length c) az aq rfl ((hk2.from_ ((ag.rfl_.next E14).next D7)).whole)) rfl
  constructor
  ·rintro-w8 D8;exact an (aG (cs:=awV x) fL e_ rfl ((hk3.from_ ((ag.rfl_.next E14).next D8)).whole)) rfl
  constructor
  ·rintro-w9 D9;exact an (aG (cs:=lgV L.b L.t E L.es.length c) az aq rfl ((hk2.from_ ((ag.rfl_.next E14).next D9)).whole)) rfl
  constructor
  ·rintro-w10 D10;rintro v10_95 rfl v10_96 rfl;refine cX kM ((kF x L E c L.es.length _ (hx.from_ (((((ag.rfl_.next E2).next E3).next E4).next E14).next D10)) hxl hL (hE.from_ (((((ag.rfl_.next E2).next E3).next E4).next E14).next D10))).mono ?_);rintro v _ ⟨⟨a,b,rfl,h⟩,hF⟩;exact ⟨hF,a,b,rfl,dI h D10.size⟩
  constructor
  ·rintro-w11 D11;rintro v11_94 rfl v11_97 ⟨A11,c11,rfl,ho11⟩;refine cX oA ((xi L E A11 L.es.length c x.ls.length c11 (cL x L) _ hL (hE.from_ (((((ag.rfl_.next E2).next E3).next E4).next E14).next D11)) (dp.ents (cJ.of_own ho11)) (by rw [jP];omega) hr hl).mono ?_);rintro v _ ⟨⟨A2,k2,c2,rfl,h⟩,hF⟩;exact ⟨hF,A2,k2,c2,rfl,dI h D11.size⟩
  constructor
  ·rintro-w12 D12;rintro v12_98 ⟨A12,k12,c12,rfl,ho12⟩;exact an (aB (v:=.tuple #[_,_]) rfl) ⟨_,_,_,rfl,ho12⟩
  constructor
  ·rintro-w13 D13;rintro v13_93 ⟨A13,k13,c13,rfl,ho13⟩;exact an (ar rfl rfl) ⟨_,_,_,rfl,ho13⟩
  constructor
  ·rintro-w14 D14;rintro v14_93 ⟨A14,k14,c14,rfl,ho14⟩;exact an (ar rfl rfl) rfl
  constructor
  ·rintro-w15 D15;exact fC (k7 bA) (ag.rfl_.new _) ⟨_,rfl,D15.size,Blk.new _ _ _⟩
  exact trivial
 case hend=>
  intro w16 D16;rintro v94 rfl v95 rfl v96 rfl v97 ⟨A16,c16,rfl,ho16⟩ v98 ⟨A16,k16,c16,rfl,ho16⟩ v93 ⟨A16,k16,c16,rfl,ho16⟩ v99 ⟨A99,k99,c99,rfl,ho99⟩ _ rfl v10 ⟨b10,rfl,hg10,hk10⟩;show St ..;have hB17:ag w w16:=(((((ag.rfl_.next E2).next E3).next E4).next E14).next D16);have hM17:ag _ w16:=((ag.rfl_.next E14).next D16);refine aV (vs:=[_,_,_]) aq rfl rfl (by simp [Value.oneCell']) (hk10) rfl ?_;intro w17 O17 P17;have P17b:Blk w17 b10 36 (lgV L.b L.t A99 k99 c99).toArray:=P17;have hx99:=(cJ.of_own ho99).le hs17;have hx17:dp w17 w.heap.size A99 k99 c99 (L.es++cL x L):=hx99.only O17 hk10 (by decide);have hk4c:=(hk4.from_ hM17).only O17 (by have:=hk4.lt;omega);refine asi rfl (ah (ae (af (af (ab (mvi rfl (aa (bh (cv rfl rfl) rfl) (ah (ae (aI rfl (aE (ae (af (ab (aa (aG (cs:=lgV L.b L.t A99 k99 c99) az aq rfl ((P17b.from_ ag.rfl_).whole)) ?_)))))))))))))));have hM20:ag _ w17:=ag.rfl_;refine aV (vs:=[_,_,_]) aq rfl rfl (by simp [Value.oneCell']) ((hk4c.from_ ag.rfl_)) rfl ?_;intro w18 O20 P20;have hx20:dp w18 w.heap.size A99 k99 c99 (L.es++cL x L):=(hx17.from_ hM20).only O20 (hk4c.from_ hM20) (by decide);refine asi rfl (ah (ae (aC (dN rfl (bx (cs:=[_,_,_]) az aq rfl (by exact P20.whole)) (cD (v:=.int _ _) rfl) ?_))));have hx9:=hx20.from_ ag.rfl_;exact ⟨⟨A99,k99,c99,rfl,dp.ents hx9,fun q hq=>.inr (hx9.at_ q hq)⟩,(((((((ag.rfl_.next E2).next E3).next E4).next E14).next D16).only O17 ((Nat.le_trans hs17 hg10))).only O20 (hg4))⟩
theorem pw (L:Lg) (x:Aw) (E:Option Addr) (c:Nat) (w:World) (hL:dh L) (hx:gh w x) (hxl:x.ls.length≤1000000) (hE:bm w (.slice E L.es.length c) L.es) (e:Int) (hm:wiN x.d 8<4) (he:(cG (cL x L) (bo L.b L.t L.es).1 (bo L.b L.t L.es).2=false∧e=1)∨(cG (cL x L) (bo L.b L.t L.es).1 (bo L.b L.t L.es).2=true∧512<L.es.length+(cL x L).length∧e=6)) :
 Rt prog 9 [.agg (lgV L.b L.t E L.es.length c).toArray,.agg (awV x).toArray] w (fun v w'=>(∃ E' n' c',v=.tuple #[.agg (lgV L.b L.t E' n' c').toArray,.int .i64 e]∧bm w' (.slice E' n' c') L.es∧∀ q,E'.map (·.block)=some q→E.map (·.block)=some q∨(w.heap.size≤q∧q<w'.heap.size))∧ag w w'):=by
 have hf:=hL.f;have hfb:=hf.b;have hfn:=hf.n;have hfl:=hf.l;have hxi:=hx.ib;have hxt:=hx.tb;refine enter (n:=106) Tryz.func9 rfl rfl rfl (af (ab (bu (v:=.agg _) rfl ?_)));intro b2 w1 E2 hb2 hk2;have hg2:w.heap.size≤b2:=by rw [hb2];exact (ag.rfl_).size
 refine bu (v:=.agg _) rfl ?_;intro b3 w2 E3 hb3 hk3;have h23:b2≠b3:=by have:=hk2.lt;omega
 replace hk2:=hk2.from_ E3;refine aZ bA ?_;intro b4 w3 E4 hb4 hk4;replace hk2:=hk2.from_ E4;replace hk3:=hk3.from_ E4;have hg4:w.heap.size≤b4:=by rw [hb4];exact (((ag.rfl_.next E2).next E3)).size
 refine asi rfl (ah (ae (af (ab (aa (aG (cs:=lgV L.b L.t E L.es.length c) az aq rfl ((hk2.from_ ag.rfl_).whole)) (av ez (et L E L.es.length c _ (hE.from_ (((ag.rfl_.next E2).next E3).next E4))) ?_))))));rintro v14 w4 ⟨rfl,E14⟩;refine mvt rfl (aa (ar rfl rfl) (aa (ar rfl rfl) (asi rfl (asi rfl (ah (ae (af (af (ab (aa (ai cE rfl) (aa (ao aD rfl (by exact (hk3.from_ (ag.rfl_.next E14)).rd 0 rfl)) ?_)))))))))));refine av db (dW x.d 8 _ (by decide)) ?_;rintro v19 w5 ⟨rfl,rfl⟩;have hB19:ag w w4:=((((ag.rfl_.next E2).next E3).next E4).next E14);have hs17:=hB19.size;have hM19:ag _ w4:=(ag.rfl_.next E14);have hs19:=hM19.size;refine ah (ae (aP (af (ab (aa (bh (a7 rfl rfl) (by rw [beq_eq_false_iff_ne];omega)) ?_)))));refine asb rfl (ah (ae (aI rfl (af (ab (aa (bh (a7 rfl rfl) (by rw [beq_eq_false_iff_ne];omega)) ?_))))));refine asb rfl (ah (ae (aI rfl (af (af (ab (aa (bh (a7 rfl rfl) (by rw [beq_eq_false_iff_ne];omega)) ?_)))))));refine asb rfl (ah (ae (aI rfl (ab (aa (bh (a7 rfl rfl) (by rw [beq_eq_false_iff_ne];omega)) ?_)))));refine asb rfl (ah (ae (aI rfl (aE (bI (ae (af ?_)))))));apply bO 9 [(94,eqp (.agg (lgV L.b L.t E L.es.length c).toArray)),(95,eqp (.agg (awV x).toArray)),(96,eqp (.agg (lgV L.b L.t E L.es.length c).toArray)),(97,fun v w'=>∃ A' c',v=.slice A' x.ls.length c'∧w'.ownsRow (w4).heap.size 49 3 (.slice A' x.ls.length c') x.ls.length (bJ (cL x L))),(98,fun v w'=>∃ X Y A2 k2 c2,v=.tuple #[.agg (lgV X Y A2 k2 c2).toArray,.int .i64 e]),(93,fun v w'=>∃ X Y A2 k2 c2,v=.tuple #[.agg (lgV X Y A2 k2 c2).toArray,.int .i64 e]),(99,fun v w'=>∃ X Y A2 k2 c2,v=.agg (lgV X Y A2 k2 c2).toArray),(100,eqp _),(10,fun v w'=>∃ y,v=.pointer (some ⟨y,0,none⟩)∧(w4).heap.size≤y∧Blk w' y 36 #[.int .i64 0,.int .i64 0,.slice none 0 0])] (by repeat first | exact cr | refine cq ?_ | refine bU ?_) (by kernel_rfl) (by kernel_rfl) ⟨aj _,aj _,aj _,(fun _ _ _ hF ⟨a,b,h1,h2⟩=>⟨a,b,h1,h2.kept_from hF⟩),(fun _ _ _ _ h=>h),(fun _ _ _ _ h=>h),(fun _ _ _ _ h=>h),aj _,(fun _ _ _ hF ⟨a,h1,h2,h3⟩=>⟨a,h1,h2,h3.from_ hF⟩),trivial⟩
 case hop=>
  constructor
  ·rintro-w7 D7;exact an (aG (cs:=lgV L.b L.t E L.es.length c) az aq rfl ((hk2.from_ ((ag.rfl_.next E14).next D7)).whole)) rfl
  constructor
  ·rintro-w8 D8;exact an (aG (cs:=awV x) fL e_ rfl ((hk3.from_ ((ag.rfl_.next E14).next D8)).whole)) rfl
  constructor
  ·rintro-w9 D9;exact an (aG (cs:=lgV L.b L.t E L.es.length c) az aq rfl ((hk2.from_ ((ag.rfl_.next E14).next D9)).whole)) rfl
  constructor
  ·rintro-w10 D10;rintro v10_95 rfl v10_96 rfl;refine cX kM ((kF x L E c L.es.length _ (hx.from_ (((((ag.rfl_.next E2).next E3).next E4).next E14).next D10)) hxl hL (hE.from_ (((((ag.rfl_.next E2).next E3).next E4).next E14).next D10))).mono ?_);rintro v _ ⟨⟨a,b,rfl,h⟩,hF⟩;exact ⟨hF,a,b,rfl,dI h D10.size⟩
  constructor
  ·rintro-w11 D11;rintro v11_94 rfl v11_97 ⟨A11,c11,rfl,ho11⟩;refine cX oA ((vi L E A11 L.es.length c x.ls.length c11 (cL x L) e _ hL (hE.from_ (((((ag.rfl_.next E2).next E3).next E4).next E14).next D11)) (dp.ents (cJ.of_own ho11)) (by rw [jP];omega) he).mono ?_);rintro v _ ⟨⟨X,Y,A2,k2,c2,rfl⟩,hF⟩;exact ⟨hF,X,Y,A2,k2,c2,rfl⟩
  constructor
  ·rintro-w12 D12;rintro v12_98 ⟨X12,Y12,A12,k12,c12,rfl⟩;exact an (aB (v:=.tuple #[_,_]) rfl) ⟨_,_,_,_,_,rfl⟩
  constructor
  ·rintro-w13 D13;rintro v13_93 ⟨X13,Y13,A13,k13,c13,rfl⟩;exact an (ar rfl rfl) ⟨_,_,_,_,_,rfl⟩
  constructor
  ·rintro-w14 D14;rintro v14_93 ⟨X14,Y14,A14,k14,c14,rfl⟩;exact an (ar rfl rfl) rfl
  constructor
  ·rintro-w15 D15;exact fC (k7 bA) (ag.rfl_.new _) ⟨_,rfl,D15.size,Blk.new _ _ _⟩
  exact trivial
 case hend=>
  intro w16 D16;rintro v94 rfl v95 rfl v96 rfl v97 ⟨A16,c16,rfl,ho16⟩ v98 ⟨X16,Y16,A16,k16,c16,rfl⟩ v93 ⟨X16,Y16,A16,k16,c16,rfl⟩ v99 ⟨X99,Y99,A99,k99,c99,rfl⟩ _ rfl v10 ⟨b10,rfl,hg10,hk10⟩;show St ..;have hM17:ag _ w16:=((ag.rfl_.next E14).next D16);refine aV (vs:=[_,_,_]) aq rfl rfl (by simp [Value.oneCell']) (hk10) rfl ?_;intro w17 O17 P17;have hk4c:=(hk4.from_ hM17).only O17 (by have:=hk4.lt;omega);have hk2c:=(hk2.from_ hM17).only O17 (by have:=hk2.lt;omega);refine asi rfl (ah (ae (af (af (ab (mvi rfl ?_))))));refine aa (cU (cv rfl rfl) (by rcases he with ⟨_,rfl⟩ | ⟨_,_,rfl⟩ <;> rfl)) ?_;refine ah (ae (aY rfl (af (ab (aa (aG (cs:=lgV L.b L.t E L.es.length c) az aq rfl ((hk2c.from_ ag.rfl_).whole)) (mvi rfl (aV (vs:=[_,_,_]) aq rfl rfl (by simp [Value.oneCell']) ((hk4c.from_ ag.rfl_)) rfl ?_)))))));intro w18 O19 P19;refine asi rfl (ah (ae (aC (aF (dN rfl (bx (cs:=[_,_,_]) az aq rfl (by exact P19.whole)) (cD (v:=.int _ _) rfl) ?_)))));exact ⟨⟨E,L.es.length,c,rfl,hE.from_ (((((((ag.rfl_.next E2).next E3).next E4).next E14).next D16).only O17 ((Nat.le_trans hs17 hg10))).only O19 (hg4)),fun q hq=>.inl hq⟩,(((((((ag.rfl_.next E2).next E3).next E4).next E14).next D16).only O17 ((Nat.le_trans hs17 hg10))).only O19 (hg4))⟩
theorem tV:aH prog 19=true:=by kernel_rfl
theorem dF:aH prog 8=true:=by kernel_rfl
theorem tW:aH prog 18=true:=by kernel_rfl
theorem kN:aH prog 20=true:=by kernel_rfl
theorem oI:aH prog 17=true:=by kernel_rfl
theorem oJ:aH prog 13=true:=by kernel_rfl
def DoR (w w':World) (U:Nat→Prop) (p d g KB:Nat) (M:Lg) (sy:Bool):Prop:=∃ (g':Nat) (recs':List Rc) (qs':Bool),g'≤g+1∧(ax (sG g') recs').1.length≤KB∧(sy=true→qs'=true)∧WEx w w' U p d g' recs' M qs'
theorem WAt.chgR {V:Nat→Prop} {w w':World} {U:Nat→Prop} {p d g:Nat} {recs:List Rc} {L:Lg} {qs:Bool} (h:WAt w U p d g recs L qs) (hC:Chg V w w') (hU:∀ k,U k→¬ V k) (hp:¬ V p) (hrow:∀ q,LR w p q→¬ V q):WAt w' U p d g recs L qs:=by
 obtain ⟨la,E,n,c,D,h1,h2,h3,h4,h5,h6⟩:=h.ex;have hz:=hC.size;exact ⟨⟨la,E,n,c,D,h1.chg hC hp,h2,h3,h4.chg hC hU,h5.chg hC fun q hq=>hrow q ⟨_,_,_,_,_,_,_,_,_,_,_,_,h1,hq⟩,fun q hq=>⟨by have:=(h6 q hq).1;omega,(h6 q hq).2⟩⟩,h.nU,fun x hx=>by have:=h.lt x hx;omega,h.ok,h.rk,h.fin,h.ap,h.g9⟩
theorem WAt.rowlt {w:World} {U:Nat→Prop} {p d g q:Nat} {recs:List Rc} {L:Lg} {qs:Bool} (h:WAt w U p d g recs L qs) (hq:LR w p q):q<w.heap.size∧¬ U q∧q≠p:=by
 obtain ⟨la,E,n,c,D,h1,h2,h3,h4,h5,h6⟩:=h.ex;exact h6 q (ln h1 hq)
theorem WAt.plt {w:World} {U:Nat→Prop} {p d g:Nat} {recs:List Rc} {L:Lg} {qs:Bool} (h:WAt w U p d g recs L qs):p<w.heap.size:=by
 obtain ⟨la,E,n,c,D,h1,_⟩:=h.ex;exact h1.lt
theorem sL (es:List Ent) (k:Nat):32+cu (es.take k)≤32+cu es:=by have:=mm es k;omega
theorem pE (L:Lg) (i tm:Int):cu (eC L i tm).es≤cu L.es:=by
 unfold eC;split
 ·exact Nat.zero_le _
 ·exact q5 _ _
theorem zA {L:Lg} {k:Nat} (h:k=L.es.length):(⟨L.b,L.t,L.es.take k⟩:Lg)=L:=by
 subst h;rw [List.take_length]
theorem zW (U:Nat→Prop) (p d g KB:Nat) (recs:List Rc) (L M:Lg) (qs:Bool) (x:Aw) (e:Int) (w:World) (h:WAt w U p d g recs L qs) (hN:Nxt L x M e) (hx:gh w x) (hg:g<98) (hK1:(ax (sG g) recs).1.length+(32+cu (cL x L))≤KB) (hK2:32+cu L.es+cu (cL x L)≤KB) (hK3:KB≤1048576) (hT:cO w) (hm:wiN x.d 8=4):Rt prog 19 [.pointer (some ⟨p,0,none⟩),.int .i64 x.i] w fun v w'=>v=.int .i64 e∧DoR w w' U p d g KB M false∧Chg (fun k=>U k∨k=p) w w':=by
 cases hN with
 |cut k hm hi hk=>
  by_cases hkl:k=L.es.length
  ·refine (tu U p d g recs L qs w h x.i hx.ib k hi hk hkl).mono fun v w' ⟨a,b,c⟩=>⟨a,⟨g,recs,qs,Nat.le_succ _,by omega,(fun h=>by cases h),?_⟩,c⟩
   rw [zA hkl];exact b
  ·exact (yl U p d g recs L qs w h x.i hx.ib k hi hk KB (by omega) hg (by omega) (Nat.le_trans (sL _ _) (by omega)) hK3 hT).mono fun v w' ⟨a,⟨g',recs',b1,b2,b3⟩,c⟩=>⟨a,⟨g',recs',false,b1,b2,(fun h=>by cases h),b3⟩,c⟩
 |cutNo _ hno=>exact (ym U p d g recs L qs w h x.i hx.ib hno).mono fun v w' ⟨a,hF⟩=>⟨a,⟨g,recs,qs,Nat.le_succ _,by omega,(fun h=>by cases h),WEx.same h hF⟩,hF.toChg⟩
 |drop _ _=>omega
 |dropNo _ _=>omega
 |sync _=>omega
 |app _ _ _=>omega
 |full _ _ _=>omega
 |appNo _ _=>omega
theorem ya (U:Nat→Prop) (p d g KB:Nat) (recs:List Rc) (L M:Lg) (qs:Bool) (x:Aw) (e:Int) (w:World) (h:WAt w U p d g recs L qs) (hN:Nxt L x M e) (_:gh w x) (hg:g<98) (hK1:(ax (sG g) recs).1.length+(32+cu (cL x L))≤KB) (hK2:32+cu L.es+cu (cL x L)≤KB) (hK3:KB≤1048576) (hT:cO w) (hm:wiN x.d 8=5):Rt prog 18 [.pointer (some ⟨p,0,none⟩),.int .i64 x.i,.int .i64 x.t] w fun v w'=>v=.int .i64 e∧DoR w w' U p d g KB M false∧Chg (fun k=>U k∨k=p) w w':=by
 cases hN with
 |drop _ hc=>exact (vP U p d g recs L qs w h x.i x.t hc KB hg (by omega) (by have:=pE L x.i x.t;omega) hK3 hT).mono fun v w' ⟨a,⟨g',recs',b1,b2,b3⟩,c⟩=>⟨a,⟨g',recs',false,b1,b2,(fun h=>by cases h),b3⟩,c⟩
 |dropNo _ hno=>exact (vQ U p d g recs L qs w h x.i x.t hno).mono fun v w' ⟨a,hF⟩=>⟨a,⟨g,recs,qs,Nat.le_succ _,by omega,(fun h=>by cases h),WEx.same h hF⟩,hF.toChg⟩
 |cut _ _ _ _=>omega
 |cutNo _ _=>omega
 |sync _=>omega
 |app _ _ _=>omega
 |full _ _ _=>omega
 |appNo _ _=>omega
theorem o_ (U:Nat→Prop) (p d g KB:Nat) (recs:List Rc) (L M:Lg) (qs:Bool) (x:Aw) (e:Int) (w:World) (h:WAt w U p d g recs L qs) (hN:Nxt L x M e) (_:gh w x) (_:g<98) (hK1:(ax (sG g) recs).1.length+(32+cu (cL x L))≤KB) (_:32+cu L.es+cu (cL x L)≤KB) (_:KB≤1048576) (_:cO w) (hm:wiN x.d 8=6∨wiN x.d 8=7):Rt prog 20 [.pointer (some ⟨p,0,none⟩)] w fun v w'=>v=.int .i64 e∧DoR w w' U p d g KB M true∧Chg (fun k=>U k∨k=p) w w':=by
 cases hN with
 |sync _=>exact (qS U p d g recs L qs w h).mono fun v w' ⟨a,b,hl,c⟩=>⟨a,⟨g,recs,true,Nat.le_succ _,by omega,fun _=>rfl,WEx.of b (Nat.le_refl _) (fun q hq=>.inl (hl q hq)) ag.rfl_⟩,c⟩
 |drop _ _=>omega
 |dropNo _ _=>omega
 |cut _ _ _ _=>omega
 |cutNo _ _=>omega
 |app _ _ _=>omega
 |full _ _ _=>omega
 |appNo _ _=>omega
theorem Ad (U:Nat→Prop) (p d g KB:Nat) (recs:List Rc) (L M:Lg) (qs:Bool) (x:Aw) (e:Int) (w:World) (h:WAt w U p d g recs L qs) (hN:Nxt L x M e) (_:gh w x) (hg:g<98) (hK1:(ax (sG g) recs).1.length+(32+cu (cL x L))≤KB) (hK2:32+cu L.es+cu (cL x L)≤KB) (hK3:KB≤1048576) (hT:cO w) (hm:wiN x.d 8<4) (A2:Option Addr) (c2 m:Nat) (hes:bm w (.slice A2 m c2) (cL x L)) (hml:m=(cL x L).length) (hel:(cL x L).length≤600):Rt prog 17 [.pointer (some ⟨p,0,none⟩),.slice A2 m c2] w fun v w'=>v=.int .i64 e∧DoR w w' U p d g KB M false∧Chg (fun k=>U k∨k=p) w w':=by
 cases hN with
 |app _ hr hl=>
  rcases Nat.eq_zero_or_pos (cL x L).length with h0 | h0
  ·refine (qC U p d g recs L qs w h A2 c2 m (cL x L) hes hml hel hr hl h0).mono fun v w' ⟨a,b,c⟩=>⟨a,⟨g,recs,qs,Nat.le_succ _,by omega,(fun h=>by cases h),?_⟩,c⟩
   rw [List.eq_nil_of_length_eq_zero h0,List.append_nil];exact b
  ·exact (mB U p d g recs L qs w h A2 c2 m (cL x L) hes hml hel hr hl KB h0 hg (by omega) (by rw [kV];omega) hK3 hT).mono fun v w' ⟨a,⟨g',recs',b1,b2,b3⟩,c⟩=>⟨a,⟨g',recs',false,b1,b2,(fun h=>by cases h),b3⟩,c⟩
 |full _ hr hl=>exact (oV U p d g recs L qs w h A2 c2 m (cL x L) hes hml hel hr hl).mono fun v w' ⟨a,hF⟩=>⟨a,⟨g,recs,qs,Nat.le_succ _,by omega,(fun h=>by cases h),WEx.same h hF⟩,hF.toChg⟩
 |appNo _ hr=>exact (CA U p d g recs L qs w h A2 c2 m (cL x L) hes hml hel hr).mono fun v w' ⟨a,hF⟩=>⟨a,⟨g,recs,qs,Nat.le_succ _,by omega,(fun h=>by cases h),WEx.same h hF⟩,hF.toChg⟩
 |drop _ _=>omega
 |dropNo _ _=>omega
 |cut _ _ _ _=>omega
 |cutNo _ _=>omega
 |sync _=>omega
theorem dY (e:Int) (w:World) :
 Rt prog 8 [.int .i64 e] w (fun v w'=>v=.int .i64 e∧w=w'):=by
 refine enter (n:=4) Tryz.func8 rfl rfl rfl (af (ab (asi rfl (ah (ae (af (ab (mvi rfl (asi rfl (ah (ae (aC (bz (v:=.int _ _) rfl rfl (⟨rfl,rfl⟩))))))))))))))
theorem n_ {w w1 w2:World} {U:Nat→Prop} {p d g KB:Nat} {recs:List Rc} {L M:Lg} {qs sy:Bool} (h:WAt w U p d g recs L qs) (hF:ag w w1) (hD:DoR w1 w2 U p d g KB M sy):DoR w w2 U p d g KB M sy:=by
 obtain ⟨g',recs',qs',b1,b2,b3,V,b4,b5,b6⟩:=hD;have hz:=hF.size;exact ⟨g',recs',qs',b1,b2,b3,V,fun k hk=>(b4 k hk).imp id fun e=>by omega,b5,fun q hq=>(b6 q hq).imp (fun e=>h.back hF e) fun e=>by omega⟩
theorem gW {w w1 w2:World} {U:Nat→Prop} {p d g KB:Nat} {M:Lg} {sy:Bool} (hD:DoR w w1 U p d g KB M sy) (hF:ag w1 w2):DoR w w2 U p d g KB M sy:=by
 obtain ⟨g',recs',qs',b1,b2,b3,V,b4,b5,b6⟩:=hD;exact ⟨g',recs',qs',b1,b2,b3,V,b4,b5.from_ hF,fun q hq=>b6 q (b5.back hF hq)⟩
theorem zP {w w1 w2:World} {U:Nat→Prop} {p d g KB z:Nat} {recs:List Rc} {L M:Lg} {qs sy:Bool} (h:WAt w U p d g recs L qs) (hD:DoR w1 w2 U p d g KB M sy) (hF:ag w w1) (hz:w.heap.size≤z∧z<w1.heap.size) {w3:World} (hC:Chg (fun k=>k=z) w2 w3):DoR w1 w3 U p d g KB M sy:=by
 obtain ⟨g',recs',qs',b1,b2,b3,V,b4,b5,b6⟩:=hD;have hp:=h.plt;have hzp:¬ p=z:=by omega
 have hrow:∀ q,LR w2 p q→¬ q=z:=fun q hq e=>by
  rcases b6 q hq with h1 | h1
  ·have:=(h.rowlt (h.back hF h1)).1;omega
  ·omega
 refine ⟨g',recs',qs',b1,b2,b3,V,b4,b5.chgR hC (fun k hk e=>?_) hzp hrow,fun q hq=>b6 q ?_⟩
 ·have e:k=z:=e;rcases b4 k hk with h1 | h1
  ·have:=h.lt k h1;omega
  ·omega
 ·obtain ⟨la,E,n,c,D,h1,_⟩:=b5.ex;exact ⟨_,_,_,_,_,_,_,_,_,_,_,_,h1,ln (h1.chg hC hzp) hq⟩
theorem vR {w w1 w2 w3:World} {U:Nat→Prop} {p d g KB bs n c:Nat} {recs:List Rc} {L M:Lg} {qs sy:Bool} {A:Option Addr} {es:List Ent} (h:WAt w U p d g recs L qs) (hD:DoR w1 w2 U p d g KB M sy) (hF:ag w w1) (hx:dp w1 bs A n c es) (hz:w.heap.size≤bs) (hC:Chg (fun k=>A.map (·.block)=some k) w2 w3):DoR w1 w3 U p d g KB M sy:=by
 cases hA:A.map (·.block) with
 |none=>
  rw [hA] at hC;have hF2:ag w2 w3:=⟨hC.os,hC.tape,hC.output,hC.size,fun k hk=>hC.block k hk (fun e=>by cases e)⟩;exact gW hD hF2
 |some z=>
  have:=hx.at_ z hA;rw [hA] at hC;exact zP h hD hF (z:=z) ⟨by omega,this.2⟩ (hC.wide fun i hi=>.inl (by cases hi;rfl))
theorem yf (U:Nat→Prop) (p d g KB:Nat) (recs:List Rc) (L M:Lg) (qs:Bool) (x:Aw) (e:Int) (w:World) (h:WAt w U p d g recs L qs) (hN:Nxt L x M e) (hx:gh w x) (hg:g<98) (hK1:(ax (sG g) recs).1.length+(32+cu (cL x L))≤KB) (hK2:32+cu L.es+cu (cL x L)≤KB) (hK3:KB≤1048576) (hT:cO w) (E:Option Addr) (n c:Nat) (_:bm w (.slice E n c) L.es) (hm:wiN x.d 8=4) :
 Rt prog 10 [.pointer (some ⟨p,0,none⟩),.agg (awV x).toArray,.agg (lgV L.b L.t E n c).toArray] w (fun v w'=>v=.int .i64 e∧DoR w w' U p d g KB M false∧Chg (fun k=>U k∨k=p) w w'):=by
 refine enter (n:=44) Tryz.func10 rfl rfl rfl (af (ab (bu (v:=.agg _) rfl ?_)));intro b4 w1 E4 hb4 hk4;refine bu (v:=.agg _) rfl ?_;intro b5 w2 E5 hb5 hk5;replace hk4:=hk4.from_ E5;refine asi rfl (ah (ae (af (af (ab (aa (ai cE rfl) (aa (ao aD rfl (by exact (hk4.from_ ag.rfl_).rd 0 rfl)) ?_)))))));refine av db (dW x.d 8 _ (by decide)) ?_;rintro v11 w3 ⟨rfl,rfl⟩;refine ah (ae (aP (af (ab (aa (cU (a7 rfl rfl) (by rw [hm];rfl)) ?_)))));refine asb rfl (ah (ae (aY rfl (af (ab (mvp rfl (aa (ai cc rfl) (aa (ao aD rfl (by exact (hk4.from_ ag.rfl_).rd 3 rfl)) ?_))))))));have hB17:ag w w2:=((ag.rfl_.next E4).next E5);refine av tV (zW U p d g KB recs L M qs x e _ (h.from_ ((ag.rfl_.next E4).next E5)) hN (hx.from_ ((ag.rfl_.next E4).next E5)) hg hK1 hK2 hK3 (hT.from_ ((ag.rfl_.next E4).next E5)) hm) ?_;rintro v17 w4 ⟨rfl,hD17,hC17⟩;refine av dF (dY _ _) ?_;rintro v18 w5 ⟨rfl,rfl⟩;refine asi rfl (ah (ae (aC (aW (aF (bz (v:=.int _ _) rfl rfl (⟨rfl,gW (n_ h hB17 hD17) ag.rfl_,((ag.toChg (U:=fun k=>U k∨k=p) hB17).next hC17).next (ag.rfl_).toChg⟩)))))))
theorem ye (U:Nat→Prop) (p d g KB:Nat) (recs:List Rc) (L M:Lg) (qs:Bool) (x:Aw) (e:Int) (w:World) (h:WAt w U p d g recs L qs) (hN:Nxt L x M e) (hx:gh w x) (hg:g<98) (hK1:(ax (sG g) recs).1.length+(32+cu (cL x L))≤KB) (hK2:32+cu L.es+cu (cL x L)≤KB) (hK3:KB≤1048576) (hT:cO w) (E:Option Addr) (n c:Nat) (_:bm w (.slice E n c) L.es) (hm:wiN x.d 8=5) :
 Rt prog 10 [.pointer (some ⟨p,0,none⟩),.agg (awV x).toArray,.agg (lgV L.b L.t E n c).toArray] w (fun v w'=>v=.int .i64 e∧DoR w w' U p d g KB M false∧Chg (fun k=>U k∨k=p) w w'):=by
 refine enter (n:=44) Tryz.func10 rfl rfl rfl (af (ab (bu (v:=.agg _) rfl ?_)));intro b4 w1 E4 hb4 hk4;refine bu (v:=.agg _) rfl ?_;intro b5 w2 E5 hb5 hk5;replace hk4:=hk4.from_ E5;refine asi rfl (ah (ae (af (af (ab (aa (ai cE rfl) (aa (ao aD rfl (by exact (hk4.from_ ag.rfl_).rd 0 rfl)) ?_)))))));refine av db (dW x.d 8 _ (by decide)) ?_;rintro v11 w3 ⟨rfl,rfl⟩;refine ah (ae (aP (af (ab (aa (bh (a7 rfl rfl) (by rw [beq_eq_false_iff_ne];omega)) ?_)))));refine asb rfl (ah (ae (aI rfl (af (ab (aa (cU (a7 rfl rfl) (by rw [hm];rfl)) ?_))))));refine asb rfl (ah (ae (aY rfl (af (ab (mvp rfl (aa (ai cc rfl) (aa (ao aD rfl (by exact (hk4.from_ ag.rfl_).rd 3 rfl)) ?_))))))));refine aa (ai dL rfl) (aa (ao aD rfl (by exact (hk4.from_ ag.rfl_).rd 4 rfl)) ?_);have hB26:ag w w2:=((ag.rfl_.next E4).next E5);refine av tW (ya U p d g KB recs L M qs x e _ (h.from_ ((ag.rfl_.next E4).next E5)) hN (hx.from_ ((ag.rfl_.next E4).next E5)) hg hK1 hK2 hK3 (hT.from_ ((ag.rfl_.next E4).next E5)) hm) ?_;rintro v26 w4 ⟨rfl,hD26,hC26⟩;refine av dF (dY _ _) ?_;rintro v27 w5 ⟨rfl,rfl⟩;refine asi rfl (ah (ae (aC (aW (aF (bz (v:=.int _ _) rfl rfl (⟨rfl,gW (n_ h hB26 hD26) ag.rfl_,((ag.toChg (U:=fun k=>U k∨k=p) hB26).next hC26).next (ag.rfl_).toChg⟩)))))))
theorem yd (U:Nat→Prop) (p d g KB:Nat) (recs:List Rc) (L M:Lg) (qs:Bool) (x:Aw) (e:Int) (w:World) (h:WAt w U p d g recs L qs) (hN:Nxt L x M e) (hx:gh w x) (hg:g<98) (hK1:(ax (sG g) recs).1.length+(32+cu (cL x L))≤KB) (hK2:32+cu L.es+cu (cL x L)≤KB) (hK3:KB≤1048576) (hT:cO w) (E:Option Addr) (n c:Nat) (_:bm w (.slice E n c) L.es) (hm:wiN x.d 8=6) :
 Rt prog 10 [.pointer (some ⟨p,0,none⟩),.agg (awV x).toArray,.agg (lgV L.b L.t E n c).toArray] w (fun v w'=>v=.int .i64 e∧DoR w w' U p d g KB M true∧Chg (fun k=>U k∨k=p) w w'):=by
 refine enter (n:=44) Tryz.func10 rfl rfl rfl (af (ab (bu (v:=.agg _) rfl ?_)));intro b4 w1 E4 hb4 hk4;refine bu (v:=.agg _) rfl ?_;intro b5 w2 E5 hb5 hk5;replace hk4:=hk4.from_ E5;refine asi rfl (ah (ae (af (af (ab (aa (ai cE rfl) (aa (ao aD rfl (by exact (hk4.from_ ag.rfl_).rd 0 rfl)) ?_)))))));refine av db (dW x.d 8 _ (by decide)) ?_;rintro v11 w3 ⟨rfl,rfl⟩;refine ah (ae (aP (af (ab (aa (bh (a7 rfl rfl) (by rw [beq_eq_false_iff_ne];omega)) ?_)))));refine asb rfl (ah (ae (aI rfl (af (ab (aa (bh (a7 rfl rfl) (by rw [beq_eq_false_iff_ne];omega)) ?_))))));refine asb rfl (ah (ae (aI rfl (af (af (ab (aa (cU (a7 rfl rfl) (by rw [hm];rfl)) ?_)))))));refine asb rfl (ah (ae (aY rfl (aE (ae (aY rfl (af (ab (mvp rfl ?_)))))))));have hB32:ag w w2:=((ag.rfl_.next E4).next E5);refine av kN (o_ U p d g KB recs L M qs x e _ (h.from_ ((ag.rfl_.next E4).next E5)) hN (hx.from_ ((ag.rfl_.next E4).next E5)) hg hK1 hK2 hK3 (hT.from_ ((ag.rfl_.next E4).next E5)) (.inl hm)) ?_;rintro v32 w4 ⟨rfl,hD32,hC32⟩;refine av dF (dY _ _) ?_;rintro v33 w5 ⟨rfl,rfl⟩;refine asi rfl (ah (ae (aC (aW (aF (bz (v:=.int _ _) rfl rfl (⟨rfl,gW (n_ h hB32 hD32) ag.rfl_,((ag.toChg (U:=fun k=>U k∨k=p) hB32).next hC32).next (ag.rfl_).toChg⟩)))))))
theorem yb (U:Nat→Prop) (p d g KB:Nat) (recs:List Rc) (L M:Lg) (qs:Bool) (x:Aw) (e:Int) (w:World) (h:WAt w U p d g recs L qs) (hN:Nxt L x M e) (hx:gh w x) (hg:g<98) (hK1:(ax (sG g) recs).1.length+(32+cu (cL x L))≤KB) (hK2:32+cu L.es+cu (cL x L)≤KB) (hK3:KB≤1048576) (hT:cO w) (E:Option Addr) (n c:Nat) (_:bm w (.slice E n c) L.es) (hm:wiN x.d 8=7) :
 Rt prog 10 [.pointer (some ⟨p,0,none⟩),.agg (awV x).toArray,.agg (lgV L.b L.t E n c).toArray] w (fun v w'=>v=.int .i64 e∧DoR w w' U p d g KB M true∧Chg (fun k=>U k∨k=p) w w'):=by
 refine enter (n:=44) Tryz.func10 rfl rfl rfl (af (ab (bu (v:=.agg _) rfl ?_)));intro b4 w1 E4 hb4 hk4;refine bu (v:=.agg _) rfl ?_;intro b5 w2 E5 hb5 hk5;replace hk4:=hk4.from_ E5;refine asi rfl (ah (ae (af (af (ab (aa (ai cE rfl) (aa (ao aD rfl (by exact (hk4.from_ ag.rfl_).rd 0 rfl)) ?_)))))));refine av db (dW x.d 8 _ (by decide)) ?_;rintro v11 w3 ⟨rfl,rfl⟩;refine ah (ae (aP (af (ab (aa (bh (a7 rfl rfl) (by rw [beq_eq_false_iff_ne];omega)) ?_)))));refine asb rfl (ah (ae (aI rfl (af (ab (aa (bh (a7 rfl rfl) (by rw [beq_eq_false_iff_ne];omega)) ?_))))));refine asb rfl (ah (ae (aI rfl (af (af (ab (aa (bh (a7 rfl rfl) (by rw [beq_eq_false_iff_ne];omega)) ?_)))))));refine asb rfl (ah (ae (aI rfl (ab (aa (cU (a7 rfl rfl) (by rw [hm];rfl)) ?_)))));refine asb rfl (ah (ae (aY rfl (af (ab (mvp rfl ?_))))));have hB32:ag w w2:=((ag.rfl_.next E4).next E5);refine av kN (o_ U p d g KB recs L M qs x e _ (h.from_ ((ag.rfl_.next E4).next E5)) hN (hx.from_ ((ag.rfl_.next E4).next E5)) hg hK1 hK2 hK3 (hT.from_ ((ag.rfl_.next E4).next E5)) (.inr hm)) ?_;rintro v32 w4 ⟨rfl,hD32,hC32⟩;refine av dF (dY _ _) ?_;rintro v33 w5 ⟨rfl,rfl⟩;refine asi rfl (ah (ae (aC (aW (aF (bz (v:=.int _ _) rfl rfl (⟨rfl,gW (n_ h hB32 hD32) ag.rfl_,((ag.toChg (U:=fun k=>U k∨k=p) hB32).next hC32).next (ag.rfl_).toChg⟩)))))))
theorem yg (U:Nat→Prop) (p d g KB:Nat) (recs:List Rc) (L M:Lg) (qs:Bool) (x:Aw) (e:Int) (w:World) (h:WAt w U p d g recs L qs) (hN:Nxt L x M e) (hx:gh w x) (hg:g<98) (hK1:(ax (sG g) recs).1.length+(32+cu (cL x L))≤KB) (hK2:32+cu L.es+cu (cL x L)≤KB) (hK3:KB≤1048576) (hT:cO w) (E:Option Addr) (n c:Nat) (hE:bm w (.slice E n c) L.es) (hm:wiN x.d 8<4) (hxl:x.ls.length≤600) :
 Rt prog 10 [.pointer (some ⟨p,0,none⟩),.agg (awV x).toArray,.agg (lgV L.b L.t E n c).toArray] w (fun v w'=>v=.int .i64 e∧DoR w w' U p d g KB M false∧Chg (fun k=>U k∨k=p) w w'):=by
 refine enter (n:=44) Tryz.func10 rfl rfl rfl (af (ab (bu (v:=.agg _) rfl ?_)));intro b4 w1 E4 hb4 hk4;refine bu (v:=.agg _) rfl ?_;intro b5 w2 E5 hb5 hk5;replace hk4:=hk4.from_ E5;refine asi rfl (ah (ae (af (af (ab (aa (ai cE rfl) (aa (ao aD rfl (by exact (hk4.from_ ag.rfl_).rd 0 rfl)) ?_)))))));refine av db (dW x.d 8 _ (by decide)) ?_;rintro v11 w3 ⟨rfl,rfl⟩;refine ah (ae (aP (af (ab (aa (bh (a7 rfl rfl) (by rw [beq_eq_false_iff_ne];omega)) ?_)))));refine asb rfl (ah (ae (aI rfl (af (ab (aa (bh (a7 rfl rfl) (by rw [beq_eq_false_iff_ne];omega)) ?_))))));refine asb rfl (ah (ae (aI rfl (af (af (ab (aa (bh (a7 rfl rfl) (by rw [beq_eq_false_iff_ne];omega)) ?_)))))));refine asb rfl (ah (ae (aI rfl (ab (aa (bh (a7 rfl rfl) (by rw [beq_eq_false_iff_ne];omega)) ?_)))));refine asb rfl (ah (ae (aI rfl (aE (bI (ae (af (ab (aa (aG (cs:=awV x) fL e_ rfl ((hk4.from_ ag.rfl_).whole)) (aa (aG (cs:=lgV L.b L.t E n c) az aq rfl ((hk5.from_ ag.rfl_).whole)) ?_))))))))));have hz36:=(((ag.rfl_.next E4).next E5)).size;obtain ⟨bs36,hbs36⟩:∃ x,x=(w2).heap.size:=⟨_,rfl⟩;refine av kM (kF x L E c n _ (hx.from_ ((ag.rfl_.next E4).next E5)) (by omega) h.ok (hE.from_ ((ag.rfl_.next E4).next E5))) ?_;rintro v36 w4 ⟨⟨A36,c36,rfl,ho36⟩,E36⟩;rw [←hbs36] at ho36;rw [←hbs36] at hz36;have hx36:dp w4 bs36 A36 x.ls.length c36 (cL x L):=cJ.of_own ho36;refine ass rfl (ah (ae (af (ab (mvp rfl (mvs rfl ?_))))));have hB39:ag w w4:=(((ag.rfl_.next E4).next E5).next E36);refine av oI (Ad U p d g KB recs L M qs x e _ (h.from_ (((ag.rfl_.next E4).next E5).next E36)) hN (hx.from_ (((ag.rfl_.next E4).next E5).next E36)) hg hK1 hK2 hK3 (hT.from_ (((ag.rfl_.next E4).next E5).next E36)) hm A36 c36 x.ls.length (dp.ents hx36) (by rw [jP]) (by rw [jP];exact hxl)) ?_;rintro v39 w5 ⟨rfl,hD39,hC39⟩;have hCw:=(ag.toChg (U:=fun k=>U k∨k=p) hB39).next hC39;have hpl:=h.plt;have hs39:=eX ho36 hC39 (fun q hq e=>by have:=(hx36.at_ q hq).1;rcases e with e | e;have:=h.lt q e;omega;omega);have hbz:bs36≤(w5).heap.size:=by have:=hC39.size;have:=E36.size;rw [hbs36];omega
 refine av dF (dY _ _) ?_;rintro v40 w6 ⟨rfl,rfl⟩;refine asi rfl (ah (ae (af (ab (mvs rfl ?_)))));have hM42:ag _ w5:=ag.rfl_;refine av oJ (kq bs36 A36 x.ls.length c36 (bJ (cL x L)) _ (hs39.kept_from ag.rfl_) (by omega) (Nat.le_trans hbz (ag.rfl_).size)) ?_;rintro v42 w7 hg42;have hG42:=Chg.of_grown (U:=fun k=>A36.map (·.block)=some k) hg42 fun k hk=>hk
 have hC42:Chg (fun k=>U k∨k=p) w w7:=(hCw.next hM42.toChg).trans hG42 (fun q hq=>.inr (by have:=(hx36.at_ q hq).1;omega));have hD42:DoR _ w7 U p d g KB M false:=vR h (gW hD39 hM42) hB39 hx36 hz36 hG42;refine ah (ae (af (ab (mvi rfl (asi rfl (ah (ae (aC (bz (v:=.int _ _) rfl rfl (⟨rfl,gW (n_ h hB39 hD42) ag.rfl_,hC42.next (ag.rfl_).toChg⟩))))))))))
theorem zO (U:Nat→Prop) (p d g KB:Nat) (recs:List Rc) (L M:Lg) (qs:Bool) (x:Aw) (e:Int) (w:World) (h:WAt w U p d g recs L qs) (hN:Nxt L x M e) (hx:gh w x) (hg:g<98) (hK1:(ax (sG g) recs).1.length+(32+cu (cL x L))≤KB) (hK2:32+cu L.es+cu (cL x L)≤KB) (hK3:KB≤1048576) (hT:cO w) (E:Option Addr) (n c:Nat) (hE:bm w (.slice E n c) L.es) (hxl:x.ls.length≤600):Rt prog 10 [.pointer (some ⟨p,0,none⟩),.agg (awV x).toArray,.agg (lgV L.b L.t E n c).toArray] w fun v w'=>v=.int .i64 e∧DoR w w' U p d g KB M (decide (wiN x.d 8=7))∧Chg (fun k=>U k∨k=p) w w':=by
 have hl:wiN x.d 8<8:=Nat.mod_lt _ (by decide);rcases Nat.lt_or_ge (wiN x.d 8) 4 with h4 | h4
 ·rw [decide_eq_false (by omega)];exact yg U p d g KB recs L M qs x e w h hN hx hg hK1 hK2 hK3 hT E n c hE h4 hxl
 by_cases h5:wiN x.d 8=4
 ·rw [decide_eq_false (by omega)];exact yf U p d g KB recs L M qs x e w h hN hx hg hK1 hK2 hK3 hT E n c hE h5
 by_cases h6:wiN x.d 8=5
 ·rw [decide_eq_false (by omega)];exact ye U p d g KB recs L M qs x e w h hN hx hg hK1 hK2 hK3 hT E n c hE h6
 by_cases h7:wiN x.d 8=6
 ·rw [decide_eq_false (by omega)];refine (yd U p d g KB recs L M qs x e w h hN hx hg hK1 hK2 hK3 hT E n c hE h7).mono fun v w' ⟨a,⟨g',recs',qs',b1,b2,b3,b4⟩,c⟩=>⟨a,⟨g',recs',qs',b1,b2,(fun h=>by cases h),b4⟩,c⟩
 ·rw [decide_eq_true (by omega)];exact yb U p d g KB recs L M qs x e w h hN hx hg hK1 hK2 hK3 hT E n c hE (by omega)
theorem js:fK prog 23=some false:=by kernel_rfl
theorem fM:fK prog 22=some false:=by kernel_rfl
theorem eQ:ch prog 25 0=some 0:=by kernel_rfl
theorem oF:(dq prog 22).isSome=true:=by kernel_rfl
theorem jt:dq prog 22=some (38,6):=by kernel_rfl
theorem tU:aH prog 21=true:=by kernel_rfl
theorem lC:ch prog 38 5=some 5:=by kernel_rfl
theorem lD:ch prog 25 1=some 1:=by kernel_rfl
theorem oG:aH prog 22=true:=by kernel_rfl
theorem tT:aH prog 35=true:=by kernel_rfl
theorem vT (w:World):Rt prog 22 [.slice none 0 0] w fun v w'=>(∃ d,v=.tuple #[.pointer (some ⟨d,0,none⟩),.int .i64 0]∧cP w' (fun k=>w.heap.size≤k∧k<w'.heap.size) d [] 0 false)∧ag w w':=
 (xB none 0 0 [] w (fun h=>absurd h (Nat.lt_irrefl _)) rfl (fun f hf=>by cases hf)).mono fun v w' h=>by
  obtain ⟨h,hF⟩:=h;rcases h with ⟨h,_⟩ | ⟨_,d,h,hd⟩
  ·exact absurd ⟨Nat.zero_le _,fun j hj=>absurd hj (Nat.not_lt_zero _)⟩ h
  ·exact ⟨⟨d,h,hd.wide fun k h1 h2=>⟨h1,h2⟩⟩,hF⟩
theorem Bg {D:List Fe} {gs:List Af} (h:gs.map afB=D.map fun e=>(e.1,e.2.1)) (hD:DOk D) (hn:∀ e∈D,okN e.1=true):Bc gs:=by
 have hl:gs.length=D.length:=by have:=congrArg List.length h;simpa using this
 have hat:∀ j (h1:j<gs.length),afB gs[j]=((D[j]'(by omega)).1,(D[j]'(by omega)).2.1):=fun j h1=>by
  have h2:(gs.map afB)[j]? =(D.map fun e=>(e.1,e.2.1))[j]? :=by rw [h]
  rw [List.getElem?_map,List.getElem?_map,List.getElem?_eq_getElem h1,List.getElem?_eq_getElem (by omega)] at h2;simpa using h2
 have hnm:∀ j (h1:j<gs.length),gs[j].nm=(D[j]'(by omega)).1:=fun j h1=>congrArg Prod.fst (hat j h1)
 refine ⟨by rw [hl];exact hD.2.1,fun j hj=>⟨?_,?_,fun h0=>?_⟩⟩
 ·rw [hnm j hj];exact hn _ (List.getElem_mem _)
 ·rw [show gs[j].bs=(D[j]'(by omega)).2.1 from congrArg Prod.snd (hat j hj)];exact (hD.2.2 _ (List.getElem_mem _)).1
 ·rw [hnm j hj,hnm (j-1) (by omega)];exact hD.1.cmp (by omega) (by omega)
def dS (x:Aw):Nat:=(x.ls.map fun e=>e.d.size).sum
def wS (L:List Aw) (i:Nat):Nat:=((L.take i).map dS).sum
theorem p1 {L:List Aw} {i:Nat} (h:i<L.length):wS L (i+1)=wS L i+dS L[i]:=by
 unfold wS;rw [List.take_succ_eq_append_getElem h,List.map_append,List.sum_append];simp
theorem vN {ls:List Ent} {i:Nat} (h:i<ls.length):((ls.take (i+1)).map fun e=>e.d.size).sum=((ls.take i).map fun e=>e.d.size).sum+ls[i].d.size:=by
 rw [List.take_succ_eq_append_getElem h,List.map_append,List.sum_append];simp
theorem wR:∀ (es:List Ent),cu es≤2*(es.map fun e=>e.d.size).sum+64*es.length
 |[]=>Nat.le_refl _
 |e::r=>by
  have h:=wR r;have h1:cu (e::r)=(e.d.size+53)/31*32+cu r:=by unfold cu;rw [List.map_cons,List.sum_cons]
  rw [h1,List.map_cons,List.sum_cons,List.length_cons];omega
theorem Az:∀ (ls:List Ent) (p t:Int),(goE ls p t).map (fun e=>e.d.size)=ls.map fun e=>e.d.size
 |[],_,_=>rfl
 |e::r,p,t=>by
  show e.d.size::(goE r (p+1) (max t (min e.t 100))).map (fun e=>e.d.size)=_;rw [Az r];rfl
theorem Ah (x:Aw) (L:Lg):cu (cL x L)≤2*dS x+64*x.ls.length:=by
 have h:=wR (cL x L)
 have h1:(cL x L).map (fun e=>e.d.size)=x.ls.map fun e=>e.d.size:=by
  unfold cL;split
  ·exact Az _ _ _
  ·rfl
 rw [h1,jP] at h;exact h
theorem Nxt.siz {L M:Lg} {x:Aw} {e:Int} (h:Nxt L x M e):cu M.es≤cu L.es+cu (cL x L):=by
 cases h with
 |cut k hm hi hk=>exact Nat.le_trans (mm _ _) (Nat.le_add_right _ _)
 |cutNo _ _=>exact Nat.le_add_right _ _
 |drop _ h=>exact Nat.le_trans (pE _ _ _) (Nat.le_add_right _ _)
 |dropNo _ _=>exact Nat.le_add_right _ _
 |sync _=>exact Nat.le_add_right _ _
 |app _ hr hl=>show cu (L.es++cL x L)≤_;rw [kV];exact Nat.le_refl _
 |full _ _ _=>exact Nat.le_add_right _ _
 |appNo _ _=>exact Nat.le_add_right _ _
theorem vS {D:List Fe} {g:Nat} {recs:List Rc} {la:Int} (h:DkL D g recs la) (hg:g<100) (hq:∀ e∈D,e.2.1=e.2.2) (ps:List Int):ed D ps=(D.map fun e=>(e.1,e.2.1))∧(∀ e∈D,okN e.1=true)∧∀ e∈D,e.1.size≤140737488351232:=by
 rcases h with ⟨_,_,_,rfl⟩ | ⟨_,y,rfl⟩
 ·exact ⟨by unfold ed;rfl,fun e he=>(by cases he),fun e he=>(by cases he)⟩
 ·have h1:=hq _ (List.mem_singleton.2 rfl);simp only at h1;subst h1;refine ⟨by simp [ed],fun e he=>?_,fun e he=>?_⟩
  ·rw [List.mem_singleton.1 he];exact i_ hg
  ·rw [List.mem_singleton.1 he];exact sz8 hg
theorem xW {D:List Fe} {gs:List Af} (h:gs.map afB=D.map fun e=>(e.1,e.2.1)) (hq:∀ e∈D,e.2.1=e.2.2):gs.map afE=D:=by
 have h1:gs.map afE=(gs.map afB).map fun p=>(p.1,p.2,p.2):=by rw [List.map_map];rfl
 rw [h1,h,List.map_map]
 have h2:D.map ((fun p:ByteArray×List Nat=>(p.1,p.2,p.2)) ∘ fun e:Fe=>(e.1,e.2.1))=D.map id:=List.map_congr_left fun e he=>by
  show (e.1,e.2.1,e.2.1)=e;rw [show (e.2.1,e.2.1)=e.2 from Prod.ext rfl (hq e he)]
 rw [h2,List.map_id]
theorem ql (E:Option Addr) (c n:Nat) (ls:List Ent) (w:World) (he:bm w (.slice E n c) ls) (hn:n=ls.length) (hok:∀ e∈ls,e.Ok) (hl:ls.length≤140737488351232) :
 Rt prog 21 [.slice E n c] w (fun v w'=>(∃ W:Nat,v=.int .i64 (W:Nat)∧W≤400000000000000∧ls.length≤W∧(W≤30000→W=ls.length+(ls.map fun e=>e.d.size).sum))∧ag w w'):=by
 subst hn;refine enter (n:=26) Tryz.func21 rfl rfl rfl (af (ab (asi rfl (ah (ae (af (ab (mvs rfl (aa (bb cj rfl) (asi rfl (ah (ae (af (af (ab (asi rfl ?_))))))))))))))));refine ah (ae (aP (cH (G:=Nat×Nat) [7,8,9,10,11,12,13,14,15,16,17,18,19,20,21,22,23,24] (fun (m,i)=>[(3,.int .i64 (m:Nat)),(4,.int .i64 (i:Nat))]) (fun (m,i) w'=>i≤ls.length∧m≤400000000000000∧m=ls.length+((ls.take i).map fun e=>e.d.size).sum∧ag w w') (fun (_,i)=>ls.length-i) ((ls.length,0)) ⟨rfl,rfl,trivial⟩ ?_ ?_)))
 ·exact ⟨Nat.zero_le _,by omega,by simp,ag.rfl_⟩
 rintro ⟨m,i⟩ ρ1 w1 ⟨hi,hm,hms,hB⟩;refine af (af (ab (mvi rfl (mvs rfl (aa (bb cj rfl) (aa (cl rfl rfl) (mvb rfl (Bs (t:=11) rfl (fun Q2=>?_) (fun Q2=>?_)))))))))
 ·refine ak rfl (mvi rfl (ak rfl (aa (cl rfl rfl) (aa (aO (v:=.bool _) rfl rfl) (ah (ae (BM rfl (fun Q3=>?_) (fun Q3=>?_))))))))
  ·have hil:i<ls.length:=by omega
   obtain ⟨ba,oa,hA,hcs⟩:=tq he (by omega);subst hA;have hdk:=(hok _ (List.getElem_mem hil)).2.2.2.2;refine aE (ae (af (aP (ab (mvi rfl (mvs rfl (mvi rfl (aa (cm cM rfl rfl (by omega)) (aa (ai gC rfl) (aa (ao (v:=.string ls[i].d) bY rfl (Ct hB (hcs i hil 2 _ rfl))) (aa (im (by kernel_rfl) rfl) (aa (br rfl rfl (by omega)) ?_))))))))))));refine asi rfl (ah (bI (ae (ab (mvi rfl (aa (br rfl rfl (by omega)) (asi rfl (ah ?_))))))));refine bW ((m+ls[i].d.size,i+1)) ⟨(by first | rfl | (refine bD ?_;omega)),(by first | rfl | (refine bD ?_;omega)),trivial⟩ (by (iterate 41 refine bg rfl ?_);exact bw) ⟨?_,?_⟩
   ·exact ⟨by omega,by omega,by rw [vN hil];omega,hB⟩
   ·show ls.length-(i+1)<ls.length-i;omega
  refine cx (bc (bc (bX (ae (af (ab (mvi rfl (asi rfl (ah (ae (aC (bz (v:=.int _ _) rfl rfl (⟨⟨m,rfl,hm,by omega,fun hW=>?_⟩,hB⟩)))))))))))));have hie:i=ls.length:=by omega
  rw [hie,List.take_length] at hms;exact hms
 refine aA rfl rfl (aA rfl rfl (aa (aQ (v:=.bool _) rfl rfl) (ah (ae (aI rfl (cx (bc (bc (bX (ae (af (ab (mvi rfl (asi rfl ?_))))))))))))));refine ah (ae (aC (bz (v:=.int _ _) rfl rfl (⟨⟨m,rfl,hm,by omega,fun hW=>?_⟩,hB⟩))));have hie:i=ls.length:=by omega
 rw [hie,List.take_length] at hms;exact hms
theorem xV (A B:Option Addr) (ca cb m:Nat) (L:List Aw) (w:World) (ha:wx w A m L) :
 Rt prog 5 [.agg #[.slice A L.length ca,.slice B m cb]] w (fun v w'=>(∃ hv:Bool,v=.bool hv∧(hv=false→wS L (min L.length 20)≤30000∧∀ j (h:j<L.length),j<20→(L[j]).ls.length≤40))∧ag w w'):=by
 have hlL:=ha.lenL;have hlM:=ha.lenM;refine enter (n:=49) Tryz.func5 rfl rfl rfl (af (ab (bu (v:=.agg _) rfl ?_)));intro b1 w1 E1 hb1 hk1;refine asb rfl (ah (ae (af (ab (asi rfl (ah (ae (af (af (ab (asi rfl (ah (ae (aP (cH (G:=Nat×Nat) [2,5,6,7,8,9,10,11,12,13,14,15,16,17,18,19,20,21,22,23,24,25,26,27,28,29,30,31,32,33,34,35,36,37,38,39,40] (fun (n,i)=>[(3,.int .i64 (n:Nat)),(4,.int .i64 (i:Nat))]) (fun (n,i) w'=>i≤L.length∧i≤20∧n≤i*800000000000000∧(n≤30000→wS L i≤n)∧(∀ j (h:j<L.length),j<i→(L[j]).ls.length≤40)∧Blk w' b1 25 #[.slice A L.length ca,.slice B m cb]∧ag w w') (fun (_,i)=>L.length-i) ((0,0)) ⟨rfl,rfl,trivial⟩ ?_ ?_)))))))))))))))
 ·exact ⟨Nat.zero_le _,Nat.zero_le _,Nat.zero_le _,fun _=>Nat.zero_le _,fun j h h0=>absurd h0 (Nat.not_lt_zero _),hk1.from_ ag.rfl_,(ag.rfl_.next E1)⟩
 rintro ⟨n,i⟩ ρ2 w2 ⟨hi,hi20,hn,hws,hsm,hP,hB⟩;refine af (af (ab (mvi rfl (aa (ai eQ rfl) (aa (ao fM rfl (by exact (hP.from_ ag.rfl_).rd 0 rfl)) ?_)))));refine aa (bb oF rfl) (aa (cl rfl rfl) (mvb rfl (Bs (t:=10) rfl (fun Q3=>?_) (fun Q3=>?_))))
 ·refine ak rfl (mvi rfl (ak rfl (aa (cl rfl rfl) (aa (aO (v:=.bool _) rfl rfl) (ah (ae (BM rfl (fun Q4=>?_) (fun Q4=>?_))))))))
  ·have hil:i<L.length:=by omega
   obtain ⟨bL,oL,hAL,hcL⟩:=ha.rowL (by omega);have hce:=hcL i hil;have hak:=ha.okL _ (List.getElem_mem hil);have hall:=hak.ll;have haly:=hak.ly;refine aE (ae (af (aP (af ?_))));apply bO 18 [(16,eqp _),(17,eqp _),(18,eqp _),(19,eqp _),(20,eqp _),(21,eqp _),(22,eqp (.slice L[i].A L[i].ls.length L[i].ac)),(23,fun v _=>∃ W:Nat,v=.int .i64 (W:Nat)∧W≤400000000000000∧L[i].ls.length≤W∧(W≤30000→W=L[i].ls.length+(L[i].ls.map fun e=>e.d.size).sum)),(24,fun v _=>∃ W:Nat,v=.int .i64 ((n+W:Nat):Int)∧W≤400000000000000∧L[i].ls.length≤W∧(W≤30000→W=L[i].ls.length+(L[i].ls.map fun e=>e.d.size).sum)),(25,eqp _),(26,eqp _),(27,eqp _),(28,eqp _),(29,eqp _),(30,eqp (.slice L[i].Y L[i].ys.length L[i].yc)),(31,eqp _),(32,fun v _=>∃ W:Nat,v=.int .i64 ((n+W+L[i].ys.length:Nat):Int)∧W≤400000000000000∧L[i].ls.length≤W∧(W≤30000→W=L[i].ls.length+(L[i].ls.map fun e=>e.d.size).sum)),(3,fun v _=>∃ W:Nat,v=.int .i64 ((n+W+L[i].ys.length:Nat):Int)∧W≤400000000000000∧L[i].ls.length≤W∧(W≤30000→W=L[i].ls.length+(L[i].ls.map fun e=>e.d.size).sum))] (by repeat first | exact cr | refine cq ?_ | refine bU ?_) (by kernel_rfl) (by kernel_rfl) ⟨aj _,aj _,aj _,aj _,aj _,aj _,aj _,(fun _ _ _ _ h=>h),(fun _ _ _ _ h=>h),aj _,aj _,aj _,aj _,aj _,aj _,aj _,(fun _ _ _ _ h=>h),(fun _ _ _ _ h=>h),trivial⟩
   case hop=>
    constructor
    ·rintro-w6 D6;exact an (aB (v:=.int _ _) rfl) rfl
    constructor
    ·rintro-w7 D7;exact an (ai eQ rfl) rfl
    constructor
    ·rintro-w8 D8;rintro _ rfl;exact an (ao (v:=.slice (some ⟨bL,oL,none⟩) L.length ca) fM rfl (by rw [←hAL];exact (hP.from_ (ag.rfl_.next D8)).rd 0 rfl)) rfl
    constructor
    ·rintro-w9 D9;exact an (aB (v:=.int _ _) rfl) rfl
    constructor
    ·rintro-w10 D10;rintro _ rfl _ rfl;exact an (cm jt rfl rfl (by omega)) rfl
    constructor
    ·rintro-w11 D11;rintro _ rfl;exact an (ai jv rfl) rfl
    constructor
    ·rintro-w12 D12;rintro _ rfl;exact an (ao (v:=.slice L[i].A L[i].ls.length L[i].ac) bC rfl (Ct (hB.next D12) (hce 1 _ rfl))) rfl
    constructor
    ·rintro-w13 D13;rintro v13_22 rfl;refine cX tU ((ql L[i].A L[i].ac L[i].ls.length L[i].ls _ (hak.le.from_ (hB.next D13)) rfl hak.eok hall).mono ?_);rintro v _ ⟨h,hF⟩;exact ⟨hF,h⟩
    constructor
    ·rintro-w14 D14;rintro _ rfl v14_23 ⟨W14,rfl,h14⟩;have h5:=h14.1;exact an (bH (br rfl rfl (by omega)) (congrArg (Value.int .i64) (show ((n:Nat):Int)+((W14:Nat):Int)=((n+W14:Nat):Int) by omega))) ⟨W14,rfl,h14⟩
    constructor
    ·rintro-w15 D15;exact an (ai eQ rfl) rfl
    constructor
    ·rintro-w16 D16;rintro _ rfl;exact an (ao (v:=.slice (some ⟨bL,oL,none⟩) L.length ca) fM rfl (by rw [←hAL];exact (hP.from_ (ag.rfl_.next D16)).rd 0 rfl)) rfl
    constructor
    ·rintro-w17 D17;exact an (aB (v:=.int _ _) rfl) rfl
    constructor
    ·rintro-w18 D18;rintro _ rfl _ rfl;exact an (cm jt rfl rfl (by omega)) rfl
    constructor
    ·rintro-w19 D19;rintro _ rfl;exact an (ai lC rfl) rfl
    constructor
    ·rintro-w20 D20;rintro _ rfl;exact an (ao (v:=.slice L[i].Y L[i].ys.length L[i].yc) js rfl (Ct (hB.next D20) (hce 5 _ rfl))) rfl
    constructor
    ·rintro-w21 D21;rintro v21_30 rfl;exact an (bb gI rfl) rfl
    constructor
    ·rintro-w22 D22;rintro v22_24 ⟨W22,rfl,h22⟩ _ rfl;have h5:=h22.1;exact an (bH (br rfl rfl (by omega)) (congrArg (Value.int .i64) (show ((n+W22:Nat):Int)+((L[i].ys.length:Nat):Int)=((n+W22+L[i].ys.length:Nat):Int) by omega))) ⟨W22,rfl,h22⟩
    constructor
    ·rintro-w23 D23;rintro v23_32 ⟨W23,rfl,h23⟩;exact an (bn (v:=.int .i64 _) rfl) ⟨W23,rfl,h23⟩
    exact trivial
   case hend=>
    intro w24 D24;rintro _ rfl _ rfl _ rfl _ rfl _ rfl _ rfl v22 rfl v23 ⟨W24,rfl,h24⟩ v24 ⟨W24,rfl,h24⟩ _ rfl _ rfl _ rfl _ rfl _ rfl v30 rfl _ rfl v32 ⟨W24,rfl,h24⟩ v3 ⟨W9,rfl,hW9a,hW9b,hW9c⟩;show St ..;refine ah (ae (af (ab (aa (ai eQ rfl) ?_))));refine aa (ao (v:=.slice (some ⟨bL,oL,none⟩) L.length ca) fM rfl (by rw [←hAL];exact (hP.from_ (ag.rfl_.next D24)).rd 0 rfl)) ?_;refine mvi rfl (aa (cm jt rfl rfl (by omega)) (aa (ai jv rfl) (aa (ao (v:=.slice L[i].A L[i].ls.length L[i].ac) bC rfl (Ct (hB.next D24) (hce 1 _ rfl))) (aa (bb cj rfl) (aa (cn rfl rfl) (ah (ae (BM rfl (fun Q25=>?_) (fun Q25=>?_)))))))))
    ·refine af (ab (asb rfl (ah (ae (aC (aW (aF (aF (aW (aF (bz (v:=.bool _) rfl rfl (⟨⟨true,rfl,fun h=>by cases h⟩,(hB.next D24)⟩))))))))))))
    refine aE (bI (ae (ab (mvi rfl (aa (br rfl rfl (by omega)) (asi rfl (ah ?_)))))));refine bW ((n+W9+L[i].ys.length,i+1)) ⟨(by first | rfl | (refine bD ?_;omega)),(by first | rfl | (refine bD ?_;omega)),trivial⟩ (by (iterate 78 refine bg rfl ?_);exact bw) ⟨?_,?_⟩
    ·refine ⟨by omega,by omega,by omega,fun h=>?_,fun j hj h0=>?_,hP.from_ (ag.rfl_.next D24),(hB.next D24)⟩
     ·have h1:=hws (by omega);have h2:=hW9c (by omega);rw [p1 hil];have h3:dS L[i]=(L[i].ls.map fun e=>e.d.size).sum:=rfl;omega
     ·rcases Nat.lt_or_ge j i with h1 | h1
      ·exact hsm j hj h1
      ·obtain rfl:j=i:=by omega
       omega
    ·show L.length-(i+1)<L.length-i;omega
  refine cx (bc (bc (bX (ae (af (ab (mvi rfl (aa (cn rfl rfl) (mvb rfl (Bs (t:=43) rfl (fun Q26=>?_) (fun Q26=>?_)))))))))))
  ·refine aA rfl rfl (aA rfl rfl (aA rfl rfl (aA rfl rfl (aa (aO (v:=.bool _) rfl rfl) (asb rfl (ah (ae (aC (bz (v:=.bool _) rfl rfl (⟨⟨_,rfl,fun h=>?_⟩,hB⟩))))))))));have hie:i=min L.length 20:=by omega
   have hn3:n≤30000:=by first | omega | (simp at h;done) | (simp at h;omega)
   rw [←hie];exact ⟨by have:=hws hn3;omega,fun j hj h20=>hsm j hj (by omega)⟩
  refine ak rfl (aa (ai lD rfl) (ak rfl (aa (ao js rfl (by exact (hP.from_ ag.rfl_).rd 1 rfl)) ?_)));refine ak rfl (aa (bb gI rfl) (ak rfl (aa (cn rfl rfl) (aa (aQ (v:=.bool _) rfl rfl) (asb rfl (ah (ae (aC (bz (v:=.bool _) rfl rfl (⟨⟨_,rfl,fun h=>?_⟩,hB⟩))))))))));have hie:i=min L.length 20:=by omega
  have hn3:n≤30000:=by first | omega | (simp at h;done) | (simp at h;omega)
  rw [←hie];exact ⟨by have:=hws hn3;omega,fun j hj h20=>hsm j hj (by omega)⟩
 refine aA rfl rfl (aA rfl rfl (aa (aQ (v:=.bool _) rfl rfl) (ah (ae (aI rfl (cx (bc (bc (bX (ae (af (ab (mvi rfl (aa (cn rfl rfl) ?_))))))))))))));refine mvb rfl (Bs (t:=43) rfl (fun Q27=>?_) (fun Q27=>?_))
 ·refine aA rfl rfl (aA rfl rfl (aA rfl rfl (aA rfl rfl (aa (aO (v:=.bool _) rfl rfl) (asb rfl (ah (ae (aC (bz (v:=.bool _) rfl rfl (⟨⟨_,rfl,fun h=>?_⟩,hB⟩))))))))));have hie:i=min L.length 20:=by omega
  have hn3:n≤30000:=by first | omega | (simp at h;done) | (simp at h;omega)
  rw [←hie];exact ⟨by have:=hws hn3;omega,fun j hj h20=>hsm j hj (by omega)⟩
 refine ak rfl (aa (ai lD rfl) (ak rfl (aa (ao js rfl (by exact (hP.from_ ag.rfl_).rd 1 rfl)) ?_)));refine ak rfl (aa (bb gI rfl) (ak rfl (aa (cn rfl rfl) (aa (aQ (v:=.bool _) rfl rfl) (asb rfl (ah (ae (aC (bz (v:=.bool _) rfl rfl (⟨⟨_,rfl,fun h=>?_⟩,hB⟩))))))))));have hie:i=min L.length 20:=by omega
 have hn3:n≤30000:=by first | omega | (simp at h;done) | (simp at h;omega)
 rw [←hie];exact ⟨by have:=hws hn3;omega,fun j hj h20=>hsm j hj (by omega)⟩
theorem uE (w:World) :
 Rt prog 6 [] w (fun v w'=>(∃ d,v=.pointer (some ⟨d,0,none⟩)∧cP w' (fun k=>w.heap.size≤k∧k<w'.heap.size) d [] 0 false)∧ag w w'):=by
 refine enter (n:=11) Tryz.func6 rfl rfl rfl (af (ab (asp rfl (ah (ae (af (ab (av oG (vT _) ?_))))))));rintro v4 w1 ⟨⟨d,rfl,hd4⟩,E4⟩;refine mvt rfl (aa (ar rfl rfl) (aa (ar rfl rfl) (asp rfl (asi rfl (ah (ae (af (af (ab (mvi rfl (av dF (dY _ _) ?_)))))))))));rintro v8 w2 ⟨rfl,rfl⟩;refine aa (bh (cv rfl rfl) rfl) (ah (ae (aI rfl (aE (ae (af (ab (mvp rfl (asp rfl (ah (ae (aC (bz (v:=.pointer _) rfl rfl (⟨⟨d,rfl,hd4⟩,(ag.rfl_.next E4)⟩))))))))))))))
theorem yB (d g:Nat) (U:Nat→Prop) (D:List Fe) (recs:List Rc) (la:Int) (PA:Option Addr) (pc:Nat) (ps:List Int) (w:World) (hd:cP w U d D 0 false) (hDk:DkL D g recs la) (hg:g<100) (hq:∀ e∈D,e.2.1=e.2.2) (hr:d_ iV w PA ps) (hpc:ps.length≤pc∧pc≤9223372036854775807) (hpb:∀ q∈ps,-9223372036854775808≤q∧q≤9223372036854775807) :
 Rt prog 15 [.pointer (some ⟨d,0,none⟩),.slice PA ps.length pc] w (fun r w'=>(∃ x,r=.pointer (some ⟨x,0,none⟩)∧cP w' (fun k=>w.heap.size≤k∧k<w'.heap.size) x D 0 false)∧ag w w'):=by
 obtain ⟨hcr,hok,hsz⟩:=vS hDk hg hq ps;refine enter (n:=18) Tryz.func15 rfl rfl rfl (af (ab (asp rfl (ah (ae (af (ab (mvp rfl (mvs rfl (av tT (yn _ d _ _ _ _ (hd.from_ ag.rfl_) PA pc ps.length ps (hr.from_ ag.rfl_) rfl hpc.1 hpc.2 hpb hsz) ?_))))))))));rintro v10 w1 ⟨⟨A10,c10,n10,gs,rfl,hn10,hgs,ho10,hown⟩,E10⟩;rw [hcr] at hgs;have hmy:=Bg hgs hd.ok hok;have hz11:=((ag.rfl_.next E10)).size;refine av oG (xB A10 c10 _ gs _ ((gH.own Ag (by decide) ho10).2.from_ ag.rfl_) hn10 (fun f hf=>((hown f hf).from_ ag.rfl_).ok)) ?_;rintro v11 w2 ⟨hn11,E11⟩;rcases hn11 with ⟨hno,_⟩ | ⟨_,x,rfl,hx⟩
 ·exact absurd hmy hno
 rw [xW hgs hq] at hx;refine mvt rfl (aa (ar rfl rfl) (aa (ar rfl rfl) (asp rfl (asi rfl (ah (ae (af (af (ab (mvi rfl (av dF (dY _ _) ?_)))))))))));rintro v15 w3 ⟨rfl,rfl⟩;refine aa (bh (cv rfl rfl) rfl) (ah (ae (aI rfl (aE (ae (af (ab (mvp rfl (asp rfl (ah (ae (aC (bz (v:=.pointer _) rfl rfl (⟨⟨x,rfl,hx.wide fun k h1 h2=>⟨Nat.le_trans hz11 h1,h2⟩⟩,((ag.rfl_.next E10).next E11)⟩))))))))))))))
theorem o5 (w:World) :
 Rt prog 7 [.pointer none] w (fun v w'=>v=.tuple #[.pointer none,.int .i64 1]∧w=w'):=by
 refine enter (n:=31) Tryz.func7 rfl rfl rfl (af (ab (asp rfl (asi rfl (ah (ae (af (af (ab (mvp rfl (aa (cU (fb (by kernel_rfl) rfl rfl) rfl) (ah (ae (aY rfl ?_))))))))))))));refine af (ab (asp rfl (asi rfl (ah (ae (aC (aF (gj (v:=.pointer _) (v':=.int _ _) rfl rfl rfl (⟨rfl,rfl⟩)))))))))
theorem oo:aH prog 6=true:=by kernel_rfl
theorem gX:aH prog 7=true:=by kernel_rfl
theorem ei:prog.built 49 [(0,.int .i64 1),(1,.int .i64 1)]=some #[.int .i64 1,.int .i64 1,.string ⟨#[]⟩]:=by kernel_rfl
theorem jR:aH prog 11=true:=by kernel_rfl
theorem oW:∀ (a0:Option Addr) (a1 a2:Nat),prog.built 36 [(2,.slice a0 a1 a2)]=some #[.int .i64 0,.int .i64 0,.slice a0 a1 a2]:=by intros;kernel_rfl
theorem jQ:aH prog 12=true:=by kernel_rfl
theorem Nxt.total (L:Lg) (x:Aw):∃ M e,Nxt L x M e:=by
 have hl:wiN x.d 8<8:=Nat.mod_lt _ (by decide);rcases Nat.lt_or_ge (wiN x.d 8) 4 with h4 | h4
 ·cases hr:cG (cL x L) (bo L.b L.t L.es).1 (bo L.b L.t L.es).2 with
  |false=>exact ⟨_,_,.appNo h4 hr⟩
  |true=>
   rcases Nat.lt_or_ge 512 (L.es.length+(cL x L).length) with h5 | h5
   ·exact ⟨_,_,.full h4 hr h5⟩
   ·exact ⟨_,_,.app h4 hr h5⟩
 by_cases h5:wiN x.d 8=4
 ·by_cases h6:L.b≤x.i∧x.i≤L.b+(L.es.length:Int)
  ·exact ⟨_,_,.cut (x.i-L.b).toNat h5 (by omega) (by omega)⟩
  ·exact ⟨_,_,.cutNo h5 h6⟩
 by_cases h6:wiN x.d 8=5
 ·by_cases h7:mh L x.i x.t
  ·exact ⟨_,_,.drop h6 h7⟩
  ·exact ⟨_,_,.dropNo h6 h7⟩
 exact ⟨_,_,.sync (by omega)⟩
theorem zt (L M:Lg) (x:Aw) (e:Int) (E:Option Addr) (n c:Nat) (w:World) (hN:Nxt L x M e) (hL:dh L) (hx:gh w x) (hxl:x.ls.length≤1000000) (hE:bm w (.slice E n c) L.es) :
 Rt prog 9 [.agg (lgV L.b L.t E n c).toArray,.agg (awV x).toArray] w fun v w'=>(∃ E' n' c',v=.tuple #[.agg (lgV M.b M.t E' n' c').toArray,.int .i64 e]∧bm w' (.slice E' n' c') M.es∧∀ q,E'.map (·.block)=some q→E.map (·.block)=some q∨(w.heap.size≤q∧q<w'.heap.size))∧ag w w':=by
 have hn:n=L.es.length:=(dy hE).1;subst hn;cases hN with
 |cut k hm hi hk=>exact xz L x E c w hL hx hxl hE k hm hi hk
 |cutNo hm hno=>exact s6 L x E c w hL hx hxl hE hm hno
 |drop hm h=>exact xy L x E c w hL hx hxl hE hm h
 |dropNo hm h=>exact s5 L x E c w hL hx hxl hE hm h
 |sync hm=>
  rcases hm with hm | hm
  ·exact xx L x E c w hL hx hxl hE hm
  ·exact xw L x E c w hL hx hxl hE hm
 |app hm hr hl=>exact xA L x E c w hL hx hxl hE hm hr hl
 |full hm hr hl=>exact pw L x E c w hL hx hxl hE 6 hm (.inr ⟨hr,hl,rfl⟩)
 |appNo hm hr=>exact pw L x E c w hL hx hxl hE 1 hm (.inl ⟨hr,rfl⟩)
theorem tl (M:Lg) (A A':Option Addr) (n c n' c':Nat) (w:World) (h1:bm w (.slice A n c) M.es) (h2:bm w (.slice A' n' c') M.es) (hl:M.es.length≤1000000000) :
 Rt prog 12 [.agg (lgV M.b M.t A n c).toArray,.agg (lgV M.b M.t A' n' c').toArray] w fun v w'=>v=.bool true∧ag w w':=
 Rt.of (tj M.b M.t _ _ M.es w h1 h2 (by omega))
abbrev e1:Ent:=⟨1,1,⟨#[]⟩⟩
theorem zN:cG [e1] (bo lg0.b lg0.t lg0.es).1 (bo lg0.b lg0.t lg0.es).2=true:=by decide
theorem x_:cu [e1]≤100:=by decide
abbrev m1:Lg:=⟨0,0,[e1]⟩
theorem qU (w:World) (hT:cO w) :
 Rt prog 16 [] w (fun v w'=>v=.bool true∧ag w w'):=by
 refine enter (n:=35) Tryz.func16 rfl rfl rfl (af (ab (asb rfl (ah (ae (af (ab (av oo (uE _) ?_))))))));rintro v4 w1 ⟨⟨d,rfl,hd4⟩,E4⟩;have hz5:=((ag.rfl_.next E4)).size;refine av gX (nf _ d 0 [] lg0 [] (-1) _ hd4 (.inl ⟨rfl,rfl,rfl,rfl⟩) (fun e he=>by cases he) (fun x hx=>hx.2) (by decide) nQ (fun r hr=>by cases hr) (.inl rfl) rfl (hT.from_ (ag.rfl_.next E4))) ?_;rintro v5 w2 ⟨⟨p5,rfl,hp5,hW5,_⟩,E5⟩;have hgp:w.heap.size≤p5:=Nat.le_trans hz5 hp5;refine mvt rfl (aa (ar rfl rfl) (aa (ar rfl rfl) (asp rfl (asi rfl (ah (ae (af (af (ab (mvi rfl (av dF (dY _ _) ?_)))))))))));rintro v9 w3 ⟨rfl,rfl⟩;refine aa (bh (cv rfl rfl) rfl) (mvb rfl (ak rfl (mvp rfl (ak rfl (aa (bh (fb (by kernel_rfl) rfl rfl) rfl) (aa (aQ (v:=.bool _) rfl rfl) (mvb rfl (ak rfl ?_))))))));refine mvp rfl (ak rfl (aa (bN (l:=[(0,.const (.int .i64 1)),(1,.const (.int .i64 1))]) (ei)) (ak rfl ?_)));have hM18:ag _ w2:=ag.rfl_;refine gi (l:=[(0,.tmp 17)]) (cells:=#[.int .i64 1,.int .i64 1,.string ⟨#[]⟩]) eG rfl rfl (by show Instr.fill _ _ [(0,Value.agg #[.int .i64 1,.int .i64 1,.string ⟨#[]⟩])]=_;kernel_rfl) ?_;intro b18 w4 E18 hb18 hk18;have hl18:bm w4 (.slice (some ⟨b18,0,none⟩) 1 1) [e1]:=nZ (e:=e1) hk18;refine ak rfl ?_;have hB19:ag w w4:=(((ag.rfl_.next E4).next E5).next E18);have hz19:=hB19.size;have hM19:ag _ w4:=ag.rfl_;refine av oI (mB _ p5 d 0 [] lg0 true _ ((hW5.from_ hM18).from_ (E18.next ag.rfl_)) (some ⟨b18,0,none⟩) 1 1 [e1] (hl18.from_ ag.rfl_) rfl (by simp) zN (by decide) 1000 (by simp) (by decide) (by show 0+cu [e1]≤1000;have:=x_;omega) (by show 32+cu [e1]≤1000;have:=x_;omega) (by decide) (hT.from_ (((ag.rfl_.next E4).next E5).next E18))) ?_;rintro v19 w5 ⟨rfl,⟨g2,recs2,hg2,hK2,V2,hV2,hW2,hl2⟩,hC19⟩;have hF19:=hB19.chg hC19 (fun k hk=>by rcases hk with hk | hk;exact hk.1;rw [show k=p5 from hk];exact hgp);refine ak rfl (av dF (dY _ _) ?_);rintro v20 w6 ⟨rfl,rfl⟩;refine ak rfl (aa (bh (cv rfl rfl) rfl) (aa (aQ (v:=.bool _) rfl rfl) (mvb rfl (ak rfl (mvp rfl (ak rfl ?_))))));have hB25:ag w w5:=hF19;have hM25:ag _ w5:=ag.rfl_;refine av kN (qS V2 p5 d g2 recs2 m1 false _ (hW2.from_ ag.rfl_)) ?_;rintro v25 w7 ⟨rfl,hW3,hl3,hC25⟩;have hF25:=hB25.chg hC25 (fun k hk=>by rcases hk with hk | hk;rcases hV2 k hk with h1 | h1;exact h1.1;omega;rw [show k=p5 from hk];exact hgp);refine ak rfl (av dF (dY _ _) ?_);rintro v26 w8 ⟨rfl,rfl⟩;refine ak rfl (aa (bh (cv rfl rfl) rfl) (aa (aQ (v:=.bool _) rfl rfl) (ah (ae (aI rfl (aE (ae (af (ab (mvp rfl (av jR (pW _ p5 d g2 recs2 m1 true _ (hW3.from_ ag.rfl_)) ?_)))))))))));rintro v30 w9 ⟨⟨A30,c30,rfl,ho30⟩,E30⟩;refine aa (bN (l:=[(0,.const (.int .i64 1)),(1,.const (.int .i64 1))]) (ei)) ?_;refine gi (l:=[(0,.tmp 31)]) (cells:=#[.int .i64 1,.int .i64 1,.string ⟨#[]⟩]) eG rfl rfl (by show Instr.fill _ _ [(0,Value.agg #[.int .i64 1,.int .i64 1,.string ⟨#[]⟩])]=_;kernel_rfl) ?_;intro b32 w10 E32 hb32 hk32;have hl32:bm w10 (.slice (some ⟨b32,0,none⟩) 1 1) [e1]:=nZ (e:=e1) hk32;refine aa (bN (l:=[(2,.tmp 32)]) (oW _ _ _)) (av jQ (tl m1 A30 (some ⟨b32,0,none⟩) 1 c30 1 1 _ ((dp.ents (cJ.of_own ho30)).from_ (E32.next ag.rfl_)) (hl32.from_ ag.rfl_) (by decide)) ?_);rintro v34 w11 ⟨rfl,E34⟩;refine asb rfl (ah (ae (aC (bz (v:=.bool _) rfl rfl (⟨rfl,(((hF25.next E30).next E32).next E34)⟩)))))
structure WI (w0 w:World) (N b1 b6:Nat) (cs:Array Value) (U:Nat→Prop) (p d g:Nat) (recs:List Rc) (M:Lg) (qs:Bool) (E:Option Addr) (n c:Nat) (X:List Value):Prop where
 wt:WAt w U p d g recs M qs
 u:∀ x,U x→N≤x
 pN:N≤p
 P:Blk w b1 25 cs
 hb:b1<N
 q:Blk w b6 36 X.toArray
 n6:¬ U b6
 p6:p≠b6
 g6:N≤b6
 r6:∀ z,LR w p z→z≠b6
 hE:bm w (.slice E n c) M.es
 fE:kg w U p E
 e6:∀ z,E.map (·.block)=some z→z≠b6
 hN:w0.heap.size≤N
 f:ag w0 w
section
variable {w0 w w1 w':World} {N b1 b6:Nat} {cs:Array Value} {U:Nat→Prop} {p d g:Nat} {recs:List Rc} {M:Lg} {qs:Bool} {E:Option Addr} {n c:Nat} {X:List Value}
theorem WI.from_ (h:WI w0 w N b1 b6 cs U p d g recs M qs E n c X) (hF:ag w w'):WI w0 w' N b1 b6 cs U p d g recs M qs E n c X:=
 ⟨h.wt.from_ hF,h.u,h.pN,h.P.from_ hF,h.hb,h.q.from_ hF,h.n6,h.p6,h.g6,fun z hz=>h.r6 z (h.wt.back hF hz),h.hE.from_ hF,fun z hz=>⟨Nat.lt_of_lt_of_le (h.fE z hz).1 hF.size,(h.fE z hz).2⟩,h.e6,h.hN,h.f.next hF⟩
theorem WI.far {V:Nat→Prop} (h:WI w0 w1 N b1 b6 cs U p d g recs M qs E n c X) (hF:ag w1 w) (hC:Chg V w w') (hV:∀ k,V k→w1.heap.size≤k):WI w0 w' N b1 b6 cs U p d g recs M qs E n c X:=by
 have hp:=h.wt.plt;have h6:=h.q.lt;have hg:=h.hb;have hg6:=h.g6;have hz:=hC.size;have hz1:=hF.size;have h0:=h.f.size;have hVp:¬ V p:=fun e=>by have:=hV p e;omega
 have h2:=h.from_ hF
 have hlr:∀ z,LR w' p z→LR w p z:=fun z hz=>by
  obtain ⟨la,E2,n2,c2,D,h3,_⟩:=h2.wt.ex;exact ⟨_,_,_,_,_,_,_,_,_,_,_,_,h3,ln (h3.chg hC hVp) hz⟩
 exact ⟨h2.wt.chgR hC (fun k hk e=>by have:=h.wt.lt k hk;have:=hV k e;omega) hVp (fun z hz e=>by have:=(h.wt.rowlt (h.wt.back hF hz)).1;have:=hV z e;omega),h.u,h.pN,h2.P.chg hC (fun e=>by have:=hV _ e;omega),h.hb,h2.q.chg hC (fun e=>by have:=hV _ e;omega),h.n6,h.p6,h.g6,fun z hz=>h2.r6 z (hlr z hz),h2.hE.chg hC (fun z hz e=>by have:=(h.fE z hz).1;have:=hV z e;omega),fun z hz=>⟨by have:=(h.fE z hz).1;omega,(h.fE z hz).2⟩,h.e6,h.hN,h2.f.chg hC fun k hk=>by have:=hV k hk;omega⟩
theorem WI.setq {X':List Value} (h:WI w0 w N b1 b6 cs U p d g recs M qs E n c X) (O:cY b6 w w') (hb:Blk w' b6 36 X'.toArray):WI w0 w' N b1 b6 cs U p d g recs M qs E n c X':=by
 have hC:Chg (fun k=>k=b6) w w':=O.toChg rfl
 have hlr:∀ z,LR w' p z→LR w p z:=fun z hz=>by
  obtain ⟨la,E2,n2,c2,D,h3,_⟩:=h.wt.ex;exact ⟨_,_,_,_,_,_,_,_,_,_,_,_,h3,ln (h3.only O h.p6) hz⟩
 exact ⟨h.wt.chgR hC (fun k hk e=>h.n6 (by rw [←show k=b6 from e];exact hk)) h.p6 (fun z hz e=>h.r6 z hz e),h.u,h.pN,h.P.only O (by have:=h.hb;have:=h.g6;omega),h.hb,hb,h.n6,h.p6,h.g6,fun z hz=>h.r6 z (hlr z hz),h.hE.chg hC (fun z hz e=>h.e6 z hz e),fun z hz=>⟨by rw [O.size];exact (h.fE z hz).1,(h.fE z hz).2⟩,h.e6,h.hN,h.f.only O (Nat.le_trans h.hN h.g6)⟩
theorem WI.does {KB:Nat} {M':Lg} {sy:Bool} {E':Option Addr} {n' c':Nat} (h:WI w0 w N b1 b6 cs U p d g recs M qs E n c X) (hD:DoR w w' U p d g KB M' sy) (hC:Chg (fun k=>U k∨k=p) w w') (hE':bm w (.slice E' n' c') M'.es) (fE':kg w U p E') (e6':∀ z,E'.map (·.block)=some z→z≠b6) :
 ∃ V g' recs' qs',g'≤g+1∧(ax (sG g') recs').1.length≤KB∧(sy=true→qs'=true)∧WI w0 w' N b1 b6 cs V p d g' recs' M' qs' E' n' c' X:=by
 obtain ⟨g',recs',qs',b1',b2,b3,V,b4,b5,b6'⟩:=hD;have hp:=h.wt.plt;have h6:=h.q.lt;have hg6:=h.g6;have hpN:=h.pN;have hbN:=h.hb;have hz:=hC.size;have hn6:=h.n6;have hp6:=h.p6;refine ⟨V,g',recs',qs',b1',b2,b3,b5,fun x hx=>(b4 x hx).elim (h.u x) fun e=>by omega,h.pN,h.P.chg hC (fun e=>by rcases e with e | e;have:=h.u _ e;omega;omega),h.hb,h.q.chg hC (fun e=>by rcases e with e | e;exact hn6 e;exact hp6 e.symm),fun e=>(b4 _ e).elim hn6 fun e=>by omega,h.p6,h.g6,fun z hz=>(b6' z hz).elim (h.r6 z) fun e=>by omega,hE'.chg hC (fun z hz e=>by have:=fE' z hz;rcases e with e | e;exact this.2.1 e;exact this.2.2 e),fun z hz=>?_,e6',h.hN,h.f.chg hC fun k hk=>?_⟩
 ·have:=fE' z hz;exact ⟨by omega,fun e=>(b4 z e).elim this.2.1 fun e=>by omega,this.2.2⟩
 ·have:=h.hN;rcases hk with hk | hk
  ·have:=h.u k hk;omega
  ·omega
theorem WI.anew {U2:Nat→Prop} {p2 d2 m:Nat} {q2:Bool} (h:WI w0 w N b1 b6 cs U p d g recs M qs E n c X) (hs:WAt w U2 p2 d2 g recs M q2) (hu:∀ x,U2 x→m≤x) (hp:m≤p2) (hl:∀ z,LR w p2 z→m≤z) (hm:b6<m) (hEm:∀ z,E.map (·.block)=some z→z<m):WI w0 w N b1 b6 cs U2 p2 d2 g recs M q2 E n c X:=
 ⟨hs,fun x hx=>by have:=hu x hx;have:=h.g6;omega,by have:=h.g6;omega,h.P,h.hb,h.q,fun e=>by have:=hu _ e;omega,by omega,h.g6,fun z hz e=>by have:=hl z hz;omega,h.hE,fun z hz=>⟨(h.fE z hz).1,fun e=>by have:=hu z e;have:=hEm z hz;omega,by have:=hEm z hz;omega⟩,h.e6,h.hN,h.f⟩
end
def KBf (L:List Aw) (i:Nat):Nat:=32+2600*i+2*wS L i
theorem yM (L:List Aw):∀ {i j:Nat},i≤j→wS L i≤wS L j:=by
 intro i j h
 induction h with
 |refl=>exact Nat.le_refl _
 |@step j _ ih=>
  refine Nat.le_trans ih ?_;rcases Nat.lt_or_ge j L.length with h | h
  ·rw [p1 h];exact Nat.le_add_right _ _
  ·unfold wS;rw [List.take_of_length_le h,List.take_of_length_le (by omega)];exact Nat.le_refl _
end Go.Proofs.YtaohnmneccbljaaGreatDoor
namespace Go.Proofs.YtaohnmneccbljaaGreatDoor
open Go.Proofs.Tryz (prog)
open Go.RowKit
open Go.ChangeShapes Go.WideShapes Go.ChangeAt
theorem tN:ij prog 38=some (.agg #[.int .i64 0,.slice none 0 0,.bool false,.int .i64 0,.int .i64 0,.slice none 0 0]):=by kernel_rfl
theorem tQ:fK prog 25=some true:=by kernel_rfl
theorem tM:cS prog 25=some 2:=by kernel_rfl
theorem we:aH prog 5=true:=by kernel_rfl
theorem wc:aH prog 9=true:=by kernel_rfl
theorem tP:aH prog 10=true:=by kernel_rfl
theorem tO:aH prog 15=true:=by kernel_rfl
theorem oE:aH prog 16=true:=by kernel_rfl
theorem pY (A B:Option Addr) (ca cb m:Nat) (L:List Aw) (w:World) (ha:wx w A m L) (hT:cO w) :
 Rt prog 3 [.agg #[.slice A L.length ca,.slice B m cb]] w (fun v w'=>v=.bool true∧ag w w'):=by
 have hlL:=ha.lenL;have hlM:=ha.lenM;refine enter (n:=109) Tryz.func3 rfl rfl rfl (af (ab (bu (v:=.agg _) rfl ?_)));intro b1 w1 E1 hb1 hk1;refine asb rfl (ah (ae (af (af (ab (aa (aG (cs:=[_,_]) tQ tM rfl (by exact (hk1.from_ ag.rfl_).whole)) ?_))))));refine av we (xV A B ca cb m L _ (ha.from_ (ag.rfl_.next E1))) ?_;rintro v14 w2 ⟨⟨hv,rfl,hhv⟩,E14⟩;replace hk1:=hk1.from_ E14;refine ah (ae (aM rfl (fun Q3=>?_) (fun Q3=>?_)))
 ·refine af (ab (asb rfl (ah (ae (aC (aF (bz (v:=.bool _) rfl rfl (⟨rfl,((ag.rfl_.next E1).next E14)⟩))))))))
 obtain ⟨hw20,hsm⟩:=hhv (by first | exact Q3 | simpa using Q3);refine aE (ae (af (ab ?_)));obtain ⟨N,hN⟩:∃ N,N=(w2).heap.size:=⟨_,rfl⟩;have hNw:w.heap.size≤N:=by rw [hN];exact (((ag.rfl_.next E1).next E14)).size
 have hP15:=hk1.from_ (ag.rfl_);have hNb:b1<N:=by rw [hN];exact hP15.lt
 refine av oo (uE _) ?_;rintro v15 w4 ⟨⟨d,rfl,hd15⟩,E15⟩;rw [←hN] at hd15;have hP15b:=hP15.from_ E15;refine asp rfl (ah (ae (af (ab (mvp rfl ?_)))));have hz18:N≤(w4).heap.size:=by rw [hN];exact E15.size
 refine av gX (nf _ d 0 [] lg0 [] (-1) _ hd15 (.inl ⟨rfl,rfl,rfl,rfl⟩) (fun e he=>by cases he) (fun x hx=>hx.2) (by decide) nQ (fun r hr=>by cases hr) (.inl rfl) rfl (hT.from_ (((ag.rfl_.next E1).next E14).next E15))) ?_;rintro v18 w5 ⟨⟨p,rfl,hp18,hW18,_⟩,E18⟩;have hP18:=hP15b.from_ E18;refine mvt rfl (aa (ar rfl rfl) (aa (ar rfl rfl) (asp rfl (asi rfl (ah (ae (af (af (ab (mvi rfl (av dF (dY _ _) ?_)))))))))));rintro v22 w6 ⟨rfl,rfl⟩;refine aa (bh (cv rfl rfl) rfl) (mvb rfl (ak rfl (mvp rfl (ak rfl (aa (bh (fb (by kernel_rfl) rfl rfl) rfl) (aa (aQ (v:=.bool _) rfl rfl) (ah (ae (aI rfl ?_)))))))));refine aE (ae (af (ab (aZ bA ?_))));intro b6 w7 E6 hb6 hk6;have hI0:WI w w7 N b1 b6 #[.slice A L.length ca,.slice B m cb] _ p d 0 [] lg0 true none 0 0 (lgV lg0.b lg0.t none 0 0):=⟨hW18.from_ (ag.rfl_.next E6),fun x hx=>hx.1,Nat.le_trans hz18 hp18,hP18.from_ (ag.rfl_.next E6),hNb,hk6,fun h=>by have:=hW18.lt _ h;omega,by have:=hW18.plt;omega,by have:=hW18.plt;omega,fun z hz=>by have:=(hW18.rowlt (hW18.back (ag.rfl_.next E6) hz)).1;omega,bm.nil_ _,fun q hq=>(by cases hq),fun z hz=>(by cases hz),hNw,(((((ag.rfl_.next E1).next E14).next E15).next E18).next E6)⟩;refine ah (ae (af (af (ab (asi rfl (ah (ae (aP (cH (G:=Nat×Nat×Nat) (2::8::9::10::11::28::29::30::31::32::33::34::35::36::37::38::39::40::41::42::43::44::45::46::47::48::49::50::51::52::53::54::55::56::57::58::59::60::61::62::63::64::65::66::67::68::69::70::71::72::73::74::75::76::77::78::79::80::81::82::83::84::85::86::87::88::89::90::91::92::93::94::[]) (fun (i,d,p)=>[(3,.pointer (some ⟨d,0,none⟩)),(4,.pointer (some ⟨p,0,none⟩)),(5,.int .i64 0),(7,.int .i64 (i:Nat))]) (fun (i,d,p) w'=>i≤L.length∧i≤20∧∃ U g recs M qs E n c,WI w w' N b1 b6 #[.slice A L.length ca,.slice B m cb] U p d g recs M qs E n c (lgV M.b M.t E n c)∧g≤i∧(ax (sG g) recs).1.length≤KBf L (i)∧32+cu M.es≤KBf L (i)) (fun (i,_)=>L.length-i) ((0,d,p)) ⟨rfl,rfl,rfl,rfl,trivial⟩ ?_ ?_)))))))))
 ·exact ⟨Nat.zero_le _,Nat.zero_le _,_,0,[],lg0,true,none,0,0,hI0.from_ ag.rfl_,Nat.le_refl _,Nat.zero_le _,by show 32+cu ([]:List Ent)≤_;rw [show cu ([]:List Ent)=0 from rfl];unfold KBf;omega⟩
 rintro ⟨i,d,p⟩ ρ8 w8 ⟨hi,hi20,U,g,recs,M,qs,E,n,c,hI,hgi,hKi,hSi⟩;obtain ⟨K0,hK0⟩:∃ x,x=(w8).heap.size:=⟨_,rfl⟩;refine af (af (ab (mvi rfl (aa (ai eQ rfl) (aa (ao fM rfl (by exact (hI.P.from_ ag.rfl_).rd 0 rfl)) ?_)))));refine aa (bb oF rfl) (aa (cl rfl rfl) (mvb rfl (Bs (t:=33) rfl (fun Q9=>?_) (fun Q9=>?_))))
 ·refine ak rfl (mvi rfl (ak rfl (aa (cl rfl rfl) (aa (aO (v:=.bool _) rfl rfl) (ah (ae (BM rfl (fun Q10=>?_) (fun Q10=>?_))))))))
  ·have hil:i<L.length:=by omega
   obtain ⟨bL,oL,hAL,hcL⟩:=ha.rowL (by omega);have hce:=hcL i hil;have hok:=ha.okL _ (List.getElem_mem hil);obtain ⟨M',e',hN'⟩:=Nxt.total M L[i];have hxl:L[i].ls.length≤40:=hsm i hil (by omega);have hws:=p1 hil;have hwm:=yM L (show i+1≤min L.length 20 by omega);have has:=Ah L[i] M;have hnsz:=hN'.siz;have hKeq:KBf L (i+1)=32+2600*(i+1)+2*wS L (i+1):=rfl;have hKeq0:KBf L i=32+2600*i+2*wS L i:=rfl;have hM'ok:=hN'.ok hI.wt.ok;have hM'n:=hM'ok.f.n;have hMn:=hI.wt.ok.f.n;have hUlt:=hI.wt.lt;have hplt:=hI.wt.plt;have hb6l:=hI.q.lt;rw [←hK0] at hplt hb6l;rw [←hK0] at hUlt;refine aE (ae (kH (G:=Nat×Nat) [2,8,9,10,11,39,40,41,42,43,44,45,46,47,48,49,50,51,52,53,54,55,56,57,58,59,60,61,62,63,64,65,66,67,68,69,70,71,72,73,74,75,76,77,78,79,80,81,82,83,84,85,86,87,88,89,90,91,92,93,94] (fun (d,p)=>[(3,.pointer (some ⟨d,0,none⟩)),(4,.pointer (some ⟨p,0,none⟩)),(5,.int .i64 0)]) (fun (d,p) w'=>∃ U g recs M qs E n c,WI w w' N b1 b6 #[.slice A L.length ca,.slice B m cb] U p d g recs M qs E n c (lgV M.b M.t E n c)∧g≤i+1∧(ax (sG g) recs).1.length≤KBf L (i+1)∧32+cu M.es≤KBf L (i+1)) ?_ ?_))
   ·refine aP (af (ab (aa (ai eQ rfl) ?_)));refine aa (ao (v:=.slice (some ⟨bL,oL,none⟩) L.length ca) fM rfl (by rw [←hAL];exact (hI.P.from_ ag.rfl_).rd 0 rfl)) ?_;refine mvi rfl (aa (bf jt rfl rfl (by omega)) (aa (aG (cs:=awV L[i]) fL e_ rfl (dU hI.f hce)) ?_));have hz8a:K0≤(w8).heap.size:=by rw [hK0];exact (ag.rfl_).size
    refine aZ tN ?_;intro b8 w11 E8 hb8 hk8;have hz8:K0≤b8:=by rw [hb8];exact hz8a
    have hM11:ag _ w11:=(ag.rfl_.next E8);refine aV (vs:=[_,_,_,_,_,_]) e_ rfl rfl (by simp [Value.oneCell']) (hk8) rfl ?_;intro w12 O11 P11;have hF11:=hM11.only O11 (by rw [←hK0];exact hz8);have hI1:=hI.from_ hF11;have P11b:Blk w12 b8 38 (awV L[i]).toArray:=P11;obtain ⟨K1,hK1⟩:∃ x,x=(w12).heap.size:=⟨_,rfl⟩;have hK01:K0≤K1:=by rw [hK0,hK1];exact hF11.size
    refine ah (ae (af (ab (aa (aG (cs:=lgV M.b M.t E n c) az aq rfl ((hI1.q.from_ ag.rfl_).whole)) (aa (aG (cs:=awV L[i]) fL e_ rfl ((P11b.from_ ag.rfl_).whole)) (av wc (zt M M' L[i] e' E n c _ hN' hI.wt.ok (hok.from_ hI1.f) (by omega) (hI1.hE.from_ ag.rfl_)) ?_))))));rintro v47 w13 ⟨⟨E2,n2,c2,rfl,hE47,hq47⟩,E47⟩;rw [←hK1] at hq47;refine mvt rfl (aa (ar rfl rfl) (aa (ar rfl rfl) ?_));have hz9a:K1≤(w13).heap.size:=by rw [hK1];exact ((ag.rfl_.next E47)).size
    refine aZ bA ?_;intro b9 w14 E9 hb9 hk9;have hz9:K1≤b9:=by rw [hb9];exact hz9a
    have h89:b8≠b9:=by have:=P11b.lt;omega
    have hne12:∀ q,E2.map (·.block)=some q→¬ q=b9:=fun q hq e=>by
     rcases hq47 q hq with h1 | h1
     ·have:=(hI1.fE q h1).1;omega
     ·omega
    have hM12:ag _ w14:=((ag.rfl_.next E47).next E9);refine aV (vs:=[_,_,_]) aq rfl rfl (by simp [Value.oneCell']) (hk9) rfl ?_;intro w15 O12 P12;have hF12:=hM12.only O12 (by rw [←hK1];exact hz9);have hJ:=hI1.from_ hF12;have P12b:Blk w15 b9 36 (lgV M'.b M'.t E2 n2 c2).toArray:=P12;have P11c:=(P11b.from_ hM12).only O12 h89;have hE12:=(hE47.from_ E9).chg (O12.toChg (U:=fun k=>k=b9) rfl) (fun q hq e=>hne12 q hq e);have hz12:=hF12.size;have hz12b:=E9.size;have hz12c:=O12.size
    have fE12:kg w15 U p E2:=fun q hq=>by
     rcases hq47 q hq with h1 | h1
     ·have:=hI1.fE q h1;exact ⟨by omega,this.2⟩
     ·exact ⟨by omega,fun e=>by have:=hUlt q e;omega,by omega⟩
    have e612:∀ z,E2.map (·.block)=some z→z≠b6:=fun z hz=>by
     rcases hq47 z hz with h1 | h1
     ·exact hI.e6 z h1
     ·omega
    refine asi rfl (ah (ae (af (af (ab (mvp rfl (aa (aG (cs:=awV L[i]) fL e_ rfl ((P11c.from_ ag.rfl_).whole)) (aa (aG (cs:=lgV M.b M.t E n c) az aq rfl ((hJ.q.from_ ag.rfl_).whole)) ?_))))))));have hM53:ag _ w15:=ag.rfl_;refine av tP (zO U p d g (KBf L (i+1)) recs M M' qs L[i] e' _ (hJ.wt.from_ ag.rfl_) hN' (hok.from_ hJ.f) (by omega) (by omega) (by omega) (by omega) (hT.from_ hJ.f) E n c (hJ.hE.from_ ag.rfl_) (by omega)) ?_;rintro v53 w16 ⟨rfl,hD53,hC53⟩;obtain ⟨V,g',recs',qs',hg2a,hK2,hsy,hJ1⟩:=(hJ.from_ hM53).does hD53 hC53 (hE12.from_ hM53) (fun q hq=>⟨Nat.lt_of_lt_of_le (fE12 q hq).1 hM53.size,(fE12 q hq).2⟩) e612;have hg2:g'≤i+1:=by omega
    have hS2:32+cu M'.es≤KBf L (i+1):=by omega
    have P11d:=(P11c.from_ hM53).chg hC53 (fun e=>by rcases e with e | e;have:=hUlt _ e;omega;omega);have P12c:=(P12b.from_ hM53).chg hC53 (fun e=>by rcases e with e | e;have:=hUlt _ e;omega;omega);refine mvi rfl (aa (bh (cv rfl rfl) (bne_self_eq_false _)) (ah (ae (aI rfl (aE (ae (af (ab (aa (aG (cs:=lgV M'.b M'.t E2 n2 c2) az aq rfl ((P12c.from_ ag.rfl_).whole)) ?_)))))))));have hM15:ag _ w16:=ag.rfl_;refine aV (vs:=[_,_,_]) aq rfl rfl (by simp [Value.oneCell']) ((hJ1.q.from_ ag.rfl_)) rfl ?_;intro w17 O15 P15;have hJ3:=(hJ1.from_ hM15).setq (X':=lgV M'.b M'.t E2 n2 c2) O15 P15;have P11e:=(P11d.from_ hM15).only O15 (by omega);obtain ⟨K3,hK3⟩:∃ x,x=(w17).heap.size:=⟨_,rfl⟩;refine ah (ae (af (ab (mvp rfl (av jR (pW V p d g' recs' M' qs' _ (hJ3.wt.from_ ag.rfl_)) ?_)))));rintro v58 w18 ⟨⟨A58,c58,rfl,ho58⟩,E58⟩;rw [←hK3] at ho58;have hx58:dp _ K3 A58 M'.es.length c58 M'.es:=cJ.of_own ho58;have hz11a:K3≤(w18).heap.size:=by rw [hK3];exact ((ag.rfl_.next E58)).size
    refine aZ bA ?_;intro b11 w19 E11 hb11 hk11;have hz11:K3≤b11:=by rw [hb11];exact hz11a
    have hM16:ag _ w19:=((ag.rfl_.next E58).next E11);refine aV (vs:=[_,_,_]) aq rfl rfl (by simp [Value.oneCell']) (hk11) rfl ?_;intro w20 O16 P16;have hF16:=hM16.only O16 (by rw [←hK3];exact hz11);have hJ4:=hJ3.from_ hF16;have P16b:Blk w20 b11 36 (lgV M'.b M'.t A58 M'.es.length c58).toArray:=P16;have ho16:=eX (ho58.kept_from E11) (O16.toChg (U:=fun k=>k=b11) rfl) (fun q hq e=>by have:=(hx58.at_ q hq).2;have e:q=b11:=e;omega);refine ah (ae (af (af (ab (aa (aG (cs:=lgV M'.b M'.t A58 M'.es.length c58) az aq rfl ((P16b.from_ ag.rfl_).whole)) (aa (aG (cs:=lgV M'.b M'.t E2 n2 c2) az aq rfl ((hJ4.q.from_ ag.rfl_).whole)) (av jQ (tl M' A58 E2 M'.es.length c58 n2 c2 _ ((dp.ents (cJ.of_own ho16)).from_ ag.rfl_) (hJ4.hE.from_ ag.rfl_) (by omega)) ?_)))))));rintro v61 w21 ⟨rfl,E61⟩;refine aa (bh (bG rfl) rfl) (ah (ae (aI rfl (aE (ae (af (ab (aa (ai a8 rfl) (aa (ao bC rfl (by exact (P16b.from_ (ag.rfl_.next E61)).rd 2 rfl)) ?_)))))))));have hM65:ag _ w21:=(ag.rfl_.next E61);refine av oJ (kq K3 A58 M'.es.length c58 (bJ M'.es) _ (ho16.kept_from (ag.rfl_.next E61)) (by omega) (by rw [hK3];exact (hF16.next (ag.rfl_.next E61)).size)) ?_;rintro v65 w22 hg65;have hG65:=Chg.of_grown (U:=fun k=>A58.map (·.block)=some k) hg65 fun k hk=>hk
    have hJ5:=hJ3.far (hF16.next hM65) hG65 (fun k hk=>by rw [←hK3];exact (hx58.at_ k hk).1);have P11f:=(P11e.from_ (hF16.next hM65)).chg hG65 (fun e=>by have:=(hx58.at_ _ e).1;have:=P11e.lt;omega);refine ah (ae (af (ab (aa (ai cE rfl) (aa (ao aD rfl (by exact (P11f.from_ ag.rfl_).rd 0 rfl)) ?_)))));refine av db (dW L[i].d 8 _ (by decide)) ?_;rintro v68 w23 ⟨rfl,rfl⟩;refine aa (a7 rfl rfl) (ah (ae (BM rfl (fun Q24=>?_) (fun Q24=>?_))))
    ·refine af (ab (mvp rfl (aa (ai lC rfl) (aa (ao js rfl (by exact (P11f.from_ ag.rfl_).rd 5 rfl)) ?_))));obtain ⟨la5,Ew,nw,cw,D5,hw5,hDk5,hqs5,hd5,_⟩:=hJ5.wt.ex;have hq5:=hqs5 (hsy (decide_eq_true (by omega)));obtain ⟨K5,hK5⟩:∃ x,x=(w22).heap.size:=⟨_,rfl⟩;have hb65:=(hJ5.q.from_ (ag.rfl_)).lt;have hE5:=fun z hz=>((hJ5.from_ (ag.rfl_)).fE z hz).1
     rw [←hK5] at hb65 hE5;refine av tO (yB d g' V D5 recs' la5 L[i].Y L[i].yc L[i].ys _ (hd5.from_ ag.rfl_) hDk5 (by omega) hq5 (hok.ry.from_ hJ5.f) hok.cy hok.fy) ?_;rintro v73 w25 ⟨⟨d2,rfl,hd73⟩,E73⟩;refine asp rfl (ah (ae (af (af (ab (mvp rfl (aa (bh (fb (by kernel_rfl) rfl rfl) rfl) (ah (ae (aI rfl (aE (ae (af (ab (mvp rfl ?_)))))))))))))));have hz78:K5≤(w25).heap.size:=by rw [hK5];exact E73.size
     refine av gX (nf _ d2 g' recs' M' D5 la5 _ hd73 hDk5 hq5 (fun x hx=>hx.2) (by omega) hM'ok hJ5.wt.rk hJ5.wt.fin hJ5.wt.ap (hT.from_ (hJ5.f.next E73))) ?_;rintro v78 w26 ⟨⟨p2,rfl,hp2,hW2,hl2⟩,E78⟩;have hJ6:=hJ5.from_ (((ag.rfl_.next E73).next E78));have hJ7:=hJ6.anew (m:=K5) hW2 (fun x hx=>by rw [hK5];exact hx.1) (Nat.le_trans hz78 hp2) (fun z hz=>Nat.le_trans hz78 (hl2 z hz)) hb65 hE5;refine mvt rfl (aa (ar rfl rfl) (aa (ar rfl rfl) (asp rfl (asi rfl (ah (ae (af ?_)))))));have hz25:True:=trivial;apply bO 14 [(81,eqp _),(82,eqp _),(83,eqp (.bool false)),(84,eqp _),(85,eqp _),(86,eqp (.bool false)),(87,eqp _),(88,eqp _),(89,eqp _),(90,fun v w'=>∃ A' c',v=.agg (lgV M'.b M'.t A' M'.es.length c').toArray∧bm w' (.slice A' M'.es.length c') M'.es),(91,eqp (.agg (lgV M'.b M'.t E2 n2 c2).toArray)),(92,eqp _),(93,eqp (.bool false)),(94,eqp _)] (by repeat first | exact cr | refine cq ?_ | refine bU ?_) (by kernel_rfl) (by kernel_rfl) ⟨aj _,aj _,aj _,aj _,aj _,aj _,aj _,aj _,aj _,(fun _ _ _ hF ⟨a,b,h1,h2⟩=>⟨a,b,h1,h2.from_ hF⟩),aj _,aj _,aj _,aj _,trivial⟩
     case hop=>
      constructor
      ·rintro-w28 D28;exact an (aB (v:=.int _ _) rfl) rfl
      constructor
      ·rintro-w29 D29;rintro _ rfl;refine cX dF ((dY _ _).mono ?_);rintro v _ ⟨rfl,rfl⟩;exact ⟨ag.rfl_,rfl⟩
      constructor
      ·rintro-w30 D30;rintro _ rfl;exact an (bh (cv rfl rfl) rfl) rfl
      constructor
      ·rintro-w31 D31;rintro v31_83 rfl;exact an (aB (v:=.bool _) rfl) rfl
      constructor
      ·rintro-w32 D32;rintro _ rfl;exact aL rfl (aB (v:=.pointer _) rfl) rfl
      constructor
      ·rintro-w33 D33;rintro _ rfl _ rfl;exact aL rfl (bh (fb (by kernel_rfl) rfl rfl) rfl) rfl
      constructor
      ·rintro-w34 D34;rintro _ rfl v34_86 rfl;exact an (aQ (v:=.bool _) rfl rfl) rfl
      constructor
      ·rintro-w35 D35;rintro _ rfl;exact an (aB (v:=.bool _) rfl) rfl
      constructor
      ·rintro-w36 D36;rintro _ rfl;exact aL rfl (aB (v:=.pointer _) rfl) rfl
      constructor
      ·rintro-w37 D37;rintro _ rfl _ rfl;refine nN rfl jR ((pW _ p2 d2 g' recs' M' true _ (hJ7.wt.from_ (ag.rfl_.next D37))).mono ?_);rintro v _ ⟨⟨a,b,rfl,h⟩,hF⟩;exact ⟨hF,a,b,rfl,dp.ents (cJ.of_own h)⟩
      constructor
      ·rintro-w38 D38;rintro _ rfl;exact aL rfl (aG (cs:=lgV M'.b M'.t E2 n2 c2) az aq rfl ((hJ7.q.from_ (ag.rfl_.next D38)).whole)) rfl
      constructor
      ·rintro-w39 D39;rintro _ rfl v39_90 ⟨A39,c39,rfl,he39⟩ v39_91 rfl;refine nN rfl jQ ((tl M' A39 E2 M'.es.length c39 n2 c2 _ he39 (hJ7.hE.from_ (ag.rfl_.next D39)) (by omega)).mono ?_);rintro v _ ⟨rfl,E39'⟩;exact ⟨E39',rfl⟩
      constructor
      ·rintro-w40 D40;rintro _ rfl _ rfl;exact aL rfl (bh (bG rfl) rfl) rfl
      constructor
      ·rintro-w41 D41;rintro _ rfl v41_93 rfl;exact an (aQ (v:=.bool _) rfl rfl) rfl
      exact trivial
     case hend=>
      intro w42 D42;rintro _ rfl _ rfl v83 rfl _ rfl _ rfl v86 rfl _ rfl _ rfl _ rfl v90 ⟨A42,c42,rfl,he42⟩ v91 rfl _ rfl v93 rfl _ rfl;show St ..;refine ah (ae (aI rfl (aE (bI ?_))));refine bW ((d2,p2)) ⟨(by first | rfl | (refine bD ?_;omega)),(by first | rfl | (refine bD ?_;omega)),(by first | rfl | (refine bD ?_;omega)),trivial⟩ (by (iterate 63 refine bg rfl ?_);exact bw) ?_;exact ⟨_,g',recs',M',true,E2,n2,c2,hJ7.from_ (ag.rfl_.next D42),hg2,hK2,hS2⟩
    refine aE (bI ?_);refine bW ((d,p)) ⟨(by first | rfl | (refine bD ?_;omega)),(by first | rfl | (refine bD ?_;omega)),(by first | rfl | (refine bD ?_;omega)),trivial⟩ (by (iterate 35 refine bg rfl ?_);exact bw) ?_;exact ⟨_,g',recs',M',qs',E2,n2,c2,hJ5.from_ ag.rfl_,hg2,hK2,hS2⟩
   rintro ⟨d9,p9⟩ ρ43 w43 ⟨U9,g9,recs9,M9,qs9,E9,n9,c9,hI9,hg9,hK9,hS9⟩;refine ab (mvi rfl (aa (cf (b:=1) rfl rfl (by omega)) (asi rfl (ah ?_))));refine bW ((i+1,d9,p9)) ⟨(by first | rfl | (refine bD ?_;omega)),(by first | rfl | (refine bD ?_;omega)),(by first | rfl | (refine bD ?_;omega)),(by first | rfl | (refine bD ?_;omega)),trivial⟩ (by (iterate 153 refine bg rfl ?_);exact bw) ⟨?_,?_⟩
   ·exact ⟨by omega,by omega,_,_,_,_,_,_,_,_,hI9.from_ ag.rfl_,hg9,hK9,hS9⟩
   ·show L.length-(i+1)<L.length-i;omega
  refine cx (bc (bc (bX (ae (af (ab (av gX (o5 _) ?_)))))));rintro v96 w44 ⟨rfl,rfl⟩;refine mvt rfl (aa (ar rfl rfl) (aa (ar rfl rfl) (asp rfl (asi rfl (ah (ae (af (ab (mvi rfl (av dF (dY _ _) ?_))))))))));rintro v100 w45 ⟨rfl,rfl⟩;refine aa (cU (a7 rfl rfl) rfl) (mvb rfl (ak rfl (mvp rfl (ak rfl (aa (cU (fb (by kernel_rfl) rfl rfl) rfl) (aa (aO (v:=.bool _) rfl rfl) (mvb rfl (ak rfl ?_))))))));refine av oE (qU _ (hT.from_ hI.f)) ?_;rintro v107 w46 ⟨rfl,E107⟩;refine aa (aO (v:=.bool _) rfl rfl) (asb rfl (ah (ae (aC (bz (v:=.bool _) rfl rfl (⟨rfl,(hI.f.next E107)⟩))))))
 refine aA rfl rfl (aA rfl rfl (aa (aQ (v:=.bool _) rfl rfl) (ah (ae (aI rfl (cx (bc (bc (bX (ae (af (ab (av gX (o5 _) ?_)))))))))))));rintro v96 w47 ⟨rfl,rfl⟩;refine mvt rfl (aa (ar rfl rfl) (aa (ar rfl rfl) (asp rfl (asi rfl (ah (ae (af (ab (mvi rfl (av dF (dY _ _) ?_))))))))));rintro v100 w48 ⟨rfl,rfl⟩;refine aa (cU (a7 rfl rfl) rfl) (mvb rfl (ak rfl (mvp rfl (ak rfl (aa (cU (fb (by kernel_rfl) rfl rfl) rfl) (aa (aO (v:=.bool _) rfl rfl) (mvb rfl (ak rfl ?_))))))));refine av oE (qU _ (hT.from_ hI.f)) ?_;rintro v107 w49 ⟨rfl,E107⟩;refine aa (aO (v:=.bool _) rfl rfl) (asb rfl (ah (ae (aC (bz (v:=.bool _) rfl rfl (⟨rfl,(hI.f.next E107)⟩))))))
theorem uP {H:Type} {enc:TypeId×Value→H} {F:FuncId} {T:TypeId} (t u:Ty) (hf:(Ty.pr t u).fits prog (.inl T)=true) (laid:List (String×DataW Unit)) (hl:∀ W,laidMetH prog laid W→cO W)
 (h:∀ (cs:Array Value) (x:(Ty.pr t u).den) (w:World),cs.size=(Ty.pr t u).size→(Ty.pr t u).At w (fun j=>cs[j]?) x→cO w→Rt prog F [.agg cs] w fun v w'=>v=.bool true∧ag w w')
 (W:World) (base:Nat) (v:Value) (d:DataW H) (p:List MemPlace) (hL:laidMetH prog laid W) (_:W.ShapedOpen prog) (hok:Value.okWide prog W .any base T v) (ht:DataW.Trod enc prog W 0 (fun _=>true) true T v d p) (hsz:∀ n∈d.weights prog T,n≤140737488351232) :
 Calls prog F #[v] W fun e W'=>e=.returned (.bool true)∧ag W W':=by
 obtain ⟨cs,x,rfl,hs,ha⟩:=Bn t u hf hok ht hsz;exact Rt.to (h cs x W hs ha (hl W hL))
theorem ky {H:Type} {enc:TypeId×Value→H} {C:Checked} {os:Os} {f:FuncId} {fn:Func} {s:OpenSpec} {conds:List PathCond} {apart:Bool} {laid:List (String×DataW Unit)} (modest:Bool) (w0:World) (args:Array Value) (hos:w0.os=os)
 (hsh:(w0.forCall (fun _ _=>0) ⟨#[],args,[]⟩).Shaped C.prog) (hok:Input.okWideB C.prog (w0.forCall (fun _ _=>0) ⟨#[],args,[]⟩) f ⟨#[],args,[]⟩=true)
 (hrow:s.preRow enc C.prog fn conds apart laid (w0.forCall (fun _ _=>0) ⟨#[],args,[]⟩).memory args) :
 ∃ (w:World) (tape:Tape) (i:Input),w.os=os∧(w.forCall tape i).Shaped C.prog∧i.vars=[]∧Input.okWide C.prog (w.forCall tape i) .any w.heap.size f i∧
  s.preRow enc C.prog fn conds apart laid (w.forCall tape i).memory i.args∧({ modest:=modest }:Assume).holds C.prog (lone (Frame.enter C.prog f i.args .normal) [] (w.forCall tape i)):=
 ⟨w0,fun _ _=>0,⟨#[],args,[]⟩,hos,hsh,(Input.okWide_of_okWideB (base:=0) hok).1,(Input.okWide_of_okWideB hok).2,hrow,by
  simp only [Assume.holds];exact ⟨by simp,by simp,fun _=>Modest.zero,by simp,by simp⟩⟩
theorem nk {W:World} (h:laidMetH prog Rows.walModelRow.laid W):cO W:=by
 have gTab : prog.globalNamed "lectern/sum.remainders" = some 3 := by kernel_rfl
 have gType:(prog.globals[3]?).map (·.type)=some 199:=by kernel_rfl
 have c1:prog.cellsOf 166=1:=by kernel_rfl
 have c16:prog.cellsOf 199=16:=by kernel_rfl
 have ht : Lib.TabIs prog W "lectern/sum.remainders" .u32 [0, 498536548, 997073096, 651767980, 1994146192, 1802195444, 1303535960, 1342533948, 3988292384, 4027552580, 3604390888, 3412177804, 2607071920, 2262029012, 2685067896, 3183342108] :=
  Lib.tabIs_of_head (rest:=_) gTab gType Tryz.underlying199 Tryz.underlying166 c1 c16 ((MakeChecks.laidMetH_plain _ _ _ (by kernel_rfl)).mp h)
 intro i hi;rw [ht.cell gTab i hi];have:i=0∨i=1∨i=2∨i=3∨i=4∨i=5∨i=6∨i=7∨i=8∨i=9∨i=10∨i=11∨i=12∨i=13∨i=14∨i=15:=by omega
 rcases this with rfl | rfl | rfl | rfl | rfl | rfl | rfl | rfl | rfl | rfl | rfl | rfl | rfl | rfl | rfl | rfl <;> rfl
theorem pZ (cs:Array Value) (x:y8.den) (w:World) (hs:cs.size=2) (h:y8.At w (fun j=>cs[j]?) x) (hT:cO w):Rt prog 3 [.agg cs] w fun v w'=>v=.bool true∧ag w w':=by
 obtain ⟨A,B,ca,cb,m,L,rfl,ha⟩:=yy hs h;exact pY A B ca cb m L w ha hT
noncomputable def g_ (os:Os):World:=
 World.laidAll prog os Rows.walModelRow.laid
theorem qM (os:Os):laidMet prog Rows.walModelRow.laid ((g_ os).forCall (fun _ _=>0) ⟨#[],#[.agg #[.slice none 0 0,.slice none 0 0]],[]⟩).memory:=
 laidMet_laidAll _ (by kernel_rfl) (by kernel_rfl)
theorem oK (os:Os) {H:Type} (enc:TypeId×Value→H):∃ places,DataW.whole enc prog ((g_ os).forCall (fun _ _=>0) ⟨#[],#[.agg #[.slice none 0 0,.slice none 0 0]],[]⟩).memory Tryz.f3.params.toList Rows.walModelSpec.vars false #[(.agg #[.slice none 0 0,.slice none 0 0]:Value)].toList 8=some ([.agg [.nil,.nil]],[],places):=
 ⟨[],by kernel_rfl⟩
theorem mT (os:Os) (started:os.Started) (H:Type) (enc:TypeId×Value→H) (F:Stop.Interp) :
 ReturnsInHanded {} Tryz.checked os 3 .any ((OpenSpec.ofChange Rows.walModelSpec).preRow enc prog Tryz.f3 Rows.walModelRow.domain false Rows.walModelRow.laid) (((OpenSpec.ofChange Rows.walModelSpec).at F).post enc prog Tryz.f3 false true false false):=by
 obtain ⟨places,hx⟩:=oK os enc
 refine returnsInHanded_of_row (C:=Tryz.checked) (s:=OpenSpec.ofChange Rows.walModelSpec) Tryz.own started (by kernel_rfl) Tryz.func3
  (ky (enc:=enc) (C:=Tryz.checked) false (g_ os) #[.agg #[.slice none 0 0,.slice none 0 0]] (World.laidAll_os _ _ _) (World.shaped_of_ZipB (by kernel_rfl) (by kernel_rfl)) (by kernel_rfl)
   (OpenSpec.preRow_of_cond 8 hx (by kernel_rfl) (fun k hk=>by cases hk) (by kernel_rfl) (qM os))) ?_
 intro W base args ds gs before hval hW _ _ hsz hL hS _;exact oU 3 Tryz.f3 25 4 Rows.walModelSpec Tryz.params3 (by kernel_rfl) Tryz.underlying4 rfl (fun _=>rfl) (by kernel_rfl) (dT_ (by kernel_rfl)) Rows.walModelRow.laid (uP (.sl Ai) (.pr (.sl (.int .i64)) .unit) (by kernel_rfl) Rows.walModelRow.laid (fun _ h=>nk h) pZ) W base args ds gs before hval hW hsz hL hS
theorem oY:Rows.WalModelSaid:=
 OpenClaim.holds_of_cond 3 Tryz.f3 rfl rfl rfl rfl rfl rfl rfl ⟨rfl,rfl,rfl,rfl,rfl⟩ rfl rfl rfl rfl rfl (by kernel_rfl) Tryz.func3 (by kernel_rfl)
  (dT_ (by kernel_rfl)) (by unfold Func.isWrapper;first | (rw [if_pos (by decide+kernel)];kernel_rfl) | (rw [if_neg (by decide+kernel)];exact ⟨rfl,rfl⟩))
  (fun os started H enc _ F=>by rw [OpenClaim.pre_eq_preRow];exact mT os started H enc F)
theorem oM (f : FuncId) (fn : Func) (hf : Tryz.pinned.checked.prog.funcNamed "lectern/lecternlaw19.WalModel" = some f) (hfn : Tryz.pinned.checked.prog.funcs[f]? = some fn) :
 true=Tryz.pinned.checked.prog.looks []∧∀ (j:Nat) t,fn.params[j]? =some t→Tryz.pinned.checked.prog.wantsStandIn t=false:=by
 obtain rfl : f = 3 := Option.some.inj ((show prog.funcNamed "lectern/lecternlaw19.WalModel" = some 3 by kernel_rfl).symm.trans hf) |>.symm
 obtain rfl:fn=Tryz.f3:=(Option.some.inj (Tryz.func3.symm.trans hfn)).symm;refine ⟨by kernel_rfl,fun j t ht=>?_⟩;rw [(Tryz.params3)] at ht;obtain rfl:t=25:=by simpa using Array.mem_of_getElem? ht
 exact (show prog.wantsStandIn 25=false by kernel_rfl)
theorem WalModel_holds:Rows.WalModelCardSaid:=
 Claim7.holds_tied_plain_at .later [] _ _ _ _ oY (fun _ h=>by cases h) (by kernel_rfl) (fun _ h=>by cases h) walModel_row_tie rfl ⟨rfl,rfl⟩ (by kernel_rfl) rfl oM (by kernel_rfl)
end Go.Proofs.YtaohnmneccbljaaGreatDoor
namespace Go.Proofs.YtaohnmneccbljaaGreatDoor
open Go.Proofs.Tryz (prog)
open Go.RowKit
def GdP (n:Fr) (T:PT) (l0:List Oper):List Oper→Prop
 |[]=>True
 |o::r=>(match o.guard with
  |none=>True
  |some (j,b)=>o.after.toList.any (fun e=>e.on==j&&Region.binds .any e)=true∧∃ t R,(j,t,R)∈T∧jH l0 j=some t∧Nat.blt t n.n=true∧∀ S v w,R S v w→v=.bool b)∧GdP n T l0 r
section
variable {P:Program} {Q:Exit→Act→World→Prop} {n:Fr} {L:List (Nat×Value)} {w:World} {l:List Oper}
theorem CW {T:PT}:∀ (r:List Oper),GdP n T l r→∀ o∈r,∀ j b,o.guard=some (j,b)→o.after.toList.any (fun e=>e.on==j&&Region.binds .any e)=true∧∃ t R,(j,t,R)∈T∧jH l j=some t∧Nat.blt t n.n=true∧∀ S v w,R S v w→v=.bool b:=by
 intro r
 induction r with
 |nil=>intro _ o ho;cases ho
 |cons x r ih=>
  intro h o ho j b hg;rcases List.mem_cons.1 ho with e | ho'
  ·subst e;have h1:=h.1;rw [hg] at h1;exact h1
  ·exact ih h.2 o ho' j b hg
theorem CL {T:PT} {S:Nat→Bool} {L':List (Nat×Value)} {w':World} (hI:jY L T S L' w') {r:List Oper} (hG:GdP n T l r) {o:Oper} (ho:o∈r) (hE:∀ e∈o.after,Region.binds .any e=true→S e.on=true):Region.wanted o (yielded l.toArray (mkT n.n L'))=true:=by
 have hg:=CW r hG o ho;obtain ⟨dst,op,ty,pos,after,g⟩:=o;cases g with
 |none=>rfl
 |some jb=>
  obtain ⟨j,b⟩:=jb;obtain ⟨ha,t,R,hp,hn,hlt,hR⟩:=hg j b rfl;obtain ⟨e,he,he2⟩:=List.any_eq_true.1 ha;simp only [Bool.and_eq_true] at he2;have hej:e.on=j:=by simpa using he2.1
  have hS:S j=true:=by rw [←hej];exact hE e (by simpa using he) he2.2
  obtain ⟨v,hv,hRv⟩:=hI.get hp hS;have hvb:=hR _ _ _ hRv;subst hvb
  have hw:iH l.toArray n L' j=.bool b:=by
   unfold iH;rw [show l.toArray.toList=l from rfl,hn];show (bif Nat.blt t n.n then aT L' t else undef)=_;rw [hlt];exact hv
  show (yielded l.toArray (mkT n.n L') j==some b)=true;rw [fa hw];simp
theorem CS {id:Nat} (T:PT) (Mu:List Nat) (Mem:(Nat→Bool)→World→Prop) (hm:P.follows .mixedOrders=true) (hwf:tr l=true) (hgd:GdP n T l l) (hlt:(T.all fun p=>Nat.blt p.1 l.length)=true) (hU:yN (T.map fun p=>(p.1,p.2.1))=true) (hmo:mK Mu T) (hme:∀ S i w1 w2,Mu.elem i=false→ag w1 w2→Mem S w1→Mem (df S i) w2) (h0:Mem (fun _=>false) { w with drawn:=w.drawn+1 })
 (hstep:tX P n L T Mu Mem l 0 (l.map yO)) (hend:∀ w',Mem (fun i=>decide (i<l.length)) w'→Al (fun i=>decide (i<l.length)) w' T fun M=>Q .normal (mkA n (M++L)) w'):Cd P (.region id l.toArray true) Q n L w:=
 zY (fun S L' w'=>jY L T S L' w'∧Mem S w'∧kj l S) hm hwf ⟨⟨fun _ _=>rfl,fun _ _ h=>(by cases h),fun _ _ _=>rfl⟩,h0,fun _ _ _ h=>by cases h⟩ (fun i o S L' w' ho ⟨hI,hM,hC⟩ hS hE=>by
  refine ⟨CL hI hgd (List.mem_of_getElem? ho) hE,?_⟩;have:=pd hstep (ua hU) hmo hme i (yO o) (by rw [List.getElem?_map,ho];rfl) S L' w' hI hM hC (by rw [Nat.zero_add];exact hS) (lv fun e he=>hE e (by have he':e∈o.after.toList:=he;simpa using he'));rw [Nat.zero_add] at this;exact fA.mono (fun L2 w2 h=>⟨h.1,h.2,rX hC ho hE⟩) (uU this)) fun L' w' ⟨hI,hM,_⟩=>by
  have hlt':∀ p∈T,p.1<l.length:=fun p hp=>by
   have:=List.all_eq_true.1 hlt p hp;exact Nat.le_of_ble_eq_true this
  have h:=uL (aT L') T (fun p hp=>hI.2.1 p hp (decide_eq_true (hlt' p hp))) (hend w' hM)
  have e:mkA n L'=mkA n (T.map (fun p=>(p.2.1,aT L' p.2.1))++L):=by
   unfold mkA;rw [kb fun t _=>?_];rcases vz (aT L') T L t with ⟨_,h2⟩ | ⟨h1,h2⟩
   ·exact h2.symm
   ·rw [h2];exact hI.1 t h1
  rw [e];exact h
end
end Go.Proofs.YtaohnmneccbljaaGreatDoor
