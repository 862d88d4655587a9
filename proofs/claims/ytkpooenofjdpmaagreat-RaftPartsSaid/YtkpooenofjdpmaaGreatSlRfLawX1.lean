/- texts that the claim stands on. -/
import Derived.Test.YtkpooenofjdpmaaGreatProg
import Derived.WalkKit
import Derived.WalkSpells
import Derived.WalkLawsBesides
import Derived.Deep.QuietTactic
import Derived.BigQuiet
import Derived.Lib.Hide
import Derived.Deep.RegionHeld3
import Derived.Deep.LoopGhost
import Derived.OwnWalk
import Derived.KernelRfl
import Derived.Deep.Slices
import Derived.Lib.AppendZeros
import Derived.Laws.AppendOwnNone
import Derived.Handy
import Derived.Lib.BufferMore
import Derived.Still
import Derived.Deep.Draws
import Derived.Deep.MidRow
import Derived.Great.BuildSlice
import Derived.Test.YtkpooenofjdpmaaGreatRows
import Derived.ProofKit
import Derived.Deep.Fields
import Derived.ChangeSame
import Derived.SizedLaws
import Derived.Deep.DeepHandedRow
import Derived.Lib.LaidTab
import Derived.OpenShut
set_option maxRecDepth 100000
set_option maxHeartbeats 4000000
namespace Go.Proofs.YtkpooenofjdpmaaGreat
open Go.Proofs.Tryz (prog)
open Go.RowKit
theorem dT_ {p:Prop} [i:Decidable p]:decide p=true→p:=of_decide_eq_true
theorem dF_ {p:Prop} [i:Decidable p]:decide p=false→¬p:=of_decide_eq_false
abbrev ai (a w:World):Prop:=Below a.heap.size a w
section
variable {a b w w':World}
theorem ai.rfl_:ai a a:=Below.refl _ _
theorem ai.new (h:ai a w) (o:Obj):ai a (w.alloc o):=Below.alloc h h.size o
theorem ai.dn (h:ai a w) (n:Nat):ai a (w.drewN n):=below_drewN h n
theorem ai.d1 (h:ai a w):ai a w.drew:=Below.drew h
theorem ai.next (h:ai a w) (k:ai w w'):ai a w':=Below.trans h (Below.mono k h.size)
theorem ai.set_ (h:ai a w) {p:Addr} (hp:a.heap.size≤p.block) (u:Value):ai a (w.setCell p u):=Below.setCell h hp u
theorem ai.grew (h:ai a w) {row:Option Nat} (hg:w.grownBy w' row) (hr:∀ k,row=some k→a.heap.size≤k):ai a w':=Below.grown h hg h.size hr
theorem ai.cells (h:ai a w):∀ k o,k<a.heap.size→w.cell? ⟨k,o,none⟩=a.cell? ⟨k,o,none⟩:=fun k o hk=>Below.cell (p:=⟨k,o,none⟩) h hk
end
def Blk (w:World) (g:Nat) (t:TypeId) (cs:Array Value):Prop:=w.heap[g]? =some (.cells cs t (0,0))
section
variable {w w':World} {g:Nat} {t:TypeId} {cs:Array Value}
theorem Blk.lt (h:Blk w g t cs):g<w.heap.size:=by
 rcases Nat.lt_or_ge g w.heap.size with hlt | hge
 ·exact hlt
 ·unfold Blk at h;rw [Array.getElem?_eq_none hge] at h;cases h
theorem Blk.cell (h:Blk w g t cs) (i:Nat):w.cell? ⟨g,i,none⟩=cs[i]? :=cell_of_row w g i cs t (0,0) h
theorem Blk.frozen (h:Blk w g t cs) (i:Nat):w.frozen? ⟨g,i,none⟩=false:=by
 unfold Blk at h;simp [World.frozen?,h]
theorem Blk.new (w:World) (t:TypeId) (cs:Array Value):Blk (w.alloc (.cells cs t)) w.heap.size t cs:=heap_alloc_new w _
theorem Blk.set_ (h:Blk w g t cs) (i:Nat) (u:Value):Blk (w.setCell ⟨g,i,none⟩ u) g t (cs.setIfInBounds i u):=by
 unfold Blk at h ⊢;simp [World.setCell,Array.getElem?_modify,h]
theorem Blk.far (h:Blk w g t cs) {p:Addr} (hp:g≠p.block) (u:Value):Blk (w.setCell p u) g t cs:=(Below.heap_setCell w p u g hp).trans h
theorem Blk.below {B:Nat} (h:Blk w g t cs) (hb:Below B w w') (hg:g<B):Blk w' g t cs:=(hb.block g hg).trans h
theorem Blk.from_ (h:Blk w g t cs) (hb:ai w w'):Blk w' g t cs:=h.below hb h.lt
end
def Row (w:World) (v:Value) (vs:List Value):Prop:=
 ∃ (A:Option Addr) (cap:Nat),v=.slice A vs.length cap∧(0<vs.length→∃ b o,A=some ⟨b,o,none⟩∧b<w.heap.size∧∀ i u,vs[i]? =some u→w.cell? ⟨b,o+i,none⟩=some u)
theorem Row.nil_ (w:World):Row w (.slice none 0 0) []:=⟨none,0,rfl,fun h=>absurd h (by simp)⟩
theorem Row.of_own {w:World} {base:Nat} {e:TypeId} {v:Value} {n:Nat} {xs:List Value} (h:w.ownsRow base e 1 v n xs):Row w v xs:=by
 have hl:xs.length=n:=by simpa using h.1
 rcases h.2 with ⟨rfl,rfl⟩ | ⟨g,cap,cur,rfl,hg,hh,_⟩
 ·have:xs=[]:=List.eq_nil_of_length_eq_zero hl;subst this;exact Row.nil_ w
 ·subst hl;refine ⟨some ⟨g,0,none⟩,cap,rfl,fun _=>⟨g,0,rfl,?_,fun i u hu=>?_⟩⟩
  ·rcases Nat.lt_or_ge g w.heap.size with hlt | hge
   ·exact hlt
   ·rw [Array.getElem?_eq_none hge] at hh;cases hh
  ·have:=h.cells (g:=g) rfl i u hu;rw [Addr.add_lit] at this;exact this
theorem Row.blk {w:World} {g:Nat} {t:TypeId} {cs:Array Value} (h:Blk w g t cs) (cap:Nat):Row w (.slice (some ⟨g,0,none⟩) cs.size cap) cs.toList:=by
 refine ⟨some ⟨g,0,none⟩,cap,by simp,fun _=>⟨g,0,rfl,h.lt,fun i u hu=>?_⟩⟩;rw [Nat.zero_add,h.cell i];simpa using hu
theorem uc {α:Type} {f:α→Value} {w:World} {v:Value} {xs:List α} (hr:Row w v (xs.map f)):∃ A cap,v=.slice A xs.length cap∧
 (0<xs.length→∃ b o,A=some ⟨b,o,none⟩∧b<w.heap.size∧∀ i (h:i<xs.length),w.cell? ⟨b,o+i,none⟩=some (f xs[i])):=by
 obtain ⟨A,cap,rfl,hp⟩:=hr;rw [List.length_map] at hp ⊢;refine ⟨A,cap,rfl,fun h0=>?_⟩;obtain ⟨b,o,hA,hb,hc⟩:=hp h0;refine ⟨b,o,hA,hb,fun i hi=>hc i _ ?_⟩;rw [List.getElem?_map,List.getElem?_eq_getElem hi];rfl
theorem fM {w:World} {base:Nat} {e:TypeId} {size:Nat} {v:Value} {n:Nat} {xs:List Value} (h:w.ownsRow base e size v n xs):∃ A cap,v=.slice A n cap:=by
 rcases h.2 with ⟨rfl,rfl⟩ | ⟨g,cap,cur,rfl,_⟩
 ·exact ⟨none,0,rfl⟩
 ·exact ⟨_,cap,rfl⟩
theorem _root_.Go.World.ownsRow.kept_from {w w':World} {base:Nat} {e:TypeId} {size:Nat} {v:Value} {n:Nat} {xs:List Value} (h:w.ownsRow base e size v n xs) (hw:ai w w'):w'.ownsRow base e size v n xs:=by
 refine ⟨h.1,?_⟩;rcases h.2 with h2 | ⟨g,cap,cur,hv,hg,hh,r⟩
 ·exact .inl h2
 ·refine .inr ⟨g,cap,cur,hv,hg,?_,r⟩
  rw [hw.block g (by
   rcases Nat.lt_or_ge g w.heap.size with hlt | hge
   ·exact hlt
   ·rw [Array.getElem?_eq_none hge] at hh;cases hh)]
  exact hh
end Go.Proofs.YtkpooenofjdpmaaGreat
namespace Go.Proofs.YtkpooenofjdpmaaGreat
open Go.Proofs.Tryz (prog)
def vq (w:World) (v:Value) (vs:List Value):Prop:=Row w v vs∧∃ A cap,v=.slice A vs.length cap∧vs.length≤cap∧cap≤9223372036854775807
theorem vq.parts {w:World} {v:Value} {vs:List Value} (h:vq w v vs):∃ A cap,v=.slice A vs.length cap∧vs.length≤cap∧cap≤9223372036854775807∧(0<vs.length→∃ b o,A=some ⟨b,o,none⟩∧b<w.heap.size∧∀ i u,vs[i]? =some u→w.cell? ⟨b,o+i,none⟩=some u):=by
 obtain ⟨⟨A',c',hv',hp⟩,A,cap,rfl,h1,h2⟩:=h;simp only [Value.slice.injEq] at hv';obtain ⟨rfl,-,rfl⟩:=hv';exact ⟨A,cap,rfl,h1,h2,hp⟩
def restA (A:Option Addr) (cap k:Nat):Option Addr:=if cap=k then A else A.map (·.add k)
end Go.Proofs.YtkpooenofjdpmaaGreat
namespace Go.Proofs.YtkpooenofjdpmaaGreat
open Go.Proofs.Tryz (prog)
open Go.RowKit
structure Ent where
 i:Int
 t:Int
 d:ByteArray
def Ent.Ok (e:Ent):Prop:=-9223372036854775808≤e.i∧e.i≤9223372036854775807∧-9223372036854775808≤e.t∧e.t≤9223372036854775807∧e.d.size≤140737488351232
def inb (lo hi x:Int):Bool:=decide (lo≤x)&&decide (x≤hi)
theorem da {lo hi x:Int} (h:inb lo hi x=true):lo≤x∧x≤hi:=by simpa [inb] using h
theorem eh {lo hi x:Int} (h:lo≤x∧x≤hi):inb lo hi x=true:=by simpa [inb] using h
theorem oL {lo hi x:Int} (h:¬ (lo≤x∧x≤hi)):inb lo hi x=false:=by
 rcases hx:inb lo hi x with _ | _
 ·rfl
 ·exact absurd (da hx) h
def gG (e:Ent) (index term:Int):Bool:=decide (e.i=index+1)&&inb 1 1099511627776 e.i&&inb (max term 0) 1099511627775 e.t&&decide (e.d.size≤4096)
def fw:List Ent→Int→Int→Bool
 |[],_,_=>true
 |e::r,index,term=>gG e index term&&fw r (index+1) e.t
def cn (B T:Int) (xs:List Ent):Bool:=inb 0 1099511625728 B&&inb 0 1099511627775 T&&decide (xs.length≤512)&&fw xs B T
def cQ (w:World) (v:Value) (xs:List Ent):Prop:=
 ∃ (A:Option Addr) (cap:Nat),v=.slice A xs.length cap∧xs.length≤cap∧cap≤9223372036854775807∧(A=none→cap=0)∧
  (0<xs.length→∃ b o,A=some ⟨b,o,none⟩∧b<w.heap.size∧∀ i (h:i<xs.length),w.cell? ⟨b,o+i*3,none⟩=some (.int .i64 xs[i].i)∧w.cell? ⟨b,o+i*3+1,none⟩=some (.int .i64 xs[i].t)∧w.cell? ⟨b,o+i*3+2,none⟩=some (.string xs[i].d))
theorem cQ.from_ {w w':World} {v:Value} {xs:List Ent} (h:cQ w v xs) (hw:ai w w'):cQ w' v xs:=by
 obtain ⟨A,cap,hv,h1,h2,h3,hp⟩:=h;refine ⟨A,cap,hv,h1,h2,h3,fun h0=>?_⟩;obtain ⟨b,o,hA,hb,hc⟩:=hp h0;exact ⟨b,o,hA,Nat.lt_of_lt_of_le hb hw.size,fun i hi=>⟨(hw.cells _ _ hb).trans (hc i hi).1,(hw.cells _ _ hb).trans (hc i hi).2.1,(hw.cells _ _ hb).trans (hc i hi).2.2⟩⟩
theorem cQ.nil_ (w:World):cQ w (.slice none 0 0) []:=⟨none,0,rfl,by simp,by decide,fun _=>rfl,fun h=>absurd h (by simp)⟩
theorem cQ.cut {w:World} {A:Option Addr} {n cap:Nat} {xs:List Ent} (h:cQ w (.slice A n cap) xs) {k:Nat} (hk:k≤xs.length):cQ w (.slice A k cap) (xs.take k):=by
 obtain ⟨A',c',hv,h1,h2,h3,hp⟩:=h;simp only [Value.slice.injEq] at hv;obtain ⟨rfl,rfl,rfl⟩:=hv;have hlen:(xs.take k).length=k:=by simp [Nat.min_eq_left hk]
 refine ⟨A,cap,by rw [hlen],by omega,h2,h3,fun h0=>?_⟩;rw [hlen] at h0;obtain ⟨b,o,hA,hb,hc⟩:=hp (by omega);refine ⟨b,o,hA,hb,fun i hi=>?_⟩;have:=hc i (by omega);simpa using this
theorem cQ.rest {w:World} {A:Option Addr} {n cap:Nat} {xs:List Ent} (h:cQ w (.slice A n cap) xs) {k:Nat} (hk:k≤xs.length) :
 cQ w (.slice (if cap=k then A else Option.map (fun x=>x.add (k*3)) A) (n-k) (cap-k)) (xs.drop k):=by
 obtain ⟨A',c',hv,h1,h2,h3,hp⟩:=h;simp only [Value.slice.injEq] at hv;obtain ⟨rfl,rfl,rfl⟩:=hv;have hlen:(xs.drop k).length=xs.length-k:=by simp
 refine ⟨_,_,by rw [hlen],by omega,by omega,fun hA=>?_,fun h0=>?_⟩
 ·split at hA
  ·have:=h3 hA;omega
  ·cases A with
   |none=>
    have:=h3 rfl;omega
   |some a=>simp at hA
 ·rw [hlen] at h0;obtain ⟨b,o,rfl,hb,hc⟩:=hp (by omega);refine ⟨b,o+k*3,by rw [if_neg (by omega)];simp [Addr.add_lit],hb,fun i hi=>?_⟩;have:=hc (k+i) (by omega);rw [show o+k*3+i*3=o+(k+i)*3 by omega];simpa using this
theorem cQ.of_own {w:World} {base:Nat} {e:TypeId} {v:Value} {n:Nat} {xs:List Ent} (h:w.ownsRow base e 3 v n (xs.flatMap fun x=>[.int .i64 x.i,.int .i64 x.t,.string x.d])) (hn:xs.length=n):cQ w v xs:=by
 have get:∀ (xs:List Ent) (i:Nat) (h:i<xs.length),(xs.flatMap fun x=>[Value.int .i64 x.i,.int .i64 x.t,.string x.d])[i*3]? =some (.int .i64 xs[i].i)∧(xs.flatMap fun x=>[Value.int .i64 x.i,.int .i64 x.t,.string x.d])[i*3+1]? =some (.int .i64 xs[i].t)∧(xs.flatMap fun x=>[Value.int .i64 x.i,.int .i64 x.t,.string x.d])[i*3+2]? =some (.string xs[i].d):=by
  intro xs
  induction xs with
  |nil=>intro i h;simp at h
  |cons x r ih=>
   intro i h;cases i with
   |zero=>simp
   |succ i=>
    have:=ih i (by simpa using h);rw [Nat.succ_mul];simpa using this
 rcases h.2 with ⟨rfl,rfl⟩ | ⟨g,cap,cur,rfl,hg,hh,h1,h2,h4,h5⟩
 ·have:xs=[]:=List.eq_nil_of_length_eq_zero hn;subst this;exact cQ.nil_ w
 ·subst hn;refine ⟨some ⟨g,0,none⟩,cap,rfl,h1,by unfold maxLen at h2;omega,fun hA=>(by cases hA),fun _=>⟨g,0,rfl,?_,fun i hi=>?_⟩⟩
  ·rcases Nat.lt_or_ge g w.heap.size with hlt | hge
   ·exact hlt
   ·rw [Array.getElem?_eq_none hge] at hh;cases hh
  ·obtain ⟨g1,g2,g3⟩:=get xs i hi;have e0:=h.cells (g:=g) rfl _ _ g1;have e1:=h.cells (g:=g) rfl _ _ g2;have e2:=h.cells (g:=g) rfl _ _ g3;rw [Addr.add_lit] at e0 e1 e2;exact ⟨e0,e1,e2⟩
theorem mc (lo hi x:Int) (v:Value) (w:World) (hr:Row w v [.int .i64 x]) :
 Calls prog 118 #[.int .i64 lo,.int .i64 hi,v] w fun e w'=>e=.returned (.bool (inb lo hi x))∧w=w':=by
 obtain ⟨A,cap,rfl,hrow⟩:=hr;obtain ⟨b,o,rfl,hb,hc⟩:=hrow (by simp);have d1:=hc 0 _ rfl;clear hrow hc;simp only [Nat.add_zero,List.length_cons,List.length_nil,Nat.zero_add] at d1 ⊢
 go_enter Tryz.func118,Tryz.ntmps118
 go_wp2
 go_loop [11] (fun i=>∃ j:Nat,j≤1∧i=.int .i64 j∧(j=1→lo≤x∧x≤hi)) (fun i=>1-(intOf i).toNat)
 case atStart=>exact ⟨0,by omega,rfl,by omega⟩
 case round=>
  obtain ⟨j,hj,rfl,hin⟩:=hrel;by_cases h0:j=0
  ·subst h0;by_cases h1:lo≤x
   ·by_cases h2:x≤hi
    ·have HIN:=Lib.hid (And.intro h1 h2);have e1:decide (x<lo)=false:=by simp;omega
     have e2:decide (hi<x)=false:=by simp;omega
     clear h1 h2 hin
     go_wp2
     go_round
     case rel=>exact ⟨1,by omega,by go_num,fun _=>HIN.out⟩
     case measure=>simp [intOf]
    ·have HIN:=Lib.hid (oL (lo:=lo) (hi:=hi) (x:=x) (by omega));have e1:decide (x<lo)=false:=by simp;omega
     have e2:decide (hi<x)=true:=by simp;omega
     clear h1 h2 hin
     go_wp2
     go_ret
     exact ⟨by rw [HIN.out];rfl,rfl⟩
   ·have HIN:=Lib.hid (oL (lo:=lo) (hi:=hi) (x:=x) (by omega));have e1:decide (x<lo)=true:=by simp;omega
    clear h1 hin
    go_wp2
    go_ret
    exact ⟨by rw [HIN.out];rfl,rfl⟩
  ·obtain rfl:j=1:=by omega
   have HIN:=Lib.hid (eh (hin rfl));clear hin h0
   go_wp2
   go_ret
   exact ⟨by rw [HIN.out];rfl,rfl⟩
theorem gT (lo hi x:Int) (w:World) :
 Calls prog 118 #[.int .i64 lo,.int .i64 hi,.slice (some ⟨w.heap.size,0,none⟩) 1 1] (w.alloc (.cells #[.int .i64 x] 3)) fun e w'=>e=.returned (.bool (inb lo hi x))∧ai w w':=
 (mc lo hi x _ _ (Row.blk (Blk.new w 3 #[.int .i64 x]) 1)).mono fun _ _ ⟨h1,h2⟩=>⟨h1,h2 ▸ ai.rfl_.new _⟩
theorem lp (lo hi x:Int) (w:World) (ob:Obj) :
 Calls prog 118 #[.int .i64 lo,.int .i64 hi,.slice (some ⟨w.heap.size+1,0,none⟩) 1 1] ((w.alloc ob).alloc (.cells #[.int .i64 x] 3)) fun e w'=>e=.returned (.bool (inb lo hi x))∧ai (w.alloc ob) w':=by
 have h:=gT lo hi x (w.alloc ob);have e:(w.alloc ob).heap.size=w.heap.size+1:=by simp
 rw [e] at h;exact h
def tF (w:World) (xs:List Ent) (index term:Int) (a b i:Value) (wr:World):Prop:=
 ∃ (j:Nat) (t:Int),j≤xs.length∧i=.int .i64 j∧a=.int .i64 (index+j)∧b=.int .i64 t∧0≤t∧fw xs index term=fw (xs.drop j) (index+j) t∧ai w wr
theorem ke (index term:Int) (v:Value) (xs:List Ent) (w:World) (h:cQ w v xs) (hi0:-4611686018427387904≤index) (hi1:index≤4611686018427387904) (ht0:0≤term) (hl:xs.length≤140737488351232) :
 Calls prog 153 #[.int .i64 index,.int .i64 term,v] w fun e w'=>e=.returned (.bool (fw xs index term))∧ai w w':=by
 obtain ⟨A,cap,rfl,hc1,hc2,hc3,hrow⟩:=h;have hwi:=gT;have hwi2:=lp;have HW:=Lib.hid hwi;have HW2:=Lib.hid hwi2;clear hwi hwi2
 go_enter Tryz.func153,Tryz.ntmps153
 go_wp2
 go_loopw [0,1,11] (tF w xs index term) (fun _ _ i _=>xs.length-(intOf i).toNat)
 case atStart=>exact ⟨0,term,by omega,rfl,by simp,rfl,ht0,by simp,ai.rfl_⟩
 case round=>
  obtain ⟨j,t,hj,rfl,rfl,rfl,ht,hruns,hw⟩:=hrel;by_cases hlt:j<xs.length
  ·obtain ⟨b,o,rfl,hb,hc⟩:=hrow (by omega);obtain ⟨c1,c2,c3⟩:=hc j hlt;have d1:=(hw.cells b (o+j*3) hb).trans c1;have d2:=(hw.cells b (o+j*3+1) hb).trans c2;have d3:=(hw.cells b (o+j*3+2) hb).trans c3;have i1:(0:Int)≤(j:Int):=by omega
   have i2:(j:Int)<(xs.length:Int):=by omega
   rw [List.drop_eq_getElem_cons hlt] at hruns;simp only [fw] at hruns;clear hc c1 c2 c3 hrow
   generalize xs[j]=e at*
   obtain ⟨wb,hwb⟩:∃ wb,wb=wr.alloc (.cells #[.int .i64 e.i,.int .i64 e.t,.string e.d] 99):=⟨_,rfl⟩;have hblk:Blk wb wr.heap.size 99 #[.int .i64 e.i,.int .i64 e.t,.string e.d]:=hwb ▸ Blk.new _ _ _;have f0:∀ w',ai wb w'→w'.cell? ⟨wr.heap.size,0,none⟩=some (.int .i64 e.i):=fun w' h=>by simpa using (hblk.from_ h).cell 0
   have f1:∀ w',ai wb w'→w'.cell? ⟨wr.heap.size,1,none⟩=some (.int .i64 e.t):=fun w' h=>by simpa using (hblk.from_ h).cell 1
   have f2:∀ w',ai wb w'→w'.cell? ⟨wr.heap.size,2,none⟩=some (.string e.d):=fun w' h=>by simpa using (hblk.from_ h).cell 2
   have hwwb:ai w wb:=hwb ▸ hw.new _;have hbb:ai wb wb:=ai.rfl_;rw [hwb] at f0 f1 f2 hwwb hbb;clear hblk hwb wb;have hmx:max t 0=t:=by omega
   simp only [gG,hmx] at hruns;by_cases h1:e.i=index+j+1
   ·have e1:(e.i != index+j+1)=false:=by simpa using h1
    rcases h2:inb 1 1099511627776 e.i with _ | _
    ·have HR:=Lib.hid (hruns.trans (by simp [h2]):fw xs index term=false);clear hruns h1
     go_wp2_with (go_at_call 118;(with_reducible refine (HW2.out _ _ _ _ _).mono ?_);rintro e w1 ⟨rfl,hb1⟩)
     go_ret
     exact ⟨by rw [HR.out];rfl,hwwb.next hb1⟩
    ·rcases h3:inb t 1099511627775 e.t with _ | _
     ·have HR:=Lib.hid (hruns.trans (by simp [h3]):fw xs index term=false);clear hruns h1
      go_wp2_with (first
       |(go_at_call 118;(with_reducible refine (HW2.out 1 1099511627776 _ _ _).mono ?_);rintro e w1 ⟨rfl,hb1⟩;have hw1:=ai.next (a:=w) hwwb hb1)
       |(go_at_call 118;(with_reducible refine (HW.out t _ _ _).mono ?_);rintro e w2 ⟨rfl,hb2⟩;have hw2:=ai.next (a:=w) hw1 hb2))
      go_ret
      exact ⟨by rw [HR.out];rfl,hw2⟩
     ·by_cases h4:e.d.size≤4096
      ·have e4:decide ((4096:Int)<(e.d.size:Int))=false:=by simp;omega
       rw [decide_eq_true h1,h2,h3,decide_eq_true h4] at hruns;simp only [Bool.and_self,Bool.true_and] at hruns;have ht2:=da h3;have HR:=Lib.hid (And.intro hruns ht2);clear hruns h1 ht2
       go_wp2_with (first
        |(go_at_call 118;(with_reducible refine (HW2.out 1 1099511627776 _ _ _).mono ?_);rintro e w1 ⟨rfl,hb1⟩;have hw1:=ai.next (a:=w) hwwb hb1)
        |(go_at_call 118;(with_reducible refine (HW.out t _ _ _).mono ?_);rintro e w2 ⟨rfl,hb2⟩;have hw2:=ai.next (a:=w) hw1 hb2;have hbw2:=ai.next (a:=_) hb1 hb2))
       go_roundw
       case rel=>
        obtain ⟨r1,r2⟩:=HR.out;refine ⟨j+1,e.t,by omega,by go_num,by go_num,rfl,by omega,?_,hw2⟩;rw [r1,show index+((j+1:Nat):Int)=index+j+1 by omega]
       case measure=>simp [intOf];omega
      ·have e4:decide ((4096:Int)<(e.d.size:Int))=true:=by simp;omega
       have HR:=Lib.hid (hruns.trans (by simp [h4]):fw xs index term=false);clear hruns h1
       go_wp2_with (first
        |(go_at_call 118;(with_reducible refine (HW2.out 1 1099511627776 _ _ _).mono ?_);rintro e w1 ⟨rfl,hb1⟩;have hw1:=ai.next (a:=w) hwwb hb1)
        |(go_at_call 118;(with_reducible refine (HW.out t _ _ _).mono ?_);rintro e w2 ⟨rfl,hb2⟩;have hw2:=ai.next (a:=w) hw1 hb2;have hbw2:=ai.next (a:=_) hb1 hb2))
       go_ret
       exact ⟨by rw [HR.out];rfl,hw2⟩
   ·have e1:(e.i != index+j+1)=true:=by simpa using h1
    have HR:=Lib.hid (hruns.trans (by simp [h1]):fw xs index term=false);clear hruns h1
    go_wp2
    go_ret
    exact ⟨by rw [HR.out];rfl,hwwb⟩
  ·have hruns':fw xs index term=true:=by
    rw [hruns,List.drop_eq_nil_of_le (by omega)];rfl
   have HR:=Lib.hid hruns';clear hruns hruns'
   go_wp2
   go_ret
   exact ⟨by rw [HR.out];rfl,hw⟩
def chk (B T:Int) (xs:List Ent):Int:=if cn B T xs=true then 0 else 1
theorem iD {w:World} {B T:Int} {v:Value} {t:TypeId} :
 (∀ w',ai (w.alloc (.cells #[.int .i64 B,.int .i64 T,v] t)) w'→w'.cell? ⟨w.heap.size,0,none⟩=some (.int .i64 B))∧
 (∀ w',ai (w.alloc (.cells #[.int .i64 B,.int .i64 T,v] t)) w'→w'.cell? ⟨w.heap.size,1,none⟩=some (.int .i64 T))∧
 (∀ w',ai (w.alloc (.cells #[.int .i64 B,.int .i64 T,v] t)) w'→w'.cell? ⟨w.heap.size,2,none⟩=some v)∧
 ai (w.alloc (.cells #[.int .i64 B,.int .i64 T,v] t)) (w.alloc (.cells #[.int .i64 B,.int .i64 T,v] t))∧ai w (w.alloc (.cells #[.int .i64 B,.int .i64 T,v] t)):=
 ⟨fun w' h=>by simpa using ((Blk.new w t #[.int .i64 B,.int .i64 T,v]).from_ h).cell 0,fun w' h=>by simpa using ((Blk.new w t #[.int .i64 B,.int .i64 T,v]).from_ h).cell 1,
  fun w' h=>by simpa using ((Blk.new w t #[.int .i64 B,.int .i64 T,v]).from_ h).cell 2,ai.rfl_,ai.rfl_.new _⟩
theorem iT (B T:Int) (v:Value) (xs:List Ent) (w:World) (h:cQ w v xs) :
 Calls prog 116 #[.agg #[.int .i64 B,.int .i64 T,v]] w fun e w'=>e=.returned (.int .i64 (chk B T xs))∧ai w w':=by
 have hwi:=gT;have hwi2:=lp;have HW:=Lib.hid hwi;have HW2:=Lib.hid hwi2;clear hwi hwi2;obtain ⟨f0,f1,f2,hbb,hwb⟩:=iD (w:=w) (B:=B) (T:=T) (v:=v) (t:=24);have HE:=Lib.hid h;obtain ⟨A,cap,rfl,hc1,hc2,hc3,hrow⟩:=h;clear hc3 hrow;by_cases hm:cn B T xs=true
 ·have hch:chk B T xs=0:=if_pos hm;simp only [cn,Bool.and_eq_true,decide_eq_true_eq] at hm;obtain ⟨⟨⟨h1,h2⟩,h3⟩,h4⟩:=hm;have b1:=da h1;have b2:=da h2;have e3:decide ((512:Int)<(xs.length:Int))=false:=by simp;omega
  have hfo:=fun w' (h:ai w w')=>ke B T _ xs w' (HE.out.from_ h) (by omega) (by omega) b2.1 (by omega)
  rw [h4] at hfo;have HF:=Lib.hid hfo;have HC:=Lib.hid hch;clear hfo h4 hch b1 b2
  go_enter Tryz.func116,Tryz.ntmps116
  go_wp2_with (first
   |(go_at_call 118;(with_reducible refine (HW2.out 0 1099511625728 _ _ _).mono ?_);rintro e w1 ⟨rfl,hb1⟩;have hw1:=ai.next (a:=w) hwb hb1)
   |(go_at_call 118;(with_reducible refine (HW.out _ _ _ _).mono ?_);rintro e w2 ⟨rfl,hb2⟩;have hw2:=ai.next (a:=w) hw1 hb2;have hbw2:=ai.next (a:=_) hb1 hb2)
   |(go_at_call 153;(with_reducible refine (HF.out _ hw2).mono ?_);rintro e w3 ⟨rfl,hb3⟩;have hw3:=ai.next (a:=w) hw2 hb3))
  go_ret
  exact ⟨by rw [HC.out];rfl,hw3⟩
 ·have hch:chk B T xs=1:=if_neg hm;have HC:=Lib.hid hch;clear hch;rcases h1:inb 0 1099511625728 B with _ | _
  ·clear hm
   go_enter Tryz.func116,Tryz.ntmps116
   go_wp2_with (first
    |(go_at_call 118;(with_reducible refine (HW2.out 0 1099511625728 _ _ _).mono ?_);rintro e w1 ⟨rfl,hb1⟩;have hw1:=ai.next (a:=w) hwb hb1))
   go_ret
   exact ⟨by rw [HC.out];rfl,hw1⟩
  rcases h2:inb 0 1099511627775 T with _ | _
  ·clear hm
   go_enter Tryz.func116,Tryz.ntmps116
   go_wp2_with (first
    |(go_at_call 118;(with_reducible refine (HW2.out 0 1099511625728 _ _ _).mono ?_);rintro e w1 ⟨rfl,hb1⟩;have hw1:=ai.next (a:=w) hwb hb1)
    |(go_at_call 118;(with_reducible refine (HW.out _ _ _ _).mono ?_);rintro e w2 ⟨rfl,hb2⟩;have hw2:=ai.next (a:=w) hw1 hb2))
   go_ret
   exact ⟨by rw [HC.out];rfl,hw2⟩
  by_cases h3:xs.length≤512
  ·have b1:=da h1;have b2:=da h2;have e3:decide ((512:Int)<(xs.length:Int))=false:=by simp;omega
   have h4:fw xs B T=false:=by
    simp only [cn,h1,h2,decide_eq_true h3,Bool.true_and] at hm;simpa using hm
   have hfo:=fun w' (h:ai w w')=>ke B T _ xs w' (HE.out.from_ h) (by omega) (by omega) b2.1 (by omega)
   rw [h4] at hfo;have HF:=Lib.hid hfo;clear hfo h4 hm b1 b2
   go_enter Tryz.func116,Tryz.ntmps116
   go_wp2_with (first
    |(go_at_call 118;(with_reducible refine (HW2.out 0 1099511625728 _ _ _).mono ?_);rintro e w1 ⟨rfl,hb1⟩;have hw1:=ai.next (a:=w) hwb hb1)
    |(go_at_call 118;(with_reducible refine (HW.out _ _ _ _).mono ?_);rintro e w2 ⟨rfl,hb2⟩;have hw2:=ai.next (a:=w) hw1 hb2;have hbw2:=ai.next (a:=_) hb1 hb2)
    |(go_at_call 153;(with_reducible refine (HF.out _ hw2).mono ?_);rintro e w3 ⟨rfl,hb3⟩;have hw3:=ai.next (a:=w) hw2 hb3))
   go_ret
   exact ⟨by rw [HC.out];rfl,hw3⟩
  ·have e3:decide ((512:Int)<(xs.length:Int))=true:=by simp;omega
   clear hm
   go_enter Tryz.func116,Tryz.ntmps116
   go_wp2_with (first
    |(go_at_call 118;(with_reducible refine (HW2.out 0 1099511625728 _ _ _).mono ?_);rintro e w1 ⟨rfl,hb1⟩;have hw1:=ai.next (a:=w) hwb hb1)
    |(go_at_call 118;(with_reducible refine (HW.out _ _ _ _).mono ?_);rintro e w2 ⟨rfl,hb2⟩;have hw2:=ai.next (a:=w) hw1 hb2;have hbw2:=ai.next (a:=_) hb1 hb2))
   go_ret
   exact ⟨by rw [HC.out];rfl,hw2⟩
def cW (B:Int) (xs:List Ent):Int:=match xs.getLast? with | some e=>e.i | none=>B
def dE (T:Int) (xs:List Ent):Int:=match xs.getLast? with | some e=>e.t | none=>T
theorem wo {xs:List Ent} (h:0<xs.length) (B T:Int):cW B xs=xs[xs.length-1].i∧dE T xs=xs[xs.length-1].t:=by
 have:xs.getLast? =some xs[xs.length-1]:=by rw [List.getLast?_eq_getElem?,List.getElem?_eq_getElem (by omega)]
 simp [cW,dE,this]
theorem h_ (B T:Int) (v:Value) (xs:List Ent) (w:World) (h:cQ w v xs) :
 Calls prog 117 #[.agg #[.int .i64 B,.int .i64 T,v]] w fun e w'=>e=.returned (.tuple #[.int .i64 (cW B xs),.int .i64 (dE T xs)])∧ai w w':=by
 obtain ⟨f0,f1,f2,hbb,hwb⟩:=iD (w:=w) (B:=B) (T:=T) (v:=v) (t:=24);obtain ⟨A,cap,rfl,hc1,hc2,hc3,hrow⟩:=h;by_cases h0:0<xs.length
 ·obtain ⟨b,o,rfl,hb,hc⟩:=hrow h0;obtain ⟨l1,l2⟩:=wo h0 B T;obtain ⟨c1,c2,c3⟩:=hc (xs.length-1) (by omega);rw [←l1] at c1;rw [←l2] at c2;have d1:∀ w',ai w w'→w'.cell? ⟨b,o+(xs.length-1)*3,none⟩=some (.int .i64 (cW B xs)):=fun w' h=>(h.cells b _ hb).trans c1
  have d2:∀ w',ai w w'→w'.cell? ⟨b,o+(xs.length-1)*3+1,none⟩=some (.int .i64 (dE T xs)):=fun w' h=>(h.cells b _ hb).trans c2
  have hd:decide ((0:Int)<(xs.length:Int))=true:=by simp;omega
  obtain ⟨n,hn⟩:∃ n,xs.length=n+1:=⟨xs.length-1,by omega⟩;rw [hn] at d1 d2 hd hc1 f0 f1 f2 hbb hwb ⊢;simp only [Nat.add_sub_cancel] at d1 d2;have i0:((n+1:Nat):Int)-1=(n:Int):=by omega
  have hwr:IntKind.i64.wrap (n:Int)=(n:Int):=by rw [IntKind.wrap_i64];omega
  have i1:(0:Int)≤(n:Int):=by omega
  have i2:(n:Int)<((n+1:Nat):Int):=by omega
  have i3:(n:Int)<(n:Int)+1:=by omega
  clear hc c1 c2 c3 hrow l1 l2 hn h0
  generalize cW B xs=x at*
  generalize dE T xs=y at*
  go_enter Tryz.func117,Tryz.ntmps117
  go_wp2
  go_quiet (fail)
  go_wp2
  go_ret2
  exact ⟨rfl,hwb.dn _⟩
 ·have hx:xs=[]:=List.eq_nil_of_length_eq_zero (by omega);subst hx;have hd:decide ((0:Int)<(0:Int))=false:=by decide
  simp only [List.length_nil] at f0 f1 f2 hbb hwb ⊢
  go_enter Tryz.func117,Tryz.ntmps117
  go_wp2
  go_quiet (fail)
  go_wp2
  go_ret2
  exact ⟨rfl,hwb.dn _⟩
def sC (B T:Int) (xs:List Ent):Value:=if cn B T xs=true then .tuple #[.int .i64 (cW B xs),.int .i64 (dE T xs),.int .i64 0] else .tuple #[.int .i64 0,.int .i64 0,.int .i64 1]
theorem pN (B T:Int) (v:Value) (xs:List Ent) (w:World) (h:cQ w v xs) :
 Calls prog 152 #[.agg #[.int .i64 B,.int .i64 T,v]] w fun e w'=>e=.returned (sC B T xs)∧ai w w':=by
 obtain ⟨f0,f1,f2,hbb,hwb⟩:=iD (w:=w) (B:=B) (T:=T) (v:=v) (t:=24);have hch:=fun w' (hw:ai w w')=>iT B T v xs w' (h.from_ hw)
 have hlo:=fun w' (hw:ai w w')=>h_ B T v xs w' (h.from_ hw)
 unfold chk at hch;unfold sC;obtain ⟨A,cap,rfl,hc1,hc2,hc3,hrow⟩:=h;clear hc3 hrow;by_cases hm:cn B T xs=true
 ·rw [if_pos hm] at hch ⊢;have HC:=Lib.hid hch;have HL:=Lib.hid hlo;clear hch hlo hm
  go_enter Tryz.func152,Tryz.ntmps152
  go_wp2_with (first
   |(go_at_call 116;(with_reducible refine (HC.out _ hwb).mono ?_);rintro e w1 ⟨rfl,hb1⟩;have hw1:=ai.next (a:=w) hwb hb1)
   |(go_at_call 117;(with_reducible refine (HL.out _ hw1).mono ?_);rintro e w2 ⟨rfl,hb2⟩;have hw2:=ai.next (a:=w) hw1 hb2))
  go_ret3
  exact ⟨rfl,hw2⟩
 ·rw [if_neg hm] at hch ⊢;have HC:=Lib.hid hch;clear hch hlo hm
  go_enter Tryz.func152,Tryz.ntmps152
  go_wp2_with (first
   |(go_at_call 116;(with_reducible refine (HC.out _ hwb).mono ?_);rintro e w1 ⟨rfl,hb1⟩;have hw1:=ai.next (a:=w) hwb hb1))
  go_ret3
  exact ⟨rfl,hw1⟩
def zB (e:Ent):Bool:=inb 1 1099511627776 e.i&&inb 0 1099511627775 e.t&&decide (e.d.size≤4096)
def y6 (w:World) (xs:List Ent) (index term:Int) (b i:Value) (wr:World):Prop:=
 ∃ (j:Nat) (t:Int),j≤xs.length∧i=.int .i64 j∧b=.int .i64 t∧fw xs index term=fw (xs.drop j) (index+j) t∧ai w wr
def dV (xs:List Ent):List Value:=xs.flatMap fun x=>[.int .i64 x.i,.int .i64 x.t,.string x.d]
theorem pX (xs ys:List Ent):dV (xs++ys)=dV xs++dV ys:=by simp [dV]
theorem ly:∀ (xs:List Ent),(dV xs).length=xs.length*3
 |[]=>rfl
 |x::r=>by
  have h:dV (x::r)=.int .i64 x.i::.int .i64 x.t::.string x.d::dV r:=rfl;rw [h];simp only [List.length_cons,ly r];omega
theorem u0:∀ (xs:List Ent),∀ u∈dV xs,u.oneCell'=true:=by
 intro xs u hu;simp only [dV,List.mem_flatMap] at hu;obtain ⟨x,_,hu⟩:=hu;simp only [List.mem_cons,List.not_mem_nil,or_false] at hu;rcases hu with rfl | rfl | rfl <;> rfl
theorem sI:∀ (xs:List Ent) (j:Nat) (u:Value),(dV xs)[j]? =some u→∃ (i r:Nat) (h:i<xs.length),j=i*3+r∧((r=0∧u=.int .i64 xs[i].i)∨(r=1∧u=.int .i64 xs[i].t)∨(r=2∧u=.string xs[i].d))
 |[],j,u,h=>by simp [dV] at h
 |x::r,j,u,h=>by
  have hc:dV (x::r)=.int .i64 x.i::.int .i64 x.t::.string x.d::dV r:=rfl;rw [hc] at h
  match j,h with
  |0,h=>exact ⟨0,0,by simp,by omega,.inl ⟨rfl,by simpa using h.symm⟩⟩
  |1,h=>exact ⟨0,1,by simp,by omega,.inr (.inl ⟨rfl,by simpa using h.symm⟩)⟩
  |2,h=>exact ⟨0,2,by simp,by omega,.inr (.inr ⟨rfl,by simpa using h.symm⟩)⟩
  |j+3,h=>
   obtain ⟨i,q,hi,hj,hq⟩:=sI r j u (by simpa using h);exact ⟨i+1,q,by simpa using hi,by omega,by simpa using hq⟩
theorem cQ.cellV {w:World} {A:Option Addr} {n cap:Nat} {xs:List Ent} (h:cQ w (.slice A n cap) xs) {ad:Addr} (hA:A=some ad):∀ j u,(dV xs)[j]? =some u→w.cell? (ad.add j)=some u:=by
 intro j u hu;obtain ⟨A',c',hv,_,_,_,hp⟩:=h;simp only [Value.slice.injEq] at hv;obtain ⟨rfl,rfl,rfl⟩:=hv;obtain ⟨i,r,hi,rfl,hr⟩:=sI xs j u hu;obtain ⟨b,o,hA',hb,hc⟩:=hp (by omega);rw [hA] at hA';simp only [Option.some.injEq] at hA';subst hA';rw [Go.WideShapes.add_plain,←Nat.add_assoc];obtain ⟨c1,c2,c3⟩:=hc i hi;rcases hr with ⟨rfl,rfl⟩ | ⟨rfl,rfl⟩ | ⟨rfl,rfl⟩
 ·exact c1
 ·exact c2
 ·exact c3
theorem pW:(prog.info? 99).map (fun i=>(i.zero,i.size,i.bytes))=some (some (.agg #[.int .i64 0,.int .i64 0,.string ⟨#[]⟩]),3,32):=by kernel_rfl
theorem iX {ops:Array Oper} {rest:List Oper} {o:Oper} {a:Act} {Q:Exit→Act→World→Prop} {wr:World} (a0:World) (hgd:o.guard=none) (s x:Operand) (t:TypeId)
 (ho:o.op=.call { callee:=.builtin .append,args:=#[s,x],argTypes:=#[t,t] }) (ht:prog.underlying t=some (.slice 99))
 (v:Value) (n:Nat) (xs:List Ent) (hs:a.eval s=v) (hown:wr.ownsRow a0.heap.size 99 3 v n (dV xs)) (hw:ai a0 wr) (v2:Value) (news:List Ent) (hx:a.eval x=v2) (hr:cQ wr v2 news)
 (hroom:n+news.length≤1000000000000)
 (h:∀ v' w',w'.ownsRow a0.heap.size 99 3 v' (n+news.length) (dV (xs++news))→ai a0 w'→wpList prog ops Q rest (a.put o.dst v') w'):wpList prog ops Q (o::rest) a wr:=by
 obtain ⟨i0,hi0,hz0,hz1,hz2⟩:=info_parts pW;have hr0:=hr;obtain ⟨A,cap,rfl,hc1,hc2,hc3,hp⟩:=hr;cases A with
 |none=>
  have h0:=hc3 rfl;subst h0;have hnn:news=[]:=List.eq_nil_of_length_eq_zero (by omega);subst hnn;refine wpList_append_own_none (P:=prog) hgd s x t ho a0.heap.size 99 i0 3 ht hi0 v n (dV xs) hs hown hx (h v wr ?_ hw);simpa using hown
 |some ad=>
  refine wpList_append_own (P:=prog) _ hgd s x t ho a0.heap.size 99 i0 _ 3 32 ht hi0 hz0 hz1 hz2 rfl (by decide) v n (dV xs) hs hown ad news.length cap (dV news) hx (ly news) (hr0.cellV rfl) (u0 news) (by unfold maxLen;omega) (by omega) hw.size ?_;intro v' w' hown' hg _;rw [←pX] at hown';exact h v' w' hown' (hw.grew hg (fun k hk=>(hown.lt k hk).1))
theorem uS (n:Nat) (w:World) (hn:n≤1000000000000) :
 Calls prog 178 #[.slice none 0 0,.int .i64 n] w fun e w'=>∃ v',e=.returned v'∧w'.ownsRow w.heap.size 99 3 v' 0 (dV [])∧ai w w':=by
 obtain ⟨i0,hi0,hz0,hz1,hz2⟩:=info_parts pW;by_cases h0:0<n
 ·have happ:=Lib.run_append_nil_zeros (P:=prog) w 22 3 22 99 i0 _ .i64 .i64 Tryz.underlying22 Tryz.underlying3 hi0 hz0 n h0 (by omega) (by omega) (by rw [hz2];omega)
  generalize hcap:grownCap w n 0 99=cap2 at happ
  have hcapge:n≤cap2:=by rw [←hcap];exact grownCap_ge w _ 0 _
  have hcaple:cap2≤maxLen:=by rw [←hcap];exact grownCap_le_maxLen w _ 0 _ (by unfold maxLen;omega)
  generalize hZ:(Builtin.zeroCells (Value.agg #[.int .i64 0,.int .i64 0,.string ⟨#[]⟩]).cells n++Builtin.zeroCells (Value.agg #[.int .i64 0,.int .i64 0,.string ⟨#[]⟩]).cells (cap2-n))=Z at happ
  have hZs:Z.size=cap2*3:=by rw [←hZ];simp [size_zeroCells,Value.cells];omega
  clear hcap hZ;have hd1:decide ((0:Int)<(n:Int))=true:=by simp;omega
  have hc9:(0:Int)≤(cap2:Int):=by omega
  have HZ:=Lib.hid hZs;have HC:=Lib.hid hcaple;clear hZs hcaple
  go_enter Tryz.func178,Tryz.ntmps178
  go_wp2_with (at_builtin;refine Lib.wpList_append_run _ rfl _ _ _ _ rfl _ _ rfl rfl _ _ happ ?_)
  go_ret
  refine ⟨_,rfl,⟨by simp [dV],.inr ⟨w.heap.size,cap2,Z,rfl,Nat.le_refl _,?_,by omega,HC.out,HZ.out,by simp [dV]⟩⟩,?_⟩
  ·exact heap_alloc_new w.drew _
  ·exact ai.rfl_.d1.new _
 ·obtain rfl:n=0:=by omega
  have hd1:decide ((0:Int)<((0:Nat):Int))=false:=by simp
  go_enter Tryz.func178,Tryz.ntmps178
  go_wp2
  go_ret
  exact ⟨_,rfl,World.ownsRow_nil _ _ _ _,ai.rfl_⟩
def iw (xs ys:List Ent):Nat→List Ent | 0=>[] | 1=>xs | _=>xs++ys
theorem rM (g:Nat) (v1 v2:Value) (xs ys:List Ent) (w:World) (hg:g<w.heap.size) (c0:w.cell? ⟨g,0,none⟩=some v1) (c1:w.cell? ⟨g,1,none⟩=some v2) (h1:cQ w v1 xs) (h2:cQ w v2 ys) (hl1:xs.length≤400000000000) (hl2:ys.length≤400000000000) :
 Calls prog 167 #[.slice (some ⟨g,0,none⟩) 2 2] w fun e w'=>∃ v',e=.returned v'∧w'.ownsRow w.heap.size 99 3 v' (xs.length+ys.length) (dV (xs++ys))∧ai w w':=by
 have d0:∀ w',ai w w'→w'.cell? ⟨g,0,none⟩=some v1:=fun w' h=>(h.cells g _ hg).trans c0
 have d1:∀ w',ai w w'→w'.cell? ⟨g,1,none⟩=some v2:=fun w' h=>(h.cells g _ hg).trans c1
 have H1:=Lib.hid h1;have H2:=Lib.hid h2;obtain ⟨A,cap,rfl,-⟩:=h1;obtain ⟨B,cap2,rfl,-⟩:=h2;have hgr:=fun n (hn:n≤1000000000000) w=>uS n w hn
 have HG:=Lib.hid hgr;clear hgr c0 c1 hg;have hww:ai w w:=ai.rfl_
 go_enter Tryz.func167,Tryz.ntmps167
 go_wp2
 go_loopw [3,11] (fun s i wr=>∃ j:Nat,j≤2∧i=.int .i64 j∧s=.int .i64 ((iw xs ys j).length:Nat)∧w=wr) (fun _ i _=>2-(intOf i).toNat)
 case atStart=>exact ⟨0,by omega,rfl,by simp [iw],rfl⟩
 case round=>
  obtain ⟨j,hj,rfl,rfl,rfl⟩:=hrel;rcases (show j=0∨j=1∨j=2 by omega) with rfl | rfl | rfl
  ·have hd:decide ((xs.length:Int)<0)=false:=by simp
   simp only [iw,List.length_nil]
   go_wp2
   go_roundw
   case rel=>exact ⟨1,by omega,by go_num,by simp only,trivial⟩
   case measure=>simp [intOf]
  ·have hd:decide (((xs.length:Int)+(ys.length:Int))<0)=false:=by simp;omega
   simp only [iw]
   go_wp2
   go_roundw
   case rel=>exact ⟨2,by omega,by go_num,by simp only [List.length_append];go_num,trivial⟩
   case measure=>simp [intOf]
  ·simp only [iw,List.length_append];obtain ⟨N,hN⟩:∃ N,N=xs.length+ys.length:=⟨_,rfl⟩;rw [←hN];have HN:=Lib.hid hN;have hN9:N≤1000000000000:=by omega
   clear hN
   go_wp2_with (go_at_call 178;(with_reducible refine (HG.out N hN9 _).mono ?_);rintro e w1 ⟨v1,rfl,hown1,hw1⟩)
   go_loopw [6,27] (fun v i wr=>∃ j:Nat,j≤2∧i=.int .i64 j∧wr.ownsRow w.heap.size 99 3 v (iw xs ys j).length (dV (iw xs ys j))∧ai w wr) (fun _ i _=>2-(intOf i).toNat)
   case atStart=>exact ⟨0,by omega,rfl,hown1,hw1⟩
   case round=>
    clear hown1 hw1;obtain ⟨j,hj,rfl,hown,hw⟩:=hrel;rcases (show j=0∨j=1∨j=2 by omega) with rfl | rfl | rfl
    ·simp only [iw] at hown;have HO:=Lib.hid hown;clear hown
     go_wp2_with (at_builtin;refine iX w rfl (.tmp 31) (.tmp 32) 22 rfl Tryz.underlying22 _ _ [] rfl HO.out hw _ xs rfl (H1.out.from_ hw) (by simp only [List.length_nil];omega) ?_;intro v4 w4 hown4 hw4)
     go_roundw
     case rel=>exact ⟨1,by omega,by go_num,by simpa [iw] using hown4,hw4⟩
     case measure=>simp [intOf]
    ·simp only [iw] at hown;have HO:=Lib.hid hown;clear hown
     go_wp2_with (at_builtin;refine iX w rfl (.tmp 31) (.tmp 32) 22 rfl Tryz.underlying22 _ _ xs rfl HO.out hw _ ys rfl (H2.out.from_ hw) (by omega) ?_;intro v4 w4 hown4 hw4)
     go_roundw
     case rel=>exact ⟨2,by omega,by go_num,by simpa [iw] using hown4,hw4⟩
     case measure=>simp [intOf]
    ·simp only [iw,List.length_append] at hown;have HO:=Lib.hid hown;clear hown
     go_wp2
     go_ret
     exact ⟨_,rfl,HO.out,hw⟩
theorem fD {w:World} {base base' size n:Nat} {e:TypeId} {v:Value} {xs:List Value} (h:w.ownsRow base e size v n xs) (hb:base'≤base):w.ownsRow base' e size v n xs:=by
 refine ⟨h.1,?_⟩;rcases h.2 with h2 | ⟨g,cap,cur,hv,hg,r⟩
 ·exact .inl h2
 ·exact .inr ⟨g,cap,cur,hv,Nat.le_trans hb hg,r⟩
theorem oQ (W:World) (g:Nat) (v1 v2:Value) (xs ys:List Ent) (hg:W.heap.size=g) (h1:cQ W v1 xs) (h2:cQ W v2 ys) (hl1:xs.length≤400000000000) (hl2:ys.length≤400000000000) :
 Calls prog 167 #[.slice (some ⟨g,0,none⟩) 2 2] (W.alloc (.cells #[v1,v2] 22)) fun e w'=>∃ v',e=.returned v'∧w'.ownsRow W.heap.size 99 3 v' (xs.length+ys.length) (dV (xs++ys))∧ai W w':=by
 subst hg;have hb:=Blk.new W 22 #[v1,v2];refine (rM W.heap.size v1 v2 xs ys _ hb.lt (by rw [hb.cell 0];rfl) (by rw [hb.cell 1];rfl) (h1.from_ (ai.rfl_.new _)) (h2.from_ (ai.rfl_.new _)) hl1 hl2).mono ?_;rintro e w' ⟨v',h1,h2,h3⟩;exact ⟨v',h1,fD h2 (by simp),(ai.rfl_.new _).next h3⟩
theorem rG (B T:Int) (k:Nat) (v u:Value) (xs ys:List Ent) (w:World) (h:cQ w v xs) (hu:cQ w u ys) (_:0≤B) (_:B≤4611686018427387904) (hk:k≤xs.length) (hx:xs.length≤400000000000) (hy:ys.length≤400000000000) :
 Calls prog 154 #[.agg #[.int .i64 B,.int .i64 T,v],.int .i64 (B+k),u] w fun e w'=>∃ v',e=.returned (.agg #[.int .i64 B,.int .i64 T,v'])∧w'.ownsRow w.heap.size 99 3 v' (k+ys.length) (dV (xs.take k++ys))∧ai w w':=by
 obtain ⟨f0,f1,f2,hbb,hwb⟩:=iD (w:=w) (B:=B) (T:=T) (v:=v) (t:=24);have HU:=Lib.hid hu;obtain ⟨A,cap,rfl,hc1,hc2,hc3,hrow⟩:=id h;obtain ⟨B2,cap2,rfl,-⟩:=id hu;clear hc3 hrow;have hcut:=h.cut hk;have HCUT:=Lib.hid hcut;have j0:B+(k:Int)-B=(k:Int):=by omega
 have j1:(0:Int)≤(k:Int):=by omega
 have j2:(k:Int)≤(xs.length:Int):=by omega
 have j3:(k:Int)≤(cap:Int):=by omega
 have htl:(xs.take k).length=k:=by simp [Nat.min_eq_left hk]
 clear hcut h hu
 go_enter Tryz.func154,Tryz.ntmps154
 have hcon:=fun W g hg (h:ai w W)=>oQ W g _ _ (xs.take k) ys hg (HCUT.out.from_ h) (HU.out.from_ h) (by omega) hy
 simp only [htl] at hcon;have HC:=Lib.hid hcon;clear hcon;have hwb2:ai w ((w.alloc (.cells #[.int .i64 B,.int .i64 T,.slice A xs.length cap] 24)).alloc (.cells #[.int .i64 0,.int .i64 0,.slice none 0 0] 24)):=hwb.new _;have hbb2:ai (w.alloc (.cells #[.int .i64 B,.int .i64 T,.slice A xs.length cap] 24)) ((w.alloc (.cells #[.int .i64 B,.int .i64 T,.slice A xs.length cap] 24)).alloc (.cells #[.int .i64 0,.int .i64 0,.slice none 0 0] 24)):=hbb.new _;have hne:w.heap.size≠w.heap.size+1:=by omega
 have hz:(w.alloc (.cells #[.int .i64 B,.int .i64 T,.slice A xs.length cap] 24)).heap.size=w.heap.size+1:=by simp
 have hk1:∀ w1,ai ((w.alloc (.cells #[.int .i64 B,.int .i64 T,.slice A xs.length cap] 24)).alloc (.cells #[.int .i64 0,.int .i64 0,.slice none 0 0] 24)) w1→Blk w1 w.heap.size 24 #[.int .i64 B,.int .i64 T,.slice A xs.length cap]∧Blk w1 (w.heap.size+1) 24 #[.int .i64 0,.int .i64 0,.slice none 0 0]:=fun w1 h=>by
  refine ⟨(Blk.new w 24 _).from_ (hbb2.next h),?_⟩;have h2:=(Blk.new (w.alloc (.cells #[.int .i64 B,.int .i64 T,.slice A xs.length cap] 24)) 24 #[.int .i64 0,.int .i64 0,.slice none 0 0]).from_ h;rw [hz] at h2;exact h2
 have HK:=Lib.hid hk1;clear hk1
 have hk2:∀ w1 v1,ai ((w.alloc (.cells #[.int .i64 B,.int .i64 T,.slice A xs.length cap] 24)).alloc (.cells #[.int .i64 0,.int .i64 0,.slice none 0 0] 24)) w1→
  (w1.cell? ⟨w.heap.size,2,none⟩=some (.slice A xs.length cap)∧w1.frozen? ⟨w.heap.size,2,none⟩=false)∧
  ((w1.setCell ⟨w.heap.size,2,none⟩ v1).cell? ⟨w.heap.size,0,none⟩=some (.int .i64 B)∧(w1.setCell ⟨w.heap.size,2,none⟩ v1).cell? ⟨w.heap.size,1,none⟩=some (.int .i64 T)∧(w1.setCell ⟨w.heap.size,2,none⟩ v1).cell? ⟨w.heap.size,2,none⟩=some v1)∧
  (Blk (w1.setCell ⟨w.heap.size,2,none⟩ v1) (w.heap.size+1) 24 #[.int .i64 0,.int .i64 0,.slice none 0 0]):=fun w1 v1 h=>by
  obtain ⟨b1,b2⟩:=HK.out w1 h;have b3:=b1.set_ 2 v1;exact ⟨⟨by rw [b1.cell 2];rfl,b1.frozen 2⟩,⟨by rw [b3.cell 0];rfl,by rw [b3.cell 1];rfl,by rw [b3.cell 2];rfl⟩,b2.far (p:=⟨w.heap.size,2,none⟩) (by simp) v1⟩
 have HK2:=Lib.hid hk2;clear hk2 HK
 go_wp2_with (go_at_call 167;(with_reducible refine (HC.out _ _ (by simp) hwb2).mono ?_);rintro e w1 ⟨v1,rfl,hown1,hb1⟩;obtain ⟨A4,c4,rfl⟩:=fM hown1;have HO:=Lib.hid hown1;clear hown1;obtain ⟨⟨q1,q2⟩,⟨r0,r1,r2⟩,b4⟩:=HK2.out w1 (.slice A4 (k+ys.length) c4) hb1;have s0:=b4.cell 0;have s1:=b4.cell 1;have s2:=b4.cell 2;have t0:=b4.frozen 0;have t1:=b4.frozen 1;have t2:=b4.frozen 2;simp at s0 s1 s2)
 have b5:=((b4.set_ 0 (.int .i64 B)).set_ 1 (.int .i64 T)).set_ 2 (.slice A4 (k+ys.length) c4);have x0:=b5.cell 0;have x1:=b5.cell 1;have x2:=b5.cell 2;simp only [List.setIfInBounds_toArray,List.set_cons_zero,List.set_cons_succ] at x0 x1 x2;clear hbb hbb2 HC HK2 HCUT HU b4 b5 q1 q2 r0 r1 r2 t0 t1 t2 s0 s1 s2
 (try simp only [Exit.inBlock,Exit.then])
 refine bodyPost_ret (v:=.agg #[.int .i64 B,.int .i64 T,.slice A4 (k+ys.length) c4]) (by simp [results,Tryz.results154,go_sem,x0,x1,x2]) rfl ?_;have hw1:=hwb2.next hb1;refine ⟨_,rfl,?_,?_⟩
 ·have ho:=HO.out;have hsz:((w.alloc (.cells #[.int .i64 B,.int .i64 T,.slice A xs.length cap] 24)).alloc (.cells #[.int .i64 0,.int .i64 0,.slice none 0 0] 24)).heap.size=w.heap.size+2:=by simp
  rw [hsz] at ho;refine fD (base:=w.heap.size+2) ?_ (by omega);refine ownsRow_setCell_below (ownsRow_setCell_below (ownsRow_setCell_below (ownsRow_setCell_below ho ?_ _) ?_ _) ?_ _) ?_ _
  all_goals (show _<w.heap.size+2;simp)
 ·exact ((((ai.set_ (a:=w) hw1 (Nat.le_refl _) _).set_ (by simp) _).set_ (by simp) _).set_ (by simp) _)
def sj:Value:=.agg #[.int .i64 0,.int .i64 0,.slice none 0 0]
abbrev wY (w:World) (B T:Int) (v:Value):World:=w.alloc (.cells #[.int .i64 B,.int .i64 T,v] 24)
abbrev jz (w:World) (B T:Int) (v:Value):World:=(w.alloc (.cells #[.int .i64 B,.int .i64 T,v] 24)).alloc (.cells #[.int .i64 0,.int .i64 0,.slice none 0 0] 24)
theorem p4 (w:World) (B T:Int) (v:Value):ai w (jz w B T v):=(ai.rfl_.new _).new _
theorem p3 (w:World) (B T:Int) (v:Value):ai (wY w B T v) (jz w B T v):=ai.rfl_.new _
theorem rT {w:World} {B T:Int} {v:Value} {w1:World} (h:ai (jz w B T v) w1):Blk w1 (w.heap.size+1) 24 #[.int .i64 0,.int .i64 0,.slice none 0 0]:=by
 have h2:=(Blk.new (w.alloc (.cells #[.int .i64 B,.int .i64 T,v] 24)) 24 #[.int .i64 0,.int .i64 0,.slice none 0 0]).from_ h;have hz:(w.alloc (.cells #[.int .i64 B,.int .i64 T,v] 24)).heap.size=w.heap.size+1:=by simp
 rw [hz] at h2;exact h2
theorem jL {w1:World} {g:Nat} {t:TypeId} {a b c:Value} (h:Blk w1 g t #[a,b,c]) :
 (w1.cell? ⟨g,0,none⟩=some a∧w1.cell? ⟨g,1,none⟩=some b∧w1.cell? ⟨g,2,none⟩=some c)∧(w1.frozen? ⟨g,0,none⟩=false∧w1.frozen? ⟨g,1,none⟩=false∧w1.frozen? ⟨g,2,none⟩=false):=
 ⟨⟨by rw [h.cell 0];rfl,by rw [h.cell 1];rfl,by rw [h.cell 2];rfl⟩,h.frozen 0,h.frozen 1,h.frozen 2⟩
abbrev pB (w1:World) (g:Nat) (x y z:Value):World:=((w1.setCell ⟨g,0,none⟩ x).setCell ⟨g,1,none⟩ y).setCell ⟨g,2,none⟩ z
theorem i_ {w1:World} {g:Nat} {t:TypeId} {a b c:Value} (h:Blk w1 g t #[a,b,c]) (x y z:Value) :
 (pB w1 g x y z).cell? ⟨g,0,none⟩=some x∧(pB w1 g x y z).cell? ⟨g,1,none⟩=some y∧(pB w1 g x y z).cell? ⟨g,2,none⟩=some z:=by
 have b5:=((h.set_ 0 x).set_ 1 y).set_ 2 z;exact ⟨by rw [b5.cell 0];rfl,by rw [b5.cell 1];rfl,by rw [b5.cell 2];rfl⟩
theorem jM {w w1:World} {g:Nat} {x y z:Value} (h:ai w w1) (hg:w.heap.size≤g):ai w (pB w1 g x y z):=((h.set_ (p:=⟨g,0,none⟩) hg _).set_ (p:=⟨g,1,none⟩) hg _).set_ (p:=⟨g,2,none⟩) hg _
def nb (B T:Int) (xs ys:List Ent):Int:=if cn B T xs=true then (if fw ys (cW B xs) (dE T xs)=true then (if xs.length+ys.length≤512 then 0 else 6) else 1) else 1
def y5 (w w':World) (B T:Int) (xs:List Ent) (c:Int) (L:Value):Prop:=
 (c≠0→L=sj)∧(c=0→∃ v',L=.agg #[.int .i64 B,.int .i64 T,v']∧w'.ownsRow w.heap.size 99 3 v' xs.length (dV xs))
theorem uK {B T:Int} {xs:List Ent} (h:cn B T xs=true):0≤dE T xs:=by
 have go:∀ (xs:List Ent) (B T:Int),0≤T→fw xs B T=true→0≤dE T xs:=by
  intro xs
  induction xs with
  |nil=>intro B T hT _;simpa [dE] using hT
  |cons e r ih=>
   intro B T hT h;simp only [fw,Bool.and_eq_true] at h
   have he:0≤e.t:=by
    have:=h.1;simp only [gG,Bool.and_eq_true,decide_eq_true_eq] at this;have:=da this.1.2;omega
   cases r with
   |nil=>simpa [dE] using he
   |cons f q=>
    have h1:=ih (B+1) e.t he h.2
    obtain ⟨l,hl⟩:∃ l,(f::q).getLast? =some l:=by
     rw [List.getLast?_eq_getElem?];exact ⟨_,List.getElem?_eq_getElem (by simp)⟩
    unfold dE at h1 ⊢;rw [List.getLast?_cons_cons,hl];rw [hl] at h1;exact h1
 simp only [cn,Bool.and_eq_true,decide_eq_true_eq] at h;obtain ⟨⟨⟨h1,h2⟩,h3⟩,h4⟩:=h;exact go xs B T (da h2).1 h4
theorem mA:∀ (xs:List Ent) (B T:Int),fw xs B T=true→cW B xs=B+xs.length
 |[],B,T,_=>by simp [cW]
 |[e],B,T,h=>by
  simp only [fw,gG,Bool.and_eq_true,decide_eq_true_eq] at h;simp [cW];omega
 |e::f::r,B,T,h=>by
  simp only [fw,Bool.and_eq_true] at h
  have he:e.i=B+1:=by
   have:=h.1;simp only [gG,Bool.and_eq_true,decide_eq_true_eq] at this;omega
  have ih:=mA (f::r) (B+1) e.t (by simp only [fw,Bool.and_eq_true];exact h.2)
  have:cW B (e::f::r)=cW (B+1) (f::r):=by
   obtain ⟨l,hl⟩:∃ l,(f::r).getLast? =some l:=by
    rw [List.getLast?_eq_getElem?];exact ⟨_,List.getElem?_eq_getElem (by simp)⟩
   unfold cW;rw [List.getLast?_cons_cons,hl]
  rw [this,ih];simp only [List.length_cons];omega
theorem nT {B T:Int} {xs:List Ent} (h:cn B T xs=true):cW B xs=B+xs.length∧0≤B∧B≤1099511625728∧xs.length≤512:=by
 simp only [cn,Bool.and_eq_true,decide_eq_true_eq] at h;obtain ⟨⟨⟨h1,h2⟩,h3⟩,h4⟩:=h;have:=da h1;exact ⟨mA xs B T h4,this.1,this.2,h3⟩
theorem rV (B T:Int) (v u:Value) (xs ys:List Ent) (w:World) (h:cQ w v xs) (hu:cQ w u ys) (hy:ys.length≤400000000000) :
 Calls prog 112 #[.agg #[.int .i64 B,.int .i64 T,v],u] w fun e w'=>∃ L,e=.returned (.tuple #[L,.int .i64 (nb B T xs ys)])∧y5 w w' B T (xs++ys) (nb B T xs ys) L∧ai w w':=by
 obtain ⟨f0,f1,f2,hbb,hwb⟩:=iD (w:=w) (B:=B) (T:=T) (v:=v) (t:=24);have hch:=fun w' (hw:ai w w')=>iT B T v xs w' (h.from_ hw)
 have hlo:=fun w' (hw:ai w w')=>h_ B T v xs w' (h.from_ hw)
 have h2:=p4 w B T v;have hb2:=p3 w B T v;have h22:ai (jz w B T v) (jz w B T v):=ai.rfl_;have hres:∀ w1,ai (jz w B T v) w1→Blk w1 (w.heap.size+1) 24 #[.int .i64 0,.int .i64 0,.slice none 0 0]:=fun w1 h=>rT h
 have HRES:=Lib.hid hres;unfold chk at hch;have HE:=Lib.hid h;have HU:=Lib.hid hu;have hdef:nb B T xs ys=nb B T xs ys:=rfl
 conv at hdef=>rhs;unfold nb
 simp only [wY,jz] at h2 hb2 h22 HRES;obtain ⟨A,cap,rfl,hc1,hc2,hc3,hrow⟩:=h;obtain ⟨A2,cap2,rfl,hd1,hd2,hd3,hrow2⟩:=hu;clear hc3 hrow hd3 hrow2 hres;by_cases hm:cn B T xs=true
 ·rw [if_pos hm] at hch hdef;obtain ⟨hl,hB0,hB1,hx⟩:=nT hm;have hlt:=uK hm;rw [hl] at hlo hdef;have hfo:=fun w' (hw:ai w w')=>ke (B+xs.length) (dE T xs) _ ys w' (HU.out.from_ hw) (by omega) (by omega) hlt (by omega)
  have HC:=Lib.hid hch;have HL:=Lib.hid hlo;have HF:=Lib.hid hfo;clear hch hlo hm hfo hl;rcases hr:fw ys (B+xs.length) (dE T xs) with _ | _
  ·rw [hr] at HF hdef;rw [if_neg (by simp)] at hdef;rw [hdef];clear hr hdef hlt
   go_enter Tryz.func112,Tryz.ntmps112
   go_wp2_with (first
    |(go_at_call 116;(with_reducible refine (HC.out _ h2).mono ?_);rintro e w1 ⟨rfl,hb1⟩;have hw1:=ai.next (a:=w) h2 hb1;have h21:=ai.next (a:=_) h22 hb1;have hbw1:=ai.next (a:=_) hb2 hb1)
    |(go_at_call 117;(with_reducible refine (HL.out _ hw1).mono ?_);rintro e w2 ⟨rfl,hb3⟩;have hw2:=ai.next (a:=w) hw1 hb3;have h23:=ai.next (a:=_) h21 hb3;have hbw2:=ai.next (a:=_) hbw1 hb3)
    |(go_at_call 153;(with_reducible refine (HF.out _ hw2).mono ?_);rintro e w3 ⟨rfl,hb4⟩;have hw3:=ai.next (a:=w) hw2 hb4;have h24:=ai.next (a:=_) h23 hb4;have hbw3:=ai.next (a:=_) hbw2 hb4;have hk:=HRES.out w3 h24;obtain ⟨⟨s0,s1,s2⟩,t0,t1,t2⟩:=jL hk))
   have hk2:=HRES.out w3 h24;obtain ⟨x0,x1,x2⟩:=i_ hk2 (.int .i64 0) (.int .i64 0) (.slice none 0 0);simp only [pB] at x0 x1 x2
   (try simp only [Exit.inBlock,Exit.then])
   refine bodyPost_ret (v:=.tuple #[.agg #[.int .i64 0,.int .i64 0,.slice none 0 0],.int .i64 1]) (by simp [results,Tryz.results112,go_sem,x0,x1,x2]) rfl ?_;exact ⟨_,rfl,⟨fun _=>rfl,fun h=>absurd h (by decide)⟩,jM hw3 (by omega)⟩
  ·rw [hr] at HF hdef;rw [if_pos rfl] at hdef;by_cases hsum:xs.length+ys.length≤512
   ·rw [if_pos hsum] at hdef;rw [hdef];have hd:decide ((512:Int)<(xs.length:Int)+(ys.length:Int))=false:=by simp;omega
    have hjo:=fun w' (hw:ai w w')=>rG B T xs.length _ _ xs ys w' (HE.out.from_ hw) (HU.out.from_ hw) hB0 (by omega) (Nat.le_refl _) (by omega) hy
    simp only [List.take_length] at hjo;have HJ:=Lib.hid hjo;have HS:=Lib.hid hsum;clear hr hdef hlt hjo hsum
    go_enter Tryz.func112,Tryz.ntmps112
    go_wp2_with (first
     |(go_at_call 116;(with_reducible refine (HC.out _ h2).mono ?_);rintro e w1 ⟨rfl,hb1⟩;have hw1:=ai.next (a:=w) h2 hb1;have h21:=ai.next (a:=_) h22 hb1;have hbw1:=ai.next (a:=_) hb2 hb1)
     |(go_at_call 117;(with_reducible refine (HL.out _ hw1).mono ?_);rintro e w2 ⟨rfl,hb3⟩;have hw2:=ai.next (a:=w) hw1 hb3;have h23:=ai.next (a:=_) h21 hb3;have hbw2:=ai.next (a:=_) hbw1 hb3)
     |(go_at_call 153;(with_reducible refine (HF.out _ hw2).mono ?_);rintro e w3 ⟨rfl,hb4⟩;have hw3:=ai.next (a:=w) hw2 hb4;have h24:=ai.next (a:=_) h23 hb4;have hbw3:=ai.next (a:=_) hbw2 hb4)
     |(go_at_call 154;(with_reducible refine (HJ.out _ hw3).mono ?_);rintro e w4 ⟨v4,rfl,hown4,hb5⟩;have hw4:=ai.next (a:=w) hw3 hb5;have h25:=ai.next (a:=_) h24 hb5;obtain ⟨A4,c4,rfl⟩:=fM hown4;have HO:=Lib.hid (And.intro hown4 h24.size);clear hown4;have hk:=HRES.out w4 h25;obtain ⟨⟨s0,s1,s2⟩,t0,t1,t2⟩:=jL hk))
    have hk2:=HRES.out w4 h25;obtain ⟨x0,x1,x2⟩:=i_ hk2 (.int .i64 B) (.int .i64 T) (.slice A4 (xs.length+ys.length) c4);simp only [pB] at x0 x1 x2
    (try simp only [Exit.inBlock,Exit.then])
    refine bodyPost_ret (v:=.tuple #[.agg #[.int .i64 B,.int .i64 T,.slice A4 (xs.length+ys.length) c4],.int .i64 0]) (by simp [results,Tryz.results112,go_sem,x0,x1,x2]) rfl ?_;refine ⟨_,rfl,⟨fun h=>absurd rfl h,fun _=>⟨_,rfl,?_⟩⟩,jM hw4 (by omega)⟩;obtain ⟨ho,hsz⟩:=HO.out;have hsz2:w.heap.size+2≤w3.heap.size:=by simpa using hsz
    rw [List.length_append];refine fD (base:=w3.heap.size) ?_ (by omega);refine ownsRow_setCell_below (ownsRow_setCell_below (ownsRow_setCell_below ho ?_ _) ?_ _) ?_ _
    all_goals (show _<w3.heap.size;simp;omega)
   ·rw [if_neg hsum] at hdef;rw [hdef];have hd:decide ((512:Int)<(xs.length:Int)+(ys.length:Int))=true:=by simp;omega
    clear hr hdef hlt hsum
    go_enter Tryz.func112,Tryz.ntmps112
    go_wp2_with (first
     |(go_at_call 116;(with_reducible refine (HC.out _ h2).mono ?_);rintro e w1 ⟨rfl,hb1⟩;have hw1:=ai.next (a:=w) h2 hb1;have h21:=ai.next (a:=_) h22 hb1;have hbw1:=ai.next (a:=_) hb2 hb1)
     |(go_at_call 117;(with_reducible refine (HL.out _ hw1).mono ?_);rintro e w2 ⟨rfl,hb3⟩;have hw2:=ai.next (a:=w) hw1 hb3;have h23:=ai.next (a:=_) h21 hb3;have hbw2:=ai.next (a:=_) hbw1 hb3)
     |(go_at_call 153;(with_reducible refine (HF.out _ hw2).mono ?_);rintro e w3 ⟨rfl,hb4⟩;have hw3:=ai.next (a:=w) hw2 hb4;have h24:=ai.next (a:=_) h23 hb4;have hbw3:=ai.next (a:=_) hbw2 hb4;have hk:=HRES.out w3 h24;obtain ⟨⟨s0,s1,s2⟩,t0,t1,t2⟩:=jL hk))
    have hk2:=HRES.out w3 h24;obtain ⟨x0,x1,x2⟩:=i_ hk2 (.int .i64 0) (.int .i64 0) (.slice none 0 0);simp only [pB] at x0 x1 x2
    (try simp only [Exit.inBlock,Exit.then])
    refine bodyPost_ret (v:=.tuple #[.agg #[.int .i64 0,.int .i64 0,.slice none 0 0],.int .i64 6]) (by simp [results,Tryz.results112,go_sem,x0,x1,x2]) rfl ?_;exact ⟨_,rfl,⟨fun _=>rfl,fun h=>absurd h (by decide)⟩,jM hw3 (by omega)⟩
 ·rw [if_neg hm] at hch hdef;rw [hdef];have HC:=Lib.hid hch;clear hch hlo hm hdef
  go_enter Tryz.func112,Tryz.ntmps112
  go_wp2_with (first
   |(go_at_call 116;(with_reducible refine (HC.out _ h2).mono ?_);rintro e w1 ⟨rfl,hb1⟩;have hw1:=ai.next (a:=w) h2 hb1;have h21:=ai.next (a:=_) h22 hb1;have hbw1:=ai.next (a:=_) hb2 hb1;have hk:=HRES.out w1 h21;obtain ⟨⟨s0,s1,s2⟩,t0,t1,t2⟩:=jL hk))
  have hk2:=HRES.out w1 h21;obtain ⟨x0,x1,x2⟩:=i_ hk2 (.int .i64 0) (.int .i64 0) (.slice none 0 0);simp only [pB] at x0 x1 x2
  (try simp only [Exit.inBlock,Exit.then])
  refine bodyPost_ret (v:=.tuple #[.agg #[.int .i64 0,.int .i64 0,.slice none 0 0],.int .i64 1]) (by simp [results,Tryz.results112,go_sem,x0,x1,x2]) rfl ?_;exact ⟨_,rfl,⟨fun _=>rfl,fun h=>absurd h (by decide)⟩,jM hw1 (by omega)⟩
def one:List Ent:=[⟨1,1,⟨#[]⟩⟩]
abbrev zh (w:World) (B T:Int) (v:Value):World:=(jz w B T v).alloc (.cells #[.int .i64 B,.int .i64 T,v] 24)
theorem n5 (v:Value) (xs:List Ent) (w:World) (h:cQ w v xs) (hl:xs.length≤400000000000) :
 Calls prog 120 #[v] w fun e w'=>∃ v',e=.returned v'∧w'.ownsRow w.heap.size 99 3 v' xs.length (dV xs)∧ai w w':=by
 have HE:=Lib.hid h;obtain ⟨A,cap,rfl,hc1,hc2,hc3,hrow⟩:=h;clear hrow;cases A with
 |none=>
  have h0:=hc3 rfl;have hx:xs=[]:=List.eq_nil_of_length_eq_zero (by omega);subst hx;subst h0;clear hc3;have hnil:∀ W,(binOp .eql 22 (.slice none 0 0) (.slice none 0 0)).run prog W=.ok (.bool true) W:=fun W=>Lib.run_eql_slice_nil_nil W _ _ Tryz.underlying22
  go_enter Tryz.func120,Tryz.ntmps120
  go_wp2
  go_ret
  exact ⟨_,rfl,World.ownsRow_nil _ _ _ _,ai.rfl_⟩
 |some ad=>
  clear hc3;have hz:w.heap.size≤w.heap.size:=Nat.le_refl _
  have hlit:(w.alloc (.cells #[] 99)).ownsRow w.heap.size 99 3 (.slice (some ⟨w.heap.size,0,none⟩) 0 0) 0 (dV []):=
   ⟨by simp [dV],.inr ⟨w.heap.size,0,#[],rfl,hz,heap_alloc_new w _,by omega,by decide,by simp,by simp [dV]⟩⟩
  have HL:=Lib.hid hlit;have hjn:0+xs.length≤1000000000000:=by omega
  clear hlit;have hnil:∀ W n c,(binOp .eql 22 (.slice (some ad) n c) (.slice none 0 0)).run prog W=.ok (.bool false) W:=fun W n c=>Lib.run_eql_slice_some_nil W _ _ _ Tryz.underlying22
  go_enter Tryz.func120,Tryz.ntmps120
  go_wp2_with (at_builtin;refine iX w rfl (.tmp 5) (.tmp 6) 22 rfl Tryz.underlying22 _ 0 [] rfl HL.out (ai.rfl_.new _) _ xs rfl (HE.out.from_ (ai.rfl_.new _)) hjn ?_;intro v1 w1 hown1 hw1)
  go_ret
  exact ⟨_,rfl,by simpa using hown1,hw1⟩
def zf (B T:Int) (xs:List Ent) (i:Int):Int:=if cn B T xs=true then (if B≤i∧i≤cW B xs then 0 else 1) else 1
def dz (B T:Int) (xs:List Ent) (i:Int):Int:=if i=B then T else match xs[(i-B-1).toNat]? with | some e=>e.t | none=>0
theorem mj (B T i:Int) (v:Value) (xs:List Ent) (w:World) (h:cQ w v xs) (_:0≤B) (_:B≤4611686018427387904) (hi0:B≤i) (hi1:i≤B+xs.length) (hl:xs.length≤140737488351232) :
 Calls prog 119 #[.agg #[.int .i64 B,.int .i64 T,v],.int .i64 i] w fun e w'=>e=.returned (.int .i64 (dz B T xs i))∧ai w w':=by
 obtain ⟨f0,f1,f2,hbb,hwb⟩:=iD (w:=w) (B:=B) (T:=T) (v:=v) (t:=24);obtain ⟨A,cap,rfl,hc1,hc2,hc3,hrow⟩:=h;by_cases h0:i=B
 ·have e0:(i==B)=true:=by simpa using h0
  have ht:dz B T xs i=T:=if_pos h0;rw [ht];clear h0 hi0 hi1 ht
  go_enter Tryz.func119,Tryz.ntmps119
  go_wp2
  go_ret
  exact ⟨rfl,hwb⟩
 ·have e0:(i==B)=false:=by simpa using h0
  obtain ⟨k,hk⟩:∃ k:Nat,i=B+k+1:=⟨(i-B-1).toNat,by omega⟩;have hkl:k<xs.length:=by omega
  have ht:dz B T xs i=xs[k].t:=by
   unfold dz;rw [if_neg h0,show (i-B-1).toNat=k by omega,List.getElem?_eq_getElem hkl]
  obtain ⟨b,o,rfl,hb,hc⟩:=hrow (by omega);obtain ⟨c1,c2,c3⟩:=hc k hkl;have d2:∀ w',ai w w'→w'.cell? ⟨b,o+k*3+1,none⟩=some (.int .i64 xs[k].t):=fun w' h=>(h.cells b _ hb).trans c2
  rw [ht];have j0:i-B-1=(k:Int):=by omega
  have j1:(0:Int)≤(k:Int):=by omega
  have j2:(k:Int)<(xs.length:Int):=by omega
  clear hc c1 c2 c3 hrow ht h0 hk
  generalize xs[k].t=y at*
  go_enter Tryz.func119,Tryz.ntmps119
  go_wp2
  go_ret
  exact ⟨rfl,hwb⟩
def sk (B T:Int) (xs:List Ent) (i:Int):Value:=
 if cn B T xs=true then (if B≤i∧i≤cW B xs then .tuple #[.int .i64 (dz B T xs i),.int .i64 0] else .tuple #[.int .i64 0,.int .i64 3]) else .tuple #[.int .i64 0,.int .i64 1]
theorem nK:∀ (xs:List Ent) (B T:Int),fw xs B T=true→cW B xs=B+xs.length
 |[],B,T,_=>by simp [cW]
 |[e],B,T,h=>by
  simp only [fw,gG,Bool.and_eq_true,decide_eq_true_eq] at h;simp [cW];omega
 |e::f::r,B,T,h=>by
  simp only [fw,Bool.and_eq_true] at h
  have he:e.i=B+1:=by
   have:=h.1;simp only [gG,Bool.and_eq_true,decide_eq_true_eq] at this;omega
  have ih:=nK (f::r) (B+1) e.t (by simp only [fw,Bool.and_eq_true];exact h.2)
  have:cW B (e::f::r)=cW (B+1) (f::r):=by
   obtain ⟨l,hl⟩:∃ l,(f::r).getLast? =some l:=by
    rw [List.getLast?_eq_getElem?];exact ⟨_,List.getElem?_eq_getElem (by simp)⟩
   unfold cW;rw [List.getLast?_cons_cons,hl]
  rw [this,ih];simp only [List.length_cons];omega
theorem gr {B T:Int} {xs:List Ent} (h:cn B T xs=true):cW B xs=B+xs.length∧0≤B∧B≤1099511625728∧xs.length≤512:=by
 simp only [cn,Bool.and_eq_true,decide_eq_true_eq] at h;obtain ⟨⟨⟨h1,h2⟩,h3⟩,h4⟩:=h;have:=da h1;exact ⟨nK xs B T h4,this.1,this.2,h3⟩
theorem pg (B T i:Int) (v:Value) (xs:List Ent) (w:World) (h:cQ w v xs) :
 Calls prog 121 #[.agg #[.int .i64 B,.int .i64 T,v],.int .i64 i] w fun e w'=>e=.returned (sk B T xs i)∧ai w w':=by
 obtain ⟨f0,f1,f2,hbb,hwb⟩:=iD (w:=w) (B:=B) (T:=T) (v:=v) (t:=24);have hch:=fun w' (hw:ai w w')=>iT B T v xs w' (h.from_ hw)
 have hlo:=fun w' (hw:ai w w')=>h_ B T v xs w' (h.from_ hw)
 have hwi:=gT;have HW:=Lib.hid hwi;unfold chk at hch;unfold sk;have HE:=Lib.hid h;obtain ⟨A,cap,rfl,hc1,hc2,hc3,hrow⟩:=h;clear hc3 hrow hwi;by_cases hm:cn B T xs=true
 ·rw [if_pos hm] at hch ⊢;obtain ⟨hl,hB0,hB1,hx⟩:=gr hm;have HC:=Lib.hid hch;have HL:=Lib.hid hlo;clear hch hlo hm;by_cases hin:B≤i∧i≤cW B xs
  ·rw [if_pos hin];have hib:=eh hin;have hta:=fun w' (hw:ai w w')=>mj B T i _ xs w' (HE.out.from_ hw) hB0 (by omega) hin.1 (by omega) (by omega)
   have HT:=Lib.hid hta;clear hta hin hl
   go_enter Tryz.func121,Tryz.ntmps121
   go_wp2_with (first
    |(go_at_call 116;(with_reducible refine (HC.out _ hwb).mono ?_);rintro e w1 ⟨rfl,hb1⟩;have hw1:=ai.next (a:=w) hwb hb1)
    |(go_at_call 117;(with_reducible refine (HL.out _ hw1).mono ?_);rintro e w2 ⟨rfl,hb2⟩;have hw2:=ai.next (a:=w) hw1 hb2;have hbw2:=ai.next (a:=_) hb1 hb2)
    |(go_at_call 118;(with_reducible refine (HW.out _ _ _ _).mono ?_);rintro e w3 ⟨rfl,hb3⟩;have hw3:=ai.next (a:=w) hw2 hb3;have hbw3:=ai.next (a:=_) hbw2 hb3)
    |(go_at_call 119;(with_reducible refine (HT.out _ hw3).mono ?_);rintro e w4 ⟨rfl,hb4⟩;have hw4:=ai.next (a:=w) hw3 hb4))
   go_ret2
   exact ⟨rfl,hw4⟩
  ·rw [if_neg hin];have hib:=oL hin;clear hin hl
   go_enter Tryz.func121,Tryz.ntmps121
   go_wp2_with (first
    |(go_at_call 116;(with_reducible refine (HC.out _ hwb).mono ?_);rintro e w1 ⟨rfl,hb1⟩;have hw1:=ai.next (a:=w) hwb hb1)
    |(go_at_call 117;(with_reducible refine (HL.out _ hw1).mono ?_);rintro e w2 ⟨rfl,hb2⟩;have hw2:=ai.next (a:=w) hw1 hb2;have hbw2:=ai.next (a:=_) hb1 hb2)
    |(go_at_call 118;(with_reducible refine (HW.out _ _ _ _).mono ?_);rintro e w3 ⟨rfl,hb3⟩;have hw3:=ai.next (a:=w) hw2 hb3))
   go_ret2
   exact ⟨rfl,hw3⟩
 ·rw [if_neg hm] at hch ⊢;have HC:=Lib.hid hch;clear hch hlo hm
  go_enter Tryz.func121,Tryz.ntmps121
  go_wp2_with (first
   |(go_at_call 116;(with_reducible refine (HC.out _ hwb).mono ?_);rintro e w1 ⟨rfl,hb1⟩;have hw1:=ai.next (a:=w) hwb hb1))
  go_ret2
  exact ⟨rfl,hw1⟩
def yw (B T:Int) (xs:List Ent) (i:Int):Value:=
 if B≤i∧i≤cW B xs then .tuple #[.int .i64 (dz B T xs i),.bool true] else .tuple #[.int .i64 0,.bool false]
def bc:List (Nat×Value)→Nat→Value
 |[],_=>undef
 |(k,v)::r,i=>bif Nat.beq i k then v else bc r i
theorem b_ (k:Nat) (v:Value) (r:List (Nat×Value)) (i:Nat):bc ((k,v)::r) i=if i=k then v else bc r i:=by
 show cond (Nat.beq i k) v (bc r i)=_;by_cases h:i=k
 ·subst h;simp
 ·have:Nat.beq i k=false:=by rw [←Bool.not_eq_true,Nat.beq_eq];exact h
  rw [this,if_neg h];rfl
def mkT (n:Nat) (L:List (Nat×Value)):Array Value:=Array.ofFn (n:=n) fun i=>bc L i
structure Fr where
 n:Nat
 ds:List Deferred
instance (k:Nat):OfNat Fr k:=⟨⟨k,[]⟩⟩
def mkA (n:Fr) (L:List (Nat×Value)):Act:={ tmps:=mkT n.n L,defers:=n.ds }
theorem ja (n:Nat) (L:List (Nat×Value)) (t:Nat):(mkT n L)[t]? =if t<n then some (bc L t) else none:=by
 unfold mkT;rw [Array.getElem?_ofFn];rfl
def ev (n:Fr) (L:List (Nat×Value)):Operand→Value
 | .tmp t=>bif Nat.blt t n.n then bc L t else undef
 | .const v=>v
 | .global g=>.pointer (some ⟨g,0,none⟩)
 | .func f=>.func (.func f) #[] #[]
theorem oS (t n:Nat):Nat.blt t n=decide (t<n):=by
 by_cases h:t<n
 ·rw [decide_eq_true h];exact Nat.ble_eq_true_of_le h
 ·rw [decide_eq_false h,←Bool.not_eq_true];intro h2;exact h (Nat.le_of_ble_eq_true h2)
theorem jw (n:Nat) (L:List (Nat×Value)) (t:Nat):(mkT n L).getD t undef=bif Nat.blt t n then bc L t else undef:=by
 rw [Array.getD_eq_getD_getElem?,ja,oS];by_cases h:t<n
 ·simp [h]
 ·simp [h]
theorem cT (n:Fr) (L:List (Nat×Value)):(mkA n L).eval=ev n L:=by
 funext x
 cases x with
 |tmp t=>exact jw n.n L t
 |_=>rfl
theorem jO {n:Nat} {L L':List (Nat×Value)} (h:∀ t,t<n→bc L t=bc L' t):mkT n L=mkT n L':=by
 unfold mkT
 congr 1
 funext i
 exact h i i.2
theorem fZ {n:Fr} {L L':List (Nat×Value)} (h:∀ t,t<n.n→bc L t=bc L' t):mkA n L=mkA n L':=by
 unfold mkA;rw [jO h]
theorem fm (n:Fr) (L:List (Nat×Value)) (d:Nat) (v:Value):(mkA n L).put (some d) v=mkA n ((d,v)::L):=by
 show (⟨(mkT n.n L).setIfInBounds d v,n.ds⟩:Act)=⟨mkT n.n ((d,v)::L),n.ds⟩;obtain ⟨n,ds⟩:=n;show (⟨(mkT n L).setIfInBounds d v,ds⟩:Act)=⟨mkT n ((d,v)::L),ds⟩
 congr 1
 apply Array.ext_getElem?;intro i;rw [Array.getElem?_setIfInBounds,ja,ja,b_];by_cases h:i<n
 ·by_cases hd:d=i
  ·subst hd;have hs:(mkT n L).size=n:=by simp [mkT]
   simp [h,hs]
  ·have hd':¬ i=d:=fun e=>hd e.symm
   simp [hd,hd',h]
 ·by_cases hd:d=i
  ·subst hd;have hs:(mkT n L).size=n:=by simp [mkT]
   simp [h,hs]
  ·simp [hd,h]
def zz:Option Nat→Value→List (Nat×Value)→List (Nat×Value)
 |some d,v,L=>(d,v)::L
 |none,_,L=>L
def n6:Nat→List Value→List (Nat×Value)
 |_,[]=>[]
 |i,v::r=>(i,v)::n6 (i+1) r
theorem rD (l:List Value):∀ (i t:Nat),bc (n6 i l) t=if i≤t then (l[t-i]?).getD undef else undef:=by
 induction l with
 |nil=>intro i t;simp [n6,bc]
 |cons v r ih=>
  intro i t;rw [n6,b_,ih];by_cases h:t=i
  ·subst h;simp
  ·by_cases h2:i≤t
   ·have:t-i=(t-(i+1))+1:=by omega
    rw [if_neg h,if_pos h2,if_pos (by omega),this,List.getElem?_cons_succ]
   ·rw [if_neg h,if_neg h2,if_neg (by omega)]
theorem vn (n:Nat) (l:List Value) (h:l.length≤n):l.toArray++Array.replicate (n-l.toArray.size) undef=mkT n (n6 0 l):=by
 apply Array.ext_getElem?;intro i;rw [ja,rD,Array.getElem?_append];simp only [List.size_toArray,List.getElem?_toArray,Nat.zero_le,if_true,Nat.sub_zero,Array.getElem?_replicate];by_cases h1:i<l.length
 ·rw [if_pos h1,if_pos (by omega),List.getElem?_eq_getElem h1];rfl
 ·rw [if_neg h1];by_cases h2:i<n
  ·rw [if_pos h2,if_pos (by omega),List.getElem?_eq_none (by omega)];rfl
  ·rw [if_neg h2,if_neg (by omega)]
theorem aZ {k:IntKind} {a b:Int} (h:a=b):Value.int k a=Value.int k b:=by rw [h]
theorem et {b:Bool} (h:(!b)=true):b=false:=by cases b <;> simp_all
theorem eu {b:Bool} (h:(!b)=false):b=true:=by cases b <;> simp_all
theorem d_ {α:Type} [BEq α] [LawfulBEq α] {a b:α} (h:(a==b)=true):a=b:=eq_of_beq h
theorem ea {α:Type} [BEq α] [LawfulBEq α] {a b:α} (h:(a==b)=false):¬ a=b:=ne_of_beq_false h
theorem iU {α:Type} [BEq α] [LawfulBEq α] {a b:α} (h:(a != b)=true):¬ a=b:=by simpa using h
theorem iW {α:Type} [BEq α] [LawfulBEq α] {a b:α} (h:(a != b)=false):a=b:=by simpa using h
structure Cd (P:Program) (c:Code) (Q:Exit→Act→World→Prop) (n:Fr) (L:List (Nat×Value)) (w:World):Prop where
 out:c.wp P Q (mkA n L) w
structure St (P:Program) (ops:Array Oper) (Q:Exit→Act→World→Prop) (rest:List Oper) (n:Fr) (L:List (Nat×Value)) (w:World):Prop where
 out:wpList P ops Q rest (mkA n L) w
def Rt (P:Program) (f:FuncId) (l:List Value) (w:World) (R:Value→World→Prop):Prop:=Calls P f l.toArray w fun e w'=>∃ v,e=.returned v∧R v w'
theorem Rt.mono {P:Program} {f:FuncId} {l:List Value} {w:World} {R R':Value→World→Prop} (h:Rt P f l w R) (hr:∀ v w',R v w'→R' v w'):Rt P f l w R':=
 Calls.mono h fun _ _ ⟨v,e,r⟩=>⟨v,e,hr v _ r⟩
theorem Rt.of {P:Program} {f:FuncId} {l:List Value} {w:World} {v:Value} {R:World→Prop} (h:Calls P f l.toArray w fun e w'=>e=.returned v∧R w'):Rt P f l w fun v' w'=>v'=v∧R w':=
 Calls.mono h fun _ _ ⟨e,r⟩=>⟨v,e,rfl,r⟩
theorem Rt.to {P:Program} {f:FuncId} {l:List Value} {w:World} {v:Value} {R:World→Prop} (h:Rt P f l w fun v' w'=>v'=v∧R w'):Calls P f l.toArray w fun e w'=>e=.returned v∧R w':=
 Calls.mono h fun _ _ ⟨_,e,e2,r⟩=>⟨by rw [e,e2],r⟩
section control
variable {P:Program} {Q:Exit→Act→World→Prop} {n:Fr} {L:List (Nat×Value)} {w:World}
theorem enter {f:FuncId} {fn:Func} {c:Code} {l:List Value} {R:Value→World→Prop} {n:Nat} (hf:P.funcs[f]? =some fn) (hb:fn.body=some c) (hn:fn.ntmps=n) (hl:Nat.ble l.length n=true)
 (h:Cd P c (bodyPost P fn fun e w'=>∃ v,e=.returned v∧R v w') ⟨n,[]⟩ (n6 0 l) w):Rt P f l w R:=by
 refine calls_of_wp hf hb ?_;rw [hn,vn n l (Nat.le_of_ble_eq_true hl)];exact h.out
theorem aI (h:Q .normal (mkA n L) w):Cd P .skip Q n L w:=⟨wp_skip h⟩
theorem ao {x y:Code} (h:Cd P x (Exit.then (fun a w=>y.wp P Q a w) Q) n L w):Cd P (.seq x y) Q n L w:=⟨wp_seq h.out⟩
theorem bk {id:Nat} {c:Code} (h:Cd P c (Exit.inBlock id Q) n L w):Cd P (.block id c) Q n L w:=⟨wp_block h.out⟩
theorem cL {id:Nat} (h:Q (.exit id) (mkA n L) w):Cd P (.exit id) Q n L w:=⟨wp_exit h⟩
theorem aG (h:Q .ret (mkA n L) w):Cd P .ret Q n L w:=⟨wp_ret h⟩
theorem aO {c:Operand} {x y:Code} {t:Bool} (hc:ev n L c=.bool t) (ht:t=true→Cd P x Q n L w) (hf:t=false→Cd P y Q n L w):Cd P (.cond c x y) Q n L w:=
 ⟨wp_cond_split (by rw [cT];exact hc) (fun h=>(ht h).out) (fun h=>(hf h).out)⟩
theorem yS {c:Operand} {x y:Code} {p:Prop} [Decidable p] (hc:ev n L c=.bool (decide p)) (ht:p→Cd P x Q n L w) (hf:¬ p→Cd P y Q n L w):Cd P (.cond c x y) Q n L w:=aO hc (fun h=>ht (dT_ h)) (fun h=>hf (dF_ h))
theorem yR {c:Operand} {x y:Code} {α:Type} [BEq α] [LawfulBEq α] {a b:α} (hc:ev n L c=.bool (a==b)) (ht:a=b→Cd P x Q n L w) (hf:¬ a=b→Cd P y Q n L w):Cd P (.cond c x y) Q n L w:=aO hc (fun h=>ht (d_ h)) (fun h=>hf (ea h))
theorem yP {c:Operand} {x y:Code} {α:Type} [BEq α] [LawfulBEq α] {a b:α} (hc:ev n L c=.bool (a != b)) (ht:¬ a=b→Cd P x Q n L w) (hf:a=b→Cd P y Q n L w):Cd P (.cond c x y) Q n L w:=aO hc (fun h=>ht (iU h)) (fun h=>hf (iW h))
theorem yQ {c:Operand} {x y:Code} {b:Bool} (hc:ev n L c=.bool (!b)) (ht:b=false→Cd P x Q n L w) (hf:b=true→Cd P y Q n L w):Cd P (.cond c x y) Q n L w:=aO hc (fun h=>ht (et h)) (fun h=>hf (eu h))
theorem aW {c:Operand} {x y:Code} (hc:ev n L c=.bool true) (ht:Cd P x Q n L w):Cd P (.cond c x y) Q n L w:=
 ⟨wp_cond_true (by rw [cT];exact hc) ht.out⟩
theorem aU {c:Operand} {x y:Code} (hc:ev n L c=.bool false) (ht:Cd P y Q n L w):Cd P (.cond c x y) Q n L w:=
 ⟨wp_cond_false (by rw [cT];exact hc) ht.out⟩
theorem ag {id:Nat} {l:List Oper} (h:St P l.toArray Q l n L w):Cd P (.region id l.toArray false) Q n L w:=⟨wp_region_lit h.out⟩
theorem aq {ops:Array Oper} (h:Q .normal (mkA n L) w):St P ops Q [] n L w:=⟨h⟩
variable {y:Code} {K:Act→World→Prop} {a:Act}
theorem ah (h:Cd P y Q n L w):Exit.then (fun a w=>y.wp P Q a w) Q .normal (mkA n L) w:=h.out
theorem bI {id:Nat} (h:Q .normal a w):Exit.inBlock id Q .normal a w:=h
theorem bw {id:Nat} (h:Q (.exit id) a w):Exit.then K Q (.exit id) a w:=h
theorem cr {id:Nat} (h:Q .normal a w):Exit.inBlock id Q (.exit id) a w:=by
 show (if id=id then Q .normal a w else Q (.exit id) a w);rw [if_pos rfl];exact h
theorem aH (h:Q .ret a w):Exit.then K Q .ret a w:=h
theorem cI {id:Nat} (h:Q .ret a w):Exit.inBlock id Q .ret a w:=h
theorem bF {fn:Func} {m:Nat} {t:Nat} {R:Value→World→Prop} {v:Value} (hr:fn.results=#[.tmp t]) (hv:ev ⟨m,[]⟩ L (.tmp t)=v) (h:R v w) :
 bodyPost P fn (fun e w'=>∃ v,e=.returned v∧R v w') .ret (mkA ⟨m,[]⟩ L) w:=
 bodyPost_ret (results_tmp hr _ _ _) rfl ⟨v,by rw [←hv];exact congrArg Ending.returned (jw m L t),h⟩
theorem lO {fn:Func} {m:Nat} {t u:Nat} {R:Value→World→Prop} {v v':Value} (hr:fn.results=#[.tmp t,.tmp u]) (hv:ev ⟨m,[]⟩ L (.tmp t)=v) (hv':ev ⟨m,[]⟩ L (.tmp u)=v') (h:R (.tuple #[v,v']) w) :
 bodyPost P fn (fun e w'=>∃ v,e=.returned v∧R v w') .ret (mkA ⟨m,[]⟩ L) w:=
 bodyPost_ret (results_tmp2 hr _ _ _) rfl ⟨.tuple #[v,v'],by rw [←hv,←hv'];show Ending.returned (.tuple #[(mkT m L).getD t undef,(mkT m L).getD u undef])=_;rw [jw,jw];rfl,h⟩
theorem dU {fn:Func} {m:Nat} {R:Value→World→Prop} (hr:fn.results=#[]) (h:R (.tuple #[]) w) :
 bodyPost P fn (fun e w'=>∃ v,e=.returned v∧R v w') .ret (mkA ⟨m,[]⟩ L) w:=
 bodyPost_ret (results_none hr _ _ _) rfl ⟨_,rfl,h⟩
theorem cK {fn:Func} {R:Ending→World→Prop} (h:bodyPost P fn R .ret a w):bodyPost P fn R .normal a w:=h
end control
def Agr (Wr:List Nat) (L' L:List (Nat×Value)):Prop:=∀ t,Wr.elem t=false→bc L' t=bc L t
theorem bP {Wr:List Nat} {L:List (Nat×Value)}:Agr Wr L L:=fun _ _=>rfl
theorem bC {Wr:List Nat} {L' L:List (Nat×Value)} {d:Nat} {v:Value} (hd:Wr.elem d=true) (h:Agr Wr L' L):Agr Wr ((d,v)::L') L:=fun t ht=>by
 rw [b_,if_neg (fun e=>by subst e;rw [hd] at ht;cases ht)];exact h t ht
def tG (L':List (Nat×Value)):List (Nat×Value)→Prop
 |[]=>True
 |(t,v)::r=>bc L' t=v∧tG L' r
def xX (J:List Nat) (ρ:Nat→Value) (L:List (Nat×Value)):List (Nat×Value):=J.foldr (fun t r=>(t,ρ t)::r) L
theorem tj (J:List Nat) (ρ:Nat→Value) (L:List (Nat×Value)) (t:Nat):bc (xX J ρ L) t=if J.elem t then ρ t else bc L t:=by
 induction J with
 |nil=>rfl
 |cons j J ih=>
  show bc ((j,ρ j)::xX J ρ L) t=_;rw [b_,ih];by_cases h:t=j
  ·subst h;simp
  ·have:(j::J).elem t=J.elem t:=by simp [h]
   rw [if_neg h,this]
theorem uL (V L:List (Nat×Value)) (t:Nat):bc (V++L) t=if (V.map (·.1)).elem t then bc V t else bc L t:=by
 induction V with
 |nil=>rfl
 |cons x V ih=>
  obtain ⟨k,v⟩:=x;show bc ((k,v)::(V++L)) t=if ((k::V.map (·.1)).elem t) then bc ((k,v)::V) t else _
  rw [b_,b_,ih];by_cases h:t=k
  ·subst h;simp
  ·have:(k::V.map (·.1)).elem t=(V.map (·.1)).elem t:=by simp [h]
   rw [if_neg h,this,if_neg h]
theorem n7 {L':List (Nat×Value)}:∀ {V:List (Nat×Value)},tG L' V→∀ t,(V.map (·.1)).elem t=true→bc L' t=bc V t
 |[],_,t,h=>by simp at h
 |(k,v)::V,⟨h1,h2⟩,t,h=>by
  rw [b_];by_cases e:t=k
  ·subst e;rw [if_pos rfl];exact h1
  ·rw [if_neg e];exact n7 h2 t (by simpa [List.elem_cons,e] using h)
def hd (V:List (Nat×Value)) (J:List Nat) (ρ:Nat→Value) (L:List (Nat×Value)):List (Nat×Value):=V++xX J ρ L
theorem wW {n:Fr} {V:List (Nat×Value)} {J:List Nat} {L' L:List (Nat×Value)} (hv:tG L' V) (hj:Agr (V.map (·.1)++J) L' L):mkA n L'=mkA n (hd V J (bc L') L):=by
 refine fZ fun t _=>?_
 unfold hd;rw [uL,tj];by_cases h1:(V.map (·.1)).elem t=true
 ·rw [if_pos h1];exact n7 hv t h1
 ·rw [if_neg h1];by_cases h2:J.elem t=true
  ·rw [if_pos h2]
  ·rw [if_neg h2];refine hj t ?_;rw [Bool.not_eq_true] at h1 h2;simp only [List.elem_eq_mem,decide_eq_false_iff_not] at h1 h2 ⊢;simp only [List.mem_append,not_or];exact ⟨h1,h2⟩
def At (n:Fr) (L:List (Nat×Value)) (J:List Nat) {G:Type} (V:G→List (Nat×Value)) (F:G→World→Prop) (a:Act) (w:World):Prop:=∃ g ρ,a=mkA n (hd (V g) J ρ L)∧F g w
theorem yV {n:Fr} {L L':List (Nat×Value)} {J:List Nat} {G:Type} {V:G→List (Nat×Value)} {F:G→World→Prop} {w:World} (g:G) (hv:tG L' (V g)) (hj:Agr ((V g).map (·.1)++J) L' L) (hF:F g w) :
 At n L J V F (mkA n L') w:=⟨g,bc L',wW hv hj,hF⟩
section
variable {P:Program} {Q:Exit→Act→World→Prop} {n:Fr} {L:List (Nat×Value)} {w:World} {G:Type}
theorem kf {x y:Code} (J:List Nat) (V:G→List (Nat×Value)) (F:G→World→Prop) (hx:Cd P x (Exit.then (At n L J V F) Q) n L w)
 (hy:∀ g ρ w',F g w'→Cd P y Q n (hd (V g) J ρ L) w'):Cd P (.seq x y) Q n L w:=by
 refine ⟨wp_seq (wp_mono hx.out fun e a w' q=>?_)⟩
 cases e <;> first
  |exact q
  |(obtain ⟨g,ρ,rfl,hF⟩:=q;exact (hy g ρ w' hF).out)
theorem cu {L0:List (Nat×Value)} {J:List Nat} {V:G→List (Nat×Value)} {F:G→World→Prop} (g:G) (hv:tG L (V g)) (hj:Agr ((V g).map (·.1)++J) L L0) (hF:F g w):Exit.then (At n L0 J V F) Q .normal (mkA n L) w:=
 yV g hv hj hF
theorem dC {c:Code} (J:List Nat) (V:G→List (Nat×Value)) (F:G→World→Prop) (μ:G→Nat) (g0:G) (hv:tG L (V g0)) (hF:F g0 w)
 (round:∀ g ρ w',F g w'→Cd P c (Exit.then (At n L J V (fun g' w''=>F g' w''∧μ g'<μ g)) Q) n (hd (V g) J ρ L) w'):Cd P (.loop c) Q n L w:=by
 refine ⟨wp_loop_ghost (fun m a w=>At n L J V (fun g w=>F g w∧μ g=m) a w) (μ g0) ⟨g0,bc L,wW hv fun t _=>rfl,hF,rfl⟩ ?_⟩;rintro m a w ⟨g,ρ,rfl,hF,rfl⟩;refine wp_mono (round g ρ w hF).out fun e a' w' q=>?_
 cases e <;> first
  |exact q
  |(obtain ⟨g',ρ',rfl,hF',hlt⟩:=q;exact ⟨μ g',hlt,g',ρ',rfl,hF',rfl⟩)
end
end Go.Proofs.YtkpooenofjdpmaaGreat
namespace Go.Proofs.YtkpooenofjdpmaaGreat
open Go.Proofs.Tryz (prog)
open Go.RowKit
def RO (P:Program) (ρ:Operand→Value) (op:Op) (w:World) (v:Value) (w':World):Prop:=
 ∀ dst ty pos after g,(execOp ρ ⟨dst,op,ty,pos,after,g⟩).run P w=.ok (.value v) w'
def RS (P:Program) (ρ:Operand→Value) (op:Op) (w w':World):Prop:=
 ∀ dst ty pos after g,(execOp ρ ⟨dst,op,ty,pos,after,g⟩).run P w=.ok .skip w'
def iJ (P:Program) (t:TypeId):Option Bool:=(P.underlying t).map fun | .struct _ | .array _ _=>true | _=>false
def dr (P:Program) (t:TypeId):Option Nat:=(P.info? t).map (·.size)
def e_ (P:Program) (t:TypeId):Option (Nat×Nat):=match P.underlying t with | some (.slice e)=>(P.info? e).map fun i=>(e,i.size) | _=>none
def wI (P:Program) (t:TypeId):Option (Nat×Nat):=match P.underlying t with | some (.array n e)=>(P.info? e).map fun i=>(n,i.size) | _=>none
def cd (P:Program) (t:TypeId) (f:Nat):Option Nat:=match P.underlying t with
 |some (.struct fs)=>match fs[f]? with
  |some fl=>match P.info? fl.type with
   |some i=>if i.size=0 then none else some fl.offset
   |none=>none
  |none=>none
 |_=>none
def jq (P:Program) (t:TypeId):Option Value:=(P.info? t).bind (·.zero)
section
variable {P:Program} {ρ:Operand→Value} {w:World}
theorem mS {t:TypeId} {b:Bool} (h:iJ P t=some b):(isAgg t).run P w=.ok b w:=by
 unfold iJ at h;cases hu:P.underlying t with
 |none=>simp [hu] at h
 |some d=>
  rw [hu] at h;simp only [Option.map_some,Option.some.injEq] at h;subst h;unfold isAgg;rw [Sem.run_bind,run_underlying hu w];cases d <;> rfl
theorem eS {t:TypeId} {s:Nat} (h:dr P t=some s):(sizeOf t).run P w=.ok s w:=by
 unfold dr at h;cases hi:P.info? t with
 |none=>simp [hi] at h
 |some i=>
  simp only [hi,Option.map_some,Option.some.injEq] at h;simp [sizeOf,typeInfo,hi,h]
theorem vv {t:TypeId} {z:Value} (h:jq P t=some z):(zeroValue t).run P w=.ok z w:=by
 unfold jq at h;cases hi:P.info? t with
 |none=>simp [hi] at h
 |some i=>
  simp only [hi,Option.bind_some] at h;simp [zeroValue,typeInfo,hi,h]
theorem jR {t e s:Nat} (h:e_ P t=some (e,s)):P.underlying t=some (.slice e)∧dr P e=some s:=by
 unfold e_ at h;split at h
 ·rename_i e' hu;cases hi:P.info? e' with
  |none=>simp [hi] at h
  |some i=>
   simp only [hi,Option.map_some,Option.some.injEq,Prod.mk.injEq] at h;obtain ⟨rfl,rfl⟩:=h;exact ⟨hu,by simp [dr,hi]⟩
 ·cases h
theorem yb {t n s:Nat} (h:wI P t=some (n,s)):∃ e,P.underlying t=some (.array n e)∧dr P e=some s:=by
 unfold wI at h;split at h
 ·rename_i n' e' hu;cases hi:P.info? e' with
  |none=>simp [hi] at h
  |some i=>
   simp only [hi,Option.map_some,Option.some.injEq,Prod.mk.injEq] at h;obtain ⟨rfl,rfl⟩:=h;exact ⟨e',hu,by simp [dr,hi]⟩
 ·cases h
theorem aC {x:Operand} {v:Value} (hx:ρ x=v):RO P ρ (.move x) w v w:=fun _ _ _ _ _=>by subst hx;rfl
theorem cS {x:Operand} {v:Value} (hx:ρ x=v):RO P ρ (.assign x) w v w:=fun _ _ _ _ _=>by subst hx;rfl
theorem aJ {c x y:Operand} {v:Value} (hc:ρ c=.bool true) (hv:ρ x=v):RO P ρ (.pick c x y) w v w:=fun _ _ _ _ _=>by subst hv;simp [execOp,hc,asBool]
theorem aB {c x y:Operand} {v:Value} (hc:ρ c=.bool false) (hv:ρ y=v):RO P ρ (.pick c x y) w v w:=fun _ _ _ _ _=>by subst hv;simp [execOp,hc,asBool]
variable {t yt:TypeId} {x y:Operand} {k:IntKind} {a b:Int}
theorem kU {op:BinOp} {u v r:Value} (hx:ρ x=u) (hy:ρ y=v) (hg:(eqGuard op t x y u v).run P w=.ok () w) (hr:(binOp op t u v).run P w=.ok r w):RO P ρ (.binOp op t x y yt) w r w:=fun _ _ _ _ _=>by
 subst hx;subst hy;simp [execOp,hg,hr]
theorem tk (op:BinOp):(eqGuard op t x y (.int k a) (.int k b)).run P w=.ok () w:=by unfold eqGuard;split <;> rfl
theorem gV {op:BinOp} {r:Value} (hx:ρ x=.int k a) (hy:ρ y=.int k b) (hr:(binOp op t (.int k a) (.int k b)).run P w=.ok r w):RO P ρ (.binOp op t x y yt) w r w:=
 kU hx hy (tk op) hr
theorem xL (hx:ρ x=.int k a) (hy:ρ y=.int k b):RO P ρ (.binOp .add t x y yt) w (.int k (k.wrap (a+b))) w:=gV hx hy (by simp [binOp,Op.intArith])
theorem xF (hx:ρ x=.int k a) (hy:ρ y=.int k b):RO P ρ (.binOp .sub t x y yt) w (.int k (k.wrap (a-b))) w:=gV hx hy (by simp [binOp,Op.intArith])
theorem xI (hx:ρ x=.int k a) (hy:ρ y=.int k b):RO P ρ (.binOp .mul t x y yt) w (.int k (k.wrap (a*b))) w:=gV hx hy (by simp [binOp,Op.intArith])
theorem cl (hx:ρ x=.int .i64 a) (hy:ρ y=.int .i64 b) (h:-9223372036854775808≤a+b∧a+b≤9223372036854775807):RO P ρ (.binOp .add t x y yt) w (.int .i64 (a+b)) w:=by
 have:=xL (P:=P) (ρ:=ρ) (w:=w) (t:=t) (yt:=yt) hx hy;rwa [IntWalk.i64_in _ h] at this
theorem dk (hx:ρ x=.int .i64 a) (hy:ρ y=.int .i64 b) (h:-9223372036854775808≤a-b∧a-b≤9223372036854775807):RO P ρ (.binOp .sub t x y yt) w (.int .i64 (a-b)) w:=by
 have:=xF (P:=P) (ρ:=ρ) (w:=w) (t:=t) (yt:=yt) hx hy;rwa [IntWalk.i64_in _ h] at this
theorem pt (hx:ρ x=.int .i64 a) (hy:ρ y=.int .i64 b) (h:-9223372036854775808≤a*b∧a*b≤9223372036854775807):RO P ρ (.binOp .mul t x y yt) w (.int .i64 (a*b)) w:=by
 have:=xI (P:=P) (ρ:=ρ) (w:=w) (t:=t) (yt:=yt) hx hy;rwa [IntWalk.i64_in _ h] at this
theorem s_ {r:Int} (hx:ρ x=.int .i64 a) (hy:ρ y=.int .i64 b) (he:a+b=r) (h:-9223372036854775808≤r∧r≤9223372036854775807):RO P ρ (.binOp .add t x y yt) w (.int .i64 r) w:=by
 subst he;exact cl hx hy h
theorem s7 {r:Int} (hx:ρ x=.int .i64 a) (hy:ρ y=.int .i64 b) (he:a-b=r) (h:-9223372036854775808≤r∧r≤9223372036854775807):RO P ρ (.binOp .sub t x y yt) w (.int .i64 r) w:=by
 subst he;exact dk hx hy h
theorem s8 {r:Int} (hx:ρ x=.int .i64 a) (hy:ρ y=.int .i64 b) (he:a*b=r) (h:-9223372036854775808≤r∧r≤9223372036854775807):RO P ρ (.binOp .mul t x y yt) w (.int .i64 r) w:=by
 subst he;exact pt hx hy h
theorem xH (hx:ρ x=.int k a) (hy:ρ y=.int k b) (hb:b≠0):RO P ρ (.binOp .quo t x y yt) w (.int k (k.wrap (a.tdiv b))) w:=gV hx hy (by simp [binOp,Op.intDiv,hb])
theorem uf (hx:ρ x=.int k a) (hy:ρ y=.int k b) (hb:b≠0):RO P ρ (.binOp .rem t x y yt) w (.int k (a.tmod b)) w:=gV hx hy (by simp [binOp,Op.intDiv,hb])
theorem ug (hx:ρ x=.int .i64 a) (hy:ρ y=.int .i64 b) (h:0≤a∧a≤9223372036854775807∧0<b):RO P ρ (.binOp .quo t x y yt) w (.int .i64 (a/b)) w:=by
 have:=xH (P:=P) (ρ:=ρ) (w:=w) (t:=t) (yt:=yt) hx hy (by omega);have h2:a/b≤a:=Int.ediv_le_self b h.1;have h3:0≤a/b:=Int.ediv_nonneg h.1 (by omega)
 rwa [Int.tdiv_eq_ediv_of_nonneg h.1,IntWalk.i64_in _ (by omega)] at this
theorem pq (hx:ρ x=.int .i64 a) (hy:ρ y=.int .i64 b) (h:0≤a∧0<b):RO P ρ (.binOp .rem t x y yt) w (.int .i64 (a%b)) w:=by
 have:=uf (P:=P) (ρ:=ρ) (w:=w) (t:=t) (yt:=yt) hx hy (by omega)
 rwa [Int.tmod_eq_emod_of_nonneg h.1] at this
theorem xG {k':IntKind} (hx:ρ x=.int k a) (hy:ρ y=.int k' b) (h:0≤b):RO P ρ (.binOp .shr t x y yt) w (.int k (a.fdiv (2 ^ (min b.toNat k.bits)))) w:=
 kU hx hy (by unfold eqGuard;rfl) (by
  have:¬ b<0:=by omega
  simp [binOp,Op.shift,this])
theorem bo (hx:ρ x=.int k a) (hy:ρ y=.int k b):RO P ρ (.binOp .eql t x y yt) w (.bool (a==b)) w:=gV hx hy (by simp [binOp,Op.intCmp])
theorem cz (hx:ρ x=.int k a) (hy:ρ y=.int k b):RO P ρ (.binOp .neq t x y yt) w (.bool (a != b)) w:=gV hx hy (by simp [binOp,Op.intCmp])
theorem cA (hx:ρ x=.int k a) (hy:ρ y=.int k b):RO P ρ (.binOp .lss t x y yt) w (.bool (decide (a<b))) w:=gV hx hy (by simp [binOp,Op.intCmp])
theorem fx (hx:ρ x=.int k a) (hy:ρ y=.int k b):RO P ρ (.binOp .leq t x y yt) w (.bool (decide (a≤b))) w:=gV hx hy (by simp [binOp,Op.intCmp])
theorem ct (hx:ρ x=.int k a) (hy:ρ y=.int k b):RO P ρ (.binOp .gtr t x y yt) w (.bool (decide (a>b))) w:=gV hx hy (by simp [binOp,Op.intCmp])
theorem rm (hx:ρ x=.int k a) (hy:ρ y=.int k b):RO P ρ (.binOp .geq t x y yt) w (.bool (decide (a≥b))) w:=gV hx hy (by simp [binOp,Op.intCmp])
variable {p q:Bool} {s s':ByteArray}
theorem oB (hx:ρ x=.string s) (hy:ρ y=.string s'):RO P ρ (.binOp .eql t x y yt) w (.bool (s.toList==s'.toList)) w:=
 kU hx hy (by unfold eqGuard;rfl) (by simp [binOp,Op.stringOp])
theorem ss (hx:ρ x=.string s) (hy:ρ y=.string s'):RO P ρ (.binOp .neq t x y yt) w (.bool (!(s.toList==s'.toList))) w:=
 kU hx hy (by unfold eqGuard;rfl) (by simp [binOp,Op.stringOp])
theorem cE (hx:ρ x=.bool p):RO P ρ (.unOp .not t x) w (.bool (!p)) w:=fun _ _ _ _ _=>by simp [execOp,hx,Op.unary]
theorem su {src dst:TypeId} {k':IntKind} (hs:(P.underlying src).isSome=true) (hd:P.underlying dst=some (.int k')) (hx:ρ x=.int k a):RO P ρ (.convert src dst x) w (.int k' (k'.wrap a)) w:=fun _ _ _ _ _=>by
 obtain ⟨d,hd'⟩:=Option.isSome_iff_exists.mp hs;simp [execOp,hx,convert,run_underlying hd',run_underlying hd,Conv.intToInt]
theorem px {src dst:TypeId} {k':IntKind} {r:Int} (hs:(P.underlying src).isSome=true) (hd:P.underlying dst=some (.int k')) (hx:ρ x=.int k a) (hr:k'.wrap a=r):RO P ρ (.convert src dst x) w (.int k' r) w:=by
 subst hr;exact su hs hd hx
theorem cx {a b:Nat} (hx:ρ x=.int .i64 (a:Nat)) (hy:ρ y=.int .i64 (b:Nat)) (h:a+b≤9223372036854775807):RO P ρ (.binOp .add t x y yt) w (.int .i64 ((a+b:Nat):Int)) w:=
 s_ hx hy (by omega) (by omega)
theorem sr {a b:Nat} (hx:ρ x=.int .i64 (a:Nat)) (hy:ρ y=.int .i64 (b:Nat)) (h:b≤a∧a≤9223372036854775807):RO P ρ (.binOp .sub t x y yt) w (.int .i64 ((a-b:Nat):Int)) w:=
 s7 hx hy (by omega) (by omega)
theorem vS {a b:Nat} (hx:ρ x=.int .i64 (a:Nat)) (hy:ρ y=.int .i64 (b:Nat)) (h:a*b≤9223372036854775807):RO P ρ (.binOp .mul t x y yt) w (.int .i64 ((a*b:Nat):Int)) w:=
 s8 hx hy (by rw [Int.natCast_mul]) (by omega)
theorem vR {a b:Nat} (hx:ρ x=.int .i64 (a:Nat)) (hy:ρ y=.int .i64 (b:Nat)) (h:0<b∧a≤9223372036854775807):RO P ρ (.binOp .quo t x y yt) w (.int .i64 ((a/b:Nat):Int)) w:=by
 have:=ug (P:=P) (ρ:=ρ) (w:=w) (t:=t) (yt:=yt) hx hy (by omega)
 rwa [←Int.natCast_ediv] at this
theorem vQ {a b:Nat} {k k':IntKind} (hx:ρ x=.int k (a:Nat)) (hy:ρ y=.int k' (b:Nat)) (h:b≤k.bits):RO P ρ (.binOp .shr t x y yt) w (.int k ((a/2 ^ b:Nat):Int)) w:=by
 have:=xG (P:=P) (ρ:=ρ) (w:=w) (t:=t) (yt:=yt) hx hy (by omega);have e:min ((b:Nat):Int).toNat k.bits=b:=by rw [Int.toNat_natCast];omega
 rw [e] at this
 have e2:((a:Nat):Int).fdiv (2 ^ b)=((a/2 ^ b:Nat):Int):=by
  rw [Int.fdiv_eq_ediv_of_nonneg _ (Int.pow_nonneg (by decide)),Int.natCast_ediv]
  norm_cast
 rwa [e2] at this
theorem s9 {src dst:TypeId} {a:Nat} {k:IntKind} (hs:(P.underlying src).isSome=true) (hd:P.underlying dst=some (.int .u64)) (hx:ρ x=.int k (a:Nat)) (h:a<2 ^ 64):RO P ρ (.convert src dst x) w (.int .u64 (a:Nat)) w:=
 px hs hd hx (IntWalk.u64_in _ (by omega))
theorem uk {src dst:TypeId} {a:Nat} {k:IntKind} (hs:(P.underlying src).isSome=true) (hd:P.underlying dst=some (.int .i64)) (hx:ρ x=.int k (a:Nat)) (h:a≤9223372036854775807):RO P ρ (.convert src dst x) w (.int .i64 (a:Nat)) w:=
 px hs hd hx (IntWalk.i64_in _ (by omega))
variable {A:Option Addr} {ad:Addr} {n c:Nat}
theorem b0 (ht:(e_ P t).isSome=true) (hx:ρ x=.slice A n c):RO P ρ (.call { callee:=.builtin .len,args:=#[x],argTypes:=#[t] }) w (.int .i64 n) w:=fun _ _ _ _ _=>by
 obtain ⟨⟨e,sz⟩,he⟩:=Option.isSome_iff_exists.mp ht;obtain ⟨hu,_⟩:=jR he;simp [BigFrame.execOp_builtin,BigFrame.builtin_len,Builtin.len_,run_underlying hu,hx,goInt]
theorem dA (ht:P.underlying t=some .string) (hx:ρ x=.string s):RO P ρ (.call { callee:=.builtin .len,args:=#[x],argTypes:=#[t] }) w (.int .i64 s.size) w:=fun _ _ _ _ _=>by
 simp [BigFrame.execOp_builtin,BigFrame.builtin_len,Builtin.len_,run_underlying ht,hx,goInt]
theorem av (hx:ρ x=.pointer (some ad)):RO P ρ (.nilCheck x) w (.pointer (some ad)) w:=fun _ _ _ _ _=>by simp [execOp,hx]
theorem aa {f o b off:Nat} (hf:cd P t f=some o) (hx:ρ x=.pointer (some ⟨b,off,none⟩)):RO P ρ (.fieldAddr t x f) w (.pointer (some ⟨b,off+o,none⟩)) w:=fun _ _ _ _ _=>by
 unfold cd at hf;split at hf
 ·rename_i fs hu;split at hf
  ·rename_i fl hfl;split at hf
   ·rename_i i hi;split at hf
    ·cases hf
    ·rename_i hs;obtain rfl:=Option.some.inj hf;simp [execOp,hx,Instr.fieldAt,run_underlying hu,hfl,Instr.sureAddr,fieldPlace,sizeOf,typeInfo,hi,hs,Addr.add_mid]
   ·cases hf
  ·cases hf
 ·cases hf
theorem ky {e sz b off:Nat} {i:Int} {k:IntKind} (ht:e_ P t=some (e,sz)) (hx:ρ x=.slice (some ⟨b,off,none⟩) n c) (hy:ρ y=.int k i) (h:0≤i∧i<n) :
 RO P ρ (.indexAddr t x y) w (.pointer (some ⟨b,off+i.toNat*sz,none⟩)) w:=fun _ _ _ _ _=>by
 obtain ⟨hu,hs⟩:=jR ht;simp [execOp,hx,hy,Instr.indexAt,asIntOf,run_underlying hu,h,eS hs,Addr.add_mid]
theorem cq {e sz b off i:Nat} {k:IntKind} (ht:e_ P t=some (e,sz)) (hx:ρ x=.slice (some ⟨b,off,none⟩) n c) (hy:ρ y=.int k (i:Nat)) (h:i<n) :
 RO P ρ (.indexAddr t x y) w (.pointer (some ⟨b,off+i*sz,none⟩)) w:=ky ht hx hy ⟨by omega,by omega⟩
theorem db {e b off i:Nat} {k:IntKind} (ht:e_ P t=some (e,1)) (hx:ρ x=.slice (some ⟨b,off,none⟩) n c) (hy:ρ y=.int k (i:Nat)) (h:i<n) :
 RO P ρ (.indexAddr t x y) w (.pointer (some ⟨b,off+i,none⟩)) w:=by
 have:=cq (P:=P) (ρ:=ρ) (w:=w) ht hx hy h
 rwa [Nat.mul_one] at this
theorem bS {e b i:Nat} {k:IntKind} (ht:e_ P t=some (e,1)) (hx:ρ x=.slice (some ⟨b,0,none⟩) n c) (hy:ρ y=.int k (i:Nat)) (h:i<n) :
 RO P ρ (.indexAddr t x y) w (.pointer (some ⟨b,i,none⟩)) w:=by
 have:=db (P:=P) (ρ:=ρ) (w:=w) ht hx hy h
 rwa [Nat.zero_add] at this
theorem jV {m sz b off:Nat} {i:Int} {k:IntKind} (ht:wI P t=some (m,sz)) (hx:ρ x=.pointer (some ⟨b,off,none⟩)) (hy:ρ y=.int k i) (h:0≤i∧i<m) :
 RO P ρ (.indexAddr t x y) w (.pointer (some ⟨b,off+i.toNat*sz,none⟩)) w:=fun _ _ _ _ _=>by
 obtain ⟨e,hu,hs⟩:=yb ht;simp [execOp,hx,hy,Instr.indexAt,asIntOf,run_underlying hu,Instr.sureAddr,h,eS hs,Addr.add_mid]
theorem au {v:Value} (ht:iJ P t=some false) (hx:ρ x=.pointer (some ad)) (hc:w.cell? ad=some v):RO P ρ (.load t x) w v w:=fun _ _ _ _ _=>by
 simp [execOp,hx,Instr.loadAt,Instr.sureAddr,loadVar,mS ht,hc]
theorem aR {b off:Nat} {cs:List Value} (ht:iJ P t=some true) (hs:dr P t=some cs.length) (hx:ρ x=.pointer (some ⟨b,off,none⟩)) (hc:w.rangeAt b off cs):RO P ρ (.load t x) w (.agg cs.toArray) w:=fun _ _ _ _ _=>by
 have hl:(loadCells ⟨b,off,none⟩ cs.length).run P w=.ok cs.toArray w:=
  run_loadCells_list (P:=P) w ⟨b,off,none⟩ cs (fun j v hv=>by rw [Addr.add_mid];exact hc j v hv)
 simp [execOp,hx,Instr.loadAt,Instr.sureAddr,loadVar,mS ht,eS hs,hl]
theorem kx {v u:Value} (ht:dr P t=some 1) (hx:ρ x=.pointer (some ad)) (hy:ρ y=v) (h1:v.oneCell'=true) (hc:w.cell? ad=some u) (hf:w.frozen? ad=false):RS P ρ (.store t x y) w (w.setCell ad v):=fun _ _ _ _ _=>by
 have hcs:v.cells=#[v]:=by cases v <;> first | rfl | (simp [Value.oneCell'] at h1)
 have hst:=run_store P w ad v .plain h1;rw [hc] at hst;simp only [hf] at hst;have e0:ad.add 0=ad:=by unfold Addr.add;simp
 simp [execOp,hx,hy,Instr.storeAt,Instr.sureAddr,storeVar,eS ht,hcs,storeCells,e0,hst]
theorem kS {b off:Nat} {cs:List Value} (hs:dr P t=some cs.length) (hx:ρ x=.pointer (some ⟨b,off,none⟩)) (hy:ρ y=.agg cs.toArray) (h1:∀ v∈cs,v.oneCell'=true) (hc:w.there b off cs.length) :
 RS P ρ (.store t x y) w (w.setCells b off cs):=fun _ _ _ _ _=>by
 have hr:=run_storeAt_mid (P:=P) w b off t cs.toArray (by simpa using hc) (by simpa [dr] using hs) (all_oneCell_toArray h1);simp [execOp,hx,hy,hr]
theorem py {z:Value} (hz:jq P t=some z):RO P ρ (.alloc t) w (.pointer (some ⟨w.heap.size,0,none⟩)) (w.alloc (.cells z.cells t)):=fun _ _ _ _ _=>by
 simp [execOp,Instr.alloc,vv hz,newVar,newRow]
theorem xK {v:Value} (hx:ρ x=v):RO P ρ (.box t x) w (.pointer (some ⟨w.heap.size,0,none⟩)) (w.alloc (.cells v.cells t)):=fun _ _ _ _ _=>by
 simp [execOp,Instr.box,hx,newVar,newRow]
theorem dt {l:List (Nat×Operand)} {cells:Array Value} (h:P.built t (l.map fun p=>(p.1,ρ p.2))=some cells):RO P ρ (.build t l.toArray) w (.agg cells) w:=fun _ _ _ _ _=>by
 have:=run_build (P:=P) w t ((l.map fun p=>(p.1,ρ p.2)).toArray) cells (by simpa using h);simp only [execOp,List.map_toArray,Sem.run_bind];rw [this];rfl
theorem ns {e m:Nat} {l:List (Nat×Operand)} {cells:Array Value} {ie:TypeInfo} {z:Value} (hu:P.underlying t=some (.slice e)) (hie:P.info? e=some ie) (hz:ie.zero=some z) (hsmall:¬ m*ie.size>2 ^ 24) (hpos:¬ m*ie.size=0)
 (hf:Instr.fill (fun i=>some (i*ie.size,ie.size)) ((Array.range (m*ie.size)).map (z.cells[·%z.cells.size]!)) (l.map fun p=>(p.1,ρ p.2))=some cells) :
 RO P ρ (.buildSlice t m l.toArray) w (.slice (some ⟨w.heap.size,0,none⟩) m m) (w.alloc (.cells cells e)):=fun _ _ _ _ _=>by
 have:=run_buildSlice (P:=P) w t e m ((l.map fun p=>(p.1,ρ p.2)).toArray) cells ie z hu hie hz hsmall hpos (by simpa using hf);simp only [execOp,List.map_toArray,Sem.run_bind];rw [this];rfl
theorem aK {i:Nat} {l:List Value} {v:Value} (hx:ρ x=.tuple l.toArray) (hv:l[i]? =some v):RO P ρ (.extract x i) w v w:=fun _ _ _ _ _=>by
 simp [execOp,hx,Instr.extract,hv]
end
section steps
variable {P:Program} {ops:Array Oper} {Q:Exit→Act→World→Prop} {rest:List Oper} {n:Fr} {L:List (Nat×Value)} {w w':World} {op:Op} {ty:TypeId} {pos:String} {after:Array Edge} {d:Nat}
theorem ab {v:Value} (hr:RO P (ev n L) op w v w') (k:St P ops Q rest n ((d,v)::L) w'):St P ops Q (⟨some d,op,ty,pos,after,none⟩::rest) n L w:=by
 refine ⟨wpList_plain rfl fun K hK=>?_⟩;unfold Oper.wp;rw [cT,hr];rw [Oper.upon_value,fm];exact hK _ _ k.out
theorem ks (hr:RS P (ev n L) op w w') (k:St P ops Q rest n L w'):St P ops Q (⟨none,op,ty,pos,after,none⟩::rest) n L w:=by
 refine ⟨wpList_plain rfl fun K hK=>?_⟩;unfold Oper.wp;rw [cT,hr];rw [Oper.upon_skip];exact hK _ _ k.out
def jt:List Oper→Nat→Option Nat
 |[],_=>none
 |o::_,0=>o.dst
 |_::r,j+1=>jt r j
theorem kZ:∀ (l:List Oper) (j:Nat),jt l j=(l[j]?).bind (·.dst)
 |[],_=>by simp [jt]
 |o::_,0=>by simp [jt]
 |_::r,j+1=>by simpa [jt] using kZ r j
def js (ops:Array Oper) (n:Fr) (L:List (Nat×Value)) (j:Nat):Value:=match jt ops.toList j with | some t=>ev n L (.tmp t) | none=>undef
theorem gn {j:Nat} {b:Bool} (h:js ops n L j=.bool b):yielded ops (mkT n.n L) j=some b:=by
 unfold js at h;rw [kZ,Array.getElem?_toList] at h;unfold yielded;cases hd:(ops[j]?).bind (·.dst) with
 |none=>rw [hd] at h;simp [undef] at h
 |some t=>
  rw [hd] at h;simp only [Option.bind_some,ja];simp only [ev,oS] at h;by_cases ht:t<n.n
  ·simp only [ht,decide_true,cond_true] at h;simp [ht,h]
  ·simp [ht,undef] at h
theorem mvi {x:Operand} {k:IntKind} {a:Int} (hx:ev n L x=.int k a) (h:St P ops Q rest n ((d,.int k a)::L) w):St P ops Q (⟨some d,.move x,ty,pos,after,none⟩::rest) n L w:=ab (aC hx) h
theorem mvs {x:Operand} {A:Option Addr} {m c:Nat} (hx:ev n L x=.slice A m c) (h:St P ops Q rest n ((d,.slice A m c)::L) w):St P ops Q (⟨some d,.move x,ty,pos,after,none⟩::rest) n L w:=ab (aC hx) h
theorem mvb {x:Operand} {b:Bool} (hx:ev n L x=.bool b) (h:St P ops Q rest n ((d,.bool b)::L) w):St P ops Q (⟨some d,.move x,ty,pos,after,none⟩::rest) n L w:=ab (aC hx) h
theorem mvp {x:Operand} {A:Option Addr} (hx:ev n L x=.pointer A) (h:St P ops Q rest n ((d,.pointer A)::L) w):St P ops Q (⟨some d,.move x,ty,pos,after,none⟩::rest) n L w:=ab (aC hx) h
theorem mvt {x:Operand} {l:Array Value} (hx:ev n L x=.tuple l) (h:St P ops Q rest n ((d,.tuple l)::L) w):St P ops Q (⟨some d,.move x,ty,pos,after,none⟩::rest) n L w:=ab (aC hx) h
theorem mvg {x:Operand} {s:ByteArray} (hx:ev n L x=.string s) (h:St P ops Q rest n ((d,.string s)::L) w):St P ops Q (⟨some d,.move x,ty,pos,after,none⟩::rest) n L w:=ab (aC hx) h
theorem asi {x:Operand} {k:IntKind} {a:Int} (hx:ev n L x=.int k a) (h:St P ops Q rest n ((d,.int k a)::L) w):St P ops Q (⟨some d,.assign x,ty,pos,after,none⟩::rest) n L w:=ab (cS hx) h
theorem ass {x:Operand} {A:Option Addr} {m c:Nat} (hx:ev n L x=.slice A m c) (h:St P ops Q rest n ((d,.slice A m c)::L) w):St P ops Q (⟨some d,.assign x,ty,pos,after,none⟩::rest) n L w:=ab (cS hx) h
theorem asb {x:Operand} {b:Bool} (hx:ev n L x=.bool b) (h:St P ops Q rest n ((d,.bool b)::L) w):St P ops Q (⟨some d,.assign x,ty,pos,after,none⟩::rest) n L w:=ab (cS hx) h
theorem asp {x:Operand} {A:Option Addr} (hx:ev n L x=.pointer A) (h:St P ops Q rest n ((d,.pointer A)::L) w):St P ops Q (⟨some d,.assign x,ty,pos,after,none⟩::rest) n L w:=ab (cS hx) h
theorem asg {x:Operand} {s:ByteArray} (hx:ev n L x=.string s) (h:St P ops Q rest n ((d,.string s)::L) w):St P ops Q (⟨some d,.assign x,ty,pos,after,none⟩::rest) n L w:=ab (cS hx) h
theorem ar {j:Nat} {b b':Bool} (hg:js ops n L j=.bool b') (hb:(b'==b)=false) (k:St P ops Q rest n ((d,undef)::L) w):St P ops Q (⟨some d,op,ty,pos,after,some (j,b)⟩::rest) n L w:=by
 refine ⟨wpList_step fun K hK=>?_⟩
 have hw:Region.wanted ⟨some d,op,ty,pos,after,some (j,b)⟩ (yielded ops (mkA n L).tmps)=false:=by
  show (yielded ops (mkT n.n L) j==some b)=false;rw [gn hg];simpa using hb
 rw [if_neg (by rw [hw];simp),fm];exact hK _ _ k.out
theorem np {j:Nat} (h:js ops n L j=undef):yielded ops (mkT n.n L) j=none:=by
 unfold js at h;rw [kZ,Array.getElem?_toList] at h;unfold yielded;cases hd:(ops[j]?).bind (·.dst) with
 |none=>rfl
 |some t=>
  rw [hd] at h;simp only [Option.bind_some,ja];simp only [ev,oS] at h;by_cases ht:t<n.n
  ·simp only [ht,decide_true,cond_true] at h;rw [if_pos ht,h];rfl
  ·simp [ht]
theorem bU {j:Nat} {b:Bool} (hg:js ops n L j=undef) (k:St P ops Q rest n ((d,undef)::L) w):St P ops Q (⟨some d,op,ty,pos,after,some (j,b)⟩::rest) n L w:=by
 refine ⟨wpList_step fun K hK=>?_⟩
 have hw:Region.wanted ⟨some d,op,ty,pos,after,some (j,b)⟩ (yielded ops (mkA n L).tmps)=false:=by
  show (yielded ops (mkT n.n L) j==some b)=false;rw [np hg];rfl
 rw [if_neg (by rw [hw];simp),fm];exact hK _ _ k.out
theorem aj {dst:Option Tmp} {j:Nat} {b:Bool} (hg:js ops n L j=.bool b) (k:St P ops Q (⟨dst,op,ty,pos,after,none⟩::rest) n L w):St P ops Q (⟨dst,op,ty,pos,after,some (j,b)⟩::rest) n L w:=by
 have hw:Region.wanted ⟨dst,op,ty,pos,after,some (j,b)⟩ (yielded ops (mkA n L).tmps)=true:=by
  show (yielded ops (mkT n.n L) j==some b)=true;rw [gn hg];simp
 have hk:=k.out;constructor;unfold wpList at hk ⊢;rw [if_pos hw];exact hk
theorem aM {t:Nat} {e:Bool} (h:bc L t=.bool e) (hT:e=true→St P ops Q rest n ((t,.bool true)::L) w) (hF:e=false→St P ops Q rest n ((t,.bool false)::L) w):St P ops Q rest n L w:=by
 have key:∀ v,bc L t=v→mkA n ((t,v)::L)=mkA n L:=fun v hv=>fZ fun i _=>by
  rw [b_];split
  ·rename_i hi;subst hi;exact hv.symm
  ·rfl
 cases e with
 |true=>have:=(hT rfl).out;rw [key _ h] at this;exact ⟨this⟩
 |false=>have:=(hF rfl).out;rw [key _ h] at this;exact ⟨this⟩
theorem ym {t:Nat} {p:Prop} [Decidable p] (hc:bc L t=.bool (decide p)) (ht:p→St P ops Q rest n ((t,.bool true)::L) w) (hf:¬ p→St P ops Q rest n ((t,.bool false)::L) w):St P ops Q rest n L w:=aM hc (fun h=>ht (dT_ h)) (fun h=>hf (dF_ h))
theorem yl {t:Nat} {α:Type} [BEq α] [LawfulBEq α] {a b:α} (hc:bc L t=.bool (a==b)) (ht:a=b→St P ops Q rest n ((t,.bool true)::L) w) (hf:¬ a=b→St P ops Q rest n ((t,.bool false)::L) w):St P ops Q rest n L w:=aM hc (fun h=>ht (d_ h)) (fun h=>hf (ea h))
theorem yj {t:Nat} {α:Type} [BEq α] [LawfulBEq α] {a b:α} (hc:bc L t=.bool (a != b)) (ht:¬ a=b→St P ops Q rest n ((t,.bool true)::L) w) (hf:a=b→St P ops Q rest n ((t,.bool false)::L) w):St P ops Q rest n L w:=aM hc (fun h=>ht (iU h)) (fun h=>hf (iW h))
theorem yk {t:Nat} {b:Bool} (hc:bc L t=.bool (!b)) (ht:b=false→St P ops Q rest n ((t,.bool true)::L) w) (hf:b=true→St P ops Q rest n ((t,.bool false)::L) w):St P ops Q rest n L w:=aM hc (fun h=>ht (et h)) (fun h=>hf (eu h))
theorem er {t:Nat} {v v':Value} (h:bc L t=v) (he:v=v') (k:St P ops Q rest n ((t,v')::L) w):St P ops Q rest n L w:=by
 have key:mkA n ((t,v')::L)=mkA n L:=fZ fun i _=>by
  rw [b_];split
  ·rename_i hi;subst hi;rw [h,he]
  ·rfl
 have:=k.out;rw [key] at this;exact ⟨this⟩
def aN (P : Program) (f : FuncId) : Bool := match P.funcs[f]? with | some fn => !(fn.name == "runtime.NumGoroutine") && fn.body.isSome | none => false
theorem iN {f:FuncId} (hf:aN P f=true) (args:Array Value):(callFunc f args).run P w=.ok (.enter f args) w:=by
 unfold aN at hf;cases h:P.funcs[f]? with
 |none=>simp [h] at hf
 |some fn=>
  simp only [h,Bool.and_eq_true,Bool.not_eq_true'] at hf;have hb:fn.body.isNone=false:=by cases hb:fn.body <;> simp_all
  simp only [callFunc,Sem.run_bind,run_program,Result.andThen_ok,h,hf.1,hb,Bool.false_eq_true,if_false];rfl
theorem gd {ρ:Operand→Value} (hρ:∀ f,ρ (.func f)=.func (.func f) #[] #[]) {f:FuncId} {l:List Operand} {ats:Array TypeId} {g:Option (Nat×Bool)} {dst:Option Tmp} :
 execOp ρ ⟨dst,.call { callee:=.value (.func f),args:=l.toArray,argTypes:=ats },ty,pos,after,g⟩=callFunc f (l.map ρ).toArray:=by
 have:execOp ρ ⟨dst,.call { callee:=.value (.func f),args:=l.toArray,argTypes:=ats },ty,pos,after,g⟩=(do let d ←Deferred.ofValue (ρ (.func f)) (l.toArray.map ρ);invoke d.target d.args):=rfl;rw [this,hρ];show callFunc f (#[]++l.toArray.map ρ++#[])=_;simp
theorem aE {f:FuncId} {l:List Operand} {ats:Array TypeId} {R:Value→World→Prop} (hf:aN P f=true) (hc:Rt P f (l.map (ev n L)) w R) (k:∀ v w',R v w'→St P ops Q rest n ((d,v)::L) w') :
 St P ops Q (⟨some d,.call { callee:=.value (.func f),args:=l.toArray,argTypes:=ats },ty,pos,after,none⟩::rest) n L w:=by
 refine ⟨wpList_plain rfl fun K hK=>?_⟩;unfold Oper.wp;rw [cT,gd (fun _=>rfl),iN hf,Oper.upon_enter];refine Calls.mono hc fun e w' ⟨v,he,hR⟩=>?_
 subst he;show K ((mkA n L).put (some d) v) w';rw [fm];exact hK _ _ (k v w' hR).out
end steps
end Go.Proofs.YtkpooenofjdpmaaGreat
namespace Go.Proofs.YtkpooenofjdpmaaGreat
open Go.Proofs.Tryz (prog)
open Go.RowKit
def eqp (x:Value):Value→World→Prop:=fun v _=>v=x
def fW:List (Nat×(Value→World→Prop))→Nat→Value→World→Prop
 |[],_=>fun _ _=>True
 |(k,R)::r,i=>bif Nat.beq i k then R else fW r i
def oo:List (Nat×(Value→World→Prop))→Prop
 |[]=>True
 |(_,R)::r=>(∀ v w1 w2,ai w1 w2→R v w1→R v w2)∧oo r
theorem ae (x:Value):∀ v w1 w2,ai w1 w2→eqp x v w1→eqp x v w2:=fun _ _ _ _ h=>h
theorem ga:∀ {l:List (Nat×(Value→World→Prop))},oo l→∀ t v w1 w2,ai w1 w2→fW l t v w1→fW l t v w2
 |[],_,_,_,_,_,_,_=>trivial
 |(k,R)::r,⟨h1,h2⟩,t,v,w1,w2,hF,h=>by
  have e:fW ((k,R)::r) t=bif Nat.beq t k then R else fW r t:=rfl
  rw [e] at h ⊢;cases hb:Nat.beq t k with
  |true=>rw [hb] at h;exact h1 _ _ _ hF h
  |false=>rw [hb] at h;exact ga h2 t v w1 w2 hF h
def iv (R:Nat→Value→World→Prop) (w:World):List Nat→(List (Nat×Value)→Prop)→Prop
 |[],K=>K []
 |d::r,K=>∀ v,R d v w→iv R w r fun M=>K ((d,v)::M)
theorem fp {R:Nat→Value→World→Prop} {w:World} (ρ:Nat→Value):∀ (l:List Nat) {K:List (Nat×Value)→Prop},(∀ d∈l,R d (ρ d) w)→iv R w l K→K (l.map fun d=>(d,ρ d))
 |[],_,_,h=>h
 |d::r,_,hr,h=>fp ρ r (fun e he=>hr e (List.mem_cons_of_mem _ he)) (h (ρ d) (hr d (List.mem_cons_self ..)))
theorem iQ (ρ:Nat→Value) (l:List Nat) (L:List (Nat×Value)) (t:Nat):bc (l.map (fun d=>(d,ρ d))++L) t=if l.elem t then ρ t else bc L t:=by
 induction l with
 |nil=>rfl
 |cons d l ih=>
  show bc ((d,ρ d)::(l.map (fun d=>(d,ρ d))++L)) t=_;rw [b_,ih];by_cases h:t=d
  ·subst h;simp
  ·have:(d::l).elem t=l.elem t:=by simp [h]
   rw [if_neg h,this]
def ax (P:Program) (ops:Array Oper) (n:Fr) (L:List (Nat×Value)) (o:Oper) (w:World) (R:Value→World→Prop):Prop:=
 (Region.wanted o (yielded ops (mkT n.n L))=true∧((∃ v w',(execOp (ev n L) o).run P w=.ok (.value v) w'∧ai w w'∧R v w')∨
  (∃ f l,(execOp (ev n L) o).run P w=.ok (.enter f (List.toArray l)) w∧Rt P f l w fun v w'=>ai w w'∧R v w')))∨
 (Region.wanted o (yielded ops (mkT n.n L))=false∧R undef w)
section
variable {P:Program} {ops:Array Oper} {n:Fr} {L:List (Nat×Value)} {w w':World} {op:Op} {ty:TypeId} {pos:String} {after:Array Edge} {d:Option Nat} {R:Value→World→Prop}
theorem oG {v:Value} (hr:RO P (ev n L) op w v w') (hF:ai w w') (hR:R v w'):ax P ops n L ⟨d,op,ty,pos,after,none⟩ w R:=
 .inl ⟨rfl,.inl ⟨v,w',hr _ _ _ _ _,hF,hR⟩⟩
theorem an {v:Value} (hr:RO P (ev n L) op w v w) (hR:R v w):ax P ops n L ⟨d,op,ty,pos,after,none⟩ w R:=oG hr ai.rfl_ hR
theorem iC {f:FuncId} {l:List Operand} {ats:Array TypeId} (hf:aN P f=true) (hc:Rt P f (l.map (ev n L)) w fun v w'=>ai w w'∧R v w') :
 ax P ops n L ⟨d,.call { callee:=.value (.func f),args:=l.toArray,argTypes:=ats },ty,pos,after,none⟩ w R:=
 .inl ⟨rfl,.inr ⟨f,l.map (ev n L),by rw [gd (fun _=>rfl),iN hf],hc⟩⟩
theorem aD {v:Value} {j:Nat} {b:Bool} (hg:js ops n L j=.bool b) (hr:RO P (ev n L) op w v w) (hR:R v w):ax P ops n L ⟨d,op,ty,pos,after,some (j,b)⟩ w R:=
 .inl ⟨by show (yielded ops (mkT n.n L) j==some b)=true;rw [gn hg];simp,.inl ⟨v,w,hr _ _ _ _ _,ai.rfl_,hR⟩⟩
theorem mL {f:FuncId} {l:List Operand} {ats:Array TypeId} {j:Nat} {b:Bool} (hg:js ops n L j=.bool b) (hf:aN P f=true) (hc:Rt P f (l.map (ev n L)) w fun v w'=>ai w w'∧R v w') :
 ax P ops n L ⟨d,.call { callee:=.value (.func f),args:=l.toArray,argTypes:=ats },ty,pos,after,some (j,b)⟩ w R:=
 .inl ⟨by show (yielded ops (mkT n.n L) j==some b)=true;rw [gn hg];simp,.inr ⟨f,l.map (ev n L),by rw [gd (fun _=>rfl),iN hf],hc⟩⟩
theorem bA {j:Nat} {b b':Bool} (hg:js ops n L j=.bool b') (hb:(b'==b)=false) (hR:R undef w):ax P ops n L ⟨d,op,ty,pos,after,some (j,b)⟩ w R:=
 .inr ⟨by show (yielded ops (mkT n.n L) j==some b)=false;rw [gn hg];simpa using hb,hR⟩
end
def lZ (ops:Array Oper) (pre:List Nat) (o:Oper):List Nat:=(pre.filter fun t=>(o.looksAt ops).elem t)
def de:Op→Bool | .select _ _=>true | _=>false
def gJ (o:Oper) (i:Nat):Bool:=o.after.toList.any fun e=>Region.binds .any e&&e.on==i
def uF (l:List Oper) (K:Nat):Bool:=
 let ops:=l.toArray
 let dst (i:Nat):Option Nat:=(l[i]?).bind (·.dst)
 decide (K≤l.length)&&
 (List.range l.length).all fun i=>match l[i]? with
  |none=>false
  |some o=>
   (o.after.toList.all fun e=> !Region.binds .any e||decide (e.on<i))&&!de o.op&&
   (if i<K then
    (match o.dst with
     |none=>false
     |some d=>(List.range K).all (fun j=>j==i||dst j != some d)&&!((o.looksAt ops).elem d))&&
    (List.range K).all (fun j=>match dst j with
     |none=>false
     |some d=> !(o.looksAt ops).elem d||(decide (j<i)&&gJ o j))
    else (List.range i).all (fun j=>gJ o j))
def sP (P:Program) (ops:Array Oper) (n:Fr) (L:List (Nat×Value)) (w:World) (R:Nat→Value→World→Prop) (pre:List Nat):List Oper→Prop
 |[]=>True
 |o::r=>(∀ w',ai w w'→iv R w' (lZ ops pre o) fun M=>ax P ops n (M++L) o w' (R (o.dst.getD 0)))∧sP P ops n L w R pre r
theorem pG {P:Program} {ops:Array Oper} {n:Fr} {L:List (Nat×Value)} {w:World} {R:Nat→Value→World→Prop} {pre:List Nat}:∀ {l:List Oper},sP P ops n L w R pre l→∀ (i:Nat) (o:Oper),l[i]? =some o→
 ∀ w',ai w w'→iv R w' (lZ ops pre o) fun M=>ax P ops n (M++L) o w' (R (o.dst.getD 0))
 |[],_,i,o,h=>by simp at h
 |x::r,⟨h1,h2⟩,0,o,h=>by
  simp only [List.getElem?_cons_zero,Option.some.injEq] at h;subst h;exact h1
 |x::r,⟨h1,h2⟩,i+1,o,h=>pG h2 i o (by simpa using h)
def eZ (l:List Oper) (K:Nat):List Nat:=(l.take K).filterMap (·.dst)
theorem eG:∀ {l:List Bool} {i:Nat},l[i]? =some false→(l.set i true).count false+1=l.count false
 |[],i,h=>by simp at h
 |x::r,0,h=>by
  simp only [List.getElem?_cons_zero,Option.some.injEq] at h;subst h;simp
 |x::r,i+1,h=>by
  have:=eG (l:=r) (i:=i) (by simpa using h);simp only [List.set_cons_succ,List.count_cons];omega
section main
variable {P:Program} {Q:Exit→Act→World→Prop} {n:Fr} {L:List (Nat×Value)} {w:World} {l:List Oper} {K:Nat} {R:Nat→Value→World→Prop}
theorem bt {listed:Array Bool} {i:Nat} (h:i<listed.size):listed.getD i true=listed.getD i false:=by
 simp [Array.getD,h]
theorem mm (hc:uF l K=true):∀ (m k:Nat) (listed:Array Bool) (a:Act) (w':World),k+m=l.length→K≤k→listed.size=l.length→(∀ j,j<l.length→listed.getD j true=decide (j<k))→
 wpList P l.toArray Q (l.drop k) a w'→wpAny P .any l.toArray Q m listed a w'
 |0,k,listed,a,w',hk,hK,hs,hl,h=>by
  have hd:l.drop k=[]:=List.drop_eq_nil_of_le (by omega);rw [hd] at h;refine ⟨?_,h⟩;rw [List.eq_nil_iff_forall_not_mem];intro j hj;obtain ⟨h0,o,ho,_⟩:=mem_ready.1 hj
  have hjl:j<l.length:=by
   rw [List.getElem?_toArray] at ho;exact (List.getElem?_eq_some_iff.1 ho).1
  rw [hl j hjl] at h0;simp at h0;omega
 |m+1,k,listed,a,w',hk,hK,hs,hl,h=>by
  have hkl:k<l.length:=by omega
  have hdrop:l.drop k=l[k]::l.drop (k+1):=List.drop_eq_getElem_cons hkl;have hck:=(List.all_eq_true.1 (Bool.and_eq_true_iff.1 hc).2)
  have hrk:k∈Region.ready .any l.toArray listed:=by
   refine mem_ready.2 ⟨by rw [hl k hkl];simp,l[k],by rw [List.getElem?_toArray,List.getElem?_eq_getElem hkl],fun e he hb=>?_⟩;have hx:=hck k (List.mem_range.2 hkl);rw [List.getElem?_eq_getElem hkl] at hx;simp only [Bool.and_eq_true] at hx;have he2:=List.all_eq_true.1 hx.1.1 e (by simpa using he);rw [hb] at he2;simp at he2;rw [←bt (by omega),hl _ (by omega)];simpa using he2
  refine ⟨fun h0=>(by rw [h0] at hrk;cases hrk),fun j hj=>?_⟩;obtain ⟨h0,o,ho,hall⟩:=mem_ready.1 hj;rw [List.getElem?_toArray] at ho;have hjl:j<l.length:=(List.getElem?_eq_some_iff.1 ho).1;rw [hl j hjl] at h0
  have hjk:j=k:=by
   simp at h0;rcases Nat.eq_or_lt_of_le h0 with e | hlt
   ·exact e.symm
   ·exfalso;have hx:=hck j (List.mem_range.2 hjl);rw [ho] at hx;simp only [Bool.and_eq_true] at hx;have h3:=hx.2;rw [if_neg (by omega)] at h3;have h4:=List.all_eq_true.1 h3 k (List.mem_range.2 hlt);obtain ⟨e,he,he2⟩:=List.any_eq_true.1 h4;simp only [Bool.and_eq_true,beq_iff_eq] at he2;have h5:=hall e (by simpa using he) he2.1;rw [he2.2,←bt (by omega),hl k hkl] at h5;simp at h5
  subst hjk;rw [hdrop] at h
  have hk2:wpOp P l.toArray Q j (wpList P l.toArray Q (l.drop (j+1))) a w':=by
   unfold wpOp;rw [List.getElem?_toArray,List.getElem?_eq_getElem hkl];exact h
  refine wpOp_mono (fun a'' w'' h''=>mm hc m (j+1) _ a'' w'' (by omega) (by omega) (by simpa using hs) (fun i hi=>?_) h'') hk2;by_cases e:j=i
  ·subst e;simp [hs,hkl]
  ·rw [getD_set_ne true e,hl i hi];have:(i<j+1)↔(i<j):=by omega
   simp [this]
theorem eT {ops:Array Oper} {o:Oper} {L1 L2:List (Nat×Value)} (hs:de o.op=false) (h:∀ t,(o.looksAt ops).elem t=true→bc L1 t=bc L2 t) :
 execOp (ev n L1) o=execOp (ev n L2) o∧Region.wanted o (yielded ops (mkT n.n L1))=Region.wanted o (yielded ops (mkT n.n L2)):=by
 constructor
 ·refine execOp_congr o (fun cs b e=>by rw [e] at hs;simp [de] at hs) fun x hx=>?_
  cases x with
  |tmp t=>
   have:bc L1 t=bc L2 t:=h t (by
    simp only [List.elem_eq_mem,decide_eq_true_eq];exact List.mem_append_left _ (List.mem_filterMap.2 ⟨.tmp t,by simpa using hx,rfl⟩))
   simp only [ev,this]
  |_=>rfl
 ·unfold Region.wanted;cases hg:o.guard with
  |none=>rfl
  |some gw=>
   obtain ⟨g,want⟩:=gw
   have hy:yielded ops (mkT n.n L1) g=yielded ops (mkT n.n L2) g:=by
    unfold yielded;cases ht:(ops[g]?).bind (·.dst) with
    |none=>rfl
    |some t=>
     have:bc L1 t=bc L2 t:=h t (by
      simp only [List.elem_eq_mem,decide_eq_true_eq];exact List.mem_append_right _ (by simp [hg,ht]))
     simp only [Option.bind_some,ja,this]
   simp only [hy]
theorem uD (hc:uF l K=true) (hmono:∀ t v w1 w2,ai w1 w2→R t v w1→R t v w2) (hop:sP P l.toArray n L w R (eZ l K) (l.take K))
 (hend:∀ w',ai w w'→iv R w' (eZ l K) fun M=>St P l.toArray Q (l.drop K) n (M++L) w') :
 ∀ (m:Nat) (listed:Array Bool) (L':List (Nat×Value)) (w':World),listed.toList.count false=m→listed.size=l.length→(∀ j,K≤j→j<l.length→listed.getD j true=false)→ai w w'→
  (∀ t,(∀ i o,i<K→l[i]? =some o→listed.getD i true=true→o.dst≠some t)→bc L' t=bc L t)→
  (∀ i o d,i<K→l[i]? =some o→listed.getD i true=true→o.dst=some d→R d (bc L' d) w')→wpAny P .any l.toArray Q m listed (mkA n L') w':=by
 have hKl:K≤l.length:=dT_ (Bool.and_eq_true_iff.1 hc).1;have hck:=(List.all_eq_true.1 (Bool.and_eq_true_iff.1 hc).2);intro m
 induction m with
 |zero=>
  intro listed L' w' hcount hs htail hF hfr hR
  have hall:∀ j,j<l.length→listed.getD j true=true:=by
   intro j hj;have hm:listed[j]'(by omega)∈listed.toList:=by simp
   cases hb:listed[j]'(by omega) with
   |true=>simp [Array.getD,show j<listed.size by omega,hb]
   |false=>
    rw [hb] at hm;exact absurd hcount (Nat.pos_iff_ne_zero.1 (List.count_pos_iff.2 hm))
  have hKe:K=l.length:=by
   rcases Nat.lt_or_ge K l.length with h | h
   ·have h1:=htail K (Nat.le_refl _) h;rw [hall K h] at h1;cases h1
   ·omega
  have he:=fp (bc L') (eZ l K) (fun d hd=>by
   obtain ⟨o,ho,hod⟩:=List.mem_filterMap.1 hd;obtain ⟨i,hi⟩:=List.mem_iff_getElem?.1 ho;rw [List.getElem?_take] at hi;split at hi
   ·exact hR i o d (by assumption) hi (hall i (List.getElem?_eq_some_iff.1 hi).1) hod
   ·cases hi) (hend w' hF)
  have hL:mkA n ((eZ l K).map (fun d=>(d,bc L' d))++L)=mkA n L':=fZ fun t _=>by
   rw [iQ];split
   ·rfl
   ·rename_i hne;refine (hfr t fun i o hi ho _ hod=>hne ?_).symm;simp only [List.elem_eq_mem,decide_eq_true_eq];exact List.mem_filterMap.2 ⟨o,List.mem_iff_getElem?.2 ⟨i,by rw [List.getElem?_take,if_pos hi];exact ho⟩,hod⟩
  replace he:=he.out;rw [hL] at he;exact mm hc 0 l.length listed _ w' (by omega) (by omega) hs (fun j hj=>by rw [hall j hj];simp [hj]) (by rw [hKe] at he;exact he)
 |succ m ih=>
  intro listed L' w' hcount hs htail hF hfr hR;by_cases hpre:∀ i,i<K→listed.getD i true=true
  ·
   have he:=fp (bc L') (eZ l K) (fun d hd=>by
    obtain ⟨o,ho,hod⟩:=List.mem_filterMap.1 hd;obtain ⟨i,hi⟩:=List.mem_iff_getElem?.1 ho;rw [List.getElem?_take] at hi;split at hi
    ·exact hR i o d (by assumption) hi (hpre i (by assumption)) hod
    ·cases hi) (hend w' hF)
   have hL:mkA n ((eZ l K).map (fun d=>(d,bc L' d))++L)=mkA n L':=fZ fun t _=>by
    rw [iQ];split
    ·rfl
    ·rename_i hne;refine (hfr t fun i o hi ho _ hod=>hne ?_).symm;simp only [List.elem_eq_mem,decide_eq_true_eq];exact List.mem_filterMap.2 ⟨o,List.mem_iff_getElem?.2 ⟨i,by rw [List.getElem?_take,if_pos hi];exact ho⟩,hod⟩
   replace he:=he.out;rw [hL] at he
   have hcnt:m+1=l.length-K:=by
    have:listed.toList=List.replicate K true++List.replicate (l.length-K) false:=by
     apply List.ext_getElem?;intro j;rw [Array.getElem?_toList];rw [List.getElem?_append];simp only [List.length_replicate,List.getElem?_replicate];by_cases hj:j<l.length
     ·have hjs:j<listed.size:=by omega
      by_cases hjK:j<K
      ·have:=hpre j hjK;simp [Array.getD,hjs] at this;simp [hjs,hjK,this]
      ·have:=htail j (by omega) hj;simp [Array.getD,hjs] at this;rw [if_neg hjK,if_pos (by omega),Array.getElem?_eq_getElem hjs,this]
     ·rw [Array.getElem?_eq_none (by omega),if_neg (by omega),if_neg (by omega)]
    rw [this,List.count_append,List.count_replicate,List.count_replicate] at hcount;simp at hcount;exact hcount.symm
   refine mm hc (m+1) K listed _ w' (by omega) (Nat.le_refl _) hs (fun j hj=>?_) he;by_cases hjK:j<K
   ·rw [hpre j hjK];simp [hjK]
   ·rw [htail j (by omega) hj];simp [hjK]
  ·
   have hex:∃ i,i<K∧listed.getD i true=false:=by
    refine Classical.byContradiction fun hno=>hpre fun i hi=>?_
    cases hb:listed.getD i true with
    |true=>rfl
    |false=>exact absurd ⟨i,hi,hb⟩ hno
   obtain ⟨i0,hi0,hmin⟩:=exists_least hex;have hi0l:i0<l.length:=by omega
   have hready:i0∈Region.ready .any l.toArray listed:=by
    refine mem_ready.2 ⟨hi0.2,l[i0],by rw [List.getElem?_toArray,List.getElem?_eq_getElem hi0l],fun e he hb=>?_⟩;have hx:=hck i0 (List.mem_range.2 hi0l);rw [List.getElem?_eq_getElem hi0l] at hx;simp only [Bool.and_eq_true] at hx;have he2:=List.all_eq_true.1 hx.1.1 e (by simpa using he);rw [hb] at he2;simp at he2;rw [←bt (by omega)];cases hb2:listed.getD e.on true with
    |true=>rfl
    |false=>exact absurd (hmin e.on ⟨by omega,hb2⟩) (by omega)
   refine ⟨fun h0=>(by rw [h0] at hready;cases hready),fun i hi=>?_⟩;obtain ⟨h0,o,ho,hall⟩:=mem_ready.1 hi;rw [List.getElem?_toArray] at ho;have hil:i<l.length:=(List.getElem?_eq_some_iff.1 ho).1;have hx:=hck i (List.mem_range.2 hil);rw [ho] at hx;simp only [Bool.and_eq_true] at hx
   have hiK:i<K:=by
    rcases Nat.lt_or_ge i K with h | h
    ·exact h
    ·exfalso;have h3:=hx.2;rw [if_neg (by omega)] at h3;have h4:=List.all_eq_true.1 h3 i0 (List.mem_range.2 (by omega));obtain ⟨e,he,he2⟩:=List.any_eq_true.1 h4;simp only [Bool.and_eq_true,beq_iff_eq] at he2;have h5:=hall e (by simpa using he) he2.1;rw [he2.2,←bt (by omega),hi0.2] at h5;cases h5
   have h3:=hx.2;rw [if_pos hiK] at h3;simp only [Bool.and_eq_true] at h3;obtain ⟨h3a,h3b⟩:=h3;cases hod:o.dst with
   |none=>rw [hod] at h3a;cases h3a
   |some d=>
    rw [hod] at h3a;simp only [Bool.and_eq_true] at h3a
    have hlooks:∀ t,(o.looksAt l.toArray).elem t=true→bc ((lZ l.toArray (eZ l K) o).map (fun d=>(d,bc L' d))++L) t=bc L' t:=by
     intro t ht;rw [iQ];split
     ·rfl
     ·rename_i hne;refine (hfr t fun j oj hj hoj hlj hd=>hne ?_).symm;simp only [List.elem_eq_mem,decide_eq_true_eq];refine List.mem_filter.2 ⟨List.mem_filterMap.2 ⟨oj,List.mem_iff_getElem?.2 ⟨j,by rw [List.getElem?_take,if_pos hj];exact hoj⟩,hd⟩,ht⟩
    have hfact:∀ t∈lZ l.toArray (eZ l K) o,R t (bc L' t) w':=by
     intro t ht;obtain ⟨ht1,ht2⟩:=List.mem_filter.1 ht;obtain ⟨oj,hoj,hd⟩:=List.mem_filterMap.1 ht1;obtain ⟨j,hj⟩:=List.mem_iff_getElem?.1 hoj;rw [List.getElem?_take] at hj;split at hj
     ·rename_i hjK;have h5:=List.all_eq_true.1 h3b j (List.mem_range.2 hjK);rw [hj] at h5;simp only [Option.bind_some,hd,ht2,Bool.not_true,Bool.false_or,Bool.and_eq_true,decide_eq_true_eq] at h5;obtain ⟨e,he,he2⟩:=List.any_eq_true.1 h5.2;simp only [Bool.and_eq_true,beq_iff_eq] at he2;have h6:=hall e (by simpa using he) he2.1;rw [he2.2] at h6;exact hR j oj t hjK hj (by rw [bt (by omega)];exact h6) hd
     ·cases hj
    have hok:=fp (bc L') _ hfact (pG hop i o (by rw [List.getElem?_take,if_pos hiK];exact ho) w' hF);have hsel:de o.op=false:=by simpa using hx.1.2
    obtain ⟨hE,hW⟩:=eT (n:=n) (ops:=l.toArray) (o:=o) hsel hlooks;rw [hod] at hok;simp only [Option.getD_some] at hok
    have next:∀ v w'',ai w' w''→R d v w''→wpAny P .any l.toArray Q m (listed.setIfInBounds i true) ((mkA n L').put (some d) v) w'':=by
     intro v w'' hF' hRv;rw [fm]
     have hne:∀ j oj d',j<K→l[j]? =some oj→j≠i→oj.dst=some d'→d'≠d:=by
      intro j oj d' hj hoj hji hd e;have h5:=List.all_eq_true.1 h3a.1 j (List.mem_range.2 hj);rw [hoj] at h5;simp [hji,hd,e] at h5
     refine ih _ _ w'' ?_ (by simpa using hs) (fun j hj1 hj2=>?_) (hF.next hF') (fun t ht=>?_) (fun j oj d' hj hoj hlj hd=>?_)
     ·have hil':i<listed.size:=by omega
      have hfalse:listed.toList[i]? =some false:=by
       rw [Array.getElem?_toList,Array.getElem?_eq_getElem hil'];simp [Array.getD,hil'] at h0;rw [h0]
      rw [Array.toList_setIfInBounds];have:=eG (l:=listed.toList) (i:=i) hfalse;omega
     ·rw [getD_set_ne true (by omega)];exact htail j hj1 hj2
     ·have htd:t≠d:=fun e=>ht i o hiK ho (by simp [show i<listed.size by omega]) (by rw [hod,e])
      rw [b_,if_neg htd];refine hfr t fun j oj hj hoj hlj=>ht j oj hj hoj ?_
      by_cases e:i=j
      ·subst e;rw [h0] at hlj;cases hlj
      ·rw [getD_set_ne true e];exact hlj
     ·rw [b_];by_cases e:j=i
      ·subst e;rw [ho] at hoj;cases hoj;rw [hod] at hd;cases hd;rw [if_pos rfl];exact hRv
      ·rw [if_neg (hne j oj d' hj hoj e hd)];rw [getD_set_ne true (Ne.symm e)] at hlj;exact hmono _ _ _ _ hF' (hR j oj d' hj hoj hlj hd)
    unfold wpOp;rw [List.getElem?_toArray,ho];show if Region.wanted o (yielded l.toArray (mkT n.n L'))=true then _ else _
    unfold ax at hok;rw [hE,hW] at hok;rcases hok with ⟨hw,⟨v,w'',hr,hF',hRv⟩ | ⟨f,args,hr,hcall⟩⟩ | ⟨hw,hRv⟩
    ·rw [if_pos hw];refine .inl ?_;unfold Oper.wp;rw [cT,hr,Oper.upon_value,hod];exact next v w'' hF' hRv
    ·rw [if_pos hw];refine .inl ?_;unfold Oper.wp;rw [cT,hr,Oper.upon_enter,hod];refine Calls.mono hcall fun e w'' ⟨v,he,hF',hRv⟩=>?_
     subst he;exact next v w'' hF' hRv
    ·rw [if_neg (by rw [hw];simp),hod];exact next undef w' ai.rfl_ hRv
theorem vi {id:Nat} (K:Nat) (RL:List (Nat×(Value→World→Prop))) (hm:P.follows .mixedOrders=true) (hc:uF l K=true) (hmono:oo RL)
 (hop:sP P l.toArray n L w (fW RL) (eZ l K) (l.take K)) (hend:∀ w',ai w w'→iv (fW RL) w' (eZ l K) fun M=>St P l.toArray Q (l.drop K) n (M++L) w'):Cd P (.region id l.toArray true) Q n L w:=by
 refine ⟨wp_region_any hm ?_⟩;have hKl:K≤l.length:=dT_ (Bool.and_eq_true_iff.1 hc).1
 have:=uD (Q:=Q) (w:=w) hc (ga hmono) hop hend l.length (Array.replicate l.length false) L { w with drawn:=w.drawn+1 } (by simp) (by simp)
  (fun j _ hj=>by simp [Array.getD,hj]) (ai.rfl_.d1) (fun _ _=>rfl) (fun i o d hi _ hl=>by
   have:i<l.length:=by omega
   simp [Array.getD,this] at hl)
 simpa using this
end main
end Go.Proofs.YtkpooenofjdpmaaGreat
namespace Go.Proofs.YtkpooenofjdpmaaGreat
open Go.Proofs.Tryz (prog)
open Go.RowKit
structure dw (g:Nat) (w w':World):Prop where
 os:w'.os=w.os
 tape:w'.tape=w.tape
 output:w'.output=w.output
 size:w'.heap.size=w.heap.size
 block:∀ k,k≠g→w'.heap[k]? =w.heap[k]?
theorem dw.setCell (w:World) (g i:Nat) (v:Value):dw g w (w.setCell ⟨g,i,none⟩ v):=⟨rfl,rfl,rfl,by simp,fun k hk=>Below.heap_setCell w ⟨g,i,none⟩ v k hk⟩
theorem dw.trans {g:Nat} {w w1 w2:World} (h:dw g w w1) (k:dw g w1 w2):dw g w w2:=⟨k.os.trans h.os,k.tape.trans h.tape,k.output.trans h.output,k.size.trans h.size,fun i hi=>(k.block i hi).trans (h.block i hi)⟩
theorem dw.rfl_ {g:Nat} {w:World}:dw g w w:=⟨rfl,rfl,rfl,rfl,fun _ _=>rfl⟩
theorem ai.only {a w w':World} {g:Nat} (h:ai a w) (o:dw g w w') (hg:a.heap.size≤g):ai a w':=
 ⟨o.os.trans h.os,o.tape.trans h.tape,o.output.trans h.output,by rw [o.size];exact h.size,fun k hk=>(o.block k (by omega)).trans (h.block k hk)⟩
theorem Blk.only {w w':World} {k g:Nat} {t:TypeId} {cs:Array Value} (h:Blk w k t cs) (o:dw g w w') (hk:k≠g):Blk w' k t cs:=(o.block k hk).trans h
theorem dw.cell {w w':World} {g b i:Nat} (o:dw g w w') (hb:b≠g):w'.cell? ⟨b,i,none⟩=w.cell? ⟨b,i,none⟩:=World.cell?_of_block (w:=w) (o.block b hb)
theorem eH {w w':World} {a:Addr} {v:Value} (h:ai w w') (hc:w.cell? a=some v):w'.cell? a=some v:=
 (Below.cell h (World.block_lt_of_cell? w a hc)).trans hc
theorem Blk.rd {w:World} {g:Nat} {t:TypeId} {cs:Array Value} (h:Blk w g t cs) (i:Nat) {v:Value} (hv:cs[i]? =some v):w.cell? ⟨g,i,none⟩=some v:=by rw [h.cell i];exact hv
def gp (cs:List Value) (o:Nat) (vs:List Value):List Value:=cs.take o++vs++cs.drop (o+vs.length)
theorem ub (cs:List Value) (o:Nat) (v:Value) (vs:List Value) (h:o<cs.length):gp (cs.set o v) (o+1) vs=gp cs o (v::vs):=by
 unfold gp
 have h1:(cs.set o v).take (o+1)=cs.take o++[v]:=by
  rw [List.take_set];have:cs.take (o+1)=cs.take o++[cs[o]]:=(List.take_append_getElem h).symm;rw [this,List.set_append_right _ _ (by simp;omega)];have hm:min o cs.length=o:=by omega
  simp [hm]
 have h2:(cs.set o v).drop (o+1+vs.length)=cs.drop (o+(v::vs).length):=by
  rw [List.drop_set_of_lt (by omega)];simp only [List.length_cons]
  congr 1
  omega
 rw [h1,h2];simp
theorem Blk.sets {t:TypeId} {g:Nat}:∀ (vs:List Value) (o:Nat) {w:World} {cs:List Value},Blk w g t cs.toArray→o+vs.length≤cs.length→Blk (w.setCells g o vs) g t (gp cs o vs).toArray
 |[],o,w,cs,h,_=>by
  have:gp cs o []=cs:=by simp [gp]
  rw [this];exact h
 |v::vs,o,w,cs,h,hl=>by
  simp only [List.length_cons] at hl;have h1:=h.set_ o v;rw [List.setIfInBounds_toArray] at h1;have:=Blk.sets vs (o+1) h1 (by simp;omega);rw [ub cs o v vs (by omega)] at this;exact this
theorem dw.sets {g:Nat}:∀ (vs:List Value) (o:Nat) (w:World),dw g w (w.setCells g o vs)
 |[],_,_=>dw.rfl_
 |v::vs,o,w=>(dw.setCell w g o v).trans (dw.sets vs (o+1) _)
theorem Blk.there {w:World} {g:Nat} {t:TypeId} {cs:Array Value} (h:Blk w g t cs) (o n:Nat) (hl:o+n≤cs.size):w.there g o n:=fun j hj=>
 ⟨by rw [h.cell];simp [show o+j<cs.size by omega],h.frozen _⟩
theorem Blk.range {w:World} {g:Nat} {t:TypeId} {cs:List Value} (h:Blk w g t cs.toArray) (o:Nat) (vs:List Value) (hl:∀ j v,vs[j]? =some v→cs[o+j]? =some v):w.rangeAt g o vs:=fun j v hv=>by
 rw [h.cell];simpa using hl j v hv
theorem Blk.whole {w:World} {g:Nat} {t:TypeId} {cs:List Value} (h:Blk w g t cs.toArray):w.rangeAt g 0 cs:=h.range 0 cs fun j v hv=>by rw [Nat.zero_add];exact hv
theorem fL {w w':World} {b o:Nat} {cs:List Value} (h:ai w w') (hc:w.rangeAt b o cs):w'.rangeAt b o cs:=fun j v hv=>eH h (hc j v hv)
section
variable {P:Program} {ops:Array Oper} {Q:Exit→Act→World→Prop} {rest:List Oper} {n:Fr} {L:List (Nat×Value)} {w:World} {ty:TypeId} {pos:String} {after:Array Edge} {d:Nat} {t:TypeId} {x y:Operand}
theorem cj {v:Value} (hx:ev n L x=v) (k:∀ b w',ai w w'→b=w.heap.size→Blk w' b t v.cells→St P ops Q rest n ((d,.pointer (some ⟨b,0,none⟩))::L) w') :
 St P ops Q (⟨some d,.box t x,ty,pos,after,none⟩::rest) n L w:=
 ab (xK hx) (k _ _ (ai.rfl_.new _) rfl (Blk.new w t _))
theorem dq {z:Value} (hz:jq P t=some z) (k:∀ b w',ai w w'→b=w.heap.size→Blk w' b t z.cells→St P ops Q rest n ((d,.pointer (some ⟨b,0,none⟩))::L) w') :
 St P ops Q (⟨some d,.alloc t,ty,pos,after,none⟩::rest) n L w:=
 ab (py hz) (k _ _ (ai.rfl_.new _) rfl (Blk.new w t _))
theorem fv {g i:Nat} {u:TypeId} {cs:Array Value} {v:Value} (ht:dr P t=some 1) (hx:ev n L x=.pointer (some ⟨g,i,none⟩)) (hy:ev n L y=v) (h1:v.oneCell'=true) (hb:Blk w g u cs) (hi:i<cs.size)
 (k:∀ w',dw g w w'→Blk w' g u (cs.setIfInBounds i v)→St P ops Q rest n L w'):St P ops Q (⟨none,.store t x y,ty,pos,after,none⟩::rest) n L w:=by
 have hc:w.cell? ⟨g,i,none⟩=some (cs[i]'hi):=by rw [hb.cell];simp [hi]
 exact ks (kx ht hx hy h1 hc (hb.frozen i)) (k _ (dw.setCell w g i v) (hb.set_ i v))
theorem sm {g i:Nat} {u:TypeId} {cs vs:List Value} (ht:dr P t=some vs.length) (hx:ev n L x=.pointer (some ⟨g,i,none⟩)) (hy:ev n L y=.agg vs.toArray) (h1:∀ v∈vs,v.oneCell'=true) (hb:Blk w g u cs.toArray) (hi:i+vs.length≤cs.length)
 (k:∀ w',dw g w w'→Blk w' g u (gp cs i vs).toArray→St P ops Q rest n L w'):St P ops Q (⟨none,.store t x y,ty,pos,after,none⟩::rest) n L w:=
 ks (kS ht hx hy h1 (hb.there i vs.length (by simpa using hi))) (k _ (dw.sets vs i w) (Blk.sets vs i hb hi))
theorem pF (cs vs:List Value) (h:vs.length=cs.length):gp cs 0 vs=vs:=by
 unfold gp;simp [h]
theorem cZ {g:Nat} {u:TypeId} {cs:Array Value} {vs:List Value} (ht:dr P t=some vs.length) (hx:ev n L x=.pointer (some ⟨g,0,none⟩)) (hy:ev n L y=.agg vs.toArray) (h1:∀ v∈vs,v.oneCell'=true) (hb:Blk w g u cs) (hi:vs.length=cs.size)
 (k:∀ w',dw g w w'→Blk w' g u vs.toArray→St P ops Q rest n L w'):St P ops Q (⟨none,.store t x y,ty,pos,after,none⟩::rest) n L w:=by
 refine sm (cs:=cs.toList) (u:=u) ht hx hy h1 (by simpa using hb) (by simp;omega) fun w' o b=>?_
 rw [pF cs.toList vs (by simp;omega)] at b;exact k w' o b
def nU (P:Program) (t:TypeId):Option (TypeId×Nat×Value):=match P.underlying t with | some (.slice e)=>(P.info? e).bind fun i=>if i.size=1 then i.zero.map fun z=>(e,i.bytes,z) else none | _=>none
theorem vP {e by_ m:Nat} {z:Value} {kl kc:IntKind} (ht:nU P t=some (e,by_,z)) (hz:z.cells=#[z]) (hx:ev n L x=.int kl (m:Nat)) (hy:ev n L y=.int kc (m:Nat)) (hm:m≤9223372036854775807) (hb:by_*m≤281474976710656)
 (k:∀ g w',ai w w'→g=w.heap.size→Blk w' g e (List.replicate m z).toArray→St P ops Q rest n ((d,.slice (some ⟨g,0,none⟩) m m)::L) w'):St P ops Q (⟨some d,.makeSlice t x y,ty,pos,after,none⟩::rest) n L w:=by
 unfold nU at ht;split at ht
 ·rename_i e' hu;cases hi:P.info? e' with
  |none=>simp [hi] at ht
  |some i=>
   rw [hi] at ht;simp only [Option.bind_some] at ht;split at ht
   ·rename_i hs;cases hzz:i.zero with
    |none=>simp [hzz] at ht
    |some z'=>
     simp only [hzz,Option.map_some,Option.some.injEq,Prod.mk.injEq] at ht;obtain ⟨rfl,rfl,rfl⟩:=ht
     have hr:=run_make (P:=P) w t e' i z' hu hi hzz kl kc (m:Int) (m:Int) (by omega) (Int.le_refl _) (by
      have:((i.bytes*m:Nat):Int)≤281474976710656:=by omega
      rwa [Int.natCast_mul] at this) (by omega)
     have hcells:madeCells z'.cells ((m:Int).toNat*i.size)=(List.replicate m z').toArray:=by
      rw [hs,Int.toNat_natCast,Nat.mul_one,hz];apply Array.ext_getElem?;intro j;simp only [madeCells,Array.getElem?_map];by_cases hj:j<m
      ·simp [hj,Nat.mod_one]
      ·simp [hj]
     rw [hcells,Int.toNat_natCast] at hr;refine ab (v:=.slice (some ⟨w.heap.size,0,none⟩) m m) (w':=w.alloc (.cells (List.replicate m z').toArray e')) (fun _ _ _ _ _=>?_) (k _ _ (ai.rfl_.new _) rfl (Blk.new w e' _));simp [execOp,hx,hy,hr]
   ·cases ht
 ·cases ht
end
end Go.Proofs.YtkpooenofjdpmaaGreat
namespace Go.Proofs.YtkpooenofjdpmaaGreat
open Go.Proofs.Tryz (prog)
open Go.RowKit
def ew {α:Type} (f:α→Value) (w:World) (A:Option Addr) (l:List α):Prop:=
 0<l.length→∃ b o,A=some ⟨b,o,none⟩∧∀ i (h:i<l.length),w.cell? ⟨b,o+i,none⟩=some (f l[i])
theorem ew.from_ {α:Type} {f:α→Value} {w w':World} {A:Option Addr} {l:List α} (h:ew f w A l) (hw:ai w w'):ew f w' A l:=fun h0=>
 let ⟨b,o,hA,hc⟩:=h h0
 ⟨b,o,hA,fun i hi=>eH hw (hc i hi)⟩
theorem ew.nil {α:Type} {f:α→Value} {w:World} {A:Option Addr}:ew f w A []:=fun h=>absurd h (by simp)
theorem ew.of_row {α:Type} {f:α→Value} {w:World} {A:Option Addr} {n cap:Nat} {l:List α} (h:Row w (.slice A n cap) (l.map f)):n=l.length∧ew f w A l:=by
 obtain ⟨A',c',he,hp⟩:=uc h;simp only [Value.slice.injEq] at he;obtain ⟨rfl,rfl,rfl⟩:=he;exact ⟨rfl,fun h0=>let ⟨b,o,hA,_,hc⟩:=hp h0;⟨b,o,hA,hc⟩⟩
theorem ew.blk {α:Type} {f:α→Value} {w:World} {g:Nat} {t:TypeId} {cs:Array Value} {l:List α} (h:Blk w g t cs) (hl:∀ i (hi:i<l.length),cs[i]? =some (f l[i])):ew f w (some ⟨g,0,none⟩) l:=fun _=>
 ⟨g,0,rfl,fun i hi=>by rw [Nat.zero_add,h.cell];exact hl i hi⟩
theorem ew.own {α:Type} {f:α→Value} {w:World} {base:Nat} {e:TypeId} {A:Option Addr} {n cap:Nat} {l:List α} (h:w.ownsRow base e 1 (.slice A n cap) n (l.map f)):n=l.length∧ew f w A l:=ew.of_row (Row.of_own h)
structure But (g:Nat) (w w':World):Prop where
 os:w'.os=w.os
 tape:w'.tape=w.tape
 output:w'.output=w.output
 size:w.heap.size≤w'.heap.size
 block:∀ k,k<w.heap.size→k≠g→w'.heap[k]? =w.heap[k]?
abbrev bV (x:Nat):Value:=.int .u8 x
abbrev uV (x:Nat):Value:=.int .u64 x
abbrev iV (x:Int):Value:=.int .i64 x
def gA (P:Program) (t:TypeId):Option (TypeId×Nat×Nat×Value):=match P.underlying t with | some (.slice e)=>(P.info? e).bind fun i=>i.zero.map fun z=>(e,i.size,i.bytes,z) | _=>none
theorem kd {P:Program} {t e size by_:Nat} {z:Value} (h:gA P t=some (e,size,by_,z)):∃ i,P.underlying t=some (.slice e)∧P.info? e=some i∧i.size=size∧i.bytes=by_∧i.zero=some z:=by
 unfold gA at h;split at h
 ·rename_i e' hu;cases hi:P.info? e' with
  |none=>simp [hi] at h
  |some i=>
   rw [hi] at h;cases hz:i.zero with
   |none=>simp [hz] at h
   |some z'=>
    simp only [Option.bind_some,hz,Option.map_some,Option.some.injEq,Prod.mk.injEq] at h;obtain ⟨rfl,rfl,rfl,rfl⟩:=h;exact ⟨i,hu,hi,rfl,rfl,hz⟩
 ·cases h
section
variable {P:Program} {ops:Array Oper} {Q:Exit→Act→World→Prop} {rest:List Oper} {n:Fr} {L:List (Nat×Value)} {w:World} {ty:TypeId} {pos:String} {after:Array Edge} {d:Nat} {t:TypeId} {x s:Operand}
theorem rk {ρ:Operand→Value} {e m size by_:Nat} {l:List (Nat×Operand)} {cells:Array Value} {z:Value} (hq:gA P t=some (e,size,by_,z)) (hsmall:Nat.ble (m*size) 16777216=true) (hpos:Nat.beq (m*size) 0=false)
 (hf:Instr.fill (fun i=>some (i*size,size)) ((Array.range (m*size)).map (z.cells[·%z.cells.size]!)) (l.map fun p=>(p.1,ρ p.2))=some cells) :
 RO P ρ (.buildSlice t m l.toArray) w (.slice (some ⟨w.heap.size,0,none⟩) m m) (w.alloc (.cells cells e)):=by
 obtain ⟨i,hu,hi,hs,_,hz⟩:=kd hq;subst hs;refine ns hu hi hz ?_ ?_ hf
 ·have:=Nat.le_of_ble_eq_true hsmall;omega
 ·intro h0;rw [h0] at hpos;cases hpos
theorem q8 {e m size by_:Nat} {l:List (Nat×Operand)} {cells:Array Value} {z:Value} (hq:gA P t=some (e,size,by_,z)) (hsmall:Nat.ble (m*size) 16777216=true) (hpos:Nat.beq (m*size) 0=false)
 (hf:Instr.fill (fun i=>some (i*size,size)) ((Array.range (m*size)).map (z.cells[·%z.cells.size]!)) (l.map fun p=>(p.1,ev n L p.2))=some cells)
 (k:∀ g w',ai w w'→g=w.heap.size→Blk w' g e cells→St P ops Q rest n ((d,.slice (some ⟨g,0,none⟩) m m)::L) w'):St P ops Q (⟨some d,.buildSlice t m l.toArray,ty,pos,after,none⟩::rest) n L w:=
 ab (rk hq hsmall hpos hf) (k _ _ (ai.rfl_.new _) rfl (Blk.new w e _))
theorem ej {e by_:Nat} {z v:Value} (hq:gA P t=some (e,1,by_,z)) (_:z.cells.size=1) (hx:ev n L x=v) (hv:v.cells=#[v])
 (k:∀ g w',ai w w'→g=w.heap.size→Blk w' g e #[v]→St P ops Q rest n ((d,.slice (some ⟨g,0,none⟩) 1 1)::L) w'):St P ops Q (⟨some d,.buildSlice t 1 #[(0,x)],ty,pos,after,none⟩::rest) n L w:=by
 refine q8 (l:=[(0,x)]) (cells:=#[v]) hq rfl rfl ?_ k
 have e1:(Array.range (1*1)).map (z.cells[·%z.cells.size]!)=#[z.cells[0]!]:=by
  rw [show Array.range (1*1)=#[0] from rfl];simp
 rw [e1];simp [Instr.fill,hx,hv]
def gZ {α:Type}:Nat→List α→List (Nat×α)
 |_,[]=>[]
 |i,x::r=>(i,x)::gZ (i+1) r
theorem kC {α β:Type} (f:α→β):∀ (i:Nat) (l:List α),(gZ i l).map (fun p=>(p.1,f p.2))=gZ i (l.map f)
 |_,[]=>rfl
 |i,x::r=>by simp [gZ,kC f (i+1) r]
theorem mT:∀ (vs:List Value) (k:Nat) (cells:Array Value),(∀ v∈vs,v.cells=#[v])→k+vs.length≤cells.size→
 ∃ R:Array Value,Instr.fill (fun i=>some (i*1,1)) cells (gZ k vs)=some R∧R.size=cells.size∧∀ j,R[j]? =if k≤j∧j<k+vs.length then vs[j-k]? else cells[j]?
 |[],k,cells,_,_=>⟨cells,rfl,rfl,fun j=>by rw [if_neg (by simp only [List.length_nil];omega)]⟩
 |v::r,k,cells,h,hl=>by
  simp only [List.length_cons] at hl;have hv:v.cells=#[v]:=h v (List.mem_cons_self ..);obtain ⟨R,hR,hs,hc⟩:=mT r (k+1) (cells.setIfInBounds k v) (fun u hu=>h u (List.mem_cons_of_mem _ hu)) (by rw [Array.size_setIfInBounds];omega);have hcond:¬ (cells.size<k+1):=by omega
  refine ⟨R,?_,by simpa using hs,fun j=>?_⟩
  ·simp only [gZ,Instr.fill,Nat.mul_one,hv];simpa [hcond] using hR
  ·rw [hc];by_cases hj:j=k
   ·subst hj;rw [if_neg (by omega),if_pos (by simp)];simp [show j<cells.size by omega]
   ·by_cases h2:k+1≤j∧j<k+1+r.length
    ·rw [if_pos h2,if_pos (by simp;omega)];obtain ⟨d,hd⟩:∃ d,j-k=d+1:=⟨j-k-1,by omega⟩;rw [hd,show j-(k+1)=d by omega,List.getElem?_cons_succ]
    ·rw [if_neg h2,if_neg (by simp;omega),Array.getElem?_setIfInBounds_ne (fun e=>hj e.symm)]
theorem fA {e by_ m:Nat} {z:Value} (xs:List Operand) (vs:List Value) (hq:gA P t=some (e,1,by_,z)) (hm:xs.length=m) (hsmall:Nat.ble m 16777216=true) (hpos:Nat.beq m 0=false) (hx:xs.map (ev n L)=vs) (hv:∀ v∈vs,v.cells=#[v])
 (k:∀ g w',ai w w'→g=w.heap.size→Blk w' g e vs.toArray→St P ops Q rest n ((d,.slice (some ⟨g,0,none⟩) m m)::L) w'):St P ops Q (⟨some d,.buildSlice t m (gZ 0 xs).toArray,ty,pos,after,none⟩::rest) n L w:=by
 have hlen:vs.length=m:=by rw [←hx,List.length_map,hm]
 obtain ⟨R,hR,hs,hc⟩:=mT vs 0 ((Array.range (m*1)).map (z.cells[·%z.cells.size]!)) hv (by simp;omega)
 have hRe:R=vs.toArray:=by
  apply Array.ext_getElem?;intro j;rw [hc];by_cases hj:j<m
  ·rw [if_pos ⟨by omega,by omega⟩,Nat.sub_zero,List.getElem?_toArray]
  ·rw [if_neg (by omega),Array.getElem?_eq_none (by rw [Array.size_map,Array.size_range];omega),Array.getElem?_eq_none (by rw [List.size_toArray];omega)]
 subst hRe;refine q8 hq (by rw [Nat.mul_one];exact hsmall) (by rw [Nat.mul_one];exact hpos) ?_ k;rw [kC,hx];exact hR
theorem rb {base:Nat} {A A2:Option Addr} {m j cap c2 e size by_:Nat} {z:Value} {xs news:List Value} (hq:gA P t=some (e,size,by_,z)) (hzs:z.cells.size=size) (hs0:0<size)
 (hs:ev n L s=.slice A m cap) (hown:w.ownsRow base e size (.slice A m cap) m xs) (hB:base≤w.heap.size)
 (hx:ev n L x=.slice A2 j c2) (hl:news.length=j*size) (hsrc:0<j→∃ b o,A2=some ⟨b,o,none⟩∧w.rangeAt b o news) (hnil:A2=none→c2=0) (h1:∀ u∈news,u.oneCell'=true) (h63:m+j≤9223372036854775807) (hby:(m+j)*by_≤140737488355328)
 (k:∀ A' cap' w',w'.ownsRow base e size (.slice A' (m+j) cap') (m+j) (xs++news)→w.grownBy w' (A.map (·.block))→St P ops Q rest n ((d,.slice A' (m+j) cap')::L) w') :
 St P ops Q (⟨some d,.call { callee:=.builtin .append,args:=#[s,x],argTypes:=#[t,t] },ty,pos,after,none⟩::rest) n L w:=by
 obtain ⟨i,hu,hi,hsz,hb,hz⟩:=kd hq;have hobl:(Value.slice A m cap).ownBlock=A.map (·.block):=by cases A <;> rfl
 cases A2 with
 |none=>
  have hj:j=0:=by
   rcases Nat.eq_zero_or_pos j with h | h
   ·exact h
   ·obtain ⟨b,o,hA,_⟩:=hsrc h;cases hA
  subst hj;have hnn:news=[]:=List.eq_nil_of_length_eq_zero (by simpa using hl);subst hnn;have hc:=hnil rfl;subst hc;refine ⟨wpList_append_own_none (P:=P) (a:=mkA n L) rfl s x t rfl base e i size hu hi _ m xs (by rw [cT];exact hs) hown (by rw [cT];exact hx) ?_⟩;rw [fm];have:=k A cap w (by simpa using hown) (World.grownBy.refl _ _);simpa using this.out
 |some ad=>
  by_cases hj:j=0
  ·subst hj;have hnn:news=[]:=List.eq_nil_of_length_eq_zero (by simpa using hl);subst hnn;refine ⟨wpList_append_own (P:=P) w (a:=mkA n L) rfl s x t rfl base e i z size by_ hu hi hz hsz hb hzs hs0 _ m xs (by rw [cT];exact hs) hown ad 0 c2 [] (by rw [cT];exact hx) (by simp) (by simp) (by simp) (by unfold maxLen;omega) hby hB ?_⟩;intro v' w' hown' hg _;obtain ⟨A',cap',rfl⟩:=fM hown';rw [fm];exact (k A' cap' w' hown' (by rw [←hobl];exact hg)).out
  ·obtain ⟨b,o,hA,hr⟩:=hsrc (by omega);cases hA;refine ⟨wpList_append_own (P:=P) w (a:=mkA n L) rfl s x t rfl base e i z size by_ hu hi hz hsz hb hzs hs0 _ m xs (by rw [cT];exact hs) hown ⟨b,o,none⟩ j c2 news (by rw [cT];exact hx) hl (fun i u hu=>by rw [Addr.add_mid];exact hr i u hu) h1 (by unfold maxLen;omega) hby hB ?_⟩;intro v' w' hown' hg _;obtain ⟨A',cap',rfl⟩:=fM hown';rw [fm];exact (k A' cap' w' hown' (by rw [←hobl];exact hg)).out
theorem kQ {a0:World} {A A2:Option Addr} {m j cap c2 e size by_:Nat} {z:Value} {xs news:List Value} (hq:gA P t=some (e,size,by_,z)) (hzs:z.cells.size=size) (hs0:0<size)
 (hs:ev n L s=.slice A m cap) (hown:w.ownsRow a0.heap.size e size (.slice A m cap) m xs) (hB:ai a0 w)
 (hx:ev n L x=.slice A2 j c2) (hl:news.length=j*size) (hsrc:0<j→∃ b o,A2=some ⟨b,o,none⟩∧w.rangeAt b o news) (hnil:A2=none→c2=0) (h1:∀ u∈news,u.oneCell'=true) (h63:m+j≤9223372036854775807) (hby:(m+j)*by_≤140737488355328)
 (k:∀ A' cap' w',w'.ownsRow a0.heap.size e size (.slice A' (m+j) cap') (m+j) (xs++news)→ai a0 w'→w.grownBy w' (A.map (·.block))→St P ops Q rest n ((d,.slice A' (m+j) cap')::L) w') :
 St P ops Q (⟨some d,.call { callee:=.builtin .append,args:=#[s,x],argTypes:=#[t,t] },ty,pos,after,none⟩::rest) n L w:=
 rb hq hzs hs0 hs hown hB.size hx hl hsrc hnil h1 h63 hby fun A' cap' w' ho hg=>k A' cap' w' ho (hB.grew hg (fun k' hk=>(hown.lt k' (by rw [←hk];cases A <;> rfl)).1)) hg
theorem tW {a0:World} {A:Option Addr} {m cap e by_ b:Nat} {z v:Value} {xs:List Value} (hq:gA P t=some (e,1,by_,z)) (hzs:z.cells.size=1)
 (hs:ev n L s=.slice A m cap) (hown:w.ownsRow a0.heap.size e 1 (.slice A m cap) m xs) (hB:ai a0 w)
 (hx:ev n L x=.slice (some ⟨b,0,none⟩) 1 1) (hb:Blk w b e #[v]) (h1:v.oneCell'=true) (h63:m+1≤9223372036854775807) (hby:(m+1)*by_≤140737488355328)
 (k:∀ A' cap' w',w'.ownsRow a0.heap.size e 1 (.slice A' (m+1) cap') (m+1) (xs++[v])→ai a0 w'→w.grownBy w' (A.map (·.block))→St P ops Q rest n ((d,.slice A' (m+1) cap')::L) w') :
 St P ops Q (⟨some d,.call { callee:=.builtin .append,args:=#[s,x],argTypes:=#[t,t] },ty,pos,after,none⟩::rest) n L w:=
 kQ hq hzs (by decide) hs hown hB hx rfl (fun _=>⟨b,0,rfl,fun i u hu=>by
  cases i with
  |zero=>simp at hu;subst hu;rw [hb.cell];rfl
  |succ i=>simp at hu⟩) (fun h=>by cases h) (by simpa using h1) h63 hby k
theorem fG {g i m cap e base:Nat} {xs:List Value} {v:Value} {y:Operand} (ht:dr P t=some 1) (hx:ev n L x=.pointer (some ⟨g,i,none⟩)) (hy:ev n L y=v) (h1:v.oneCell'=true)
 (ho:w.ownsRow base e 1 (.slice (some ⟨g,0,none⟩) m cap) m xs) (hi:i<m)
 (k:∀ w',dw g w w'→w'.ownsRow base e 1 (.slice (some ⟨g,0,none⟩) m cap) m (xs.set i v)→St P ops Q rest n L w'):St P ops Q (⟨none,.store t x y,ty,pos,after,none⟩::rest) n L w:=by
 have hlen:xs.length=m:=by simpa using ho.1
 have hc:w.cell? ⟨g,i,none⟩=some (xs[i]'(by omega)):=by rw [ho.cellAt i (by rw [Nat.mul_one];exact hi)];simp [hlen,hi]
 exact ks (kx ht hx hy h1 hc (ho.frozenAt i)) (k _ (dw.setCell w g i v) (ho.stored i v).1)
end
theorem du {w:World} {base e s n c:Nat} {A:Option Addr} {xs:List Value} (h:w.ownsRow base e s (.slice A n c) n xs) (hn:0<n):∃ g,A=some ⟨g,0,none⟩:=by
 rcases h.2 with ⟨_,h0⟩ | ⟨g,cap,cur,hv,_⟩
 ·omega
 ·simp only [Value.slice.injEq] at hv;exact ⟨g,hv.1⟩
theorem vX {α:Type} {f:α→Value} {w:World} {base e n:Nat} {v:Value} {l:List α} (h:w.ownsRow base e 1 v n (l.map f)):l.length=n:=by simpa using h.1
theorem gY {α:Type} {f:α→Value} {w:World} {base e g n c:Nat} {l:List α} (h:w.ownsRow base e 1 (.slice (some ⟨g,0,none⟩) n c) n (l.map f)) (i:Nat) (hi:i<l.length):w.cell? ⟨g,i,none⟩=some (f l[i]):=by
 rw [h.cellAt i (by rw [←vX h];omega)];simp [hi]
theorem eb {w w1 w2:World} {r:Option Nat} (h:w.grownBy w1 r) (k:w1.grownBy w2 r):w.grownBy w2 r:=
 ⟨k.os.trans h.os,k.tape.trans h.tape,k.output.trans h.output,Nat.le_trans h.size k.size,fun i hi hg=>(k.block i (Nat.lt_of_lt_of_le hi h.size) hg).trans (h.block i hi hg)⟩
theorem dw.grown {g:Nat} {w w':World} (h:dw g w w'):w.grownBy w' (some g):=⟨h.os,h.tape,h.output,by rw [h.size];exact Nat.le_refl _,fun k _ hk=>h.block k (fun e=>hk (by rw [e]))⟩
theorem ai.grown {w w':World} (h:ai w w') (r:Option Nat):w.grownBy w' r:=⟨h.os,h.tape,h.output,h.size,fun k hk _=>h.block k hk⟩
end Go.Proofs.YtkpooenofjdpmaaGreat
namespace Go.Proofs.YtkpooenofjdpmaaGreat
open Go.Proofs.Tryz (prog)
open Go.RowKit
structure RV (P:Program) (n:Fr) (L:List (Nat×Value)) (w:World) (r:ResultVar) (v:Value):Prop where
 out:match r with
  | .tmp t=>(mkT n.n L)[t]?.getD undef=v
  | .cell a t=>∃ ad,(mkT n.n L)[a]?.getD undef=.pointer (some ad)∧(loadVar t ad).run P w=.ok v w
section
variable {P:Program} {n:Fr} {L:List (Nat×Value)} {w:World} {fn:Func}
theorem wX {t:Nat} {v:Value} (h:ev n L (.tmp t)=v):(mkT n.n L)[t]?.getD undef=v:=by
 have:=jw n.n L t;rw [←Array.getD_eq_getD_getElem?,this];exact h
theorem iI {t:Nat} {v:Value} (h:ev n L (.tmp t)=v):RV P n L w (.tmp t) v:=⟨wX h⟩
theorem eP {t ty b off:Nat} {cs:List Value} (ht:iJ P ty=some true) (hs:dr P ty=some cs.length) (hx:ev n L (.tmp t)=.pointer (some ⟨b,off,none⟩)) (hc:w.rangeAt b off cs):RV P n L w (.cell t ty) (.agg cs.toArray):=⟨_,wX hx,by
 have hl:(loadCells ⟨b,off,none⟩ cs.length).run P w=.ok cs.toArray w:=
  run_loadCells_list (P:=P) w ⟨b,off,none⟩ cs (fun j v hv=>by rw [Addr.add_mid];exact hc j v hv)
 simp [loadVar,mS ht,eS hs,hl]⟩
theorem fg {ρ:Operand→Value} {op:Op} {w':World} {v v':Value} (h:RO P ρ op w v w') (he:v=v'):RO P ρ op w v' w':=he ▸ h
theorem dX {ρ:Operand→Value} {op:Op} {w':World} {b:Bool} (h:RO P ρ op w (.bool b) w') (he:b=true):RO P ρ op w (.bool true) w':=he ▸ h
theorem bL {ρ:Operand→Value} {op:Op} {w':World} {b:Bool} (h:RO P ρ op w (.bool b) w') (he:b=false):RO P ρ op w (.bool false) w':=he ▸ h
theorem kT {ρ:Operand→Value} {x y:Operand} {k:IntKind} {a b:Int} {ats:Array TypeId} (hx:ρ x=.int k a) (hy:ρ y=.int k b):RO P ρ (.call { callee:=.builtin .min,args:=#[x,y],argTypes:=ats }) w (.int k (min a b)) w:=fun _ _ _ _ _=>by
 have h:(if b<a then b else a)=min a b:=by split <;> omega
 simp [BigFrame.execOp_builtin,BigFrame.builtin_min,hx,hy,run_min_int2,h]
theorem uh {ρ:Operand→Value} {x y:Operand} {k:IntKind} {a b:Int} {ats:Array TypeId} (hx:ρ x=.int k a) (hy:ρ y=.int k b):RO P ρ (.call { callee:=.builtin .max,args:=#[x,y],argTypes:=ats }) w (.int k (max a b)) w:=fun _ _ _ _ _=>by
 have h:(if a<b then b else a)=max a b:=by split <;> omega
 simp [BigFrame.execOp_builtin,BigFrame.builtin_max,hx,hy,run_max_int2,h]
def fK (A:Option Addr) (c l sz:Nat):Option Addr:=if c=l then A else A.map fun x=>x.add (l*sz)
theorem ep {ρ:Operand→Value} {x:Operand} {t e sz l h m c:Nat} {A:Option Addr} (ht:e_ P t=some (e,sz)) {lo hi:Option Operand} (hx:ρ x=.slice A m c)
 (hl:(lo=none∧l=0)∨∃ y k i,lo=some y∧ρ y=.int k i∧i=(l:Int)) (hh:(hi=none∧h=m)∨∃ y k i,hi=some y∧ρ y=.int k i∧i=(h:Int)) (h1:l≤h) (h2:h≤c) :
 RO P ρ (.slice t x lo hi none) w (.slice (fK A c l sz) (h-l) (c-l)) w:=fun _ _ _ _ _=>by
 obtain ⟨hu,hs⟩:=jR ht;have hE:P.elem t=e:=by simp [Program.elem,hu]
 have hu':P.underlying t=some (.slice (P.elem t)):=by rw [hE];exact hu
 have fin:(Result.ok (sliced A l h c sz) w:Result Value)=.ok (.slice (fK A c l sz) (h-l) (c-l)) w:=by
  simp only [sliced,fK]
 rcases hl with ⟨rfl,rfl⟩ | ⟨y1,k1,_,rfl,hy1,rfl⟩ <;> rcases hh with ⟨rfl,rfl⟩ | ⟨y2,k2,_,rfl,hy2,rfl⟩
 ·simp only [execOp,hx,Option.map_none,Sem.run_bind];rw [run_sliceAt_slice w t _ _ _ _ hu',run_slice_all w t _ _ c hu',hE,eS hs,Result.andThen_ok,fin];rfl
 ·simp only [execOp,hx,hy2,Option.map_none,Option.map_some,Sem.run_bind];rw [run_sliceAt_slice w t _ _ _ _ hu',run_slice_h w t _ m c hu' k2 (h:Int) (by omega) (by omega),hE,eS hs,Result.andThen_ok,Int.toNat_natCast,fin];rfl
 ·simp only [execOp,hx,hy1,Option.map_none,Option.map_some,Sem.run_bind];rw [run_sliceAt_slice w t _ _ _ _ hu',run_slice_l w t _ _ c hu' k1 (l:Int) (by omega) (by omega),hE,eS hs,Result.andThen_ok,Int.toNat_natCast,fin];rfl
 ·simp only [execOp,hx,hy1,hy2,Option.map_none,Option.map_some,Sem.run_bind];rw [run_sliceAt_slice w t _ _ _ _ hu',run_slice_lh w t _ m c hu' k1 k2 (l:Int) (h:Int) (by omega) (by omega) (by omega),hE,eS hs,Result.andThen_ok,Int.toNat_natCast,Int.toNat_natCast,fin];rfl
theorem sw {m:Nat} {r:ResultVar} {R:Value→World→Prop} {v:Value} (hr:fn.results=#[r]) (h1:RV P ⟨m,[]⟩ L w r v) (h:R v w) :
 bodyPost P fn (fun e w'=>∃ v,e=.returned v∧R v w') .ret (mkA ⟨m,[]⟩ L) w:=by
 refine bodyPost_ret (v:=v) ?_ rfl ⟨v,rfl,h⟩;have e1:=h1.out;show (results fn (mkT m L)).run P w=_;cases r <;> simp_all only [] <;> (try obtain ⟨_,_,_⟩:=e1) <;> simp_all [results,asAddr]
theorem nO {m:Nat} {r r':ResultVar} {R:Value→World→Prop} {v v':Value} (hr:fn.results=#[r,r']) (h1:RV P ⟨m,[]⟩ L w r v) (h2:RV P ⟨m,[]⟩ L w r' v') (h:R (.tuple #[v,v']) w) :
 bodyPost P fn (fun e w'=>∃ v,e=.returned v∧R v w') .ret (mkA ⟨m,[]⟩ L) w:=by
 refine bodyPost_ret (v:=.tuple #[v,v']) ?_ rfl ⟨_,rfl,h⟩;have e1:=h1.out;have e2:=h2.out;show (results fn (mkT m L)).run P w=_;cases r <;> cases r' <;> simp_all only [] <;> (try obtain ⟨_,_,_⟩:=e1) <;> (try obtain ⟨_,_,_⟩:=e2) <;> simp_all [results,asAddr]
theorem wR {m:Nat} {r r' r'':ResultVar} {R:Value→World→Prop} {v v' v'':Value} (hr:fn.results=#[r,r',r'']) (h1:RV P ⟨m,[]⟩ L w r v) (h2:RV P ⟨m,[]⟩ L w r' v') (h3:RV P ⟨m,[]⟩ L w r'' v'') (h:R (.tuple #[v,v',v'']) w) :
 bodyPost P fn (fun e w'=>∃ v,e=.returned v∧R v w') .ret (mkA ⟨m,[]⟩ L) w:=by
 refine bodyPost_ret (v:=.tuple #[v,v',v'']) ?_ rfl ⟨_,rfl,h⟩;have e1:=h1.out;have e2:=h2.out;have e3:=h3.out;show (results fn (mkT m L)).run P w=_;cases r <;> cases r' <;> cases r'' <;> simp_all only [] <;> (try obtain ⟨_,_,_⟩:=e1) <;> (try obtain ⟨_,_,_⟩:=e2) <;> (try obtain ⟨_,_,_⟩:=e3) <;> simp_all [results,asAddr]
end
end Go.Proofs.YtkpooenofjdpmaaGreat
namespace Go.Proofs.YtkpooenofjdpmaaGreat
open Go.Proofs.Tryz (prog)
open Go.ChangeShapes Go.WideShapes Go.ChangeAt Go.RowKit
theorem Tryz.own:ownKnob prog.godebug=none:=by kernel_rfl
theorem Tryz.laidOut:laidOutB prog=true:=by kernel_rfl
section
variable {H:Type} {enc:TypeId×Value→H} {P:Program}
theorem nu {f:Func} {s:ChangeSpec} {apart fresh handsOn again:Bool} {W W':World} {args:Array Value} {v:Value} {ds gs:List (DataW H)} {before pa pv:List MemPlace}
 (hW:DataW.Whole enc P f.params.toList s.vars apart W args.toList ds gs before)
 (hres:∀ (b:Nat) (sp:Nat→Bool) (hd:Bool),DataW.TrodAll enc P W' b sp hd f.resultTypes.toList (v.resultList f.resultTypes.size) (s.fn H (ds++gs)).results [])
 (hargs:∀ sp:Nat→Bool,(∀ p∈before,sp p.block=true)→DataW.TrodAll enc P W' 0 sp true f.params.toList args.toList (s.fn H (ds++gs)).args pa)
 (hvars:∀ sp:Nat→Bool,(∀ p∈before,sp p.block=true)→DataW.TrodVars enc P W' sp s.vars (s.fn H (ds++gs)).vars pv)
 (hps:before=pa++pv) (hb:Below W.heap.size W W')
 (hok:∀ (j:Nat) (t:TypeId) (r:Value),f.resultTypes[j]? =some t→(v.resultList f.resultTypes.size)[j]? =some r→Value.okWide P W' .any 0 t r) :
 s.post enc P f apart fresh handsOn again W args v W':=by
 have hlt:∀ p∈before,p.block<W.heap.size:=fun p hp=>hW.lt p hp
 have hold:∀ p∈before,(fun b=>decide (b<W.heap.size)) p.block=true:=fun p hp=>by simpa using hlt p hp
 refine ⟨ds,gs,before,[],pa,pv,hW,hres _ _ _,hargs _ hold,hvars _ hold,World.keptBut_mono (fun p hp=>⟨hp,?_⟩) (hb.frame (·∈before)),fun _=>?_⟩
 ·rw [hps,List.mem_append] at hp;exact Or.inr hp
 ·obtain ⟨_,_,_,_,_,hz,hn⟩:=hW;refine ⟨hok,_,_,([]++pa)++pv,⟨[]++pa,pv,trodAll_append (hargs _ (fun _ _=>rfl)) (hres _ _ _),hvars _ (fun _ _=>rfl),rfl,?_,?_⟩,?_⟩
  ·intro b off hp;have hin:MemPlace.cell b off∈before:=by rw [hps];simpa using hp
   rw [hb.frozen (hlt _ hin)];exact hz b off hin
  ·intro ha;have:=hn ha;rw [hps] at this;simpa using this
  ·intro p hp _;rw [hps];simpa using hp
end
theorem uO {H:Type} {enc:TypeId×Value→H} (F:FuncId) (f:Func) (T Tb:TypeId) (s:ChangeSpec) (hp:f.params=#[T]) (hr:f.resultTypes=#[Tb]) (hTb:prog.underlying Tb=some .bool)
 (hvars:s.vars=[]) (hfn:∀ d:DataW H,s.fn H [d]={ results:=[.lit (.bool true)],args:=[d] }) (hrec:prog.readableRec T=true) (hrow:T<prog.types.size)
 (walk:∀ (W:World) (base:Nat) (v:Value) (d:DataW H) (p:List MemPlace),Value.okWide prog W .any base T v→DataW.Trod enc prog W 0 (fun _=>true) true T v d p→(∀ n∈d.weights prog T,n≤140737488351232)→
  Calls prog F #[v] W fun e W'=>e=.returned (.bool true)∧ai W W')
 (W:World) (base:Nat) (args:Array Value) (ds gs:List (DataW H)) (before:List MemPlace)
 (hval0:∀ (j:Nat) t v,f.params[j]? =some t→args[j]? =some v→Value.okWide prog W .any base t v)
 (hW:DataW.Whole enc prog f.params.toList s.vars false W args.toList ds gs before)
 (hsz:(DataW.weightsEach prog (f.params.toList++s.plain.varTypes prog) (ds++gs)).all (·≤reachBytes)=true) :
 Calls prog F args W fun e W'=>∃ v,e=.returned v∧s.post enc prog f false true false false W args v W':=by
 have hlt:∀ x∈before,x.block<W.heap.size:=fun x hx=>hW.lt x hx
 have hW':=hW;obtain ⟨p,q,hA,hV,rfl,hfz,hnd⟩:=hW;rw [hp] at hA hval0 hsz;rw [hvars] at hV;obtain ⟨v0,d0,rfl,rfl,h0⟩:=trodAll_one hA;obtain ⟨rfl,rfl⟩:=trodVars_none hV;simp only [List.append_nil] at hW' hlt;refine (walk W base v0 d0 p (hval0 0 T v0 rfl rfl) h0 (fun n hn=>Nat.le_trans (by simpa using List.all_eq_true.1 hsz n (DataW.weights_mem_each (j:=0) (t:=T) (d:=d0) rfl rfl n hn)) (show reachBytes≤140737488351232 by decide))).mono fun e W' ⟨he,hb⟩=>?_
 subst he;refine ⟨_,rfl,nu (pa:=p) (pv:=[]) hW' ?_ ?_ ?_ (by simp) hb ?_⟩
 ·intro b sp hd;rw [List.append_nil,hfn,hr];exact trodAll_mk1 (shut_bool hTb _)
 ·intro sp hsp;rw [List.append_nil,hfn,hp];exact trodAll_mk1 (WideElems.Trod_stays Tryz.laidOut hrec hrow h0 (fun x hx=>hb.same (hlt x hx)) hsp)
 ·intro sp hsp;rw [List.append_nil,hfn,hvars];simp [DataW.TrodVars]
 ·exact ok_one hr rfl (okWide_bool_mk hTb _)
end Go.Proofs.YtkpooenofjdpmaaGreat
namespace Go.Proofs.YtkpooenofjdpmaaGreat
open Go.Proofs.Tryz (prog)
open Go.ChangeShapes Go.WideShapes Go.ChangeAt Go.RowKit
inductive Ty where
 |int (k:IntKind) | bool | str | sl (t:Ty) | pr (t u:Ty) | unit
def Ty.den:Ty→Type
 | .int _=>Int | .bool=>Bool | .str=>ByteArray | .sl t=>List t.den | .pr t u=>t.den×u.den | .unit=>Unit
def Ty.size:Ty→Nat
 | .pr t u=>t.size+u.size | .unit=>0 | _=>1
def Ty.bytes:Ty→Nat
 | .int .i8 | .int .u8 | .bool=>1 | .int .i16 | .int .u16=>2 | .int .i32 | .int .u32=>4 | .int _=>8 | .str=>16 | .sl _=>24 | .pr t u=>t.bytes+u.bytes | .unit=>0
def Ty.fits (P:Program):Ty→TypeId ⊕ (List Field×Nat)→Bool
 | .int k,.inl T=>match P.underlying T with | some (.int k')=>decide (k'=k) | _=>false
 | .bool,.inl T=>match P.underlying T with | some .bool=>true | _=>false
 | .str,.inl T=>match P.underlying T with | some .string=>true | _=>false
 | .sl t,.inl T=>match P.underlying T with | some (.slice e)=>t.fits P (.inl e)&&P.cellsOf e==t.size&&decide (0<t.size)&&decide (t.bytes≤P.bytesOf e) | _=>false
 | .pr t u,.inl T=>match P.underlying T with
  |some (.struct fs)=>match fs.toList with
   |f::r=>f.offset==0&&P.cellsOf f.type==t.size&&t.fits P (.inl f.type)&&u.fits P (.inr (r,t.size))&&P.cellsOf T==t.size+u.size
   |[]=>false
  |_=>false
 | .pr t u,.inr (f::r,o)=>f.offset==o&&P.cellsOf f.type==t.size&&t.fits P (.inl f.type)&&u.fits P (.inr (r,o+t.size))
 | .unit,.inr _=>true
 |_,_=>false
def Ty.At (w:World):(t:Ty)→(Nat→Option Value)→t.den→Prop
 | .int k,c,n=>c 0=some (.int k n)∧(Lit.int k n).wf=true
 | .bool,c,b=>c 0=some (.bool b)
 | .str,c,s=>c 0=some (.string s)∧ByteArray.size s≤140737488351232
 | .sl t,c,xs=>∃ (A:Option Addr) (cap:Nat),c 0=some (.slice A (List.length xs) cap)∧List.length xs*t.bytes≤140737488351232∧(List.length xs≤cap∧cap≤9223372036854775807∧(A=none→cap=0))∧
  (0<List.length xs→∃ b o,A=some ⟨b,o,none⟩∧b<w.heap.size∧∀ (i:Nat) (x:t.den),@getElem? (List t.den) Nat t.den _ _ xs i=some x→Ty.At w t (fun j=>w.cell? ⟨b,o+i*t.size+j,none⟩) x)
 | .pr t u,c,x=>Ty.At w t c x.1∧Ty.At w u (fun j=>c (t.size+j)) x.2
 | .unit,_,_=>True
theorem Ty.At.congr {w:World}:∀ (t:Ty) {c c':Nat→Option Value} {x:t.den},(∀ j,j<t.size→c' j=c j)→t.At w c x→t.At w c' x
 | .int k,c,c',n,hc,h=>⟨(hc 0 (by simp [Ty.size])).trans h.1,h.2⟩
 | .bool,c,c',n,hc,h=>(hc 0 (by simp [Ty.size])).trans h
 | .str,c,c',n,hc,h=>⟨(hc 0 (by simp [Ty.size])).trans h.1,h.2⟩
 | .sl t,c,c',n,hc,h=>by
  obtain ⟨A,cap,h0,r⟩:=h;exact ⟨A,cap,(hc 0 (by simp [Ty.size])).trans h0,r⟩
 | .pr t u,c,c',x,hc,h=>⟨Ty.At.congr t (fun j hj=>hc j (by simp only [Ty.size];omega)) h.1,Ty.At.congr u (fun j hj=>hc _ (by simp only [Ty.size];omega)) h.2⟩
 | .unit,_,_,_,_,_=>trivial
theorem rC {w:World} {a:Addr} {v:Value} (h:w.cell? a=some v):a.block<w.heap.size:=by
 rcases Nat.lt_or_ge a.block w.heap.size with hlt | hge
 ·exact hlt
 ·unfold World.cell? at h;rw [Array.getElem?_eq_none hge] at h;cases h
section
variable {H:Type} {enc:TypeId×Value→H} {P:Program} {w:World} {base:Nat} {spare:Nat→Bool} {held:Bool}
theorem pV {α:Type} {n:Nat} {p:Nat→α→Prop} (h:∀ i,i<n→∃ x,p i x):∃ xs:List α,xs.length=n∧∀ i x,xs[i]? =some x→p i x:=by
 induction n with
 |zero=>exact ⟨[],rfl,fun i x hx=>by simp at hx⟩
 |succ n ih=>
  obtain ⟨xs,hl,hx⟩:=ih fun i hi=>h i (by omega)
  obtain ⟨x,hp⟩:=h n (by omega);refine ⟨xs++[x],by simp [hl],fun i y hy=>?_⟩;rcases Nat.lt_or_ge i xs.length with hlt | hge
  ·rw [List.getElem?_append_left hlt] at hy;exact hx i y hy
  ·rw [List.getElem?_append_right hge] at hy
   have h0:i-xs.length=0:=by
    rcases Nat.eq_zero_or_pos (i-xs.length) with h0 | h0
    ·exact h0
    ·rw [List.getElem?_eq_none (by simp;omega)] at hy;cases hy
   rw [h0] at hy;simp at hy;subst hy;obtain rfl:i=n:=by omega
   exact hp
theorem lr {H:Type} {P:Program} {e:TypeId}:∀ (l:List (DataW H)) (d:DataW H),d∈l→∀ q∈d.weights P e,q∈DataW.weightsAll P e l
 |x::r,d,h,q,hq=>by
  simp only [DataW.weightsAll,List.mem_append];rcases List.mem_cons.1 h with rfl | h
  ·exact .inl hq
  ·exact .inr (lr r d h q hq)
theorem Ty.of_trod:∀ (t:Ty),
 (∀ (T:TypeId),t.fits P (.inl T)=true→∀ (fuel:Nat) (cs:List Value) (y:DataW H×List MemPlace),DataW.trod enc P w base spare held fuel T cs=some y→(∀ n∈y.1.weights P T,n≤140737488351232)→∃ x,t.At w (fun j=>cs[j]?) x)∧
 (∀ (fs:List Field) (o:Nat),t.fits P (.inr (fs,o))=true→∀ (cs:List Value),cs.length=o+t.size→(∀ (j:Nat) (f:Field),fs[j]? =some f→∃ (fuel:Nat) (y:DataW H×List MemPlace),DataW.trod enc P w base spare held fuel f.type ((cs.drop f.offset).take (P.cellsOf f.type))=some y∧∀ n∈y.1.weights P f.type,n≤140737488351232)→
  ∃ x,t.At w (fun j=>cs[o+j]?) x)
 | .int k=>by
  refine ⟨fun T hf fuel cs y h hsz=>?_,fun fs o hf=>by simp [Ty.fits] at hf⟩;simp only [Ty.fits] at hf;split at hf
  ·rename_i k' hu;obtain rfl:k'=k:=by simpa using hf
   obtain ⟨n,rfl,_,hn⟩:=DataW.trod_int hu h;exact ⟨n,rfl,hn⟩
  ·cases hf
 | .bool=>by
  refine ⟨fun T hf fuel cs y h hsz=>?_,fun fs o hf=>by simp [Ty.fits] at hf⟩;simp only [Ty.fits] at hf;split at hf
  ·rename_i hu;obtain ⟨n,rfl,_⟩:=DataW.trod_bool hu h;exact ⟨n,rfl⟩
  ·cases hf
 | .str=>by
  refine ⟨fun T hf fuel cs y h hsz=>?_,fun fs o hf=>by simp [Ty.fits] at hf⟩;simp only [Ty.fits] at hf;split at hf
  ·rename_i hu;obtain ⟨n,rfl,rfl,hn⟩:=DataW.trod_string hu h;exact ⟨n,rfl,by have:=hsz n.data.toList.length (by simp [DataW.weights]);simpa using this⟩
  ·cases hf
 | .sl t=>by
  refine ⟨fun T hf fuel cs y h hsz=>?_,fun fs o hf=>by simp [Ty.fits] at hf⟩;simp only [Ty.fits] at hf;split at hf
  ·rename_i e hu;simp only [Bool.and_eq_true,beq_iff_eq,decide_eq_true_eq] at hf;obtain ⟨⟨⟨hft,hC⟩,hpos⟩,hby⟩:=hf;rcases Go.Deep.open_slice hu h with ⟨rfl,_⟩ | ⟨a,len,cap,m,n,D,Pl,rfl,hb,hl,hm,hmm,rfl,hi⟩
   ·exact ⟨[],none,0,rfl,by simp,by simp,fun h0=>absurd h0 (by simp)⟩
   ·have hlm:len≤m:=by rw [hmm];split <;> omega
    have key:∀ i,i<len→∃ x,t.At w (fun j=>w.cell? ((a.add (i*t.size)).add j)) x:=by
     intro i hil;obtain ⟨cs',hc,ht'⟩:=hi i (by omega);obtain ⟨_,hcl,hat⟩:=World.cells?_some hc
     obtain ⟨x,hx⟩:=(Ty.of_trod t).1 e hft n cs' _ ht' (fun q hq=>hsz q (by
      simp only [DataW.weights,hu,List.mem_cons,List.mem_append];exact .inr (.inl (lr ((List.range len).map D) (D i) (List.mem_map.2 ⟨i,List.mem_range.2 hil,rfl⟩) q hq))))
     rw [hC] at hat hcl;exact ⟨x,Ty.At.congr t (fun j hj=>hat j hj) hx⟩
    obtain ⟨xs,hxl,hxs⟩:=pV key;have hwt:=hsz ((((List.range len).map D).length+((List.range (m-len)).map fun j=>D (len+j)).length)*P.bytesOf e) (by simp [DataW.weights,hu])
    have hwt2:len*t.bytes≤140737488351232:=by
     refine Nat.le_trans (Nat.mul_le_mul ?_ hby) hwt;simp
    unfold maxLen at hm;refine ⟨xs,some a,cap,by rw [hxl];rfl,by rw [hxl];exact hwt2,⟨by omega,by omega,fun hn=>by cases hn⟩,fun h0=>?_⟩
    have hc0:∃ v,w.cell? (a.add 0)=some v:=by
     obtain ⟨cs',hc,_⟩:=hi 0 (by omega);obtain ⟨_,hcl,hat⟩:=World.cells?_some hc;have h1:=hat 0 (by omega);rw [Go.Deep.add_add] at h1;simp only [Nat.zero_mul,Nat.add_zero] at h1;exact ⟨cs'[0]'(by omega),by rw [h1,List.getElem?_eq_getElem (by omega)]⟩
    obtain ⟨v,hv⟩:=hc0;obtain ⟨b,o,spot⟩:=a;have hspot:spot=none:=by simpa [Addr.add] using World.cell?_spot hv
    subst hspot;have hblt:b<w.heap.size:=by simpa [Addr.add] using rC hv
    refine ⟨b,o,rfl,hblt,fun i x hx=>?_⟩;refine Ty.At.congr t (fun j hj=>?_) (hxs i x hx);rw [Go.Deep.add_add,Go.WideShapes.add_plain,Nat.add_assoc]
  ·cases hf
 | .pr t u=>by
  have main:∀ (f:Field) (r:List Field) (o:Nat),(f.offset==o&&P.cellsOf f.type==t.size&&t.fits P (.inl f.type)&&u.fits P (.inr (r,o+t.size)))=true→∀ (cs:List Value),cs.length=o+(t.size+u.size)→
   (∀ (j:Nat) (g:Field),(f::r)[j]? =some g→∃ (fuel:Nat) (y:DataW H×List MemPlace),DataW.trod enc P w base spare held fuel g.type ((cs.drop g.offset).take (P.cellsOf g.type))=some y∧∀ n∈y.1.weights P g.type,n≤140737488351232)→
   ∃ x,Ty.At w (.pr t u) (fun j=>cs[o+j]?) x:=by
   intro f r o hf cs hcs hall;simp only [Bool.and_eq_true,beq_iff_eq] at hf;obtain ⟨⟨⟨ho,hc⟩,ht⟩,hu⟩:=hf;obtain ⟨fuel,y,hy,hyw⟩:=hall 0 f rfl;obtain ⟨x1,h1⟩:=(Ty.of_trod t).1 _ ht _ _ _ hy hyw;obtain ⟨x2,h2⟩:=(Ty.of_trod u).2 r (o+t.size) hu cs (by omega) (fun j g hg=>hall (j+1) g (by simpa using hg));refine ⟨(x1,x2),Ty.At.congr t (fun j hj=>?_) h1,Ty.At.congr u (fun j hj=>?_) h2⟩
   ·simp only [hc,ho];rw [List.getElem?_take,if_pos hj,List.getElem?_drop]
   ·simp only [Nat.add_assoc]
  refine ⟨fun T hf fuel cs y h hsz=>?_,fun fs o hf cs hcs hall=>?_⟩
  ·simp only [Ty.fits] at hf;split at hf
   ·rename_i fs hu;split at hf
    ·rename_i f r hfs;simp only [Bool.and_eq_true,beq_iff_eq] at hf;obtain ⟨⟨⟨⟨ho,hc⟩,ht⟩,hu'⟩,hsz⟩:=hf;obtain ⟨ys,n',_,rfl,hlen,_,hall⟩:=DataW.trod_struct hu h
     have hm:=main f r 0 (by simp [ho,hc,ht,hu']) cs (by omega) (fun j g hg=>by
      have hg':fs[j]? =some g:=by rw [←hfs] at hg;simpa using hg
      have:=hall j g hg'
      have hjl:j<ys.length:=by
       have:j<fs.size:=(Array.getElem?_eq_some_iff.1 hg').1;omega
      refine ⟨n',ys[j],by rw [hall j g hg',List.getElem?_eq_getElem hjl],fun q hq=>hsz q ?_⟩;simp only [DataW.weights,hu];exact DataW.weights_mem_each (j:=j) (t:=g.type) (d:=ys[j].1) (by rw [List.getElem?_map,Array.getElem?_toList,hg'];rfl) (by rw [List.getElem?_map,List.getElem?_eq_getElem hjl];rfl) q hq)
     simpa using hm
    ·cases hf
   ·cases hf
  ·match fs,hf with
   |f::r,hf=>
    simp only [Ty.fits] at hf;exact main f r o hf cs (by simpa [Ty.size] using hcs) hall
   |[],hf=>simp [Ty.fits] at hf
 | .unit=>by
  refine ⟨fun T hf=>by simp [Ty.fits] at hf,fun fs o hf cs hcs hall=>⟨(),trivial⟩⟩
end
theorem yc {H:Type} {enc:TypeId×Value→H} {w:World} {base:Nat} {T:TypeId} {v:Value} {d:DataW H} {p:List MemPlace} (t u:Ty) (hf:(Ty.pr t u).fits prog (.inl T)=true)
 (hv:Value.okWide prog w .any base T v) (h:DataW.Trod enc prog w 0 (fun _=>true) true T v d p) (hsz:∀ n∈d.weights prog T,n≤140737488351232) :
 ∃ (cs:Array Value) (x:(Ty.pr t u).den),v=.agg cs∧cs.size=(Ty.pr t u).size∧(Ty.pr t u).At w (fun j=>cs[j]?) x:=by
 have hu:∃ fs,prog.underlying T=some (.struct fs)∧prog.cellsOf T=(Ty.pr t u).size:=by
  have hf':=hf;simp only [Ty.fits] at hf';split at hf'
  ·rename_i fs hu;split at hf'
   ·simp only [Bool.and_eq_true,beq_iff_eq] at hf';exact ⟨fs,hu,hf'.2⟩
   ·cases hf'
  ·cases hf'
 obtain ⟨fs,hu,hC⟩:=hu;obtain ⟨cs,rfl,hcs⟩:=okWide_struct hu hv;obtain ⟨fuel,hfu⟩:=h;obtain ⟨x,hx⟩:=(Ty.of_trod (.pr t u)).1 T hf fuel _ _ hfu hsz;refine ⟨cs,x,rfl,hcs.trans hC,?_⟩;simpa [Value.cells] using hx
theorem wH {w:World} {k:IntKind} {c:Nat→Option Value} {xs:List Int} (h:(Ty.sl (.int k)).At w c xs) :
 ∃ (A:Option Addr) (cap:Nat),c 0=some (.slice A xs.length cap)∧Row w (.slice A xs.length cap) (xs.map fun x=>.int k x)∧(∀ x∈xs,(Lit.int k x).wf=true)∧xs.length*(Ty.int k).bytes≤140737488351232∧(xs.length≤cap∧cap≤9223372036854775807):=by
 obtain ⟨A,cap,h0,h1,h2,h3⟩:=h;refine ⟨A,cap,h0,⟨A,cap,by rw [List.length_map],fun hp=>?_⟩,?_,h1,⟨h2.1,h2.2.1⟩⟩
 ·obtain ⟨b,o,hA,hb,hi⟩:=h3 (by rw [List.length_map] at hp;exact hp);refine ⟨b,o,hA,hb,fun i u hu=>?_⟩;rw [List.getElem?_map] at hu;cases hx:xs[i]? with
  |none=>rw [hx] at hu;cases hu
  |some x=>
   rw [hx] at hu;simp only [Option.map_some,Option.some.injEq] at hu;subst hu;have:=(hi i x hx).1;simpa [Ty.size] using this
 ·intro x hx;obtain ⟨i,hi,rfl⟩:=List.mem_iff_getElem.1 hx;obtain ⟨b,o,hA,hb,hii⟩:=h3 (Nat.lt_of_le_of_lt (Nat.zero_le _) hi);exact (hii i _ (List.getElem?_eq_getElem hi)).2
end Go.Proofs.YtkpooenofjdpmaaGreat
namespace Go.Proofs.YtkpooenofjdpmaaGreat
open Go.Proofs.Tryz (prog)
open Go.RowKit Go.ChangeShapes Go.WideShapes Go.ChangeAt
end Go.Proofs.YtkpooenofjdpmaaGreat
namespace Go.Proofs.YtkpooenofjdpmaaGreat
open Go.Proofs.Tryz (prog)
open Go.RowKit Go.ChangeShapes Go.WideShapes Go.ChangeAt
end Go.Proofs.YtkpooenofjdpmaaGreat
namespace Go.Proofs.YtkpooenofjdpmaaGreat
open Go.Proofs.Tryz (prog)
open Go.RowKit
theorem fT:e_ prog 22=some (99,3):=by kernel_rfl
theorem iq:jq prog 24=some (.agg #[.int .i64 0,.int .i64 0,.slice none 0 0]):=by kernel_rfl
theorem cw:iJ prog 24=some true:=by kernel_rfl
theorem bD:dr prog 24=some 3:=by kernel_rfl
theorem lU:aN prog 116=true:=by kernel_rfl
theorem jm:prog.built 24 []=some #[.int .i64 0,.int .i64 0,.slice none 0 0]:=by kernel_rfl
theorem lT:aN prog 117=true:=by kernel_rfl
theorem bY:cd prog 24 0=some 0:=by kernel_rfl
theorem ak:iJ prog 3=some false:=by kernel_rfl
theorem aS:gA prog 26=some (3,1,8,(.int .i64 0)):=by kernel_rfl
theorem lS:aN prog 118=true:=by kernel_rfl
theorem lR:aN prog 119=true:=by kernel_rfl
theorem cV:cd prog 24 2=some 2:=by kernel_rfl
theorem cD:iJ prog 22=some false:=by kernel_rfl
theorem jl:aN prog 120=true:=by kernel_rfl
def jZ (B T:Int) (xs:List Ent) (i:Int):Int:=if cn B T xs=true then (if B+1≤i∧i≤min (cW B xs) 1099511625728 then 0 else 1) else 1
def y4 (w w':World) (i t:Int) (xs:List Ent) (c:Int) (L:Value):Prop:=
 (c≠0→L=sj)∧(c=0→∃ A cap,L=.agg #[.int .i64 i,.int .i64 t,.slice A xs.length cap]∧w'.ownsRow w.heap.size 99 3 (.slice A xs.length cap) xs.length (dV xs))
theorem cQ.restA {w:World} {A:Option Addr} {n cap:Nat} {xs:List Ent} (h:cQ w (.slice A n cap) xs) {k:Nat} (hk:k≤xs.length):cQ w (.slice (fK A cap k 3) (n-k) (cap-k)) (xs.drop k):=h.rest hk
theorem sR (lo hi x:Int) (g:Nat) (w:World) (hb:Blk w g 3 #[.int .i64 x]) :
 Rt prog 118 [.int .i64 lo,.int .i64 hi,.slice (some ⟨g,0,none⟩) 1 1] w fun v w'=>v=.bool (inb lo hi x)∧ai w w':=
 Rt.mono (Rt.of (mc lo hi x _ w (Row.blk hb 1))) fun _ _ ⟨h1,h2⟩=>⟨h1,h2 ▸ ai.rfl_⟩
theorem p1 (A:Option Addr) (n cap:Nat) (xs:List Ent) (w:World) (h:cQ w (.slice A n cap) xs) (hl:xs.length≤400000000000) :
 Rt prog 120 [.slice A n cap] w fun v w'=>∃ A' c',v=.slice A' xs.length c'∧w'.ownsRow w.heap.size 99 3 (.slice A' xs.length c') xs.length (dV xs)∧ai w w':=
 Calls.mono (n5 _ xs w h hl) fun e w' ⟨v',he,ho,hF⟩=>⟨v',he,by obtain ⟨A',c',rfl⟩:=fM ho;exact ⟨A',c',rfl,ho,hF⟩⟩
theorem uw {w w':World} {base g:Nat} {e n:Nat} {A:Option Addr} {c m:Nat} {xs:List Value} (h:w.ownsRow base e 3 (.slice A n c) m xs) (o:dw g w w') (hg:g<base):w'.ownsRow base e 3 (.slice A n c) m xs:=by
 refine ⟨h.1,?_⟩;rcases h.2 with h0 | ⟨b,cap,cur,h1,h2,h3,h4⟩
 ·exact .inl h0
 ·exact .inr ⟨b,cap,cur,h1,h2,(o.block b (by omega)).trans h3,h4⟩
theorem rN (B T i:Int) (v:Value) (xs:List Ent) (w:World) (h:cQ w v xs) :
 Rt prog 81 [.agg #[.int .i64 B,.int .i64 T,v],.int .i64 i] w (fun v w'=>∃ L,v=.tuple #[L,.int .i64 (jZ B T xs i)]∧y4 w w' i (dz B T xs i) (xs.drop (i-B).toNat) (jZ B T xs i) L∧ai w w'):=by
 obtain ⟨A,cap,rfl,hc1,hc2,hc3,-⟩:=id h;refine enter (n:=40) Tryz.func81 rfl rfl rfl (ao (ag (cj (v:=.agg _) rfl ?_)));intro b2 w1 E2 hb2 hk2;have hl2:=hk2.lt;refine dq iq ?_;intro b4 w2 E4 hb4 hk4;replace hk2:=hk2.from_ E4;refine asi rfl (aq (ah (ao (ao (ag (ab (aR (cs:=[_,_,_]) cw bD rfl (by first | (first | exact (hk2.from_ ai.rfl_).whole | exact (hk2.from_ ai.rfl_).rd 0 rfl | exact (hk2.from_ ai.rfl_).rd 1 rfl | exact (hk2.from_ ai.rfl_).rd 2 rfl))) ?_))))));refine aE lU (Rt.of (iT B T _ xs _ (h.from_ ((ai.rfl_.next E2).next E4)))) ?_;rintro v9 w3 ⟨rfl,E9⟩;refine ab (cz rfl rfl) (aq (ah (aO rfl (fun Q4=>?_) (fun Q4=>?_))))
 ·replace Q4:=et Q4;replace Q4:=ea Q4
  have hm:cn B T xs=false:=by
   cases hm:cn B T xs with
   |false=>rfl
   |true=>exact absurd (by unfold chk;rw [if_pos hm]) Q4
  refine ao (ag (ab (dt (l:=[]) (jm)) (cZ (vs:=[_,_,_]) bD rfl rfl (by simp [Value.oneCell']) (hk4.from_ (ai.rfl_.next E9)) rfl ?_)));intro w5 O2 P2;refine asi rfl (aq (ah (aG (aH (nO rfl (eP (cs:=[_,_,_]) cw bD rfl (by first | exact P2.whole | exact P5.whole | exact P6.whole | exact P14.whole)) (iI (v:=.int _ _) rfl) ?_)))));have hc:jZ B T xs i=1:=by unfold jZ;rw [hm];rfl
  exact ⟨_,congrArg (fun c=>Value.tuple #[_,.int .i64 c]) hc.symm,⟨fun _=>rfl,fun h0=>by rw [hc] at h0;cases h0⟩,((((ai.rfl_.next E2).next E4).next E9).only O2 (by rw [hb4];exact E2.size))⟩
 replace Q4:=eu Q4;replace Q4:=d_ Q4
 have hm:cn B T xs=true:=by
  cases hm:cn B T xs with
  |true=>rfl
  |false=>unfold chk at Q4;rw [hm] at Q4;cases Q4
 obtain ⟨hl,hB0,hB1,hx⟩:=gr hm;refine aI (ah (ao (ag (ab (aR (cs:=[_,_,_]) cw bD rfl (by first | (first | exact (hk2.from_ (ai.rfl_.next E9)).whole | exact (hk2.from_ (ai.rfl_.next E9)).rd 0 rfl | exact (hk2.from_ (ai.rfl_.next E9)).rd 1 rfl | exact (hk2.from_ (ai.rfl_.next E9)).rd 2 rfl))) ?_))));refine aE lT (Rt.of (h_ B T _ xs _ (h.from_ (((ai.rfl_.next E2).next E4).next E9)))) ?_;rintro v14 w6 ⟨rfl,E14⟩;refine mvt rfl (ab (aK rfl rfl) (ab (aK rfl rfl) (asi rfl (asi rfl (aq (ah (ao (ao (ag (ab (aa bY rfl) (ab (au ak rfl (by first | (first | exact (hk2.from_ ((ai.rfl_.next E9).next E14)).whole | exact (hk2.from_ ((ai.rfl_.next E9).next E14)).rd 0 rfl | exact (hk2.from_ ((ai.rfl_.next E9).next E14)).rd 1 rfl | exact (hk2.from_ ((ai.rfl_.next E9).next E14)).rd 2 rfl))) ?_)))))))))));refine ab (cl rfl rfl (by omega)) (mvi rfl (ab (kT rfl rfl) (mvi rfl (ej (v:=.int _ _) aS rfl rfl rfl ?_))));intro b23 w7 E23 hb23 hk23;refine aE lS (sR _ _ _ _ _ hk23) ?_;rintro v24 w8 ⟨rfl,E24⟩;refine ab (cE rfl) (aq (ah (yQ rfl (fun Q9=>?_) (fun Q9=>?_))))
 ·refine ao (ag (ab (dt (l:=[]) (jm)) (cZ (vs:=[_,_,_]) bD rfl rfl (by simp [Value.oneCell']) (hk4.from_ ((((ai.rfl_.next E9).next E14).next E23).next E24)) rfl ?_)));intro w10 O5 P5;refine asi rfl (aq (ah (aG (aH (nO rfl (eP (cs:=[_,_,_]) cw bD rfl (by first | exact P2.whole | exact P5.whole | exact P6.whole | exact P14.whole)) (iI (v:=.int _ _) rfl) ?_)))));have hc:jZ B T xs i=1:=by unfold jZ;rw [hm,hl,if_pos rfl,if_neg (fun h0=>by rw [eh (hl ▸ h0)] at Q9;cases Q9)]
  exact ⟨_,congrArg (fun c=>Value.tuple #[_,.int .i64 c]) hc.symm,⟨fun _=>rfl,fun h0=>by rw [hc] at h0;cases h0⟩,(((((((ai.rfl_.next E2).next E4).next E9).next E14).next E23).next E24).only O5 (by rw [hb4];exact E2.size))⟩
 have hin:=da Q9;rw [hl] at hin;refine aI (ah (ao ?_));apply vi 13 [(27,eqp _),(28,eqp _),(29,eqp _),(30,eqp _),(31,eqp _),(32,eqp _),(33,eqp _),(34,eqp _),(35,eqp _),(36,eqp _),(37,eqp _),(38,fun v w'=>∃ A5 c5,v=.slice A5 (xs.drop (i-B).toNat).length c5∧w'.ownsRow (b4+1) 99 3 (.slice A5 (xs.drop (i-B).toNat).length c5) (xs.drop (i-B).toNat).length (dV (xs.drop (i-B).toNat))),(39,fun v w'=>∃ A5 c5,v=.agg #[.int .i64 i,.int .i64 (dz B T xs i),.slice A5 (xs.drop (i-B).toNat).length c5]∧w'.ownsRow (b4+1) 99 3 (.slice A5 (xs.drop (i-B).toNat).length c5) (xs.drop (i-B).toNat).length (dV (xs.drop (i-B).toNat)))] (by kernel_rfl) (by kernel_rfl) ⟨ae _,ae _,ae _,ae _,ae _,ae _,ae _,ae _,ae _,ae _,ae _,(fun v w1 w2 hF ⟨A5,c5,h1,h2⟩=>⟨A5,c5,h1,h2.kept_from hF⟩),(fun v w1 w2 hF ⟨A5,c5,h1,h2⟩=>⟨A5,c5,h1,h2.kept_from hF⟩),trivial⟩
 case hop=>
  constructor
  ·intro w12 D12;exact an (aC (v:=.int _ _) rfl) rfl
  constructor
  ·intro w13 D13;exact an (aR (cs:=[_,_,_]) cw bD rfl (by first | (first | exact (hk2.from_ (((((ai.rfl_.next E9).next E14).next E23).next E24).next D13)).whole | exact (hk2.from_ (((((ai.rfl_.next E9).next E14).next E23).next E24).next D13)).rd 0 rfl | exact (hk2.from_ (((((ai.rfl_.next E9).next E14).next E23).next E24).next D13)).rd 1 rfl | exact (hk2.from_ (((((ai.rfl_.next E9).next E14).next E23).next E24).next D13)).rd 2 rfl))) rfl
  constructor
  ·intro w14 D14;exact an (aC (v:=.int _ _) rfl) rfl
  constructor
  ·intro w15 D15;rintro _ rfl _ rfl;refine iC lR ((Rt.of (mj B T i _ xs _ (h.from_ (((((((ai.rfl_.next E2).next E4).next E9).next E14).next E23).next E24).next D15)) hB0 (by omega) (by omega) (by omega) (by omega))).mono ?_);rintro v _ ⟨rfl,E15'⟩;exact ⟨E15',rfl⟩
  constructor
  ·intro w16 D16;exact an (aa cV rfl) rfl
  constructor
  ·intro w17 D17;rintro _ rfl;exact an (au cD rfl (by first | (first | exact (hk2.from_ (((((ai.rfl_.next E9).next E14).next E23).next E24).next D17)).whole | exact (hk2.from_ (((((ai.rfl_.next E9).next E14).next E23).next E24).next D17)).rd 0 rfl | exact (hk2.from_ (((((ai.rfl_.next E9).next E14).next E23).next E24).next D17)).rd 1 rfl | exact (hk2.from_ (((((ai.rfl_.next E9).next E14).next E23).next E24).next D17)).rd 2 rfl))) rfl
  constructor
  ·intro w18 D18;exact an (aC (v:=.int _ _) rfl) rfl
  constructor
  ·intro w19 D19;exact an (aa bY rfl) rfl
  constructor
  ·intro w20 D20;rintro _ rfl;exact an (au ak rfl (by first | (first | exact (hk2.from_ (((((ai.rfl_.next E9).next E14).next E23).next E24).next D20)).whole | exact (hk2.from_ (((((ai.rfl_.next E9).next E14).next E23).next E24).next D20)).rd 0 rfl | exact (hk2.from_ (((((ai.rfl_.next E9).next E14).next E23).next E24).next D20)).rd 1 rfl | exact (hk2.from_ (((((ai.rfl_.next E9).next E14).next E23).next E24).next D20)).rd 2 rfl))) rfl
  constructor
  ·intro w21 D21;rintro _ rfl _ rfl;exact an (dk rfl rfl (by omega)) rfl
  constructor
  ·intro w22 D22;rintro _ rfl _ rfl;exact an (ep (l:=(i-B).toNat) fT rfl (.inr ⟨_,_,_,rfl,rfl,(by omega)⟩) (.inl ⟨rfl,rfl⟩) (by omega) (by omega)) rfl
  constructor
  ·intro w23 D23;rintro _ rfl;refine iC jl ((p1 _ _ _ _ _ ((h.from_ (((((((ai.rfl_.next E2).next E4).next E9).next E14).next E23).next E24).next D23)).restA (k:=(i-B).toNat) (by omega)) (by rw [List.length_drop];omega)).mono ?_);rintro v _ ⟨A5,c5,rfl,ho5,F5⟩;exact ⟨F5,A5,c5,rfl,fD ho5 (by have:=(((((ai.rfl_.next E9).next E14).next E23).next E24).next D23).size;have:=hk4.lt;omega)⟩
  constructor
  ·intro w24 D24;rintro _ rfl _ rfl v24_38 ⟨A24,c24,rfl,ho24⟩;exact an (v:=.agg #[.int .i64 i,.int .i64 (dz B T xs i),.slice A24 (xs.drop (i-B).toNat).length c24]) (dt (by kernel_rfl)) ⟨A24,c24,rfl,ho24⟩
  exact trivial
 case hend=>
  intro w25 D25;rintro _ rfl _ rfl _ rfl _ rfl _ rfl _ rfl _ rfl _ rfl _ rfl _ rfl _ rfl v38 ⟨A25,c25,rfl,ho25⟩ v39 ⟨B25,d25,rfl,hp25⟩;show St ..;have hP:=hp25;refine cZ (vs:=[_,_,_]) bD rfl rfl (by simp [Value.oneCell']) (hk4.from_ (((((ai.rfl_.next E9).next E14).next E23).next E24).next D25)) rfl ?_;intro w26 O6 P6;refine asi rfl (aq (ah (aG (nO rfl (eP (cs:=[_,_,_]) cw bD rfl (by first | exact P2.whole | exact P5.whole | exact P6.whole | exact P14.whole)) (iI (v:=.int _ _) rfl) ?_))));have hc:jZ B T xs i=0:=by unfold jZ;rw [hm,hl,if_pos rfl,if_pos hin]
  exact ⟨_,congrArg (fun c=>Value.tuple #[_,.int .i64 c]) hc.symm,⟨fun h0=>absurd hc h0,fun _=>⟨_,_,rfl,fD (uw hP O6 (by omega)) (by omega)⟩⟩,((((((((ai.rfl_.next E2).next E4).next E9).next E14).next E23).next E24).next D25).only O6 (by rw [hb4];exact E2.size))⟩
structure PQ (Q:Exit→Act→World→Prop):Prop where
 out:∀ (d:Option Nat) (v:Value) (c:List PanicEntry) (a:Act) (w:World),Q (.panic c) (a.put d v) w→Q (.panic c) a w
theorem bM {K:Act→World→Prop} {Q:Exit→Act→World→Prop} (h:PQ Q):PQ (Exit.then K Q):=⟨fun d v c a w hq=>h.out d v c a w hq⟩
theorem bB {id:Nat} {Q:Exit→Act→World→Prop} (h:PQ Q):PQ (Exit.inBlock id Q):=⟨fun d v c a w hq=>h.out d v c a w hq⟩
theorem bN {P:Program} {fn:Func} {R:Ending→World→Prop}:PQ (bodyPost P fn R):=⟨fun d v c a w hq=>by
 cases d with
 |none=>exact hq
 |some d=>exact hq⟩
def mR:Op→Bool | .move _=>true | .assign _=>true | .extract _ _=>true | _=>false
theorem pM {P:Program} {ρ:Operand→Value} {o:Oper} (h:mR o.op=true) {w w':World} {r:Next} (hr:(execOp ρ o).run P w=.ok r w'):w'=w∧∀ w2,(execOp ρ o).run P w2=.ok r w2:=by
 obtain ⟨dst,op,ty,pos,after,guard⟩:=o;cases op <;> simp only [mR,Bool.false_eq_true] at h
 ·simp only [execOp,Sem.run_pure,Result.ok.injEq] at hr ⊢;exact ⟨hr.2.symm,fun w2=>⟨hr.1,trivial⟩⟩
 ·simp only [execOp,Sem.run_pure,Result.ok.injEq] at hr ⊢;exact ⟨hr.2.symm,fun w2=>⟨hr.1,trivial⟩⟩
 ·rename_i x i;simp only [execOp,Sem.run_bind] at hr ⊢;cases hx:ρ x <;> simp only [hx,Instr.extract] at hr ⊢ <;> (try (simp at hr;done))
  rename_i vs;cases hv:vs[i]? <;> simp [hv] at hr ⊢
  exact ⟨hr.2.symm,hr.1⟩
def uP (l:List Oper) (K j:Nat):Bool:=(List.range l.length).any fun i=>decide (K≤i)&&(match l[i]? with | some o=> !gJ o j | none=>false)
def yI (l:List Oper) (K:Nat):Bool:=
 (List.range K).all fun j=> !uP l K j||match l[j]? with
  |none=>false
  |some o=>mR o.op&&o.guard.isNone&&o.dst.isSome&&(List.range l.length).all fun i=>i==j||match l[i]? with
   |none=>false
   |some y=>(if i<K then !uP l K i else gJ y j)||o.apart l.toArray y
def zp (l:List Oper) (K:Nat):Bool:=
 let ops:=l.toArray
 let dst (i:Nat):Option Nat:=(l[i]?).bind (·.dst)
 (decide (K≤l.length)&&
 (List.range l.length).all fun i=>match l[i]? with
  |none=>false
  |some o=>
   (o.after.toList.all fun e=> !Region.binds .any e||decide (e.on<i))&&!de o.op&&
   (if i<K then
    (match o.dst with
     |none=>false
     |some d=>(List.range K).all (fun j=>j==i||dst j != some d)&&!((o.looksAt ops).elem d))&&
    (List.range K).all (fun j=>match dst j with
     |none=>false
     |some d=> !(o.looksAt ops).elem d||(decide (j<i)&&gJ o j))
    else (List.range i).all (fun j=>gJ o j||decide (j<K))))&&yI l K
section late
variable {P:Program} {Q:Exit→Act→World→Prop} {n:Fr} {L:List (Nat×Value)} {w:World} {l:List Oper} {K:Nat} {R:Nat→Value→World→Prop}
def gI (l:List Oper) (f:Nat→Value):List Nat→Act→Act
 |[],a=>a
 |i::r,a=>(gI l f r a).put ((l[i]?).bind (·.dst)) (f i)
theorem pD {f:Nat→Value} {x:Option Nat} {v:Value}:∀ (U:List Nat) (a:Act),(∀ i∈U,∀ d,x=some d→(l[i]?).bind (·.dst)≠some d)→gI l f U (a.put x v)=(gI l f U a).put x v
 |[],_,_=>rfl
 |i::r,a,h=>by
  show (gI l f r (a.put x v)).put _ _=((gI l f r a).put _ _).put _ _;rw [pD r a (fun j hj=>h j (List.mem_cons_of_mem _ hj))];exact Act.put_comm _ _ _ (h i (List.mem_cons_self ..))
theorem mG {f:Nat→Value} {i:Nat}:∀ (U:List Nat) (a:Act),i∈U→U.Nodup→(∀ j∈U,j≠i→∀ d,(l[i]?).bind (·.dst)=some d→(l[j]?).bind (·.dst)≠some d)→gI l f (U.erase i) (a.put ((l[i]?).bind (·.dst)) (f i))=gI l f U a
 |[],_,h,_,_=>by cases h
 |j::r,a,h,hn,hd=>by
  obtain ⟨hn1,hn2⟩:=List.nodup_cons.1 hn;by_cases e:j=i
  ·subst e;rw [List.erase_cons_head];exact pD r a (fun k hk=>hd k (List.mem_cons_of_mem _ hk) (fun e=>hn1 (e ▸ hk)))
  ·rw [List.erase_cons_tail (by simpa using e)];show (gI l f (r.erase i) _).put _ _=(gI l f r a).put _ _;rw [mG r a ((List.mem_cons.1 h).resolve_left (fun h=>e h.symm)) hn2 (fun k hk=>hd k (List.mem_cons_of_mem _ hk))]
theorem mb {o y:Oper} {v u:Value} {a:Act} (hs:de o.op=false) (hap:o.apart l.toArray y=true):Yields P l.toArray o v (a.put y.dst u)↔Yields P l.toArray o v a:=by
 have h3:=(Oper.apart_spec hap).2.2;have hs':∀ cs b,o.op≠.select cs b:=fun cs b e=>by rw [e] at hs;simp [de] at hs
 exact ⟨fun h=>h.of_same (execOp_put o hs' a y.dst u h3).symm (wanted_put o a y.dst u h3).symm,fun h=>h.of_same (execOp_put o hs' a y.dst u h3) (wanted_put o a y.dst u h3)⟩
theorem jr {f:Nat→Value} {o:Oper} {v:Value} (hs:de o.op=false):∀ (U:List Nat) (a:Act),(∀ i∈U,∃ y,l[i]? =some y∧o.apart l.toArray y=true)→(Yields P l.toArray o v (gI l f U a)↔Yields P l.toArray o v a)
 |[],_,_=>Iff.rfl
 |i::r,a,h=>by
  obtain ⟨y,hy,hap⟩:=h i (List.mem_cons_self ..);show Yields P l.toArray o v ((gI l f r a).put _ _)↔_;rw [hy];exact (mb hs hap).trans (jr hs r a (fun j hj=>h j (List.mem_cons_of_mem _ hj)))
theorem nC (hQ:PQ Q) {f:Nat→Value} {k:Nat} {o:Oper} (ho:l[k]? =some o) (hs:de o.op=false):∀ (U:List Nat) (Kk:Act→World→Prop) (a:Act),U.Nodup→
 (∀ i∈U,∃ y,l[i]? =some y∧de y.op=false∧y.apart l.toArray o=true∧Yields P l.toArray y (f i) a∧∀ j∈U,j≠i→∃ z,l[j]? =some z∧y.apart l.toArray z=true)→
 wpOp P l.toArray Q k Kk (gI l f U a) w→wpOp P l.toArray Q k (fun a' w'=>(∀ i∈U,∀ y,l[i]? =some y→Yields P l.toArray y (f i) a')∧Kk (gI l f U a') w') a w
 |[],Kk,a,_,_,h=>wpOp_mono (fun a w h=>⟨by simp,h⟩) h
 |i::r,Kk,a,hn,hU,h=>by
  obtain ⟨hn1,hn2⟩:=List.nodup_cons.1 hn;obtain ⟨y,hy,hsy,hap,hyl,hoth⟩:=hU i (List.mem_cons_self ..);have hr:∀ j∈r,∃ z,l[j]? =some z∧y.apart l.toArray z=true:=fun j hj=>hoth j (List.mem_cons_of_mem _ hj) (fun e=>hn1 (e ▸ hj))
  have hsel:∀ {x:Oper},de x.op=false→∀ cs b,x.op≠.select cs b:=fun hs cs b e=>by rw [e] at hs;simp [de] at hs
  have e0:gI l f (i::r) a=(gI l f r a).put y.dst (f i):=by
   show (gI l f r a).put _ _=_;rw [hy];rfl
  rw [e0] at h;have h1:=wpOp_put (P:=P) (ops:=l.toArray) (by rw [List.getElem?_toArray];exact ho) hap (hsel hsy) (hsel hs) (fun c a w=>hQ.out _ _ c a w) ((jr hsy r a hr).2 hyl) h
  have h2:=nC hQ ho hs r _ a hn2 (fun j hj=>by
   obtain ⟨z,h1,h2,h3,h4,h5⟩:=hU j (List.mem_cons_of_mem _ hj);exact ⟨z,h1,h2,h3,h4,fun k hk=>h5 k (List.mem_cons_of_mem _ hk)⟩) h1
  refine wpOp_mono (fun a' w' hh=>?_) h2;obtain ⟨g1,g2,g3⟩:=hh;refine ⟨fun j hj z hz=>?_,?_⟩
  ·rcases List.mem_cons.1 hj with rfl | hj
   ·rw [hy] at hz;cases hz;exact (jr hsy r a' hr).1 g2
   ·exact g1 j hj z hz
  ·show Kk ((gI l f r a').put _ _) w';rw [hy];exact g3
theorem mF {f:Nat→Value}:∀ (U:List Nat) (L':List (Nat×Value)),gI l f U (mkA n L')=mkA n ((U.filterMap fun i=>((l[i]?).bind (·.dst)).map fun d=>(d,f i))++L')
 |[],_=>rfl
 |i::r,L'=>by
  show (gI l f r (mkA n L')).put _ _=_;rw [mF r L',List.filterMap_cons];cases hd:(l[i]?).bind (·.dst) with
  |none=>rfl
  |some d=>
   rw [fm];rfl
theorem gR {f:Nat→Value} {L':List (Nat×Value)} {t:Nat}:∀ (U:List Nat),(∀ i∈U,(l[i]?).bind (·.dst)≠some t)→bc ((U.filterMap fun i=>((l[i]?).bind (·.dst)).map fun d=>(d,f i))++L') t=bc L' t
 |[],_=>rfl
 |i::r,h=>by
  rw [List.filterMap_cons];have h1:=h i (List.mem_cons_self ..);cases hd:(l[i]?).bind (·.dst) with
  |none=>exact gR r (fun j hj=>h j (List.mem_cons_of_mem _ hj))
  |some d=>
   simp only [Option.map_some,List.cons_append];rw [b_,if_neg (fun e=>h1 (by rw [hd,e]))];exact gR r (fun j hj=>h j (List.mem_cons_of_mem _ hj))
theorem jb {f:Nat→Value} {L':List (Nat×Value)} {i d:Nat}:∀ (U:List Nat),i∈U→(l[i]?).bind (·.dst)=some d→(∀ j∈U,j≠i→(l[j]?).bind (·.dst)≠some d)→bc ((U.filterMap fun i=>((l[i]?).bind (·.dst)).map fun d=>(d,f i))++L') d=f i
 |[],h,_,_=>by cases h
 |j::r,h,hd,hne=>by
  rw [List.filterMap_cons];by_cases e:j=i
  ·subst e;rw [hd];simp only [Option.map_some,List.cons_append];rw [b_,if_pos rfl]
  ·have h1:=hne j (List.mem_cons_self ..) e;have ih:=jb (f:=f) (L':=L') r ((List.mem_cons.1 h).resolve_left (fun h=>e h.symm)) hd (fun k hk=>hne k (List.mem_cons_of_mem _ hk));cases hdj:(l[j]?).bind (·.dst) with
   |none=>exact ih
   |some d'=>
    simp only [Option.map_some,List.cons_append];rw [b_,if_neg (fun e=>h1 (by rw [hdj,e]))];exact ih
end late
end Go.Proofs.YtkpooenofjdpmaaGreat
namespace Go.Proofs.YtkpooenofjdpmaaGreat
open Go.Proofs.Tryz (prog)
open Go.RowKit
open Go.ChangeShapes Go.WideShapes Go.ChangeAt
theorem wk (B T:Int) (A:Option Addr) (n c:Nat) (xs:List Ent) (w:World) (h:cQ w (.slice A n c) xs) (hm:cn B T xs=true) :
 Rt prog 152 [.agg #[.int .i64 B,.int .i64 T,.slice A n c]] w fun v w'=>v=.tuple #[.int .i64 (cW B xs),.int .i64 (dE T xs),.int .i64 0]∧ai w w':=
 Rt.mono (Rt.of (pN B T _ xs w h)) fun v w' h=>⟨by rw [h.1];unfold sC;rw [if_pos hm],h.2⟩
theorem vA (B T i:Int) (A:Option Addr) (n c:Nat) (xs:List Ent) (w:World) (h:cQ w (.slice A n c) xs) (hm:cn B T xs=true) (hi:B≤i∧i≤cW B xs) :
 Rt prog 121 [.agg #[.int .i64 B,.int .i64 T,.slice A n c],.int .i64 i] w fun v w'=>v=.tuple #[.int .i64 (dz B T xs i),.int .i64 0]∧ai w w':=
 Rt.mono (Rt.of (pg B T i _ xs w h)) fun v w' h=>⟨by rw [h.1];unfold sk;rw [if_pos hm,if_pos hi],h.2⟩
end Go.Proofs.YtkpooenofjdpmaaGreat
namespace Go.Proofs.YtkpooenofjdpmaaGreat
open Go.Proofs.Tryz (prog)
open Go.RowKit
def wU (B p:Int) (es:List Ent):List Ent:=if p<B then es.drop (min (B-p) es.length).toNat else es
def mgP (B p:Int):Int:=if p<B then B else p
def mgQ (B T p q:Int):Int:=if p<B then T else q
def rB (B T:Int) (xs:List Ent):List Ent→List Ent
 |[]=>[]
 |e::r=>if e.i≤B+xs.length∧dz B T xs e.i=e.t then rB B T xs r else e::r
def uI (B:Int) (xs:List Ent):List Ent→Nat | []=>xs.length | e::_=>(e.i-1-B).toNat
def mg2 (B T:Int) (xs ys:List Ent):Int×Bool×List Ent:=
 if 512<uI B xs ys+ys.length then (6,false,[]) else if cn B T (xs.take (uI B xs ys)++ys)=true then (0,false,xs.take (uI B xs ys)++ys) else (1,false,[])
def xW (B T p q:Int) (xs es:List Ent):Int×Bool×List Ent:=
 if cn B T xs=true∧inb 0 1099511627776 p=true∧inb 0 1099511627775 q=true∧fw es p q=true then
  if B+xs.length<mgP B p∨¬ dz B T xs (mgP B p)=mgQ B T p q then (0,true,xs) else mg2 B T xs (rB B T xs (wU B p es))
 else (1,false,[])
def zu (w w':World) (B T:Int) (r:Int×Bool×List Ent) (v:Value):Prop:=
 ∃ (X Y:Int) (A:Option Addr) (m c:Nat),v=.tuple #[.agg #[.int .i64 X,.int .i64 Y,.slice A m c],.bool r.2.1,.int .i64 r.1]∧
  (r.1≠0→X=0∧Y=0∧A=none∧m=0∧c=0)∧(r.1=0→X=B∧Y=T∧m=r.2.2.length∧w'.ownsRow w.heap.size 99 3 (.slice A m c) m (dV r.2.2))
theorem xN {w:World} {b o:Nat} {x y z:Value} (h0:w.cell? ⟨b,o,none⟩=some x) (h1:w.cell? ⟨b,o+1,none⟩=some y) (h2:w.cell? ⟨b,o+2,none⟩=some z):w.rangeAt b o [x,y,z]:=fun j v hv=>by
 match j,hv with
 |0,hv=>cases hv;exact h0
 |1,hv=>cases hv;exact h1
 |2,hv=>cases hv;exact h2
def yx (B T:Int) (xs ys:List Ent):Int:=if fw ys (cW B xs) (dE T xs)=true then (if xs.length+ys.length≤512 then 0 else 6) else 1
def y9 (B T:Int) (xs:List Ent) (i t:Int):Bool:=decide (dE T xs<t∨(t=dE T xs∧cW B xs≤i))
end Go.Proofs.YtkpooenofjdpmaaGreat
