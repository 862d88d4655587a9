/- texts that the claim stands on. -/
import Derived.Test.YtkpooenofjdpmaaGreatSlRfLawC3

set_option maxRecDepth 100000
set_option maxHeartbeats 4000000
namespace Go.Proofs.YtkpooenofjdpmaaGreat
open Go.Proofs.Tryz (prog)
open Go.RowKit
open Go.ChangeShapes Go.WideShapes Go.ChangeAt
theorem j_:tU prog 26=some (3,8,.int .i64 0):=by kernel_rfl
theorem rJ:aR prog 99=true:=by kernel_rfl
theorem rM:aR prog 75=true:=by kernel_rfl
theorem rL:aR prog 76=true:=by kernel_rfl
theorem mX:aR prog 84=true:=by kernel_rfl
theorem rK:aR prog 79=true:=by kernel_rfl
theorem qM {P:Program} {ρ:Operand→Value} {w:World} {t:TypeId} {x y:Operand} {e by_ m:Nat} {z:Value} {kl kc:IntKind} (ht:tU P t=some (e,by_,z)) (hz:z.cells=#[z]) (hx:ρ x=.int kl (m:Nat)) (hy:ρ y=.int kc (m:Nat)) (hm:m≤9223372036854775807) (hb:by_*m≤281474976710656) :
 RO P ρ (.makeSlice t x y) w (.slice (some ⟨w.heap.size,0,none⟩) m m) (w.alloc (.cells (List.replicate m z).toArray e)):=by
 unfold tU at ht;split at ht
 ·rename_i e' hu;cases hi:P.info? e' with
  |none=>simp [hi] at ht
  |some i=>
   rw [hi] at ht;simp only [Option.bind_some] at ht;split at ht
   ·rename_i hs;cases hzz:i.zero with
    |none=>simp [hzz] at ht
    |some z'=>
     simp only [hzz,Option.map_some,Option.some.injEq,Prod.mk.injEq] at ht;obtain ⟨rfl,rfl,rfl⟩:=ht
     have hr:=run_make (P:=P) w t e' i z' hu hi hzz kl kc (m:Int) (m:Int) (by omega) (Int.le_refl _) (by
      have:((i.bytes*m:Nat):Int)≤281474976710656:=by omega
      rwa [Int.natCast_mul] at this) (by omega)
     have hcells:madeCells z'.cells ((m:Int).toNat*i.size)=(List.replicate m z').toArray:=by
      rw [hs,Int.toNat_natCast,Nat.mul_one,hz];apply Array.ext_getElem?;intro j;simp only [madeCells,Array.getElem?_map];by_cases hj:j<m
      ·simp [hj,Nat.mod_one]
      ·simp [hj]
     rw [hcells,Int.toNat_natCast] at hr;exact fun _ _ _ _ _=>by simp [execOp,hx,hy,hr]
   ·cases ht
 ·cases ht
structure G3 where
 x:Nat
 m:Nat
 s:Nat
def lv (s:Rf) (a:Ra) (p q r:Value):List Value:=[.int .i64 s.id,.int .i64 s.nodes,.int .i64 s.role,.int .i64 s.term,.int .i64 s.vote,.int .i64 s.leader,.int .i64 s.b,.int .i64 s.t,.slice a.E s.es.length a.Ec,.string s.snap,.int .i64 s.commit,.int .i64 s.elapsed,.int .i64 s.timeout,.int .u64 s.seed,.slice a.V s.votes.length a.Vc,p,q,r,.int .i64 s.round,.slice a.Q a.L.length a.Qc,.string s.part,.int .i64 s.partOf]
def lvX (s:Rf) (a:Ra) (n:Nat) (x:G3) (S:Nat→Bool):List Value:=lv s a (bif S 28 then .slice (some ⟨x.x,0,none⟩) n n else .slice a.X s.next.length a.Xc) (bif S 33 then .slice (some ⟨x.m,0,none⟩) n n else .slice a.M s.mtch.length a.Mc) (bif S 38 then .slice (some ⟨x.s,0,none⟩) n n else .slice a.S s.sent.length a.Sc)
def MK (w0 w:World) (n k:Nat):Prop:=w0.heap.size≤k∧Blk w k 3 (List.replicate n (Value.int .i64 0)).toArray
structure LI (w0:World) (T g n:Nat) (s:Rf) (a:Ra) (R:Value) (x:G3) (S:Nat→Bool) (w:World):Prop where
 c:Chg (fun k=>k=g) w0 w
 b:Blk w g T (lvX s a n x S++[R]).toArray
 h9:S 9=true→MK w0 w n x.x
 h16:S 16=true→MK w0 w n x.m
 h23:S 23=true→MK w0 w n x.s
 a1:S 9=true→S 16=true→x.x≠x.m
 a2:S 9=true→S 23=true→x.x≠x.s
 a3:S 16=true→S 23=true→x.m≠x.s
 lt:g<w0.heap.size
section
variable {w0 w1 w2:World} {T g n i:Nat} {s:Rf} {a:Ra} {R:Value} {x:G3} {S:Nat→Bool}
theorem MK.from_ {k:Nat} (h:MK w0 w1 n k) (hF:ai w1 w2):MK w0 w2 n k:=⟨h.1,h.2.from_ hF⟩
theorem lR {i:Nat} (h28:i≠28) (h33:i≠33) (h38:i≠38):lvX s a n x (c_ S i)=lvX s a n x S:=by
 unfold lvX;rw [eH h28.symm,eH h33.symm,eH h38.symm]
theorem LI.rd (h:LI w0 T g n s a R x S w1) (hq:[9,16,23,28,33,38].elem i=false) (hF:ai w1 w2):LI w0 T g n s a R x (c_ S i) w2:=by
 have hm:i≠9∧i≠16∧i≠23∧i≠28∧i≠33∧i≠38:=by
  refine ⟨?_,?_,?_,?_,?_,?_⟩ <;> rintro rfl <;> exact absurd hq (by decide)
 obtain ⟨m1,m2,m3,m4,m5,m6⟩:=hm;refine ⟨h.c.next hF.toChg,by rw [lR m4 m5 m6];exact h.b.from_ hF,fun e=>?_,fun e=>?_,fun e=>?_,fun e f=>?_,fun e f=>?_,fun e f=>?_,h.lt⟩
 ·rw [eH m1.symm] at e;exact (h.h9 e).from_ hF
 ·rw [eH m2.symm] at e;exact (h.h16 e).from_ hF
 ·rw [eH m3.symm] at e;exact (h.h23 e).from_ hF
 ·rw [eH m1.symm] at e;rw [eH m2.symm] at f;exact h.a1 e f
 ·rw [eH m1.symm] at e;rw [eH m3.symm] at f;exact h.a2 e f
 ·rw [eH m2.symm] at e;rw [eH m3.symm] at f;exact h.a3 e f
theorem MK.fresh {k:Nat} (h:MK w0 w1 n k):k≠w1.heap.size:=by have:=h.2.lt;omega
theorem LI.mk9 (h:LI w0 T g n s a R x S w1) (h28:S 28=false) (hk:MK w0 w2 n w1.heap.size) (hF:ai w1 w2):LI w0 T g n s a R ⟨w1.heap.size,x.m,x.s⟩ (c_ S 9) w2:=by
 refine ⟨h.c.next hF.toChg,?_,fun _=>hk,fun e=>?_,fun e=>?_,fun _ f=>?_,fun _ f=>?_,fun e f=>?_,h.lt⟩
 ·rw [lR (by decide) (by decide) (by decide)];have:=h.b.from_ hF;unfold lvX at this ⊢;rw [h28] at this ⊢;exact this
 ·rw [eH (by decide)] at e;exact (h.h16 e).from_ hF
 ·rw [eH (by decide)] at e;exact (h.h23 e).from_ hF
 ·rw [eH (by decide)] at f;exact (h.h16 f).fresh.symm
 ·rw [eH (by decide)] at f;exact (h.h23 f).fresh.symm
 ·rw [eH (by decide)] at e f;exact h.a3 e f
theorem LI.mk16 (h:LI w0 T g n s a R x S w1) (h33:S 33=false) (hk:MK w0 w2 n w1.heap.size) (hF:ai w1 w2):LI w0 T g n s a R ⟨x.x,w1.heap.size,x.s⟩ (c_ S 16) w2:=by
 refine ⟨h.c.next hF.toChg,?_,fun e=>?_,fun _=>hk,fun e=>?_,fun e _=>?_,fun e f=>?_,fun _ f=>?_,h.lt⟩
 ·rw [lR (by decide) (by decide) (by decide)];have:=h.b.from_ hF;unfold lvX at this ⊢;rw [h33] at this ⊢;exact this
 ·rw [eH (by decide)] at e;exact (h.h9 e).from_ hF
 ·rw [eH (by decide)] at e;exact (h.h23 e).from_ hF
 ·rw [eH (by decide)] at e;exact (h.h9 e).fresh
 ·rw [eH (by decide)] at e f;exact h.a2 e f
 ·rw [eH (by decide)] at f;exact (h.h23 f).fresh.symm
theorem LI.mk23 (h:LI w0 T g n s a R x S w1) (h38:S 38=false) (hk:MK w0 w2 n w1.heap.size) (hF:ai w1 w2):LI w0 T g n s a R ⟨x.x,x.m,w1.heap.size⟩ (c_ S 23) w2:=by
 refine ⟨h.c.next hF.toChg,?_,fun e=>?_,fun e=>?_,fun _=>hk,fun e f=>?_,fun e _=>?_,fun e _=>?_,h.lt⟩
 ·rw [lR (by decide) (by decide) (by decide)];have:=h.b.from_ hF;unfold lvX at this ⊢;rw [h38] at this ⊢;exact this
 ·rw [eH (by decide)] at e;exact (h.h9 e).from_ hF
 ·rw [eH (by decide)] at e;exact (h.h16 e).from_ hF
 ·rw [eH (by decide)] at e f;exact h.a1 e f
 ·rw [eH (by decide)] at e;exact (h.h9 e).fresh
 ·rw [eH (by decide)] at e;exact (h.h16 e).fresh
theorem MK.only {k:Nat} (h:MK w0 w1 n k) (hO:eh g w1 w2) (hg:g<w0.heap.size):MK w0 w2 n k:=⟨h.1,h.2.only hO (by have:=h.1;omega)⟩
theorem LI.st (h:LI w0 T g n s a R x S w1) (hi:i=28∨i=33∨i=38) (hO:eh g w1 w2) (hb:Blk w2 g T (lvX s a n x (c_ S i)++[R]).toArray):LI w0 T g n s a R x (c_ S i) w2:=by
 refine ⟨h.c.next (hO.toChg rfl),hb,fun e=>?_,fun e=>?_,fun e=>?_,fun e f=>?_,fun e f=>?_,fun e f=>?_,h.lt⟩
 ·rw [eH (by omega)] at e;exact (h.h9 e).only hO h.lt
 ·rw [eH (by omega)] at e;exact (h.h16 e).only hO h.lt
 ·rw [eH (by omega)] at e;exact (h.h23 e).only hO h.lt
 ·rw [eH (by omega)] at e f;exact h.a1 e f
 ·rw [eH (by omega)] at e f;exact h.a2 e f
 ·rw [eH (by omega)] at e f;exact h.a3 e f
theorem xg {S:Nat→Bool}:(lvX s a n x S++[R]).toArray.setIfInBounds 15 (.slice (some ⟨x.x,0,none⟩) n n)=(lvX s a n x (c_ S 28)++[R]).toArray:=by
 unfold lvX;rw [lF,eH (by decide),eH (by decide)];rfl
theorem xc {S:Nat→Bool}:(lvX s a n x S++[R]).toArray.setIfInBounds 16 (.slice (some ⟨x.m,0,none⟩) n n)=(lvX s a n x (c_ S 33)++[R]).toArray:=by
 unfold lvX;rw [lF,eH (by decide),eH (by decide)];rfl
theorem w_ {S:Nat→Bool}:(lvX s a n x S++[R]).toArray.setIfInBounds 17 (.slice (some ⟨x.s,0,none⟩) n n)=(lvX s a n x (c_ S 38)++[R]).toArray:=by
 unfold lvX;rw [lF,eH (by decide),eH (by decide)];rfl
end
theorem oF {w0 w:World} {n k:Nat} (h:MK w0 w n k) (hn:n≤1000):w.ownsRow 0 3 1 (.slice (some ⟨k,0,none⟩) n n) n ((List.replicate n (0:Int)).map iV):=by
 refine oH (Nat.zero_le _) h.2 (Nat.le_refl _) (by unfold maxLen;omega) (by simp) ?_;simp
theorem aQ.three {w0 w:World} {g n:Nat} {tag:Nat→Nat} {s:Rf} {a:Ra} {x:G3} (h:aQ w0 tag s a) (hC:Chg (fun k=>k=g) w0 w) (hg:tag g=7) (hn:n≤1000) (h1:MK w0 w n x.x) (h2:MK w0 w n x.m) (h3:MK w0 w n x.s) (a1:x.x≠x.m) (a2:x.x≠x.s) (a3:x.m≠x.s) :
 aQ w (fun k=>if k<w0.heap.size then tag k else if k=x.x then 2 else if k=x.m then 3 else 4) { s with next:=List.replicate n 0,mtch:=List.replicate n 0,sent:=List.replicate n 0 } { a with X:=some ⟨x.x,0,none⟩,Xc:=n,M:=some ⟨x.m,0,none⟩,Mc:=n,S:=some ⟨x.s,0,none⟩,Sc:=n }:=by
 have hh:=h.chgG hC hg
 have re:∀ {c:Nat} {A:Option Addr},Col tag c A→(∀ k,A.map (·.block)=some k→k<w0.heap.size)→Col (fun k=>if k<w0.heap.size then tag k else if k=x.x then 2 else if k=x.m then 3 else 4) c A:=fun hc hl k hk=>by
  show (if k<w0.heap.size then tag k else _)=_;rw [if_pos (hl k hk)];exact hc k hk
 have l:(List.replicate n (0:Int)).length=n:=List.length_replicate;refine ⟨fun hx=>⟨(hh.e hx).1,re (h.e hx).2 (cI (h.e hx).1)⟩,fun hx=>⟨(hh.v hx).1,re (h.v hx).2 (cI (h.v hx).1)⟩,fun _=>⟨by show World.ownsRow _ _ _ _ (.slice _ (List.replicate n (0:Int)).length _) (List.replicate n (0:Int)).length _;rw [l];exact oF h1 hn,fun k hk=>?_⟩,fun _=>⟨by show World.ownsRow _ _ _ _ (.slice _ (List.replicate n (0:Int)).length _) (List.replicate n (0:Int)).length _;rw [l];exact oF h2 hn,fun k hk=>?_⟩,fun _=>⟨by show World.ownsRow _ _ _ _ (.slice _ (List.replicate n (0:Int)).length _) (List.replicate n (0:Int)).length _;rw [l];exact oF h3 hn,fun k hk=>?_⟩,hh.r,fun hx=>⟨(hh.q hx).1,re (h.q hx).2 (cI (h.q hx).1)⟩,fun i hi hx=>⟨(hh.k i hi hx).1,re (h.k i hi hx).2 (cI (h.k i hi hx).1)⟩⟩
 ·cases hk;have:=h1.1;show (if x.x<w0.heap.size then _ else _)=2;rw [if_neg (by omega),if_pos rfl]
 ·cases hk;have:=h2.1;show (if x.m<w0.heap.size then _ else _)=3;rw [if_neg (by omega),if_neg (Ne.symm a1),if_pos rfl]
 ·cases hk;have:=h3.1;show (if x.s<w0.heap.size then _ else _)=4;rw [if_neg (by omega),if_neg (Ne.symm a2),if_neg (Ne.symm a3)]
theorem bN.three {wa w0 w:World} {Z:Nat→Prop} {T g n oc:Nat} {tag:Nat→Nat} {s:Rf} {out:List Msg} {O:Option Addr} {L:List Msg} {a:Ra} {x:G3} (h:bN wa Z w0 T g ⟨s,out⟩) (hs:gm w0 Z T g tag ⟨s,out⟩ a O oc L) (hC:Chg (fun k=>k=g) w0 w) (hn:n≤1000) (h1:MK w0 w n x.x) (h2:MK w0 w n x.m) (h3:MK w0 w n x.s) (a1:x.x≠x.m) (a2:x.x≠x.s) (a3:x.m≠x.s)
 (hb:Blk w g T (rfV { s with next:=List.replicate n 0,mtch:=List.replicate n 0,sent:=List.replicate n 0 } { a with X:=some ⟨x.x,0,none⟩,Xc:=n,M:=some ⟨x.m,0,none⟩,Mc:=n,S:=some ⟨x.s,0,none⟩,Sc:=n }++[Value.slice O L.length oc]).toArray) :
 bN wa Z w T g ⟨{ s with next:=List.replicate n 0,mtch:=List.replicate n 0,sent:=List.replicate n 0 },out⟩∧∃ tag',gm w Z T g tag' ⟨{ s with next:=List.replicate n 0,mtch:=List.replicate n 0,sent:=List.replicate n 0 },out⟩ { a with X:=some ⟨x.x,0,none⟩,Xc:=n,M:=some ⟨x.m,0,none⟩,Mc:=n,S:=some ⟨x.s,0,none⟩,Sc:=n } O oc L:=by
 have hm:=hs.m.chgG hC hs.gc;have hz:=h.zw
 have re:∀ {c:Nat} {A:Option Addr},Col tag c A→(∀ k,A.map (·.block)=some k→k<w0.heap.size)→Col (fun k=>if k<w0.heap.size then tag k else if k=x.x then 2 else if k=x.m then 3 else 4) c A:=fun hc hl k hk=>by
  show (if k<w0.heap.size then tag k else _)=_;rw [if_pos (hl k hk)];exact hc k hk
 have h9:gm w Z T g (fun k=>if k<w0.heap.size then tag k else if k=x.x then 2 else if k=x.m then 3 else 4) ⟨{ s with next:=List.replicate n 0,mtch:=List.replicate n 0,sent:=List.replicate n 0 },out⟩ { a with X:=some ⟨x.x,0,none⟩,Xc:=n,M:=some ⟨x.m,0,none⟩,Mc:=n,S:=some ⟨x.s,0,none⟩,Sc:=n } O oc L:=
  ⟨hb,hs.f.three hC hs.gc hn h1 h2 h3 a1 a2 a3,⟨hm.o,hm.l,fun j hj=>⟨(hm.e j hj).1,re (hm.e j hj).2 (cI (hs.m.e j hj).1)⟩,re hm.c (cI hs.m.o)⟩,(if_pos hs.b.lt).trans hs.gc,fun k hk=>(if_pos (hz k hk)).trans (hs.z k hk)⟩
 refine ⟨⟨⟨_,_,_,_,_,h9⟩,h.zl,h.fr.next (hC.wide fun k hk=>.inl fun hz1=>?_)⟩,_,h9⟩;have:=hs.z k hz1;rw [show k=g from hk,hs.gc] at this;cases this
theorem aQ.novotes {w:World} {tag:Nat→Nat} {s:Rf} {a:Ra} (h:aQ w tag s a):aQ w tag { s with votes:=[] } { a with V:=none,Vc:=0 }:=
 ⟨fun _=>h.e (by decide),fun _=>⟨dF,Col.none⟩,fun _=>h.x (by decide),fun _=>h.m (by decide),fun _=>h.n (by decide),fun _=>h.r (by decide),fun _=>h.q (by decide),fun i hi _=>h.k i hi (by omega)⟩
theorem aQ.noreads {w:World} {tag:Nat→Nat} {s:Rf} {a:Ra} (h:aQ w tag s a):aQ w tag { s with reads:=[] } { a with Q:=none,Qc:=0,L:=[] }:=
 ⟨fun _=>h.e (by decide),fun _=>h.v (by decide),fun _=>h.x (by decide),fun _=>h.m (by decide),fun _=>h.n (by decide),fun _=>rfl,fun _=>⟨dF,Col.none⟩,fun i hi _=>absurd hi (Nat.not_lt_zero _)⟩
def gy (n i:Nat) (v:Int):List Int:=List.replicate i v++List.replicate (n-i) 0
theorem pB {n i:Nat} {v:Int} (h:i≤n):(gy n i v).length=n:=by unfold gy;rw [List.length_append,List.length_replicate,List.length_replicate];omega
theorem tw {n i:Nat} {v:Int} (h:i<n):(gy n i v).set i v=gy n (i+1) v:=by
 unfold gy;rw [List.set_append_right _ _ (by rw [List.length_replicate];exact Nat.le_refl _),List.length_replicate,Nat.sub_self,show n-i=(n-(i+1))+1 by omega,List.replicate_succ,List.set_cons_zero,List.replicate_succ',List.append_assoc];rfl
theorem tx {n:Nat} {v:Int}:gy n 0 v=List.replicate n 0:=by unfold gy;rw [Nat.sub_zero];rfl
theorem vX {n:Nat} {v:Int}:gy n n v=List.replicate n v:=by unfold gy;rw [Nat.sub_self];simp
theorem u6 (w0:World) (Z:Nat→Prop) (T g:Nat) (p:Sp) (w:World) (h:bN w0 Z w T g p) (hF:RfF p.s) (hl:p.out.length≤700) :
 Rt prog 161 [.pointer (some ⟨g,0,none⟩)] w (fun v w'=>v=.tuple #[]∧bN w0 Z w' T g (pP p)):=by
 obtain ⟨s,out⟩:=p;obtain ⟨tag,a,O,oc,L,hs⟩:=h.ex;obtain ⟨E,Ec,V,Vc,X,Xc,M,Mc,Sn,Sc,Q,Qc,LL⟩:=a;have hb:Blk w g T (rfV s (⟨E,Ec,V,Vc,X,Xc,M,Mc,Sn,Sc,Q,Qc,LL⟩:Ra)++[Value.slice O L.length oc]).toArray:=hs.b
 have hll:L.length=out.length:=by
  have h9:=congrArg List.length hs.m.l;rw [List.length_map] at h9;exact h9
 have hF:RfF s:=hF;have hl:out.length≤700:=hl;have hB0:ai w w:=ai.rfl_;have hbl:=hF.last;have hlb:cV s.b s.es=bk s:=rfl;have he:cB w (.slice E s.es.length Ec) s.es:=hs.f.rd.e;have hnn:=hF.n;have hid:=hF.i;have hzw:=h.zw;obtain ⟨n,hn0⟩:∃ n,n=s.nodes.toNat:=⟨_,rfl⟩;have hn:s.nodes=((n:Nat):Int):=by omega
 refine enter (n:=124) Tryz.func161 rfl rfl rfl (ak (ak (ag (mvp rfl (aa (aE rfl) (aa (af aK rfl) (aB rM (vb T g s _ _ _ (hb.from_ ai.rfl_) (he.from_ ai.rfl_) hF.lg) ?_)))))));rintro v8 w1 ⟨rfl,E8⟩;refine aj (ah (aV rfl (fun Q2=>?_) (fun Q2=>?_)))
 ·have h8t:gr s=true:=Q2;refine ak ?_;apply oT [(0,9,fun _ v _=>v=_),(1,10,fun _ v _=>v=_),(2,11,fun _ v _=>v=_),(3,12,fun _ v _=>v=_),(4,13,fun _ v _=>v=_),(5,14,fun _ v _=>v=_),(6,15,fun _ v _=>v=_),(7,16,fun _ v _=>v=_),(8,17,fun _ v _=>v=_),(9,18,fun _ v _=>v=_)] [9] (fun S w'=>(S 9=false→ai w1 w')∧(S 9=true→bN w0 Z w' T g ⟨j4 s s.term,out⟩)) (by kernel_rfl) (by kernel_rfl) rfl rfl ⟨fun _ _ _ _ _ _ _ h=>h,fun _ _ _ _ _ _ _ h=>h,fun _ _ _ _ _ _ _ h=>h,fun _ _ _ _ _ _ _ h=>h,fun _ _ _ _ _ _ _ h=>h,fun _ _ _ _ _ _ _ h=>h,fun _ _ _ _ _ _ _ h=>h,fun _ _ _ _ _ _ _ h=>h,fun _ _ _ _ _ _ _ h=>h,fun _ _ _ _ _ _ _ h=>h,trivial⟩ (fun S i w1 w2 hq hF h=>⟨fun h0=>(h.1 (ni h0)).next hF,fun h1=>(fun h=>h.from_ hF) (h.2 (mg (show 9≠i by rintro rfl;exact absurd hq (by decide)) h1))⟩) ⟨fun _=>ai.rfl_.d1,fun h=>by cases h⟩
  case hstep=>
   constructor
   ·rintro S L' w3 hU hmo hme hI hM hC hS ⟨-⟩;have hS0:S 9=false:=(ao hC (j:=9) rfl (by kernel_rfl) (ao hC (j:=2) rfl (by kernel_rfl) (ao hC (j:=1) rfl (by kernel_rfl) hS)));have hM3:=hM.1 hS0;have e0:=hI.1 0 (ei rfl);exact aO [(0,_)] hU hmo hme hI hM (.head _) rfl rfl (by kernel_rfl) ⟨e0,trivial⟩ (a_ (v:=.pointer _) rfl) ai.rfl_ (rfl)
   constructor
   ·rintro S L' w4 hU hmo hme hI hM hC hS ⟨d0,-⟩;have hS0:S 9=false:=(ao hC (j:=9) rfl (by kernel_rfl) (ao hC (j:=2) rfl (by kernel_rfl) hS));have hM4:=hM.1 hS0;obtain ⟨v4_9,e9,h9⟩:=hI.get (i:=0) (.head _) d0;obtain rfl:=h9;exact aO [(9,_)] hU hmo hme hI hM (.tail _ (.head _)) rfl rfl (by kernel_rfl) ⟨e9,trivial⟩ (aE rfl) ai.rfl_ (rfl)
   constructor
   ·rintro S L' w5 hU hmo hme hI hM hC hS ⟨d1,-⟩;have hS0:S 9=false:=(ao hC (j:=9) rfl (by kernel_rfl) hS);have hM5:=hM.1 hS0;obtain ⟨v5_10,e10,h10⟩:=hI.get (i:=1) (.tail _ (.head _)) d1;obtain rfl:=h10;exact aO [(10,_)] hU hmo hme hI hM (.tail _ (.tail _ (.head _))) rfl rfl (by kernel_rfl) ⟨e10,trivial⟩ (af aK rfl) ai.rfl_ (rfl)
   constructor
   ·rintro S L' w6 hU hmo hme hI hM hC hS ⟨-⟩;have hS0:S 9=false:=(ao hC (j:=9) rfl (by kernel_rfl) (ao hC (j:=8) rfl (by kernel_rfl) (ao hC (j:=7) rfl (by kernel_rfl) (ao hC (j:=6) rfl (by kernel_rfl) (ao hC (j:=5) rfl (by kernel_rfl) (ao hC (j:=4) rfl (by kernel_rfl) hS))))));have hM6:=hM.1 hS0;have e0:=hI.1 0 (ei rfl);exact aO [(0,_)] hU hmo hme hI hM (.tail _ (.tail _ (.tail _ (.head _)))) rfl rfl (by kernel_rfl) ⟨e0,trivial⟩ (a_ (v:=.pointer _) rfl) ai.rfl_ (rfl)
   constructor
   ·rintro S L' w7 hU hmo hme hI hM hC hS ⟨d3,-⟩;have hS0:S 9=false:=(ao hC (j:=9) rfl (by kernel_rfl) (ao hC (j:=8) rfl (by kernel_rfl) (ao hC (j:=7) rfl (by kernel_rfl) (ao hC (j:=6) rfl (by kernel_rfl) (ao hC (j:=5) rfl (by kernel_rfl) hS)))));have hM7:=hM.1 hS0;obtain ⟨v7_12,e12,h12⟩:=hI.get (i:=3) (.tail _ (.tail _ (.tail _ (.head _)))) d3;obtain rfl:=h12;exact aO [(12,_)] hU hmo hme hI hM (.tail _ (.tail _ (.tail _ (.tail _ (.head _))))) rfl rfl (by kernel_rfl) ⟨e12,trivial⟩ (aE rfl) ai.rfl_ (rfl)
   constructor
   ·rintro S L' w8 hU hmo hme hI hM hC hS ⟨d4,-⟩;have hS0:S 9=false:=(ao hC (j:=9) rfl (by kernel_rfl) (ao hC (j:=8) rfl (by kernel_rfl) (ao hC (j:=7) rfl (by kernel_rfl) (ao hC (j:=6) rfl (by kernel_rfl) hS))));have hM8:=hM.1 hS0;obtain ⟨v8_13,e13,h13⟩:=hI.get (i:=4) (.tail _ (.tail _ (.tail _ (.tail _ (.head _))))) d4;obtain rfl:=h13;exact aO [(13,_)] hU hmo hme hI hM (.tail _ (.tail _ (.tail _ (.tail _ (.tail _ (.head _)))))) rfl rfl (by kernel_rfl) ⟨e13,trivial⟩ (af aK rfl) ai.rfl_ (rfl)
   constructor
   ·rintro S L' w9 hU hmo hme hI hM hC hS ⟨d5,-⟩;have hS0:S 9=false:=(ao hC (j:=9) rfl (by kernel_rfl) (ao hC (j:=8) rfl (by kernel_rfl) (ao hC (j:=7) rfl (by kernel_rfl) hS)));have hM9:=hM.1 hS0;obtain ⟨v9_14,e14,h14⟩:=hI.get (i:=5) (.tail _ (.tail _ (.tail _ (.tail _ (.tail _ (.head _)))))) d5;obtain rfl:=h14;exact aO [(14,_)] hU hmo hme hI hM (.tail _ (.tail _ (.tail _ (.tail _ (.tail _ (.tail _ (.head _))))))) rfl rfl (by kernel_rfl) ⟨e14,trivial⟩ (af aC rfl) ai.rfl_ (rfl)
   constructor
   ·rintro S L' w10 hU hmo hme hI hM hC hS ⟨d6,-⟩;have hS0:S 9=false:=(ao hC (j:=9) rfl (by kernel_rfl) (ao hC (j:=8) rfl (by kernel_rfl) hS));have hM10:=hM.1 hS0;obtain ⟨v10_15,e15,h15⟩:=hI.get (i:=6) (.tail _ (.tail _ (.tail _ (.tail _ (.tail _ (.tail _ (.head _))))))) d6;obtain rfl:=h15;exact aO [(15,_)] hU hmo hme hI hM (.tail _ (.tail _ (.tail _ (.tail _ (.tail _ (.tail _ (.tail _ (.head _)))))))) rfl rfl (by kernel_rfl) ⟨e15,trivial⟩ (af cJ rfl) ai.rfl_ (rfl)
   constructor
   ·rintro S L' w11 hU hmo hme hI hM hC hS ⟨d7,-⟩;have hS0:S 9=false:=(ao hC (j:=9) rfl (by kernel_rfl) hS);have hM11:=hM.1 hS0;obtain ⟨v11_16,e16,h16⟩:=hI.get (i:=7) (.tail _ (.tail _ (.tail _ (.tail _ (.tail _ (.tail _ (.tail _ (.head _)))))))) d7;obtain rfl:=h16;exact aO [(16,_)] hU hmo hme hI hM (.tail _ (.tail _ (.tail _ (.tail _ (.tail _ (.tail _ (.tail _ (.tail _ (.head _))))))))) rfl rfl (by kernel_rfl) ⟨e16,trivial⟩ (ar aq rfl (by exact (show _=some (Value.int .i64 s.term) from da (hb.from_ ((ai.rfl_.next E8).next hM11)) 3 rfl))) ai.rfl_ (rfl)
   constructor
   ·rintro S L' w12 hU hmo hme hI hM hC hS ⟨d2,d8,-⟩;have hS0:S 9=false:=hS;have hM12:=hM.1 hS0;obtain ⟨v12_11,e11,h11⟩:=hI.get (i:=2) (.tail _ (.tail _ (.head _))) d2;obtain rfl:=h11;obtain ⟨v12_17,e17,h17⟩:=hI.get (i:=8) (.tail _ (.tail _ (.tail _ (.tail _ (.tail _ (.tail _ (.tail _ (.tail _ (.head _))))))))) d8;obtain rfl:=h17;refine jX (al:=[.tmp 11,.tmp 17]) [(11,_),(17,_)] hU hI (.tail _ (.tail _ (.tail _ (.tail _ (.tail _ (.tail _ (.tail _ (.tail _ (.tail _ (.head _)))))))))) (by kernel_rfl) ⟨e11,e17,trivial⟩ rJ ((sR w0 Z T g ⟨s,out⟩ _ (h.from_ ((ai.rfl_.next E8).next hM12)) s.term).mono ?_);rintro v9 w2 ⟨rfl,hS2⟩;exact ⟨⟨fun h0=>(by rw [lF] at h0;cases h0),fun _=>hS2⟩,rfl,⟨fun _ _ _ h=>h,fun _ _ _ h=>h,fun _ _ _ h=>h,fun _ _ _ h=>h,fun _ _ _ h=>h,fun _ _ _ h=>h,fun _ _ _ h=>h,fun _ _ _ h=>h,fun _ _ _ h=>h,fun _ _ _ h=>h,trivial⟩⟩
   exact trivial
  case hend=>
   intro w13 hM;obtain hS9:=hM.2 rfl;rintro v13_9 rfl v13_10 rfl v13_11 rfl v13_12 rfl v13_13 rfl v13_14 rfl v13_15 rfl v13_16 rfl v13_17 rfl v13_18 rfl;refine fY (ah (aA (ay (gx rfl ?_))));unfold pP
   first
    |(rw [if_pos h8t];exact ⟨rfl,hS9.from_ ai.rfl_⟩)
    |(rw [if_neg (by show ¬ gr s=true;rw [h8];decide)]
      refine ⟨rfl,?_⟩;show bN w0 Z _ T g ⟨dd (Sp.all ⟨eC (dV s) ⟨#[]⟩,out⟩).s,(Sp.all ⟨eC (dV s) ⟨#[]⟩,out⟩).out⟩;rw [show (Sp.all ⟨eC (dV s) ⟨#[]⟩,out⟩).s=eC (dV s) ⟨#[]⟩ by rw [mQ]];exact h12.from_ (ai.rfl_ (a:=w1)))
 have h8:gr s=false:=by simpa using Q2
 refine aP (ah (ak (ag (mvp rfl (aa (aE rfl) (aa (af aK rfl) (aB fB (jq T g s _ _ _ (hb.from_ (ai.rfl_.next E8)) (he.from_ (ai.rfl_.next E8)) hF.lg) ?_)))))));rintro v23 w14 ⟨rfl,E23⟩;refine mvt rfl (aa (aS rfl rfl) (aa (aS rfl rfl) (asi rfl (asi rfl (aj (ah (ak (ag (mvp rfl (mvp rfl (mvp rfl ?_)))))))))));refine mvp rfl (mvp rfl (aa (aE rfl) (aa (af aK rfl) (aa (af aC rfl) (aa (af dy rfl) (aa (ar aq rfl (by exact (show _=some (Value.int .i64 s.id) from da (hb.from_ ((ai.rfl_.next E8).next E23)) 0 rfl))) ?_))))));refine aa (aE rfl) (aa (af aK rfl) (aa (af aC rfl) (aa (af cT rfl) ?_)));have hB0:ai w w14:=((ai.rfl_.next E8).next E23);refine cF (s':=({ s with role:=2 }:Rf)) (a':=(⟨E,Ec,V,Vc,X,Xc,M,Mc,Sn,Sc,Q,Qc,LL⟩:Ra)) (v:=.int _ _) ck rfl rfl rfl ((hb.from_ ((ai.rfl_.next E8).next E23))) (by exact ⟨by decide,rfl⟩) ?_;intro w15 O3_0 P3_0;have hC1:Chg (fun k=>k=g) w w15:=(ai.toChg hB0).only O3_0 rfl;refine aa (aE rfl) (aa (af aK rfl) (aa (af aC rfl) (aa (af en rfl) (cF (s':=({ s with role:=2,leader:=s.id }:Rf)) (a':=(⟨E,Ec,V,Vc,X,Xc,M,Mc,Sn,Sc,Q,Qc,LL⟩:Ra)) (v:=.int _ _) ck rfl rfl rfl (P3_0) (by exact ⟨by decide,rfl⟩) ?_))));intro w16 O3_1 P3_1;replace hC1:=hC1.only O3_1 rfl;refine aa (aE rfl) (aa (af aK rfl) (aa (af aC rfl) (aa (af cK rfl) (cF (s':=({ s with role:=2,leader:=s.id,votes:=[] }:Rf)) (a':=(⟨E,Ec,none,0,X,Xc,M,Mc,Sn,Sc,Q,Qc,LL⟩:Ra)) (v:=.slice _ _ _) cS rfl rfl rfl (P3_1) (by exact ⟨by decide,rfl⟩) ?_))));intro w17 O3_2 P3_2;replace hC1:=hC1.only O3_2 rfl;refine aa (aE rfl) (aa (af aK rfl) (aa (af aC rfl) (aa (af dk rfl) (cF (s':=({ s with role:=2,leader:=s.id,votes:=[],elapsed:=0 }:Rf)) (a':=(⟨E,Ec,none,0,X,Xc,M,Mc,Sn,Sc,Q,Qc,LL⟩:Ra)) (v:=.int _ _) ck rfl rfl rfl (P3_2) (by exact ⟨by decide,rfl⟩) ?_))));intro w18 O3_3 P3_3;replace hC1:=hC1.only O3_3 rfl;obtain ⟨hs3,h3⟩:=h.set (s':=({ s with role:=2,leader:=s.id,votes:=[],elapsed:=0 }:Rf)) (a':=(⟨E,Ec,none,0,X,Xc,M,Mc,Sn,Sc,Q,Qc,LL⟩:Ra)) hs hC1 (aQ.same hs.f.novotes rfl rfl rfl rfl rfl rfl) P3_3;refine aj (ah (ak (uu (X:=G3) [(0,52,fun x=>.pointer (some ⟨g,0,none⟩)),(1,53,fun x=>.pointer (some ⟨g,0,none⟩)),(2,54,fun x=>.pointer (some ⟨g,0,none⟩)),(3,55,fun x=>.pointer (some ⟨g,0,none⟩)),(4,56,fun x=>.pointer (some ⟨g,0,none⟩)),(5,57,fun x=>.pointer (some ⟨g,0+0,none⟩)),(6,58,fun x=>.pointer (some ⟨g,0+0+0,none⟩)),(7,59,fun x=>.pointer (some ⟨g,0+0+0+1,none⟩)),(8,60,fun x=>.int .i64 (n:Nat)),(9,61,fun x=>.slice (some ⟨x.x,0,none⟩) n n),(10,62,fun x=>.pointer (some ⟨g,0,none⟩)),(11,63,fun x=>.pointer (some ⟨g,0,none⟩)),(12,64,fun x=>.pointer (some ⟨g,0+0,none⟩)),(13,65,fun x=>.pointer (some ⟨g,0+0+0,none⟩)),(14,66,fun x=>.pointer (some ⟨g,0+0+0+1,none⟩)),(15,67,fun x=>.int .i64 (n:Nat)),(16,68,fun x=>.slice (some ⟨x.m,0,none⟩) n n),(17,69,fun x=>.pointer (some ⟨g,0,none⟩)),(18,70,fun x=>.pointer (some ⟨g,0,none⟩)),(19,71,fun x=>.pointer (some ⟨g,0+0,none⟩)),(20,72,fun x=>.pointer (some ⟨g,0+0+0,none⟩)),(21,73,fun x=>.pointer (some ⟨g,0+0+0+1,none⟩)),(22,74,fun x=>.int .i64 (n:Nat)),(23,75,fun x=>.slice (some ⟨x.s,0,none⟩) n n),(24,76,fun x=>.pointer (some ⟨g,0,none⟩)),(25,77,fun x=>.pointer (some ⟨g,0+0,none⟩)),(26,78,fun x=>.pointer (some ⟨g,0+0+0,none⟩)),(27,79,fun x=>.pointer (some ⟨g,0+0+0+15,none⟩)),(29,80,fun x=>.pointer (some ⟨g,0,none⟩)),(30,81,fun x=>.pointer (some ⟨g,0+0,none⟩)),(31,82,fun x=>.pointer (some ⟨g,0+0+0,none⟩)),(32,83,fun x=>.pointer (some ⟨g,0+0+0+16,none⟩)),(34,84,fun x=>.pointer (some ⟨g,0,none⟩)),(35,85,fun x=>.pointer (some ⟨g,0+0,none⟩)),(36,86,fun x=>.pointer (some ⟨g,0+0+0,none⟩)),(37,87,fun x=>.pointer (some ⟨g,0+0+0+17,none⟩))] [9,16,23,28,33,38] (fun x S w'=>LI w18 T g n ({ s with role:=2,leader:=s.id,votes:=[],elapsed:=0 }:Rf) (⟨E,Ec,none,0,X,Xc,M,Mc,Sn,Sc,Q,Qc,LL⟩:Ra) (Value.slice O L.length oc) x S w') (by kernel_rfl) (by kernel_rfl) rfl rfl (fun x S i w1 w2 hq hF h=>LI.rd h hq hF) (⟨⟨0,0,0⟩,⟨ai.rfl_.d1.toChg,(hs3.b.from_ ((ai.rfl_).d1)),fun h=>(by cases h),fun h=>(by cases h),fun h=>(by cases h),fun h=>(by cases h),fun h=>(by cases h),fun h=>(by cases h),(hs3.b.from_ ai.rfl_).lt⟩⟩) ?_ ?_)))
 ·constructor
  ·rintro S L' w19 x hU hme hI hM hC hS ⟨-⟩;have hM':=hM;obtain ⟨hc19,hb19,u919,u1619,u2319,q119,q219,q319,lt19⟩:=hM';have e0:=InvX.out hI (t:=0) rfl;exact cl [(0,_)] x hU hI (.head _) rfl (by kernel_rfl) ⟨e0,trivial⟩ (a_ (v:=.pointer _) rfl) ct (hme _ _ _ _ _ rfl ai.rfl_ hM)
  constructor
  ·rintro S L' w20 x hU hme hI hM hC hS ⟨-,-⟩;have hM':=hM;obtain ⟨hc20,hb20,u920,u1620,u2320,q120,q220,q320,lt20⟩:=hM';have e0:=InvX.out hI (t:=0) rfl;exact cl [(0,_)] x hU hI (.tail _ (.head _)) rfl (by kernel_rfl) ⟨e0,trivial⟩ (a_ (v:=.pointer _) rfl) ct (hme _ _ _ _ _ rfl ai.rfl_ hM)
  constructor
  ·rintro S L' w21 x hU hme hI hM hC hS ⟨-,-⟩;have hM':=hM;obtain ⟨hc21,hb21,u921,u1621,u2321,q121,q221,q321,lt21⟩:=hM';have e0:=InvX.out hI (t:=0) rfl;exact cl [(0,_)] x hU hI (.tail _ (.tail _ (.head _))) rfl (by kernel_rfl) ⟨e0,trivial⟩ (a_ (v:=.pointer _) rfl) ct (hme _ _ _ _ _ rfl ai.rfl_ hM)
  constructor
  ·rintro S L' w22 x hU hme hI hM hC hS ⟨-⟩;have hM':=hM;obtain ⟨hc22,hb22,u922,u1622,u2322,q122,q222,q322,lt22⟩:=hM';have e0:=InvX.out hI (t:=0) rfl;exact cl [(0,_)] x hU hI (.tail _ (.tail _ (.tail _ (.head _)))) rfl (by kernel_rfl) ⟨e0,trivial⟩ (a_ (v:=.pointer _) rfl) ct (hme _ _ _ _ _ rfl ai.rfl_ hM)
  constructor
  ·rintro S L' w23 x hU hme hI hM hC hS ⟨d3,-⟩;have hM':=hM;obtain ⟨hc23,hb23,u923,u1623,u2323,q123,q223,q323,lt23⟩:=hM';have e55:=InvX.get hI (i:=3) (.tail _ (.tail _ (.tail _ (.head _)))) d3;exact cl [(55,_)] x hU hI (.tail _ (.tail _ (.tail _ (.tail _ (.head _))))) rfl (by kernel_rfl) ⟨e55,trivial⟩ (aE rfl) ct (hme _ _ _ _ _ rfl ai.rfl_ hM)
  constructor
  ·rintro S L' w24 x hU hme hI hM hC hS ⟨d4,-⟩;have hM':=hM;obtain ⟨hc24,hb24,u924,u1624,u2324,q124,q224,q324,lt24⟩:=hM';have e56:=InvX.get hI (i:=4) (.tail _ (.tail _ (.tail _ (.tail _ (.head _))))) d4;exact cl [(56,_)] x hU hI (.tail _ (.tail _ (.tail _ (.tail _ (.tail _ (.head _)))))) rfl (by kernel_rfl) ⟨e56,trivial⟩ (af aK rfl) ct (hme _ _ _ _ _ rfl ai.rfl_ hM)
  constructor
  ·rintro S L' w25 x hU hme hI hM hC hS ⟨d5,-⟩;have hM':=hM;obtain ⟨hc25,hb25,u925,u1625,u2325,q125,q225,q325,lt25⟩:=hM';have e57:=InvX.get hI (i:=5) (.tail _ (.tail _ (.tail _ (.tail _ (.tail _ (.head _)))))) d5;exact cl [(57,_)] x hU hI (.tail _ (.tail _ (.tail _ (.tail _ (.tail _ (.tail _ (.head _))))))) rfl (by kernel_rfl) ⟨e57,trivial⟩ (af aC rfl) ct (hme _ _ _ _ _ rfl ai.rfl_ hM)
  constructor
  ·rintro S L' w26 x hU hme hI hM hC hS ⟨d6,-⟩;have hM':=hM;obtain ⟨hc26,hb26,u926,u1626,u2326,q126,q226,q326,lt26⟩:=hM';have e58:=InvX.get hI (i:=6) (.tail _ (.tail _ (.tail _ (.tail _ (.tail _ (.tail _ (.head _))))))) d6;exact cl [(58,_)] x hU hI (.tail _ (.tail _ (.tail _ (.tail _ (.tail _ (.tail _ (.tail _ (.head _)))))))) rfl (by kernel_rfl) ⟨e58,trivial⟩ (af br rfl) ct (hme _ _ _ _ _ rfl ai.rfl_ hM)
  constructor
  ·rintro S L' w27 x hU hme hI hM hC hS ⟨d7,-⟩;have hM':=hM;obtain ⟨hc27,hb27,u927,u1627,u2327,q127,q227,q327,lt27⟩:=hM';have e59:=InvX.get hI (i:=7) (.tail _ (.tail _ (.tail _ (.tail _ (.tail _ (.tail _ (.tail _ (.head _)))))))) d7;exact cl [(59,_)] x hU hI (.tail _ (.tail _ (.tail _ (.tail _ (.tail _ (.tail _ (.tail _ (.tail _ (.head _))))))))) rfl (by kernel_rfl) ⟨e59,trivial⟩ (ij (ar aq rfl (show _=some (Value.int .i64 s.nodes) from hM.b.rd 1 rfl)) (bC hn)) ct (hme _ _ _ _ _ rfl ai.rfl_ hM)
  constructor
  ·rintro S L' w28 x hU hme hI hM hC hS ⟨d8,d8,-⟩;have hM':=hM;obtain ⟨hc28,hb28,u928,u1628,u2328,q128,q228,q328,lt28⟩:=hM';have e60:=InvX.get hI (i:=8) (.tail _ (.tail _ (.tail _ (.tail _ (.tail _ (.tail _ (.tail _ (.tail _ (.head _))))))))) d8;have h28:S 28=false:=ao hC (j:=28) rfl (by kernel_rfl) hS;exact cl [(60,_)] ⟨w28.heap.size,x.m,x.s⟩ hU hI (.tail _ (.tail _ (.tail _ (.tail _ (.tail _ (.tail _ (.tail _ (.tail _ (.tail _ (.head _)))))))))) rfl (by kernel_rfl) ⟨e60,trivial⟩ (qM j_ rfl rfl rfl (by omega) (by omega)) ⟨fun _=>rfl,fun _=>rfl,fun _=>rfl,fun _=>rfl,fun _=>rfl,fun _=>rfl,fun _=>rfl,fun _=>rfl,fun _=>rfl,fun h=>(by rw [hS] at h;cases h),fun _=>rfl,fun _=>rfl,fun _=>rfl,fun _=>rfl,fun _=>rfl,fun _=>rfl,fun _=>rfl,fun _=>rfl,fun _=>rfl,fun _=>rfl,fun _=>rfl,fun _=>rfl,fun _=>rfl,fun _=>rfl,fun _=>rfl,fun _=>rfl,fun _=>rfl,fun _=>rfl,fun _=>rfl,fun _=>rfl,fun _=>rfl,fun _=>rfl,fun _=>rfl,fun _=>rfl,fun _=>rfl,fun _=>rfl,trivial⟩ (LI.mk9 hM h28 ⟨hM.c.size,Blk.new _ _ _⟩ (ai.rfl_.new _))
  constructor
  ·rintro S L' w29 x hU hme hI hM hC hS ⟨-⟩;have hM':=hM;obtain ⟨hc29,hb29,u929,u1629,u2329,q129,q229,q329,lt29⟩:=hM';have e0:=InvX.out hI (t:=0) rfl;exact cl [(0,_)] x hU hI (.tail _ (.tail _ (.tail _ (.tail _ (.tail _ (.tail _ (.tail _ (.tail _ (.tail _ (.tail _ (.head _))))))))))) rfl (by kernel_rfl) ⟨e0,trivial⟩ (a_ (v:=.pointer _) rfl) ct (hme _ _ _ _ _ rfl ai.rfl_ hM)
  constructor
  ·rintro S L' w30 x hU hme hI hM hC hS ⟨d10,-⟩;have hM':=hM;obtain ⟨hc30,hb30,u930,u1630,u2330,q130,q230,q330,lt30⟩:=hM';have e62:=InvX.get hI (i:=10) (.tail _ (.tail _ (.tail _ (.tail _ (.tail _ (.tail _ (.tail _ (.tail _ (.tail _ (.tail _ (.head _))))))))))) d10;exact cl [(62,_)] x hU hI (.tail _ (.tail _ (.tail _ (.tail _ (.tail _ (.tail _ (.tail _ (.tail _ (.tail _ (.tail _ (.tail _ (.head _)))))))))))) rfl (by kernel_rfl) ⟨e62,trivial⟩ (aE rfl) ct (hme _ _ _ _ _ rfl ai.rfl_ hM)
  constructor
  ·rintro S L' w31 x hU hme hI hM hC hS ⟨d11,-⟩;have hM':=hM;obtain ⟨hc31,hb31,u931,u1631,u2331,q131,q231,q331,lt31⟩:=hM';have e63:=InvX.get hI (i:=11) (.tail _ (.tail _ (.tail _ (.tail _ (.tail _ (.tail _ (.tail _ (.tail _ (.tail _ (.tail _ (.tail _ (.head _)))))))))))) d11;exact cl [(63,_)] x hU hI (.tail _ (.tail _ (.tail _ (.tail _ (.tail _ (.tail _ (.tail _ (.tail _ (.tail _ (.tail _ (.tail _ (.tail _ (.head _))))))))))))) rfl (by kernel_rfl) ⟨e63,trivial⟩ (af aK rfl) ct (hme _ _ _ _ _ rfl ai.rfl_ hM)
  constructor
  ·rintro S L' w32 x hU hme hI hM hC hS ⟨d12,-⟩;have hM':=hM;obtain ⟨hc32,hb32,u932,u1632,u2332,q132,q232,q332,lt32⟩:=hM';have e64:=InvX.get hI (i:=12) (.tail _ (.tail _ (.tail _ (.tail _ (.tail _ (.tail _ (.tail _ (.tail _ (.tail _ (.tail _ (.tail _ (.tail _ (.head _))))))))))))) d12;exact cl [(64,_)] x hU hI (.tail _ (.tail _ (.tail _ (.tail _ (.tail _ (.tail _ (.tail _ (.tail _ (.tail _ (.tail _ (.tail _ (.tail _ (.tail _ (.head _)))))))))))))) rfl (by kernel_rfl) ⟨e64,trivial⟩ (af aC rfl) ct (hme _ _ _ _ _ rfl ai.rfl_ hM)
  constructor
  ·rintro S L' w33 x hU hme hI hM hC hS ⟨d13,-⟩;have hM':=hM;obtain ⟨hc33,hb33,u933,u1633,u2333,q133,q233,q333,lt33⟩:=hM';have e65:=InvX.get hI (i:=13) (.tail _ (.tail _ (.tail _ (.tail _ (.tail _ (.tail _ (.tail _ (.tail _ (.tail _ (.tail _ (.tail _ (.tail _ (.tail _ (.head _)))))))))))))) d13;exact cl [(65,_)] x hU hI (.tail _ (.tail _ (.tail _ (.tail _ (.tail _ (.tail _ (.tail _ (.tail _ (.tail _ (.tail _ (.tail _ (.tail _ (.tail _ (.tail _ (.head _))))))))))))))) rfl (by kernel_rfl) ⟨e65,trivial⟩ (af br rfl) ct (hme _ _ _ _ _ rfl ai.rfl_ hM)
  constructor
  ·rintro S L' w34 x hU hme hI hM hC hS ⟨d14,-⟩;have hM':=hM;obtain ⟨hc34,hb34,u934,u1634,u2334,q134,q234,q334,lt34⟩:=hM';have e66:=InvX.get hI (i:=14) (.tail _ (.tail _ (.tail _ (.tail _ (.tail _ (.tail _ (.tail _ (.tail _ (.tail _ (.tail _ (.tail _ (.tail _ (.tail _ (.tail _ (.head _))))))))))))))) d14;exact cl [(66,_)] x hU hI (.tail _ (.tail _ (.tail _ (.tail _ (.tail _ (.tail _ (.tail _ (.tail _ (.tail _ (.tail _ (.tail _ (.tail _ (.tail _ (.tail _ (.tail _ (.head _)))))))))))))))) rfl (by kernel_rfl) ⟨e66,trivial⟩ (ij (ar aq rfl (show _=some (Value.int .i64 s.nodes) from hM.b.rd 1 rfl)) (bC hn)) ct (hme _ _ _ _ _ rfl ai.rfl_ hM)
  constructor
  ·rintro S L' w35 x hU hme hI hM hC hS ⟨d15,d15,-⟩;have hM':=hM;obtain ⟨hc35,hb35,u935,u1635,u2335,q135,q235,q335,lt35⟩:=hM';have e67:=InvX.get hI (i:=15) (.tail _ (.tail _ (.tail _ (.tail _ (.tail _ (.tail _ (.tail _ (.tail _ (.tail _ (.tail _ (.tail _ (.tail _ (.tail _ (.tail _ (.tail _ (.head _)))))))))))))))) d15;have h28:S 33=false:=ao hC (j:=33) rfl (by kernel_rfl) hS;exact cl [(67,_)] ⟨x.x,w35.heap.size,x.s⟩ hU hI (.tail _ (.tail _ (.tail _ (.tail _ (.tail _ (.tail _ (.tail _ (.tail _ (.tail _ (.tail _ (.tail _ (.tail _ (.tail _ (.tail _ (.tail _ (.tail _ (.head _))))))))))))))))) rfl (by kernel_rfl) ⟨e67,trivial⟩ (qM j_ rfl rfl rfl (by omega) (by omega)) ⟨fun _=>rfl,fun _=>rfl,fun _=>rfl,fun _=>rfl,fun _=>rfl,fun _=>rfl,fun _=>rfl,fun _=>rfl,fun _=>rfl,fun _=>rfl,fun _=>rfl,fun _=>rfl,fun _=>rfl,fun _=>rfl,fun _=>rfl,fun _=>rfl,fun h=>(by rw [hS] at h;cases h),fun _=>rfl,fun _=>rfl,fun _=>rfl,fun _=>rfl,fun _=>rfl,fun _=>rfl,fun _=>rfl,fun _=>rfl,fun _=>rfl,fun _=>rfl,fun _=>rfl,fun _=>rfl,fun _=>rfl,fun _=>rfl,fun _=>rfl,fun _=>rfl,fun _=>rfl,fun _=>rfl,fun _=>rfl,trivial⟩ (LI.mk16 hM h28 ⟨hM.c.size,Blk.new _ _ _⟩ (ai.rfl_.new _))
  constructor
  ·rintro S L' w36 x hU hme hI hM hC hS ⟨-⟩;have hM':=hM;obtain ⟨hc36,hb36,u936,u1636,u2336,q136,q236,q336,lt36⟩:=hM';have e0:=InvX.out hI (t:=0) rfl;exact cl [(0,_)] x hU hI (.tail _ (.tail _ (.tail _ (.tail _ (.tail _ (.tail _ (.tail _ (.tail _ (.tail _ (.tail _ (.tail _ (.tail _ (.tail _ (.tail _ (.tail _ (.tail _ (.tail _ (.head _)))))))))))))))))) rfl (by kernel_rfl) ⟨e0,trivial⟩ (a_ (v:=.pointer _) rfl) ct (hme _ _ _ _ _ rfl ai.rfl_ hM)
  constructor
  ·rintro S L' w37 x hU hme hI hM hC hS ⟨d17,-⟩;have hM':=hM;obtain ⟨hc37,hb37,u937,u1637,u2337,q137,q237,q337,lt37⟩:=hM';have e69:=InvX.get hI (i:=17) (.tail _ (.tail _ (.tail _ (.tail _ (.tail _ (.tail _ (.tail _ (.tail _ (.tail _ (.tail _ (.tail _ (.tail _ (.tail _ (.tail _ (.tail _ (.tail _ (.tail _ (.head _)))))))))))))))))) d17;exact cl [(69,_)] x hU hI (.tail _ (.tail _ (.tail _ (.tail _ (.tail _ (.tail _ (.tail _ (.tail _ (.tail _ (.tail _ (.tail _ (.tail _ (.tail _ (.tail _ (.tail _ (.tail _ (.tail _ (.tail _ (.head _))))))))))))))))))) rfl (by kernel_rfl) ⟨e69,trivial⟩ (aE rfl) ct (hme _ _ _ _ _ rfl ai.rfl_ hM)
  constructor
  ·rintro S L' w38 x hU hme hI hM hC hS ⟨d18,-⟩;have hM':=hM;obtain ⟨hc38,hb38,u938,u1638,u2338,q138,q238,q338,lt38⟩:=hM';have e70:=InvX.get hI (i:=18) (.tail _ (.tail _ (.tail _ (.tail _ (.tail _ (.tail _ (.tail _ (.tail _ (.tail _ (.tail _ (.tail _ (.tail _ (.tail _ (.tail _ (.tail _ (.tail _ (.tail _ (.tail _ (.head _))))))))))))))))))) d18;exact cl [(70,_)] x hU hI (.tail _ (.tail _ (.tail _ (.tail _ (.tail _ (.tail _ (.tail _ (.tail _ (.tail _ (.tail _ (.tail _ (.tail _ (.tail _ (.tail _ (.tail _ (.tail _ (.tail _ (.tail _ (.tail _ (.head _)))))))))))))))))))) rfl (by kernel_rfl) ⟨e70,trivial⟩ (af aK rfl) ct (hme _ _ _ _ _ rfl ai.rfl_ hM)
  constructor
  ·rintro S L' w39 x hU hme hI hM hC hS ⟨d19,-⟩;have hM':=hM;obtain ⟨hc39,hb39,u939,u1639,u2339,q139,q239,q339,lt39⟩:=hM';have e71:=InvX.get hI (i:=19) (.tail _ (.tail _ (.tail _ (.tail _ (.tail _ (.tail _ (.tail _ (.tail _ (.tail _ (.tail _ (.tail _ (.tail _ (.tail _ (.tail _ (.tail _ (.tail _ (.tail _ (.tail _ (.tail _ (.head _)))))))))))))))))))) d19;exact cl [(71,_)] x hU hI (.tail _ (.tail _ (.tail _ (.tail _ (.tail _ (.tail _ (.tail _ (.tail _ (.tail _ (.tail _ (.tail _ (.tail _ (.tail _ (.tail _ (.tail _ (.tail _ (.tail _ (.tail _ (.tail _ (.tail _ (.head _))))))))))))))))))))) rfl (by kernel_rfl) ⟨e71,trivial⟩ (af aC rfl) ct (hme _ _ _ _ _ rfl ai.rfl_ hM)
  constructor
  ·rintro S L' w40 x hU hme hI hM hC hS ⟨d20,-⟩;have hM':=hM;obtain ⟨hc40,hb40,u940,u1640,u2340,q140,q240,q340,lt40⟩:=hM';have e72:=InvX.get hI (i:=20) (.tail _ (.tail _ (.tail _ (.tail _ (.tail _ (.tail _ (.tail _ (.tail _ (.tail _ (.tail _ (.tail _ (.tail _ (.tail _ (.tail _ (.tail _ (.tail _ (.tail _ (.tail _ (.tail _ (.tail _ (.head _))))))))))))))))))))) d20;exact cl [(72,_)] x hU hI (.tail _ (.tail _ (.tail _ (.tail _ (.tail _ (.tail _ (.tail _ (.tail _ (.tail _ (.tail _ (.tail _ (.tail _ (.tail _ (.tail _ (.tail _ (.tail _ (.tail _ (.tail _ (.tail _ (.tail _ (.tail _ (.head _)))))))))))))))))))))) rfl (by kernel_rfl) ⟨e72,trivial⟩ (af br rfl) ct (hme _ _ _ _ _ rfl ai.rfl_ hM)
  constructor
  ·rintro S L' w41 x hU hme hI hM hC hS ⟨d21,-⟩;have hM':=hM;obtain ⟨hc41,hb41,u941,u1641,u2341,q141,q241,q341,lt41⟩:=hM';have e73:=InvX.get hI (i:=21) (.tail _ (.tail _ (.tail _ (.tail _ (.tail _ (.tail _ (.tail _ (.tail _ (.tail _ (.tail _ (.tail _ (.tail _ (.tail _ (.tail _ (.tail _ (.tail _ (.tail _ (.tail _ (.tail _ (.tail _ (.tail _ (.head _)))))))))))))))))))))) d21;exact cl [(73,_)] x hU hI (.tail _ (.tail _ (.tail _ (.tail _ (.tail _ (.tail _ (.tail _ (.tail _ (.tail _ (.tail _ (.tail _ (.tail _ (.tail _ (.tail _ (.tail _ (.tail _ (.tail _ (.tail _ (.tail _ (.tail _ (.tail _ (.tail _ (.head _))))))))))))))))))))))) rfl (by kernel_rfl) ⟨e73,trivial⟩ (ij (ar aq rfl (show _=some (Value.int .i64 s.nodes) from hM.b.rd 1 rfl)) (bC hn)) ct (hme _ _ _ _ _ rfl ai.rfl_ hM)
  constructor
  ·rintro S L' w42 x hU hme hI hM hC hS ⟨d22,d22,-⟩;have hM':=hM;obtain ⟨hc42,hb42,u942,u1642,u2342,q142,q242,q342,lt42⟩:=hM';have e74:=InvX.get hI (i:=22) (.tail _ (.tail _ (.tail _ (.tail _ (.tail _ (.tail _ (.tail _ (.tail _ (.tail _ (.tail _ (.tail _ (.tail _ (.tail _ (.tail _ (.tail _ (.tail _ (.tail _ (.tail _ (.tail _ (.tail _ (.tail _ (.tail _ (.head _))))))))))))))))))))))) d22;have h28:S 38=false:=ao hC (j:=38) rfl (by kernel_rfl) hS;exact cl [(74,_)] ⟨x.x,x.m,w42.heap.size⟩ hU hI (.tail _ (.tail _ (.tail _ (.tail _ (.tail _ (.tail _ (.tail _ (.tail _ (.tail _ (.tail _ (.tail _ (.tail _ (.tail _ (.tail _ (.tail _ (.tail _ (.tail _ (.tail _ (.tail _ (.tail _ (.tail _ (.tail _ (.tail _ (.head _)))))))))))))))))))))))) rfl (by kernel_rfl) ⟨e74,trivial⟩ (qM j_ rfl rfl rfl (by omega) (by omega)) ⟨fun _=>rfl,fun _=>rfl,fun _=>rfl,fun _=>rfl,fun _=>rfl,fun _=>rfl,fun _=>rfl,fun _=>rfl,fun _=>rfl,fun _=>rfl,fun _=>rfl,fun _=>rfl,fun _=>rfl,fun _=>rfl,fun _=>rfl,fun _=>rfl,fun _=>rfl,fun _=>rfl,fun _=>rfl,fun _=>rfl,fun _=>rfl,fun _=>rfl,fun _=>rfl,fun h=>(by rw [hS] at h;cases h),fun _=>rfl,fun _=>rfl,fun _=>rfl,fun _=>rfl,fun _=>rfl,fun _=>rfl,fun _=>rfl,fun _=>rfl,fun _=>rfl,fun _=>rfl,fun _=>rfl,fun _=>rfl,trivial⟩ (LI.mk23 hM h28 ⟨hM.c.size,Blk.new _ _ _⟩ (ai.rfl_.new _))
  constructor
  ·rintro S L' w43 x hU hme hI hM hC hS ⟨d0,d0,-,-,d3,d4,d5,d6,d7,d8,d9,-,-,-,-,-,d15,-,-,-,-,-,-,d22,-,-⟩;have hM':=hM;obtain ⟨hc43,hb43,u943,u1643,u2343,q143,q243,q343,lt43⟩:=hM';have e52:=InvX.get hI (i:=0) (.head _) d0;exact cl [(52,_)] x hU hI (.tail _ (.tail _ (.tail _ (.tail _ (.tail _ (.tail _ (.tail _ (.tail _ (.tail _ (.tail _ (.tail _ (.tail _ (.tail _ (.tail _ (.tail _ (.tail _ (.tail _ (.tail _ (.tail _ (.tail _ (.tail _ (.tail _ (.tail _ (.tail _ (.head _))))))))))))))))))))))))) rfl (by kernel_rfl) ⟨e52,trivial⟩ (aE rfl) ct (hme _ _ _ _ _ rfl ai.rfl_ hM)
  constructor
  ·rintro S L' w44 x hU hme hI hM hC hS ⟨d24,d0,-,-,d3,d4,d5,d6,d7,d8,d9,-,-,-,-,-,d15,-,-,-,-,-,-,d22,-,-⟩;have hM':=hM;obtain ⟨hc44,hb44,u944,u1644,u2344,q144,q244,q344,lt44⟩:=hM';have e76:=InvX.get hI (i:=24) (.tail _ (.tail _ (.tail _ (.tail _ (.tail _ (.tail _ (.tail _ (.tail _ (.tail _ (.tail _ (.tail _ (.tail _ (.tail _ (.tail _ (.tail _ (.tail _ (.tail _ (.tail _ (.tail _ (.tail _ (.tail _ (.tail _ (.tail _ (.tail _ (.head _))))))))))))))))))))))))) d24;exact cl [(76,_)] x hU hI (.tail _ (.tail _ (.tail _ (.tail _ (.tail _ (.tail _ (.tail _ (.tail _ (.tail _ (.tail _ (.tail _ (.tail _ (.tail _ (.tail _ (.tail _ (.tail _ (.tail _ (.tail _ (.tail _ (.tail _ (.tail _ (.tail _ (.tail _ (.tail _ (.tail _ (.head _)))))))))))))))))))))))))) rfl (by kernel_rfl) ⟨e76,trivial⟩ (af aK rfl) ct (hme _ _ _ _ _ rfl ai.rfl_ hM)
  constructor
  ·rintro S L' w45 x hU hme hI hM hC hS ⟨d25,d0,-,-,d3,d4,d5,d6,d7,d8,d9,-,-,-,-,-,d15,-,-,-,-,-,-,d22,-,-⟩;have hM':=hM;obtain ⟨hc45,hb45,u945,u1645,u2345,q145,q245,q345,lt45⟩:=hM';have e77:=InvX.get hI (i:=25) (.tail _ (.tail _ (.tail _ (.tail _ (.tail _ (.tail _ (.tail _ (.tail _ (.tail _ (.tail _ (.tail _ (.tail _ (.tail _ (.tail _ (.tail _ (.tail _ (.tail _ (.tail _ (.tail _ (.tail _ (.tail _ (.tail _ (.tail _ (.tail _ (.tail _ (.head _)))))))))))))))))))))))))) d25;exact cl [(77,_)] x hU hI (.tail _ (.tail _ (.tail _ (.tail _ (.tail _ (.tail _ (.tail _ (.tail _ (.tail _ (.tail _ (.tail _ (.tail _ (.tail _ (.tail _ (.tail _ (.tail _ (.tail _ (.tail _ (.tail _ (.tail _ (.tail _ (.tail _ (.tail _ (.tail _ (.tail _ (.tail _ (.head _))))))))))))))))))))))))))) rfl (by kernel_rfl) ⟨e77,trivial⟩ (af aC rfl) ct (hme _ _ _ _ _ rfl ai.rfl_ hM)
  constructor
  ·rintro S L' w46 x hU hme hI hM hC hS ⟨d26,d0,-,-,d3,d4,d5,d6,d7,d8,d9,-,-,-,-,-,d15,-,-,-,-,-,-,d22,-,-⟩;have hM':=hM;obtain ⟨hc46,hb46,u946,u1646,u2346,q146,q246,q346,lt46⟩:=hM';have e78:=InvX.get hI (i:=26) (.tail _ (.tail _ (.tail _ (.tail _ (.tail _ (.tail _ (.tail _ (.tail _ (.tail _ (.tail _ (.tail _ (.tail _ (.tail _ (.tail _ (.tail _ (.tail _ (.tail _ (.tail _ (.tail _ (.tail _ (.tail _ (.tail _ (.tail _ (.tail _ (.tail _ (.tail _ (.head _))))))))))))))))))))))))))) d26;exact cl [(78,_)] x hU hI (.tail _ (.tail _ (.tail _ (.tail _ (.tail _ (.tail _ (.tail _ (.tail _ (.tail _ (.tail _ (.tail _ (.tail _ (.tail _ (.tail _ (.tail _ (.tail _ (.tail _ (.tail _ (.tail _ (.tail _ (.tail _ (.tail _ (.tail _ (.tail _ (.tail _ (.tail _ (.tail _ (.head _)))))))))))))))))))))))))))) rfl (by kernel_rfl) ⟨e78,trivial⟩ (af bX rfl) ct (hme _ _ _ _ _ rfl ai.rfl_ hM)
  constructor
  ·rintro S L' w47 x hU hme hI hM hC hS ⟨d27,d9,d0,-,-,d3,d4,d5,d6,d7,d8,d9,-,-,-,-,-,d15,-,-,-,-,-,-,d22,-,-⟩;have hM':=hM;obtain ⟨hc47,hb47,u947,u1647,u2347,q147,q247,q347,lt47⟩:=hM';have e61:=InvX.get hI (i:=9) (.tail _ (.tail _ (.tail _ (.tail _ (.tail _ (.tail _ (.tail _ (.tail _ (.tail _ (.head _)))))))))) d9;have e79:=InvX.get hI (i:=27) (.tail _ (.tail _ (.tail _ (.tail _ (.tail _ (.tail _ (.tail _ (.tail _ (.tail _ (.tail _ (.tail _ (.tail _ (.tail _ (.tail _ (.tail _ (.tail _ (.tail _ (.tail _ (.tail _ (.tail _ (.tail _ (.tail _ (.tail _ (.tail _ (.tail _ (.tail _ (.tail _ (.head _)))))))))))))))))))))))))))) d27;obtain ⟨w2,hR,hO,hb2⟩:=kI (n:=124) (L:=[(61,_),(79,_)]) (x:=.tmp 79) (y:=.tmp 61) (v:=.slice (some ⟨x.x,0,none⟩) n n) cS rfl rfl rfl hM.b (show 15<23 by decide)
   have hb3:Blk w2 g T (lvX ({ s with role:=2,leader:=s.id,votes:=[],elapsed:=0 }:Rf) (⟨E,Ec,none,0,X,Xc,M,Mc,Sn,Sc,Q,Qc,LL⟩:Ra) n x (c_ S 28)++[Value.slice O L.length oc]).toArray:=by
    rw [←xg];exact hb2
   exact l_ [(61,_),(79,_)] hI (wk rfl) rfl (by kernel_rfl) ⟨e61,e79,trivial⟩ hR (LI.st hM (.inl rfl) hO hb3)
  constructor
  ·rintro S L' w48 x hU hme hI hM hC hS ⟨d1,d0,d1,-,d3,d4,d5,d6,d7,d8,d9,d10,d11,d12,d13,d14,d15,d16,-,-,-,-,-,d22,-,d24,d25,d26,d27,d28,-⟩;have hM':=hM;obtain ⟨hc48,hb48,u948,u1648,u2348,q148,q248,q348,lt48⟩:=hM';have e53:=InvX.get hI (i:=1) (.tail _ (.head _)) d1;exact cl [(53,_)] x hU hI (.tail _ (.tail _ (.tail _ (.tail _ (.tail _ (.tail _ (.tail _ (.tail _ (.tail _ (.tail _ (.tail _ (.tail _ (.tail _ (.tail _ (.tail _ (.tail _ (.tail _ (.tail _ (.tail _ (.tail _ (.tail _ (.tail _ (.tail _ (.tail _ (.tail _ (.tail _ (.tail _ (.tail _ (.head _))))))))))))))))))))))))))))) rfl (by kernel_rfl) ⟨e53,trivial⟩ (aE rfl) ct (hme _ _ _ _ _ rfl ai.rfl_ hM)
  constructor
  ·rintro S L' w49 x hU hme hI hM hC hS ⟨d29,d0,d1,-,d3,d4,d5,d6,d7,d8,d9,d10,d11,d12,d13,d14,d15,d16,-,-,-,-,-,d22,-,d24,d25,d26,d27,d28,-⟩;have hM':=hM;obtain ⟨hc49,hb49,u949,u1649,u2349,q149,q249,q349,lt49⟩:=hM';have e80:=InvX.get hI (i:=29) (.tail _ (.tail _ (.tail _ (.tail _ (.tail _ (.tail _ (.tail _ (.tail _ (.tail _ (.tail _ (.tail _ (.tail _ (.tail _ (.tail _ (.tail _ (.tail _ (.tail _ (.tail _ (.tail _ (.tail _ (.tail _ (.tail _ (.tail _ (.tail _ (.tail _ (.tail _ (.tail _ (.tail _ (.head _))))))))))))))))))))))))))))) d29;exact cl [(80,_)] x hU hI (.tail _ (.tail _ (.tail _ (.tail _ (.tail _ (.tail _ (.tail _ (.tail _ (.tail _ (.tail _ (.tail _ (.tail _ (.tail _ (.tail _ (.tail _ (.tail _ (.tail _ (.tail _ (.tail _ (.tail _ (.tail _ (.tail _ (.tail _ (.tail _ (.tail _ (.tail _ (.tail _ (.tail _ (.tail _ (.head _)))))))))))))))))))))))))))))) rfl (by kernel_rfl) ⟨e80,trivial⟩ (af aK rfl) ct (hme _ _ _ _ _ rfl ai.rfl_ hM)
  constructor
  ·rintro S L' w50 x hU hme hI hM hC hS ⟨d30,d0,d1,-,d3,d4,d5,d6,d7,d8,d9,d10,d11,d12,d13,d14,d15,d16,-,-,-,-,-,d22,-,d24,d25,d26,d27,d28,-⟩;have hM':=hM;obtain ⟨hc50,hb50,u950,u1650,u2350,q150,q250,q350,lt50⟩:=hM';have e81:=InvX.get hI (i:=30) (.tail _ (.tail _ (.tail _ (.tail _ (.tail _ (.tail _ (.tail _ (.tail _ (.tail _ (.tail _ (.tail _ (.tail _ (.tail _ (.tail _ (.tail _ (.tail _ (.tail _ (.tail _ (.tail _ (.tail _ (.tail _ (.tail _ (.tail _ (.tail _ (.tail _ (.tail _ (.tail _ (.tail _ (.tail _ (.head _)))))))))))))))))))))))))))))) d30;exact cl [(81,_)] x hU hI (.tail _ (.tail _ (.tail _ (.tail _ (.tail _ (.tail _ (.tail _ (.tail _ (.tail _ (.tail _ (.tail _ (.tail _ (.tail _ (.tail _ (.tail _ (.tail _ (.tail _ (.tail _ (.tail _ (.tail _ (.tail _ (.tail _ (.tail _ (.tail _ (.tail _ (.tail _ (.tail _ (.tail _ (.tail _ (.tail _ (.head _))))))))))))))))))))))))))))))) rfl (by kernel_rfl) ⟨e81,trivial⟩ (af aC rfl) ct (hme _ _ _ _ _ rfl ai.rfl_ hM)
  constructor
  ·rintro S L' w51 x hU hme hI hM hC hS ⟨d31,d0,d1,-,d3,d4,d5,d6,d7,d8,d9,d10,d11,d12,d13,d14,d15,d16,-,-,-,-,-,d22,-,d24,d25,d26,d27,d28,-⟩;have hM':=hM;obtain ⟨hc51,hb51,u951,u1651,u2351,q151,q251,q351,lt51⟩:=hM';have e82:=InvX.get hI (i:=31) (.tail _ (.tail _ (.tail _ (.tail _ (.tail _ (.tail _ (.tail _ (.tail _ (.tail _ (.tail _ (.tail _ (.tail _ (.tail _ (.tail _ (.tail _ (.tail _ (.tail _ (.tail _ (.tail _ (.tail _ (.tail _ (.tail _ (.tail _ (.tail _ (.tail _ (.tail _ (.tail _ (.tail _ (.tail _ (.tail _ (.head _))))))))))))))))))))))))))))))) d31;exact cl [(82,_)] x hU hI (.tail _ (.tail _ (.tail _ (.tail _ (.tail _ (.tail _ (.tail _ (.tail _ (.tail _ (.tail _ (.tail _ (.tail _ (.tail _ (.tail _ (.tail _ (.tail _ (.tail _ (.tail _ (.tail _ (.tail _ (.tail _ (.tail _ (.tail _ (.tail _ (.tail _ (.tail _ (.tail _ (.tail _ (.tail _ (.tail _ (.tail _ (.head _)))))))))))))))))))))))))))))))) rfl (by kernel_rfl) ⟨e82,trivial⟩ (af b_ rfl) ct (hme _ _ _ _ _ rfl ai.rfl_ hM)
  constructor
  ·rintro S L' w52 x hU hme hI hM hC hS ⟨d32,d16,d28,d0,d1,-,d3,d4,d5,d6,d7,d8,d9,d10,d11,d12,d13,d14,d15,d16,-,-,-,-,-,d22,-,d24,d25,d26,d27,d28,-⟩;have hM':=hM;obtain ⟨hc52,hb52,u952,u1652,u2352,q152,q252,q352,lt52⟩:=hM';have e68:=InvX.get hI (i:=16) (.tail _ (.tail _ (.tail _ (.tail _ (.tail _ (.tail _ (.tail _ (.tail _ (.tail _ (.tail _ (.tail _ (.tail _ (.tail _ (.tail _ (.tail _ (.tail _ (.head _))))))))))))))))) d16;have e83:=InvX.get hI (i:=32) (.tail _ (.tail _ (.tail _ (.tail _ (.tail _ (.tail _ (.tail _ (.tail _ (.tail _ (.tail _ (.tail _ (.tail _ (.tail _ (.tail _ (.tail _ (.tail _ (.tail _ (.tail _ (.tail _ (.tail _ (.tail _ (.tail _ (.tail _ (.tail _ (.tail _ (.tail _ (.tail _ (.tail _ (.tail _ (.tail _ (.tail _ (.head _)))))))))))))))))))))))))))))))) d32;obtain ⟨w2,hR,hO,hb2⟩:=kI (n:=124) (L:=[(68,_),(83,_)]) (x:=.tmp 83) (y:=.tmp 68) (v:=.slice (some ⟨x.m,0,none⟩) n n) cS rfl rfl rfl hM.b (show 16<23 by decide)
   have hb3:Blk w2 g T (lvX ({ s with role:=2,leader:=s.id,votes:=[],elapsed:=0 }:Rf) (⟨E,Ec,none,0,X,Xc,M,Mc,Sn,Sc,Q,Qc,LL⟩:Ra) n x (c_ S 33)++[Value.slice O L.length oc]).toArray:=by
    rw [←xc];exact hb2
   exact l_ [(68,_),(83,_)] hI (wk rfl) rfl (by kernel_rfl) ⟨e68,e83,trivial⟩ hR (LI.st hM (.inr (.inl rfl)) hO hb3)
  constructor
  ·rintro S L' w53 x hU hme hI hM hC hS ⟨d2,d0,d1,d2,d3,d4,d5,d6,d7,d8,d9,d10,d11,d12,d13,d14,d15,d16,d17,d18,d19,d20,d21,d22,d23,d24,d25,d26,d27,d28,d29,d30,d31,d32,d33,-⟩;have hM':=hM;obtain ⟨hc53,hb53,u953,u1653,u2353,q153,q253,q353,lt53⟩:=hM';have e54:=InvX.get hI (i:=2) (.tail _ (.tail _ (.head _))) d2;exact cl [(54,_)] x hU hI (.tail _ (.tail _ (.tail _ (.tail _ (.tail _ (.tail _ (.tail _ (.tail _ (.tail _ (.tail _ (.tail _ (.tail _ (.tail _ (.tail _ (.tail _ (.tail _ (.tail _ (.tail _ (.tail _ (.tail _ (.tail _ (.tail _ (.tail _ (.tail _ (.tail _ (.tail _ (.tail _ (.tail _ (.tail _ (.tail _ (.tail _ (.tail _ (.head _))))))))))))))))))))))))))))))))) rfl (by kernel_rfl) ⟨e54,trivial⟩ (aE rfl) ct (hme _ _ _ _ _ rfl ai.rfl_ hM)
  constructor
  ·rintro S L' w54 x hU hme hI hM hC hS ⟨d34,d0,d1,d2,d3,d4,d5,d6,d7,d8,d9,d10,d11,d12,d13,d14,d15,d16,d17,d18,d19,d20,d21,d22,d23,d24,d25,d26,d27,d28,d29,d30,d31,d32,d33,-⟩;have hM':=hM;obtain ⟨hc54,hb54,u954,u1654,u2354,q154,q254,q354,lt54⟩:=hM';have e84:=InvX.get hI (i:=34) (.tail _ (.tail _ (.tail _ (.tail _ (.tail _ (.tail _ (.tail _ (.tail _ (.tail _ (.tail _ (.tail _ (.tail _ (.tail _ (.tail _ (.tail _ (.tail _ (.tail _ (.tail _ (.tail _ (.tail _ (.tail _ (.tail _ (.tail _ (.tail _ (.tail _ (.tail _ (.tail _ (.tail _ (.tail _ (.tail _ (.tail _ (.tail _ (.head _))))))))))))))))))))))))))))))))) d34;exact cl [(84,_)] x hU hI (.tail _ (.tail _ (.tail _ (.tail _ (.tail _ (.tail _ (.tail _ (.tail _ (.tail _ (.tail _ (.tail _ (.tail _ (.tail _ (.tail _ (.tail _ (.tail _ (.tail _ (.tail _ (.tail _ (.tail _ (.tail _ (.tail _ (.tail _ (.tail _ (.tail _ (.tail _ (.tail _ (.tail _ (.tail _ (.tail _ (.tail _ (.tail _ (.tail _ (.head _)))))))))))))))))))))))))))))))))) rfl (by kernel_rfl) ⟨e84,trivial⟩ (af aK rfl) ct (hme _ _ _ _ _ rfl ai.rfl_ hM)
  constructor
  ·rintro S L' w55 x hU hme hI hM hC hS ⟨d35,d0,d1,d2,d3,d4,d5,d6,d7,d8,d9,d10,d11,d12,d13,d14,d15,d16,d17,d18,d19,d20,d21,d22,d23,d24,d25,d26,d27,d28,d29,d30,d31,d32,d33,-⟩;have hM':=hM;obtain ⟨hc55,hb55,u955,u1655,u2355,q155,q255,q355,lt55⟩:=hM';have e85:=InvX.get hI (i:=35) (.tail _ (.tail _ (.tail _ (.tail _ (.tail _ (.tail _ (.tail _ (.tail _ (.tail _ (.tail _ (.tail _ (.tail _ (.tail _ (.tail _ (.tail _ (.tail _ (.tail _ (.tail _ (.tail _ (.tail _ (.tail _ (.tail _ (.tail _ (.tail _ (.tail _ (.tail _ (.tail _ (.tail _ (.tail _ (.tail _ (.tail _ (.tail _ (.tail _ (.head _)))))))))))))))))))))))))))))))))) d35;exact cl [(85,_)] x hU hI (.tail _ (.tail _ (.tail _ (.tail _ (.tail _ (.tail _ (.tail _ (.tail _ (.tail _ (.tail _ (.tail _ (.tail _ (.tail _ (.tail _ (.tail _ (.tail _ (.tail _ (.tail _ (.tail _ (.tail _ (.tail _ (.tail _ (.tail _ (.tail _ (.tail _ (.tail _ (.tail _ (.tail _ (.tail _ (.tail _ (.tail _ (.tail _ (.tail _ (.tail _ (.head _))))))))))))))))))))))))))))))))))) rfl (by kernel_rfl) ⟨e85,trivial⟩ (af aC rfl) ct (hme _ _ _ _ _ rfl ai.rfl_ hM)
  constructor
  ·rintro S L' w56 x hU hme hI hM hC hS ⟨d36,d0,d1,d2,d3,d4,d5,d6,d7,d8,d9,d10,d11,d12,d13,d14,d15,d16,d17,d18,d19,d20,d21,d22,d23,d24,d25,d26,d27,d28,d29,d30,d31,d32,d33,-⟩;have hM':=hM;obtain ⟨hc56,hb56,u956,u1656,u2356,q156,q256,q356,lt56⟩:=hM';have e86:=InvX.get hI (i:=36) (.tail _ (.tail _ (.tail _ (.tail _ (.tail _ (.tail _ (.tail _ (.tail _ (.tail _ (.tail _ (.tail _ (.tail _ (.tail _ (.tail _ (.tail _ (.tail _ (.tail _ (.tail _ (.tail _ (.tail _ (.tail _ (.tail _ (.tail _ (.tail _ (.tail _ (.tail _ (.tail _ (.tail _ (.tail _ (.tail _ (.tail _ (.tail _ (.tail _ (.tail _ (.head _))))))))))))))))))))))))))))))))))) d36;exact cl [(86,_)] x hU hI (.tail _ (.tail _ (.tail _ (.tail _ (.tail _ (.tail _ (.tail _ (.tail _ (.tail _ (.tail _ (.tail _ (.tail _ (.tail _ (.tail _ (.tail _ (.tail _ (.tail _ (.tail _ (.tail _ (.tail _ (.tail _ (.tail _ (.tail _ (.tail _ (.tail _ (.tail _ (.tail _ (.tail _ (.tail _ (.tail _ (.tail _ (.tail _ (.tail _ (.tail _ (.tail _ (.head _)))))))))))))))))))))))))))))))))))) rfl (by kernel_rfl) ⟨e86,trivial⟩ (af bU rfl) ct (hme _ _ _ _ _ rfl ai.rfl_ hM)
  constructor
  ·rintro S L' w57 x hU hme hI hM hC hS ⟨d37,d23,d33,d0,d1,d2,d3,d4,d5,d6,d7,d8,d9,d10,d11,d12,d13,d14,d15,d16,d17,d18,d19,d20,d21,d22,d23,d24,d25,d26,d27,d28,d29,d30,d31,d32,d33,-⟩;have hM':=hM;obtain ⟨hc57,hb57,u957,u1657,u2357,q157,q257,q357,lt57⟩:=hM';have e75:=InvX.get hI (i:=23) (.tail _ (.tail _ (.tail _ (.tail _ (.tail _ (.tail _ (.tail _ (.tail _ (.tail _ (.tail _ (.tail _ (.tail _ (.tail _ (.tail _ (.tail _ (.tail _ (.tail _ (.tail _ (.tail _ (.tail _ (.tail _ (.tail _ (.tail _ (.head _)))))))))))))))))))))))) d23;have e87:=InvX.get hI (i:=37) (.tail _ (.tail _ (.tail _ (.tail _ (.tail _ (.tail _ (.tail _ (.tail _ (.tail _ (.tail _ (.tail _ (.tail _ (.tail _ (.tail _ (.tail _ (.tail _ (.tail _ (.tail _ (.tail _ (.tail _ (.tail _ (.tail _ (.tail _ (.tail _ (.tail _ (.tail _ (.tail _ (.tail _ (.tail _ (.tail _ (.tail _ (.tail _ (.tail _ (.tail _ (.tail _ (.head _)))))))))))))))))))))))))))))))))))) d37;obtain ⟨w2,hR,hO,hb2⟩:=kI (n:=124) (L:=[(75,_),(87,_)]) (x:=.tmp 87) (y:=.tmp 75) (v:=.slice (some ⟨x.s,0,none⟩) n n) cS rfl rfl rfl hM.b (show 17<23 by decide)
   have hb3:Blk w2 g T (lvX ({ s with role:=2,leader:=s.id,votes:=[],elapsed:=0 }:Rf) (⟨E,Ec,none,0,X,Xc,M,Mc,Sn,Sc,Q,Qc,LL⟩:Ra) n x (c_ S 38)++[Value.slice O L.length oc]).toArray:=by
    rw [←w_];exact hb2
   exact l_ [(75,_),(87,_)] hI (wk rfl) rfl (by kernel_rfl) ⟨e75,e87,trivial⟩ hR (LI.st hM (.inr (.inr rfl)) hO hb3)
  exact trivial
 ·intro x58 w58 hM;obtain ⟨hc58,hb58,u958,u1658,u2358,q158,q258,q358,lt58⟩:=hM;obtain ⟨xx,xm,xs⟩:=x58;have hbr:=hb58
  have hb4:Blk w58 g T (rfV ({ s with role:=2,leader:=s.id,votes:=[],elapsed:=0,next:=List.replicate n 0,mtch:=List.replicate n 0,sent:=List.replicate n 0 }:Rf) (⟨E,Ec,none,0,some ⟨xx,0,none⟩,n,some ⟨xm,0,none⟩,n,some ⟨xs,0,none⟩,n,Q,Qc,LL⟩:Ra)++[Value.slice O L.length oc]).toArray:=by
   unfold rfV;simp only [List.length_replicate];exact hb58
  obtain ⟨h4,tag4,hs4⟩:=h3.three hs3 hc58 (by omega) (u958 rfl) (u1658 rfl) (u2358 rfl) (q158 rfl rfl) (q258 rfl rfl) (q358 rfl rfl) hb4;refine ah (ak (ak (ag (mvp rfl (aa (aE rfl) (aa (af aK rfl) (aa (af aC rfl) (aa (af bX rfl) (aa (ar aN rfl (by exact (show _=some (Value.slice (some ⟨xx,0,none⟩) n n) from (hbr.from_ ai.rfl_).rd 15 rfl))) ?_)))))))));refine aa (bn bZ rfl) (mvi rfl (aj (ah (aZ (cj (G:=Nat×(Nat→Nat)) [4,96,97,98,99,100,101,102,103,104,105,106,107,108] (fun (i,_)=>[(95,.int .i64 (i:Nat))]) (fun (i,tg) w'=>i≤n∧bN w0 Z w' T g ⟨({ s with role:=2,leader:=s.id,votes:=[],elapsed:=0,next:=gy n i (bk s+1),mtch:=List.replicate n 0,sent:=List.replicate n 0 }:Rf),out⟩∧gm w' Z T g tg ⟨({ s with role:=2,leader:=s.id,votes:=[],elapsed:=0,next:=gy n i (bk s+1),mtch:=List.replicate n 0,sent:=List.replicate n 0 }:Rf),out⟩ (⟨E,Ec,none,0,some ⟨xx,0,none⟩,n,some ⟨xm,0,none⟩,n,some ⟨xs,0,none⟩,n,Q,Qc,LL⟩:Ra) O oc L) (fun (i,_)=>n-i) ((0,tag4)) ⟨rfl,trivial⟩ ?_ ?_)))))
  ·exact ⟨Nat.zero_le _,(by rw [tx];exact h4.from_ (ai.rfl_ (a:=w58))),(by rw [tx];exact hs4.from_ (ai.rfl_ (a:=w58)))⟩
  rintro ⟨i,tg⟩ ρ59 w59 ⟨hi,h5,hs5⟩;refine ak (ag (aa (bH rfl rfl) (aj (ah (ak (xD rfl (fun Q60=>?_) (fun Q60=>?_)))))))
  ·have hb5:=hs5.b;have hil:(gy n i (bk s+1)).length=n:=pB hi
   have hr15:∀ w9,ai w59 w9→w9.cell? ⟨g,15,none⟩=some (.slice (some ⟨xx,0,none⟩) n n):=fun w9 hF9=>by
    have h9:=da (hb5.from_ hF9) 15 rfl;rw [show ({ s with role:=2,leader:=s.id,votes:=[],elapsed:=0,next:=gy n i (bk s+1),mtch:=List.replicate n 0,sent:=List.replicate n 0 }:Rf).next.length=n from hil] at h9;exact h9
   have hxo:(w59).ownsRow 0 3 1 (.slice (some ⟨xx,0,none⟩) n n) n ((gy n i (bk s+1)).map iV):=by
    have h9:=(hs5.f.x (by decide)).1;rw [show (Sp.s ⟨({ s with role:=2,leader:=s.id,votes:=[],elapsed:=0,next:=gy n i (bk s+1),mtch:=List.replicate n 0,sent:=List.replicate n 0 }:Rf),out⟩).next.length=n from hil] at h9;exact h9
   refine aP (ah (ak (aZ (ak (ag (mvi rfl (asi rfl (aj (ah (ag (mvp rfl (aa (aE rfl) (aa (af aK rfl) (aa (af aC rfl) (aa (af bX rfl) ?_)))))))))))))));refine aa (ar aN rfl (by exact hr15 _ (ai.rfl_ (a:=w59)))) ?_;refine mvi rfl (mvi rfl (aa (bI rfl rfl (by omega)) (aa (dS cw rfl rfl (by omega)) ?_)));have hB8:ai _ w59:=(ai.rfl_ (a:=w59));refine jG (xs:=(gy n i (bk s+1)).map iV) ck rfl rfl rfl (hxo.kept_from (ai.rfl_ (a:=w59))) (by omega) ?_;intro w61 O8 P8;have hgx:tg xx=2:=(hs5.f.x (by decide)).2 xx rfl;have hC8:Chg (fun k=>tg k=2) _ w61:=(ai.toChg hB8).only O8 hgx;have hil2:(gy n (i+1) (bk s+1)).length=n:=pB (by omega)
   have hxo8:(w61).ownsRow 0 3 1 (.slice (some ⟨xx,0,none⟩) n n) n ((gy n (i+1) (bk s+1)).map iV):=by
    rw [←tw (by omega),←qJ];exact P8
   have hb8:Blk w61 g T (rfV ({ s with role:=2,leader:=s.id,votes:=[],elapsed:=0,next:=gy n (i+1) (bk s+1),mtch:=List.replicate n 0,sent:=List.replicate n 0 }:Rf) (⟨E,Ec,none,0,some ⟨xx,0,none⟩,n,some ⟨xm,0,none⟩,n,some ⟨xs,0,none⟩,n,Q,Qc,LL⟩:Ra)++[Value.slice O L.length oc]).toArray:=by
    have h9:=(hb5.from_ hB8).only O8 (fun e=>by have:=hs5.gc;rw [e,hgx] at this;cases this)
    have e9:rfV ({ s with role:=2,leader:=s.id,votes:=[],elapsed:=0,next:=gy n (i+1) (bk s+1),mtch:=List.replicate n 0,sent:=List.replicate n 0 }:Rf) (⟨E,Ec,none,0,some ⟨xx,0,none⟩,n,some ⟨xm,0,none⟩,n,some ⟨xs,0,none⟩,n,Q,Qc,LL⟩:Ra)=rfV ({ s with role:=2,leader:=s.id,votes:=[],elapsed:=0,next:=gy n i (bk s+1),mtch:=List.replicate n 0,sent:=List.replicate n 0 }:Rf) (⟨E,Ec,none,0,some ⟨xx,0,none⟩,n,some ⟨xm,0,none⟩,n,some ⟨xs,0,none⟩,n,Q,Qc,LL⟩:Ra):=by
     unfold rfV;simp only [hil,hil2]
    rw [e9];exact h9
   have hf8:=(hs5.f.but hC8).next (l:=gy n (i+1) (bk s+1)) hil2.symm hxo8 (fun q hq=>by cases hq;rw [bQ (cI hxo _ rfl)];exact hgx);obtain ⟨hs6a,h6⟩:=h5.put (s':=({ s with role:=2,leader:=s.id,votes:=[],elapsed:=0,next:=gy n (i+1) (bk s+1),mtch:=List.replicate n 0,sent:=List.replicate n 0 }:Rf)) (a':=(⟨E,Ec,none,0,some ⟨xx,0,none⟩,n,some ⟨xm,0,none⟩,n,some ⟨xs,0,none⟩,n,Q,Qc,LL⟩:Ra)) hs5 hC8 (.inl (by decide)) hf8 (Chg.rfl_ (U:=fun k=>k=g)) hb8;obtain ⟨tg6,hs6⟩:∃ t,gm w61 Z T g t ⟨({ s with role:=2,leader:=s.id,votes:=[],elapsed:=0,next:=gy n (i+1) (bk s+1),mtch:=List.replicate n 0,sent:=List.replicate n 0 }:Rf),out⟩ (⟨E,Ec,none,0,some ⟨xx,0,none⟩,n,some ⟨xm,0,none⟩,n,some ⟨xs,0,none⟩,n,Q,Qc,LL⟩:Ra) O oc L:=⟨_,hs6a⟩;refine aj (bJ (ah (ag (aa (bI rfl rfl (by omega)) (mvi rfl (aj ?_))))));refine cD ((i+1,tg6)) ⟨(by first | rfl | (refine bC ?_;omega)),trivial⟩ (by (iterate 30 refine bR rfl ?_);exact cg) ⟨?_,?_⟩
   ·exact ⟨by omega,h6.from_ (ai.rfl_ (a:=w61)),hs6.from_ (ai.rfl_ (a:=w61))⟩
   ·show n-(i+1)<n-i;omega
  have hin:i=n:=by omega
  rw [hin,vX] at h5 hs5;have hb7:=hs5.b;refine b0 (bf (bf (bE (ah (ak (ag (mvp rfl (aa (aE rfl) (aa (af aK rfl) (aa (af aC rfl) (aa (af aT rfl) ?_)))))))))));have hB7:ai _ w59:=(ai.rfl_ (a:=w59));refine cF (s':=({ s with role:=2,leader:=s.id,votes:=[],elapsed:=0,next:=List.replicate n (bk s+1),mtch:=List.replicate n 0,reads:=[],sent:=List.replicate n 0 }:Rf)) (a':=(⟨E,Ec,none,0,some ⟨xx,0,none⟩,n,some ⟨xm,0,none⟩,n,some ⟨xs,0,none⟩,n,none,0,[]⟩:Ra)) (v:=.slice _ _ _) fQ rfl rfl rfl ((hb7.from_ (ai.rfl_ (a:=w59)))) (by exact ⟨by decide,rfl⟩) ?_;intro w62 O10_0 P10_0;obtain ⟨hs7,h7a⟩:=h5.set (s':=({ s with role:=2,leader:=s.id,votes:=[],elapsed:=0,next:=List.replicate n (bk s+1),mtch:=List.replicate n 0,reads:=[],sent:=List.replicate n 0 }:Rf)) (a':=(⟨E,Ec,none,0,some ⟨xx,0,none⟩,n,some ⟨xm,0,none⟩,n,some ⟨xs,0,none⟩,n,none,0,[]⟩:Ra)) hs5 ((ai.toChg hB7).only O10_0 rfl) (aQ.same hs5.f.noreads rfl rfl rfl rfl rfl rfl) P10_0;rw [hn0] at h7a;have h7:bN w0 Z w62 T g ⟨dV s,out⟩:=h7a;refine aj (ah (ak (ag (mvp rfl (aa (aE rfl) (aa (af aK rfl) (aB rL (wD w0 Z T g ⟨(dV s),out⟩ _ (h7.from_ (ai.rfl_ (a:=w62))) hF.chief h8 ⟨#[]⟩ (by decide)) ?_)))))));rintro v117 w63 ⟨rfl,h9⟩;refine aj (ah (ak (ag (mvp rfl (aB mX (mh w0 Z T g ⟨eC (dV s) ⟨#[]⟩,out⟩ _ (h9.from_ (ai.rfl_ (a:=w63))) (hF.lead h8) rfl (show out.length≤800 by omega)) ?_)))));rintro v119 w64 ⟨rfl,h10⟩;refine aj (ah (ag (mvp rfl (aa (aE rfl) (aa (af aK rfl) ?_)))))
  have h11:bN w0 Z w64 T g ⟨eC (dV s) ⟨#[]⟩,((⟨eC (dV s) ⟨#[]⟩,out⟩:Sp).all).out⟩:=by
   have e9:(⟨eC (dV s) ⟨#[]⟩,out⟩:Sp).all=⟨eC (dV s) ⟨#[]⟩,((⟨eC (dV s) ⟨#[]⟩,out⟩:Sp).all).out⟩:=by rw [mQ]
   rw [←e9];exact h10.from_ (ai.rfl_ (a:=w64))
  obtain ⟨tag11,a11,O11,oc11,L11,hs11⟩:=h11.ex;refine aB rK (sy w0 Z T g (eC (dV s) ⟨#[]⟩) ((⟨eC (dV s) ⟨#[]⟩,out⟩:Sp).all).out _ (h11.from_ (ai.rfl_ (a:=w64))) _ _ _ _ _ (hs11.from_ (ai.rfl_ (a:=w64))) (hF.lead h8) rfl) ?_;rintro v123 w65 ⟨rfl,h12,_⟩;refine aj (eb (gx rfl ?_));unfold pP
  first
   |(rw [if_pos h8t];exact ⟨rfl,hS9.from_ ai.rfl_⟩)
   |(rw [if_neg (by show ¬ gr s=true;rw [h8];decide)]
     refine ⟨rfl,?_⟩;show bN w0 Z _ T g ⟨dd (Sp.all ⟨eC (dV s) ⟨#[]⟩,out⟩).s,(Sp.all ⟨eC (dV s) ⟨#[]⟩,out⟩).out⟩;rw [show (Sp.all ⟨eC (dV s) ⟨#[]⟩,out⟩).s=eC (dV s) ⟨#[]⟩ by rw [mQ]];exact h12.from_ (ai.rfl_ (a:=w65)))
end Go.Proofs.YtkpooenofjdpmaaGreat
namespace Go.Proofs.YtkpooenofjdpmaaGreat
open Go.Proofs.Tryz (prog)
open Go.RowKit
open Go.ChangeShapes Go.WideShapes Go.ChangeAt
theorem ly:aR prog 86=true:=by kernel_rfl
theorem o6:aR prog 161=true:=by kernel_rfl
theorem jD:aR prog 54=true:=by kernel_rfl
theorem ia:∀ (a0:Int) (a1:Int),prog.built 39 [(0,.int .i64 1),(4,.int .i64 a0),(5,.int .i64 a1)]=some #[.int .i64 1,.int .i64 0,.int .i64 0,.int .i64 0,.int .i64 a0,.int .i64 a1,.int .i64 0,.int .i64 0,.bool false,.slice none 0 0,.int .i64 0,.string ⟨#[]⟩,.bool false]:=by intros;kernel_rfl
theorem o7:aR prog 138=true:=by kernel_rfl
theorem qq:aR prog 97=true:=by kernel_rfl
def nq (s:Rf) (k:Int):Msg:={ zM with k:=1,t:=k,ix:=bk s,lt:=dD s.t s.es }
theorem uw (s:Rf):∀ (l:List Int) (p:Sp),(l.foldl (fun (p:Sp) k=>p.tell (nq s k)) p).s=p.s
 |[],_=>rfl
 |_::l,p=>uw s l (p.tell _)
theorem mO (s:Rf):∀ (l:List Int) (p:Sp),(l.foldl (fun (p:Sp) k=>p.tell (nq s k)) p).out.length=p.out.length+l.length
 |[],_=>rfl
 |x::l,p=>by
  show (l.foldl _ (p.tell (nq s x))).out.length=_;rw [mO s l (p.tell _)];show (p.out++[_]).length+l.length=p.out.length+(l.length+1);rw [List.length_append,List.length_singleton];omega
theorem ux {s:Rf} {l:List Int} {i:Nat} (h:i<l.length) (p:Sp):(l.take (i+1)).foldl (fun (p:Sp) k=>p.tell (nq s k)) p=((l.take i).foldl (fun (p:Sp) k=>p.tell (nq s k)) p).tell (nq s l[i]):=by
 rw [List.take_succ_eq_append_getElem h,List.foldl_append];rfl
theorem pZ {s:Rf} (h:s.term≠ea):gY s=k7 ((de (dM s)).foldl (fun (p:Sp) k=>p.tell (nq (dM s) k)) (⟨dM s,[]⟩:Sp)):=by
 unfold gY;rw [if_neg h];rfl
theorem vk {s:Rf} (h:RfF s) (hr:s.role≠2):gk { s with term:=s.term+1,vote:=s.id,role:=1,leader:=0,votes:=[s.id],part:=⟨#[]⟩,partOf:=0 }=dM s:=by
 obtain ⟨h1,h2,h3,h4⟩:=h.free hr;unfold dM gk iN;simp only [h1,h2,h3,h4]
theorem uq (w0:World) (Z:Nat→Prop) (T g:Nat) (p:Sp) (w:World) (h:bN w0 Z w T g p) (hF:RfF p.s) (hl:p.out.length≤700) :
 Rt prog 138 [.pointer (some ⟨g,0,none⟩)] w (fun v w'=>v=.tuple #[]∧bN w0 Z w' T g (k7 p)):=by
 obtain ⟨s,out⟩:=p;obtain ⟨tag,a,O,oc,L,hs⟩:=h.ex;obtain ⟨E,Ec,V,Vc,X,Xc,M,Mc,Sn,Sc,Q,Qc,LL⟩:=a;have hb:Blk w g T (rfV s (⟨E,Ec,V,Vc,X,Xc,M,Mc,Sn,Sc,Q,Qc,LL⟩:Ra)++[Value.slice O L.length oc]).toArray:=hs.b
 have hll:L.length=out.length:=by
  have h9:=congrArg List.length hs.m.l;rw [List.length_map] at h9;exact h9
 have hF:RfF s:=hF;have hl:out.length≤700:=hl;have hvr:IR w V Vc s.votes:=jm (hs.f.v (by decide)).1;have hvl:=hF.vl;have hnn:=hF.n;refine enter (n:=14) Tryz.func138 rfl rfl rfl (ak ?_);apply dY 10 [(2,eqp _),(3,eqp _),(4,eqp _),(5,eqp _),(6,eqp _),(7,eqp _),(8,eqp _),(9,eqp _),(10,eqp (.slice V s.votes.length Vc)),(11,eqp _)] (by repeat first | exact eL | refine eK ?_ | refine ee ?_) (by kernel_rfl) (by kernel_rfl) ⟨aw _,aw _,aw _,aw _,aw _,aw _,aw _,aw _,aw _,aw _,trivial⟩
 case hop=>
  constructor
  ·rintro-w2 D2;exact aF (a_ (v:=.pointer _) rfl) rfl
  constructor
  ·rintro-w3 D3;rintro _ rfl;exact aF (aE rfl) rfl
  constructor
  ·rintro-w4 D4;rintro _ rfl;exact aF (af aK rfl) rfl
  constructor
  ·rintro-w5 D5;exact aF (a_ (v:=.pointer _) rfl) rfl
  constructor
  ·rintro-w6 D6;rintro _ rfl;exact aF (aE rfl) rfl
  constructor
  ·rintro-w7 D7;rintro _ rfl;exact aF (af aK rfl) rfl
  constructor
  ·rintro-w8 D8;rintro _ rfl;exact aF (af aC rfl) rfl
  constructor
  ·rintro-w9 D9;rintro _ rfl;exact aF (af cK rfl) rfl
  constructor
  ·rintro-w10 D10;rintro _ rfl;exact aF (ar aN rfl (by exact (show _=some (Value.slice V s.votes.length Vc) from da (hb.from_ (ai.rfl_.next D10)) 14 rfl))) rfl
  constructor
  ·rintro-w11 D11;rintro _ rfl v11_10 rfl;refine fy ly ((mJ T g s _ _ _ (hb.from_ (ai.rfl_.next D11)) V Vc s.votes (hvr.1.from_ (ai.rfl_.next D11)) (by omega) hnn).mono ?_);rintro v _ ⟨rfl,E11'⟩;exact ⟨E11',rfl⟩
  exact trivial
 case hend=>
  intro w12 D12;rintro _ rfl _ rfl _ rfl _ rfl _ rfl _ rfl _ rfl _ rfl v10 rfl _ rfl;show St ..;refine aj (ah (xD rfl (fun Q13=>?_) (fun Q13=>?_)))
  ·have h11t:dJ s.nodes s.votes=true:=by
    unfold dJ;exact decide_eq_true Q13
   refine ag (mvp rfl (aB o6 (u6 w0 Z T g ⟨s,out⟩ _ (h.from_ (ai.rfl_.next D12)) hF hl) ?_));rintro v13 w14 ⟨rfl,h13⟩;refine aj (eb (gx rfl ?_));unfold k7
   first
    |(rw [if_pos h11t];exact ⟨rfl,h13.from_ (ai.rfl_ (a:=w14))⟩)
    |(rw [if_neg (by show ¬ dJ s.nodes s.votes=true;rw [h11f];decide)];exact ⟨rfl,h.from_ (ai.rfl_ (a:=w14))⟩)
  have h11f:dJ s.nodes s.votes=false:=by
   unfold dJ;exact decide_eq_false (by omega)
  refine aP (eb (gx rfl ?_));unfold k7
  first
   |(rw [if_pos h11t];exact ⟨rfl,h13.from_ (ai.rfl_.next D12)⟩)
   |(rw [if_neg (by show ¬ dJ s.nodes s.votes=true;rw [h11f];decide)];exact ⟨rfl,h.from_ (ai.rfl_.next D12)⟩)
theorem uk (w0:World) (Z:Nat→Prop) (T g:Nat) (s:Rf) (w:World) (h:bN w0 Z w T g ⟨s,[]⟩) (hF:RfF s) (hr:s.role≠2) :
 Rt prog 97 [.pointer (some ⟨g,0,none⟩)] w (fun v w'=>v=.tuple #[]∧bN w0 Z w' T g (gY s)):=by
 obtain ⟨tag,a,O,oc,L,hs⟩:=h.ex;obtain ⟨E,Ec,V,Vc,X,Xc,M,Mc,Sn,Sc,Q,Qc,LL⟩:=a;have hb:Blk w g T (rfV s (⟨E,Ec,V,Vc,X,Xc,M,Mc,Sn,Sc,Q,Qc,LL⟩:Ra)++[Value.slice O L.length oc]).toArray:=hs.b
 have hll:L.length=0:=by
  have h9:=congrArg List.length hs.m.l;rw [List.length_map] at h9;exact h9
 have hB0:ai w w:=ai.rfl_;have hte:=hF.te;refine enter (n:=100) Tryz.func97 rfl rfl rfl (ak (ak (ag (mvp rfl (aa (aE rfl) (aa (af aK rfl) (aa (af aC rfl) (aa (af cJ rfl) (aa (ar aq rfl (by exact (show _=some (Value.int .i64 s.term) from da (hb.from_ ai.rfl_) 3 rfl))) ?_)))))))));refine aa (bu rfl rfl) (aj (ah (xD rfl (fun Q1=>?_) (fun Q1=>?_))))
 ·have hte8:s.term=ea:=Q1;refine ak (ag (mvp rfl (aa (aE rfl) (aa (af aK rfl) ?_))));have hB16:ai w w:=ai.rfl_;refine aB jD (oO T g s _ _ _ (hb.from_ ai.rfl_)) ?_;rintro v16 w2 ⟨rfl,hb16,hC16⟩;refine aj (ah (aA (ay (gx rfl ?_))));unfold gY;rw [if_pos hte8];exact ⟨rfl,((h.set (s':=gk s) hs ((ai.toChg hB16).next hC16) (aQ.same hs.f rfl rfl rfl rfl rfl rfl) hb16).2).from_ (ai.rfl_ (a:=w2))⟩
 have hte9:s.term≠ea:=Q1;have hFc:RfF (dM s):=hF.cand hte9;refine aP (ah (ak (ag (mvp rfl (aa (aE rfl) (aa (af aK rfl) (aa (af aC rfl) (aa (af cJ rfl) (aa (ar aq rfl (by exact (show _=some (Value.int .i64 s.term) from da (hb.from_ ai.rfl_) 3 rfl))) ?_)))))))));refine aa (bI rfl rfl (by omega)) (aa (aE rfl) (aa (af aK rfl) (aa (af aC rfl) ?_)));have hB0:ai w w:=ai.rfl_;refine aa (af cJ rfl) (cF (s':=({ s with term:=s.term+1 }:Rf)) (a':=(⟨E,Ec,V,Vc,X,Xc,M,Mc,Sn,Sc,Q,Qc,LL⟩:Ra)) (v:=.int _ _) ck rfl rfl rfl ((hb.from_ ai.rfl_)) (by exact ⟨by decide,rfl⟩) ?_);intro w3 O2_0 P2_0;have hC1:Chg (fun k=>k=g) w w3:=(ai.toChg hB0).only O2_0 rfl;refine aj (ah (ak (ag (mvp rfl (mvp rfl (mvp rfl (mvp rfl (aa (aE rfl) (aa (af aK rfl) (aa (af aC rfl) (aa (af dy rfl) ?_)))))))))));refine aa (ar aq rfl (by exact (show _=some (Value.int .i64 s.id) from da (P2_0.from_ (ai.rfl_ (a:=w3))) 0 rfl))) ?_;refine aa (aE rfl) (aa (af aK rfl) (aa (af aC rfl) ?_));have hM0:ai _ w3:=ai.rfl_;refine aa (af eO rfl) (cF (s':=({ s with term:=s.term+1,vote:=s.id }:Rf)) (a':=(⟨E,Ec,V,Vc,X,Xc,M,Mc,Sn,Sc,Q,Qc,LL⟩:Ra)) (v:=.int _ _) ck rfl rfl rfl ((P2_0.from_ ai.rfl_)) (by exact ⟨by decide,rfl⟩) ?_);intro w4 O3_0 P3_0;replace hC1:=(hC1.next (ai.toChg hM0)).only O3_0 rfl;refine aa (aE rfl) (aa (af aK rfl) (aa (af aC rfl) (aa (af cT rfl) (cF (s':=({ s with term:=s.term+1,vote:=s.id,role:=1 }:Rf)) (a':=(⟨E,Ec,V,Vc,X,Xc,M,Mc,Sn,Sc,Q,Qc,LL⟩:Ra)) (v:=.int _ _) ck rfl rfl rfl (P3_0) (by exact ⟨by decide,rfl⟩) ?_))));intro w5 O3_1 P3_1;replace hC1:=hC1.only O3_1 rfl;refine aa (aE rfl) (aa (af aK rfl) (aa (af aC rfl) (aa (af en rfl) (cF (s':=({ s with term:=s.term+1,vote:=s.id,role:=1,leader:=0 }:Rf)) (a':=(⟨E,Ec,V,Vc,X,Xc,M,Mc,Sn,Sc,Q,Qc,LL⟩:Ra)) (v:=.int _ _) ck rfl rfl rfl (P3_1) (by exact ⟨by decide,rfl⟩) ?_))));intro w6 O3_2 P3_2;replace hC1:=hC1.only O3_2 rfl;obtain ⟨hs3,h3⟩:=h.set (s':=({ s with term:=s.term+1,vote:=s.id,role:=1,leader:=0 }:Rf)) (a':=(⟨E,Ec,V,Vc,X,Xc,M,Mc,Sn,Sc,Q,Qc,LL⟩:Ra)) hs hC1 (aQ.same hs.f rfl rfl rfl rfl rfl rfl) P3_2;have hb3:=P3_2;refine aj (ah (ak (ag (mvp rfl (mvp rfl (aa (aE rfl) (aa (af aK rfl) (aa (af aC rfl) (aa (af dy rfl) (aa (ar aq rfl (by exact (show _=some (Value.int .i64 s.id) from da (hb3.from_ (ai.rfl_ (a:=w6))) 0 rfl))) ?_))))))))));have hz55:=((ai.rfl_ (a:=w6))).size;refine eG (v:=.int _ _) bK rfl rfl rfl ?_;intro b56 w7 E56 hb56 hk56;refine aa (aE rfl) (aa (af aK rfl) (aa (af aC rfl) (aa (af cK rfl) ?_)));have hB56:ai _ w7:=((ai.rfl_ (a:=w6)).next E56);refine cF (s':=({ s with term:=s.term+1,vote:=s.id,role:=1,leader:=0,votes:=[s.id] }:Rf)) (a':=(⟨E,Ec,some ⟨b56,0,none⟩,1,X,Xc,M,Mc,Sn,Sc,Q,Qc,LL⟩:Ra)) (v:=.slice _ _ _) cS rfl rfl rfl ((hb3.from_ ((ai.rfl_ (a:=w6)).next E56))) (by exact ⟨by decide,rfl⟩) ?_;intro w8 O4_0 P4_0;have hC4:Chg (fun k=>k=g) _ w8:=Chg.rfl_.only O4_0 rfl;refine aj (ah (ak (ag (mvp rfl (mvp rfl (aa (aE rfl) (aa (af aK rfl) (aa (af aC rfl) ?_))))))));have hM0:ai _ w8:=ai.rfl_;refine aa (af dw rfl) (cF (s':=({ s with term:=s.term+1,vote:=s.id,role:=1,leader:=0,votes:=[s.id],part:=⟨#[]⟩ }:Rf)) (a':=(⟨E,Ec,some ⟨b56,0,none⟩,1,X,Xc,M,Mc,Sn,Sc,Q,Qc,LL⟩:Ra)) (v:=.string _) jK rfl rfl rfl ((P4_0.from_ ai.rfl_)) (by exact ⟨by decide,rfl⟩) ?_);intro w9 O5_0 P5_0;replace hC4:=(hC4.next (ai.toChg hM0)).only O5_0 rfl;refine aa (aE rfl) (aa (af aK rfl) (aa (af aC rfl) (aa (af di rfl) (cF (s':=({ s with term:=s.term+1,vote:=s.id,role:=1,leader:=0,votes:=[s.id],part:=⟨#[]⟩,partOf:=0 }:Rf)) (a':=(⟨E,Ec,some ⟨b56,0,none⟩,1,X,Xc,M,Mc,Sn,Sc,Q,Qc,LL⟩:Ra)) (v:=.int _ _) ck rfl rfl rfl (P5_0) (by exact ⟨by decide,rfl⟩) ?_))));intro w10 O5_1 P5_1;replace hC4:=hC4.only O5_1 rfl;refine aj (ah (ak (ag (mvp rfl (aa (aE rfl) (aa (af aK rfl) ?_))))));have hM74:ai _ w10:=(ai.rfl_ (a:=w10));refine aB jD (oO T g ({ s with term:=s.term+1,vote:=s.id,role:=1,leader:=0,votes:=[s.id],part:=⟨#[]⟩,partOf:=0 }:Rf) (⟨E,Ec,some ⟨b56,0,none⟩,1,X,Xc,M,Mc,Sn,Sc,Q,Qc,LL⟩:Ra) _ _ (P5_1.from_ (ai.rfl_ (a:=w10)))) ?_;rintro v74 w11 ⟨rfl,hb74,hC74⟩;have hf4:=(hs3.f.but (c:=1) (ai.toChg hB56)).votes (l:=[s.id]) rfl (oH (Nat.zero_le _) hk56 (Nat.le_refl _) (by show 1≤maxLen;unfold maxLen;omega) rfl rfl) (fun q hq=>by cases hq;exact cN (by rw [hb56];exact hz55));obtain ⟨hs7,h7⟩:=h3.put (s':=gk ({ s with term:=s.term+1,vote:=s.id,role:=1,leader:=0,votes:=[s.id],part:=⟨#[]⟩,partOf:=0 }:Rf)) (a':=(⟨E,Ec,some ⟨b56,0,none⟩,1,X,Xc,M,Mc,Sn,Sc,Q,Qc,LL⟩:Ra)) hs3 (ai.toChg hB56) (.inl (by decide)) (aQ.same hf4 rfl rfl rfl rfl rfl rfl) ((hC4.next (ai.toChg hM74)).next hC74) hb74;rw [vk hF hr] at hs7 h7;refine aj (ah (ak (ag (mvp rfl (aa (aE rfl) (aa (af aK rfl) (aB fB (jq T g (dM s) _ _ _ (hs7.b.from_ (ai.rfl_ (a:=w11))) (hs7.f.rd.e.from_ (ai.rfl_ (a:=w11))) hFc.lg) ?_)))))));rintro v79 w12 ⟨rfl,E79⟩;refine mvt rfl (aa (aS rfl rfl) (aa (aS rfl rfl) (asi rfl (asi rfl (aj (ah (ak (ak (ag (mvp rfl (aa (aE rfl) (aa (af aK rfl) ?_))))))))))));have hz84:=(((ai.rfl_ (a:=w11)).next E79)).size;refine aB mS (nI T g (dM s) _ _ _ (hs7.b.from_ ((ai.rfl_ (a:=w11)).next E79)) (by have:=hFc.n;omega)) ?_;rintro v85 w13 ⟨⟨A85,c85,rfl,ho85⟩,E85⟩
 have h8:=h7.at_ (Z':=fun k=>Z k∨A85.map (·.block)=some k) (((ai.rfl_ (a:=w11)).next E79).next E85) (fun k hk=>by
  have hz7:=((((ai.rfl_ (a:=w11)).next E79).next E85)).size;rcases hk with e | e
  ·exact ⟨Nat.lt_of_lt_of_le (h7.zw k e) hz7,.inl e⟩
  ·have:=dt ho85 k e;exact ⟨this.2,.inr (by omega)⟩)
 have hB7:ai _ w13:=(((ai.rfl_ (a:=w11)).next E79).next E85);have ho7:=ho85;obtain ⟨Z7,hZ7⟩:∃ Z7,Z7=fun k=>Z k∨A85.map (·.block)=some k:=⟨_,rfl⟩
 rw [←hZ7] at h8;have hzi:∀ k,Z k→Z7 k:=fun k hk=>by rw [hZ7];exact .inl hk
 have hzr:∀ k,A85.map (·.block)=some k→Z7 k:=fun k hk=>by rw [hZ7];exact .inr hk
 have hol:=my (dM s);have hnn:=hFc.n;refine aa (bn bZ rfl) (mvi rfl (aj (ah (aZ (cj (G:=Nat) [5,88,89,90,91,92,93,94,95,96,97] (fun i=>[(87,.int .i64 (i:Nat))]) (fun i w'=>i≤(de (dM s)).length∧bN w13 Z7 w' T g (((de (dM s)).take i).foldl (fun (p:Sp) k=>p.tell (nq (dM s) k)) (⟨dM s,[]⟩:Sp))) (fun i=>(de (dM s)).length-i) (0) ⟨rfl,trivial⟩ ?_ ?_)))))
 ·exact ⟨Nat.zero_le _,h8⟩
 rintro i ρ14 w14 ⟨hi,h15⟩;refine ak (ag (aa (bH rfl rfl) (aj (ah (ak (xD rfl (fun Q15=>?_) (fun Q15=>?_)))))))
 ·have hi9:i<(de (dM s)).length:=by omega
  obtain ⟨g7,rfl⟩:=eu ho7 (by omega);have ho8:=db ho7 h15.fr (fun q hq e=>e (hzr q hq));have hc8:=iv (l:=(de (dM s))) ho8 i hi9;obtain ⟨tg9,a9,O9,oc9,L9,hs9⟩:=h15.ex
  have hl9:L9.length≤7:=by
   have h1:=congrArg List.length hs9.m.l;rw [List.length_map,mO,List.length_take] at h1;have h2:((⟨dM s,[]⟩:Sp).out).length=0:=rfl;omega
  refine aP (ah (ak (aZ (ak (ag (aa (dS cw rfl rfl (by omega)) (aa (ar aq rfl (by exact ej (ai.rfl_ (a:=w14)) hc8)) ?_)))))));refine asi rfl (aj (ah (ag (mvp rfl (mvi rfl (mvi rfl (mvi rfl (aa (cA (l:=[(0,.const (.int .i64 1)),(4,.tmp 93),(5,.tmp 94)]) (ia _ _)) (aB jA (qQ _ Z7 T g (((de (dM s)).take i).foldl (fun (p:Sp) k=>p.tell (nq (dM s) k)) (⟨dM s,[]⟩:Sp)) _ (h15.from_ (ai.rfl_ (a:=w14))) tg9 a9 O9 oc9 L9 (hs9.from_ (ai.rfl_ (a:=w14))) (by omega) { zM with k:=1,ix:=bk (dM s),lt:=dD (dM s).t (dM s).es } (de (dM s))[i] ⟨dF,Col.none⟩) ?_)))))))));rintro v96 w16 ⟨rfl,h16⟩;refine aj (bJ (ah (ag (aa (bI rfl rfl (by omega)) (mvi rfl (aj ?_))))));refine cD (i+1) ⟨(by first | rfl | (refine bC ?_;omega)),trivial⟩ (by (iterate 24 refine bR rfl ?_);exact cg) ⟨?_,?_⟩
  ·exact ⟨by omega,by rw [ux hi9];exact h16.from_ (ai.rfl_ (a:=w16))⟩
  ·omega
 obtain rfl:i=(de (dM s)).length:=by omega
 rw [List.take_length] at h15;have h9:=h7.back hB7 h15 hzi;refine b0 (bf (bf (bE (ah (ag (mvp rfl (aB o7 (uq w0 Z T g ((de (dM s)).foldl (fun (p:Sp) k=>p.tell (nq (dM s) k)) (⟨dM s,[]⟩:Sp)) _ (h9.from_ (ai.rfl_ (a:=w14))) (by rw [uw];exact hFc) (by rw [mO];show 0+_≤700;have:=hFc.n;omega)) ?_)))))));rintro v99 w17 ⟨rfl,h17⟩;refine aj (eb (gx rfl ?_));rw [pZ hte9];exact ⟨rfl,h17.from_ (ai.rfl_ (a:=w17))⟩
theorem uM (w0:World) (Z:Nat→Prop) (T g:Nat) (s:Rf) (w:World) (h:bN w0 Z w T g ⟨s,[]⟩) (hF:RfF s) :
 Rt prog 56 [.pointer (some ⟨g,0,none⟩)] w (fun v w'=>v=.tuple #[]∧bN w0 Z w' T g (gp s)):=by
 obtain ⟨tag,a,O,oc,L,hs⟩:=h.ex;obtain ⟨E,Ec,V,Vc,X,Xc,M,Mc,Sn,Sc,Q,Qc,LL⟩:=a;have hb:Blk w g T (rfV s (⟨E,Ec,V,Vc,X,Xc,M,Mc,Sn,Sc,Q,Qc,LL⟩:Ra)++[Value.slice O L.length oc]).toArray:=hs.b
 have hll:L.length=0:=by
  have h9:=congrArg List.length hs.m.l;rw [List.length_map] at h9;exact h9
 have hB0:ai w w:=ai.rfl_;have hel:=hF.el;have hrn:=hF.rn;have hti:=hF.ti;have hFe:RfF ({ s with elapsed:=min (s.elapsed+1) 1099511627775 }:Rf):=hF.elapse (by omega);refine enter (n:=64) Tryz.func56 rfl rfl rfl (ak (ag (mvp rfl (mvp rfl (aa (aE rfl) (aa (af aK rfl) (aa (af aC rfl) (aa (af dk rfl) (aa (ar aq rfl (by exact (show _=some (Value.int .i64 s.elapsed) from da (hb.from_ ai.rfl_) 11 rfl))) ?_)))))))));refine aa (bI rfl rfl (by omega)) (aa (mj rfl rfl) (fg (t:=10) (v:=.int _ _) (v':=.int .i64 (min (s.elapsed+1) 1099511627775)) rfl (by exact bC (by omega)) ?_));refine aa (aE rfl) (aa (af aK rfl) (aa (af aC rfl) (aa (af dk rfl) ?_)));have hB0:ai w w:=ai.rfl_;refine cF (s':=({ s with elapsed:=(min (s.elapsed+1) 1099511627775) }:Rf)) (a':=(⟨E,Ec,V,Vc,X,Xc,M,Mc,Sn,Sc,Q,Qc,LL⟩:Ra)) (v:=.int _ _) ck rfl rfl rfl ((hb.from_ ai.rfl_)) (by exact ⟨by decide,rfl⟩) ?_;intro w1 O0_0 P0_0;have hC1:Chg (fun k=>k=g) w w1:=(ai.toChg hB0).only O0_0 rfl;obtain ⟨hs3,h3⟩:=h.set (s':=({ s with elapsed:=(min (s.elapsed+1) 1099511627775) }:Rf)) (a':=(⟨E,Ec,V,Vc,X,Xc,M,Mc,Sn,Sc,Q,Qc,LL⟩:Ra)) hs hC1 (aQ.same hs.f rfl rfl rfl rfl rfl rfl) P0_0;have hb3:=P0_0;refine aj (ah (ak (ak (ag (mvp rfl (aa (aE rfl) (aa (af aK rfl) (aa (af aC rfl) (aa (af cT rfl) (aa (ar aq rfl (by exact (show _=some (Value.int .i64 s.role) from da (hb3.from_ (ai.rfl_ (a:=w1))) 2 rfl))) ?_))))))))));refine aa (dr rfl rfl) (aj (ah (xA rfl (fun Q2=>?_) (fun Q2=>?_))))
 ·refine ak (ak ?_);apply dY 13 [(22,eqp _),(23,eqp _),(24,eqp _),(25,eqp _),(26,eqp _),(27,eqp _),(28,eqp _),(29,eqp _),(30,eqp _),(31,eqp _),(32,eqp _),(33,eqp _),(34,eqp _)] (by repeat first | exact eL | refine eK ?_ | refine ee ?_) (by kernel_rfl) (by kernel_rfl) ⟨aw _,aw _,aw _,aw _,aw _,aw _,aw _,aw _,aw _,aw _,aw _,aw _,aw _,trivial⟩
  case hop=>
   constructor
   ·rintro-w4 D4;exact aF (a_ (v:=.pointer _) rfl) rfl
   constructor
   ·rintro-w5 D5;rintro _ rfl;exact aF (aE rfl) rfl
   constructor
   ·rintro-w6 D6;rintro _ rfl;exact aF (af aK rfl) rfl
   constructor
   ·rintro-w7 D7;rintro _ rfl;exact aF (af aC rfl) rfl
   constructor
   ·rintro-w8 D8;rintro _ rfl;exact aF (af dk rfl) rfl
   constructor
   ·rintro-w9 D9;rintro _ rfl;exact aF (ar aq rfl (by exact (show _=some (Value.int .i64 (min (s.elapsed+1) 1099511627775)) from da (hb3.from_ ((ai.rfl_ (a:=w1)).next D9)) 11 rfl))) rfl
   constructor
   ·rintro-w10 D10;exact aF (a_ (v:=.pointer _) rfl) rfl
   constructor
   ·rintro-w11 D11;rintro _ rfl;exact aF (aE rfl) rfl
   constructor
   ·rintro-w12 D12;rintro _ rfl;exact aF (af aK rfl) rfl
   constructor
   ·rintro-w13 D13;rintro _ rfl;exact aF (af aC rfl) rfl
   constructor
   ·rintro-w14 D14;rintro _ rfl;exact aF (af eg rfl) rfl
   constructor
   ·rintro-w15 D15;rintro _ rfl;exact aF (ar aq rfl (by exact (show _=some (Value.int .i64 s.timeout) from da (hb3.from_ ((ai.rfl_ (a:=w1)).next D15)) 12 rfl))) rfl
   constructor
   ·rintro-w16 D16;rintro _ rfl _ rfl;exact aF (kJ rfl rfl) rfl
   exact trivial
  case hend=>
   intro w17 D17;rintro _ rfl _ rfl _ rfl _ rfl _ rfl _ rfl _ rfl _ rfl _ rfl _ rfl _ rfl _ rfl _ rfl;show St ..;refine aj (ah (xD rfl (fun Q18=>?_) (fun Q18=>?_)))
   ·refine ag (mvp rfl (aB qq (uk w0 Z T g ({ s with elapsed:=min (s.elapsed+1) 1099511627775 }:Rf) _ (h3.from_ ((ai.rfl_ (a:=w1)).next D17)) hFe (show s.role≠2 by omega)) ?_));rintro v36 w19 ⟨rfl,h7⟩;refine aj (ah (aA (ay (gx rfl (⟨rfl,?_⟩)))));show bN w0 Z _ T g (if s.role=2 then (if 2≤min (s.elapsed+1) 1099511627775 then Sp.all ⟨({ s with elapsed:=0,round:=min (s.round+1) 1099511627775 }:Rf),[]⟩ else ⟨({ s with elapsed:=min (s.elapsed+1) 1099511627775 }:Rf),[]⟩) else if s.timeout≤min (s.elapsed+1) 1099511627775 then gY ({ s with elapsed:=min (s.elapsed+1) 1099511627775 }:Rf) else ⟨({ s with elapsed:=min (s.elapsed+1) 1099511627775 }:Rf),[]⟩)
    first
     |(rw [if_neg (show ¬ s.role=2 by omega),if_pos (by omega)];exact h7.from_ (ai.rfl_ (a:=w19)))
     |(rw [if_neg (show ¬ s.role=2 by omega),if_neg (by omega)];exact h3.from_ (ai.rfl_ (a:=w19)))
     |(rw [if_pos (show s.role=2 by omega),if_pos (by omega)];exact h8.from_ (ai.rfl_ (a:=w19)))
     |(rw [if_pos (show s.role=2 by omega),if_neg (by omega)];exact h3.from_ (ai.rfl_ (a:=w19)))
   refine aP (ah (aA (ay (gx rfl (⟨rfl,?_⟩)))));show bN w0 Z _ T g (if s.role=2 then (if 2≤min (s.elapsed+1) 1099511627775 then Sp.all ⟨({ s with elapsed:=0,round:=min (s.round+1) 1099511627775 }:Rf),[]⟩ else ⟨({ s with elapsed:=min (s.elapsed+1) 1099511627775 }:Rf),[]⟩) else if s.timeout≤min (s.elapsed+1) 1099511627775 then gY ({ s with elapsed:=min (s.elapsed+1) 1099511627775 }:Rf) else ⟨({ s with elapsed:=min (s.elapsed+1) 1099511627775 }:Rf),[]⟩)
   first
    |(rw [if_neg (show ¬ s.role=2 by omega),if_pos (by omega)];exact h7.from_ ((ai.rfl_ (a:=w1)).next D17))
    |(rw [if_neg (show ¬ s.role=2 by omega),if_neg (by omega)];exact h3.from_ ((ai.rfl_ (a:=w1)).next D17))
    |(rw [if_pos (show s.role=2 by omega),if_pos (by omega)];exact h8.from_ ((ai.rfl_ (a:=w1)).next D17))
    |(rw [if_pos (show s.role=2 by omega),if_neg (by omega)];exact h3.from_ ((ai.rfl_ (a:=w1)).next D17))
 refine aP (ah (ak (ag (mvp rfl (aa (aE rfl) (aa (af aK rfl) (aa (af aC rfl) (aa (af dk rfl) (aa (ar aq rfl (by exact (show _=some (Value.int .i64 (min (s.elapsed+1) 1099511627775)) from da (hb3.from_ (ai.rfl_ (a:=w1))) 11 rfl))) ?_)))))))));refine aa (kJ rfl rfl) (aj (ah (xD rfl (fun Q20=>?_) (fun Q20=>?_))))
 ·refine ak (ag (mvp rfl (aa (aE rfl) (aa (af aK rfl) (aa (af aC rfl) (aa (af dk rfl) ?_))))));have hB5:ai _ w1:=(ai.rfl_ (a:=w1));refine cF (s':=({ s with elapsed:=0 }:Rf)) (a':=(⟨E,Ec,V,Vc,X,Xc,M,Mc,Sn,Sc,Q,Qc,LL⟩:Ra)) (v:=.int _ _) ck rfl rfl rfl ((hb3.from_ (ai.rfl_ (a:=w1)))) (by exact ⟨by decide,rfl⟩) ?_;intro w21 O5_0 P5_0;have hC5:Chg (fun k=>k=g) _ w21:=(ai.toChg hB5).only O5_0 rfl;refine aj (ah (ak (ag (mvp rfl (mvp rfl (aa (aE rfl) (aa (af aK rfl) (aa (af aC rfl) (aa (af cR rfl) (aa (ar aq rfl (by exact (show _=some (Value.int .i64 s.round) from da (P5_0.from_ (ai.rfl_ (a:=w21))) 18 rfl))) ?_))))))))));refine aa (bI rfl rfl (by omega)) (aa (mj rfl rfl) (fg (t:=57) (v:=.int _ _) (v':=.int .i64 (min (s.round+1) 1099511627775)) rfl (by exact bC (by omega)) ?_));refine aa (aE rfl) (aa (af aK rfl) (aa (af aC rfl) (aa (af cR rfl) ?_)));have hB6:ai _ w21:=(ai.rfl_ (a:=w21));refine cF (s':=({ s with elapsed:=0,round:=min (s.round+1) 1099511627775 }:Rf)) (a':=(⟨E,Ec,V,Vc,X,Xc,M,Mc,Sn,Sc,Q,Qc,LL⟩:Ra)) (v:=.int _ _) ck rfl rfl rfl ((P5_0.from_ (ai.rfl_ (a:=w21)))) (by exact ⟨by decide,rfl⟩) ?_;intro w22 O6_0 P6_0;obtain ⟨hs6,h6⟩:=h3.set (s':=({ s with elapsed:=0,round:=min (s.round+1) 1099511627775 }:Rf)) (a':=(⟨E,Ec,V,Vc,X,Xc,M,Mc,Sn,Sc,Q,Qc,LL⟩:Ra)) hs3 ((hC5.next (ai.toChg hB6)).only O6_0 rfl) (aQ.same hs3.f rfl rfl rfl rfl rfl rfl) P6_0;refine aj (ah (ag (mvp rfl (aB mX (mh w0 Z T g ⟨({ s with elapsed:=0,round:=min (s.round+1) 1099511627775 }:Rf),[]⟩ _ (h6.from_ (ai.rfl_ (a:=w22))) (hF.beat (by omega) (by omega)) (show s.role=2 by omega) (by show 0≤800;omega)) ?_))));rintro v63 w23 ⟨rfl,h8⟩;refine aj (eb (gx rfl (⟨rfl,?_⟩)));show bN w0 Z _ T g (if s.role=2 then (if 2≤min (s.elapsed+1) 1099511627775 then Sp.all ⟨({ s with elapsed:=0,round:=min (s.round+1) 1099511627775 }:Rf),[]⟩ else ⟨({ s with elapsed:=min (s.elapsed+1) 1099511627775 }:Rf),[]⟩) else if s.timeout≤min (s.elapsed+1) 1099511627775 then gY ({ s with elapsed:=min (s.elapsed+1) 1099511627775 }:Rf) else ⟨({ s with elapsed:=min (s.elapsed+1) 1099511627775 }:Rf),[]⟩)
  first
   |(rw [if_neg (show ¬ s.role=2 by omega),if_pos (by omega)];exact h7.from_ (ai.rfl_ (a:=w23)))
   |(rw [if_neg (show ¬ s.role=2 by omega),if_neg (by omega)];exact h3.from_ (ai.rfl_ (a:=w23)))
   |(rw [if_pos (show s.role=2 by omega),if_pos (by omega)];exact h8.from_ (ai.rfl_ (a:=w23)))
   |(rw [if_pos (show s.role=2 by omega),if_neg (by omega)];exact h3.from_ (ai.rfl_ (a:=w23)))
 refine aP (eb (gx rfl (⟨rfl,?_⟩)));show bN w0 Z _ T g (if s.role=2 then (if 2≤min (s.elapsed+1) 1099511627775 then Sp.all ⟨({ s with elapsed:=0,round:=min (s.round+1) 1099511627775 }:Rf),[]⟩ else ⟨({ s with elapsed:=min (s.elapsed+1) 1099511627775 }:Rf),[]⟩) else if s.timeout≤min (s.elapsed+1) 1099511627775 then gY ({ s with elapsed:=min (s.elapsed+1) 1099511627775 }:Rf) else ⟨({ s with elapsed:=min (s.elapsed+1) 1099511627775 }:Rf),[]⟩)
 first
  |(rw [if_neg (show ¬ s.role=2 by omega),if_pos (by omega)];exact h7.from_ (ai.rfl_ (a:=w1)))
  |(rw [if_neg (show ¬ s.role=2 by omega),if_neg (by omega)];exact h3.from_ (ai.rfl_ (a:=w1)))
  |(rw [if_pos (show s.role=2 by omega),if_pos (by omega)];exact h8.from_ (ai.rfl_ (a:=w1)))
  |(rw [if_pos (show s.role=2 by omega),if_neg (by omega)];exact h3.from_ (ai.rfl_ (a:=w1)))
def bW (lo hi:Int) (xs:List Int):Prop:=∀ x∈xs,lo≤x∧x≤hi
instance (lo hi:Int) (xs:List Int):Decidable (bW lo hi xs):=by unfold bW;exact inferInstance
theorem bw {lo hi:Int}:bW lo hi []↔True:=by simp [bW]
theorem bo {lo hi x:Int} {l:List Int}:bW lo hi (x::l)↔(lo≤x∧x≤hi)∧bW lo hi l:=by simp [bW]
theorem rA {lo hi x:Int} {l:List Int}:bW lo hi (l++[x])↔bW lo hi l∧(lo≤x∧x≤hi):=by
 simp only [bW,List.mem_append,List.mem_singleton];exact ⟨fun h=>⟨fun y hy=>h y (.inl hy),h x (.inr rfl)⟩,fun h y hy=>hy.elim (h.1 y) (fun e=>e ▸ h.2)⟩
theorem wy (d:ByteArray):(d.toList==(⟨#[]⟩:ByteArray).toList)=decide (d.size=0):=by
 obtain ⟨⟨l⟩⟩:=d;rw [ByteArray.toList_eq,ByteArray.toList_eq];cases l with
 |nil=>rfl
 |cons a r=>rfl
def ExR (k ix lt cm rd:Int) (ok:Bool) (n:Nat) (a:Int) (d:ByteArray) (dn:Bool):Prop:=
 if k=1 then cm=0∧rd=0∧ok.toNat=0∧n=0∧a=0∧d.size=0∧dn.toNat=0
 else if k=2 then ix=0∧lt=0∧cm=0∧rd=0∧n=0∧a=0∧d.size=0∧dn.toNat=0
 else if k=3 then ok.toNat=0∧a=0∧d.size=0∧dn.toNat=0
 else if k=4 then lt=0∧cm=0∧n=0∧a=0∧d.size=0∧dn.toNat=0
 else if k=5 then cm=0∧ok.toNat=0∧n=0
 else if k=6 then lt=0∧cm=0∧ok.toNat=0∧n=0∧d.size=0∧dn.toNat=0
 else ix=0∧lt=0∧cm=0∧rd=0∧ok.toNat=0∧n=0∧a=0∧d.size=0∧dn.toNat=0
instance (k ix lt cm rd:Int) (ok:Bool) (n:Nat) (a:Int) (d:ByteArray) (dn:Bool):Decidable (ExR k ix lt cm rd ok n a d dn):=by unfold ExR;exact inferInstance
def wG (k f t tm ix lt cm rd a:Int):Prop:=(1≤k∧k≤6)∧(1≤f∧f≤7)∧(1≤t∧t≤7)∧(0≤tm∧tm≤1099511627775)∧(0≤ix∧ix≤1099511627775)∧(0≤lt∧lt≤1099511627775)∧(0≤cm∧cm≤1099511627775)∧(0≤rd∧rd≤1099511627775)∧(0≤a∧a≤1099511627775)
instance (k f t tm ix lt cm rd a:Int):Decidable (wG k f t tm ix lt cm rd a):=by unfold wG;exact inferInstance
def wI (k ix lt:Int) (es:List Ent):Prop:=k=3→es.length≤16∧eI es ix lt=true
instance (k ix lt:Int) (es:List Ent):Decidable (wI k ix lt es):=by unfold wI;exact inferInstance
def wF (k ix a:Int) (d:ByteArray):Prop:=k=5→(1≤ix∧ix≤1099511625728)∧a≤524288∧d.size≤1024
instance (k ix a:Int) (d:ByteArray):Decidable (wF k ix a d):=by unfold wF;exact inferInstance
def OkR (k f t tm ix lt cm rd:Int) (ok:Bool) (es:List Ent) (a:Int) (d:ByteArray) (dn:Bool):Prop:=
 wG k f t tm ix lt cm rd a∧ExR k ix lt cm rd ok es.length a d dn∧wI k ix lt es∧wF k ix a d
instance (k f t tm ix lt cm rd:Int) (ok:Bool) (es:List Ent) (a:Int) (d:ByteArray) (dn:Bool):Decidable (OkR k f t tm ix lt cm rd ok es a d dn):=by unfold OkR;exact inferInstance
theorem cX:aR prog 53=true:=by kernel_rfl
theorem cY:h_ prog 54=some true:=by kernel_rfl
theorem ch:dH prog 54=some 4:=by kernel_rfl
theorem bm:h_ prog 27=some false:=by kernel_rfl
theorem bA:(fG prog 27).isSome=true:=by kernel_rfl
theorem cO:fG prog 27=some (54,4):=by kernel_rfl
theorem eF:jO prog 54=some (.agg #[.int .i64 0,.int .i64 0,.int .i64 0,.slice none 0 0]):=by kernel_rfl
theorem dB:cr prog 54 0=some 0:=by kernel_rfl
theorem dA:cr prog 54 1=some 1:=by kernel_rfl
theorem dz:cr prog 54 2=some 2:=by kernel_rfl
theorem cE:cr prog 54 3=some 3:=by kernel_rfl
theorem kA:aR prog 133=true:=by kernel_rfl
theorem aG:h_ prog 29=some true:=by kernel_rfl
theorem av:dH prog 29=some 22:=by kernel_rfl
theorem pc:aR prog 131=true:=by kernel_rfl
theorem pb:aR prog 132=true:=by kernel_rfl
theorem o_:aR prog 134=true:=by kernel_rfl
theorem o8:aR prog 135=true:=by kernel_rfl
def gC (s:Rf):Prop:=(1≤s.nodes∧s.nodes≤7)∧(1≤s.id∧s.id≤s.nodes)∧(0≤s.role∧s.role≤2)∧((0≤s.vote∧s.vote≤s.nodes)∧(0≤s.leader∧s.leader≤s.nodes))∧(0≤s.term∧s.term≤1099511627775)∧(0≤s.elapsed∧s.elapsed≤1099511627775)∧(0≤s.timeout∧s.timeout≤1099511627775)∧(0≤s.round∧s.round≤1099511627775)
instance (s:Rf):Decidable (gC s):=by unfold gC;exact inferInstance
def fm (s:Rf):Prop:=cn s.b s.t s.es=true∧dD s.t s.es≤s.term∧(s.b≤s.commit∧s.commit≤bk s)∧s.snap.size≤524288∧(0<s.b∨s.snap.size=0)
instance (s:Rf):Decidable (fm s):=by unfold fm;exact inferInstance
def fI (s:Rf):Prop:=s.part.size≤524288∧(0≤s.partOf∧s.partOf≤1099511625728)∧(0<s.partOf∨s.part.size=0)
instance (s:Rf):Decidable (fI s):=by unfold fI;exact inferInstance
def jV (s:Rf):Prop:=if s.role=2 then ((s.next.length:Int)=s.nodes∧(s.mtch.length:Int)=s.nodes∧(s.sent.length:Int)=s.nodes∧s.reads.length≤32)∧(bW 1 (bk s+1) s.next∧bW 0 (bk s) s.mtch∧bW 0 s.snap.size s.sent)∧(∀ q∈s.reads,ez s q=true) else s.next.length+s.mtch.length+s.sent.length+s.reads.length=0
instance (s:Rf):Decidable (jV s):=by unfold jV;exact inferInstance
theorem xj (s:Rf) (E:Option Addr) (n c:Nat) (w:World) (h:cB w (.slice E n c) s.es):Rt prog 152 [.agg #[.int .i64 s.b,.int .i64 s.t,.slice E n c]] w fun v w'=>(∃ X Y Z:Int,v=.tuple #[.int .i64 X,.int .i64 Y,.int .i64 Z]∧((cn s.b s.t s.es=true∧Z=0∧X=bk s∧Y=dD s.t s.es)∨(cn s.b s.t s.es=false∧Z=1)))∧ai w w':=
 (Rt.of (pS s.b s.t _ s.es w h)).mono fun v w' h=>by
  refine ⟨?_,h.2⟩;rw [h.1];unfold sa;cases hm:cn s.b s.t s.es with
  |true=>rw [if_pos rfl];exact ⟨_,_,_,rfl,.inl ⟨rfl,rfl,rfl,rfl⟩⟩
  |false=>rw [if_neg (by decide)];exact ⟨_,_,_,rfl,.inr ⟨rfl,rfl⟩⟩
theorem gP:∀ (l:List Int),fK l=true↔∀ j (h:j+1<l.length),l[j]<l[j+1]
 |[]=>⟨fun _ j h=>absurd h (by simp),fun _=>rfl⟩
 |[a]=>⟨fun _ j h=>absurd h (by simp),fun _=>rfl⟩
 |a::b::r=>by
  have ih:=gP (b::r);show (decide (a<b)&&fK (b::r))=true↔_;rw [Bool.and_eq_true,decide_eq_true_eq,ih];constructor
  ·rintro ⟨h1,h2⟩ j h;cases j with
   |zero=>exact h1
   |succ j=>exact h2 j (by simpa using h)
  ·intro h;exact ⟨h 0 (by simp),fun j hj=>h (j+1) (by simpa using hj)⟩
theorem fM {l:List Int} {n:Int}:fk l n=true↔bW 1 n l∧∀ j (h:j+1<l.length),l[j]<l[j+1]:=by
 unfold fk bW;rw [Bool.and_eq_true,gP,List.all_eq_true];simp only [Bool.and_eq_true,decide_eq_true_eq]
theorem dZ (lo hi:Int) (A:Option Addr) (c:Nat) (xs:List Int) (w:World) (hr:dK iV w A xs) (hl:xs.length≤1000000) :
 Rt prog 53 [.int .i64 lo,.int .i64 hi,.slice A xs.length c] w (fun v w'=>v=.bool (decide (bW lo hi xs))∧w=w'):=by
 refine enter (n:=24) Tryz.func53 rfl rfl rfl (ak (ag (asb rfl (aj (ah (ak (ak (ag (mvs rfl (aa (bn bZ rfl) (mvi rfl (aj (ah (aZ (cj (G:=Nat) [6,8,12,13,14,15,16,17,18,19,20,21,22,23] (fun k=>[(11,.int .i64 (k:Nat))]) (fun k w'=>k≤xs.length∧bW lo hi (xs.take k)∧w=w') (fun k=>xs.length-k) (0) ⟨rfl,trivial⟩ ?_ ?_)))))))))))))))
 ·exact ⟨Nat.zero_le _,bw.2 trivial,rfl⟩
 rintro k ρ1 w1 ⟨hk,ha,rfl⟩;refine ak (ag (aa (bH rfl rfl) (aj (ah (ak (xD rfl (fun Q2=>?_) (fun Q2=>?_)))))))
 ·have hkx:k<xs.length:=by omega
  obtain ⟨ba,oa,rfl,hca⟩:=hr (by omega);refine aP (ah (ak (aZ (ak (ag (aa (cz cw rfl rfl (by omega)) (aa (ar aq rfl (by exact hca k hkx)) ?_)))))));refine asi rfl (aj (ah (ak (ag (mvi rfl (mvi rfl (aa (bH rfl rfl) (mvb rfl (wM (t:=18) rfl (fun Q3=>?_) (fun Q3=>?_))))))))))
  ·refine ab rfl rfl (ab rfl rfl (ab rfl rfl (aa (an (v:=.bool _) rfl rfl) (aj (ah (aJ rfl (ak (ag (asb rfl (aj (ah (aA (aU (ay (ay (aU (ay ?_)))))))))))))))));refine bg (v:=.bool _) rfl rfl (⟨congrArg Value.bool ?_,rfl⟩);rw [eq_comm,decide_eq_false_iff_not];intro h;have:=h _ (List.getElem_mem hkx);omega
  refine ae rfl (mvi rfl (ae rfl (mvi rfl (ae rfl (aa (bM rfl rfl) (aa (au (v:=.bool _) rfl rfl) (aj (ah (xD rfl (fun Q4=>?_) (fun Q4=>?_))))))))))
  ·refine ak (ag (asb rfl (aj (ah (aA (aU (ay (ay (aU (ay (bg (v:=.bool _) rfl rfl (⟨congrArg Value.bool ?_,rfl⟩))))))))))));rw [eq_comm,decide_eq_false_iff_not];intro h;have:=h _ (List.getElem_mem hkx);omega
  refine aP (bJ (ah (ag (aa (cP (b:=1) rfl rfl (by omega)) (mvi rfl (aj ?_))))));refine cD (k+1) ⟨(by first | rfl | (refine bC ?_;omega)),trivial⟩ (by (iterate 30 refine bR rfl ?_);exact cg) ⟨?_,?_⟩
  ·exact ⟨by omega,by rw [List.take_succ_eq_append_getElem hkx];exact rA.2 ⟨ha,by omega⟩,rfl⟩
  ·omega
 obtain rfl:k=xs.length:=by omega
 rw [List.take_length] at ha;refine b0 (bf (bf (bE (ah (ak (ag (asb rfl (aj (ah (aA (bg (v:=.bool _) rfl rfl (⟨congrArg Value.bool (decide_eq_true ha).symm,rfl⟩))))))))))))
theorem fe {w:World} {b:Nat} {xs:List Int} (h:Blk w b 3 (xs.map iV).toArray):dK iV w (some ⟨b,0,none⟩) xs:=dK.blk h fun i hi=>by simp [hi]
theorem lD (s:Rf) (a:Ra) (w:World) :
 Rt prog 131 [.agg (rfV s a).toArray] w (fun v w'=>v=.bool (decide (gC s))∧ai w w'):=by
 refine enter (n:=43) Tryz.func131 rfl rfl rfl (ak (ag (cC (v:=.agg _) rfl ?_)));intro b1 w1 E1 hb1 hk1;refine asb rfl (aj (ah (ak (ag (aa (af br rfl) (aa (ar aq rfl (by exact (hk1.from_ ai.rfl_).rd 1 rfl)) ?_))))));refine eG (v:=.int _ _) bK rfl rfl rfl ?_;intro b5 w2 E5 hb5 hk5;refine aB cX (dZ 1 7 (some ⟨b5,0,none⟩) 1 [s.nodes] _ (fe hk5) (by simp)) ?_;rintro v6 w3 ⟨rfl,rfl⟩;refine mvb rfl (wM (t:=7) rfl (fun Q4=>?_) (fun Q4=>?_))
 ·(try simp only [bo,bw,and_true] at Q4)
  refine ae rfl (aa (af br rfl) (ae rfl (aa (ar aq rfl (by exact (hk1.from_ (ai.rfl_.next E5)).rd 1 rfl)) ?_)));refine ae rfl (aa (af dy rfl) (ae rfl (aa (ar aq rfl (by exact (hk1.from_ (ai.rfl_.next E5)).rd 0 rfl)) ?_)));refine ae rfl (eG (v:=.int _ _) bK rfl rfl rfl ?_);intro b12 w5 E12 hb12 hk12;refine ae rfl (aB cX (dZ 1 s.nodes (some ⟨b12,0,none⟩) 1 [s.id] _ (fe hk12) (by simp)) ?_);rintro v13 w6 ⟨rfl,rfl⟩;refine aa (an (v:=.bool _) rfl rfl) (mvb rfl (wM (t:=15) rfl (fun Q7=>?_) (fun Q7=>?_)))
  ·(try simp only [bo,bw,and_true] at Q7)
   refine ae rfl (aa (af cT rfl) (ae rfl (aa (ar aq rfl (by exact (hk1.from_ ((ai.rfl_.next E5).next E12)).rd 2 rfl)) ?_)));refine ae rfl (eG (v:=.int _ _) bK rfl rfl rfl ?_);intro b18 w8 E18 hb18 hk18;refine ae rfl (aB cX (dZ 0 2 (some ⟨b18,0,none⟩) 1 [s.role] _ (fe hk18) (by simp)) ?_);rintro v19 w9 ⟨rfl,rfl⟩;refine aa (an (v:=.bool _) rfl rfl) (mvb rfl (wM (t:=21) rfl (fun Q10=>?_) (fun Q10=>?_)))
   ·(try simp only [bo,bw,and_true] at Q10)
    refine ae rfl (aa (af br rfl) (ae rfl (aa (ar aq rfl (by exact (hk1.from_ (((ai.rfl_.next E5).next E12).next E18)).rd 1 rfl)) ?_)));refine ae rfl (aa (af eO rfl) (ae rfl (aa (ar aq rfl (by exact (hk1.from_ (((ai.rfl_.next E5).next E12).next E18)).rd 4 rfl)) ?_)));refine ae rfl (aa (af en rfl) (ae rfl (aa (ar aq rfl (by exact (hk1.from_ (((ai.rfl_.next E5).next E12).next E18)).rd 5 rfl)) ?_)));refine ae rfl (rW [.tmp 25,.tmp 27] [.int _ _,.int _ _] bK rfl rfl rfl rfl (by simp [Value.cells]) ?_);intro b28 w11 E28 hb28 hk28;refine ae rfl (aB cX (dZ 0 s.nodes (some ⟨b28,0,none⟩) 2 [s.vote,s.leader] _ (fe hk28) (by simp)) ?_);rintro v29 w12 ⟨rfl,rfl⟩;refine aa (an (v:=.bool _) rfl rfl) (mvb rfl (wM (t:=31) rfl (fun Q13=>?_) (fun Q13=>?_)))
    ·(try simp only [bo,bw,and_true] at Q13)
     refine ae rfl (aa (af cJ rfl) (ae rfl (aa (ar aq rfl (by exact (hk1.from_ ((((ai.rfl_.next E5).next E12).next E18).next E28)).rd 3 rfl)) ?_)));refine ae rfl (aa (af dk rfl) (ae rfl (aa (ar aq rfl (by exact (hk1.from_ ((((ai.rfl_.next E5).next E12).next E18).next E28)).rd 11 rfl)) ?_)));refine ae rfl (aa (af eg rfl) (ae rfl (aa (ar aq rfl (by exact (hk1.from_ ((((ai.rfl_.next E5).next E12).next E18).next E28)).rd 12 rfl)) ?_)));refine ae rfl (aa (af cR rfl) (ae rfl (aa (ar aq rfl (by exact (hk1.from_ ((((ai.rfl_.next E5).next E12).next E18).next E28)).rd 18 rfl)) ?_)));refine ae rfl (rW [.tmp 33,.tmp 35,.tmp 37,.tmp 39] [.int _ _,.int _ _,.int _ _,.int _ _] bK rfl rfl rfl rfl (by simp [Value.cells]) ?_);intro b40 w14 E40 hb40 hk40;refine ae rfl (aB cX (dZ 0 1099511627775 (some ⟨b40,0,none⟩) 4 [s.term,s.elapsed,s.timeout,s.round] _ (fe hk40) (by simp)) ?_);rintro v41 w15 ⟨rfl,rfl⟩;refine aa (an (v:=.bool _) rfl rfl) (asb rfl (aj (ah (aA (bg (v:=.bool _) rfl rfl (⟨congrArg Value.bool ?_,((((((ai.rfl_.next E1).next E5).next E12).next E18).next E28).next E40)⟩))))))
     (try simp only [bo,bw,and_true])
     first
      |(rw [eq_comm,decide_eq_false_iff_not];unfold gC;omega)
      |(rw [decide_eq_decide];unfold gC;omega)
      |(rw [eq_comm,decide_eq_true_eq];unfold gC;omega)
    (try simp only [bo,bw,and_true] at Q13)
    refine ab rfl rfl (ab rfl rfl (ab rfl rfl (ab rfl rfl (ab rfl rfl (ab rfl rfl (ab rfl rfl (ab rfl rfl (ab rfl rfl ?_))))))));refine ab rfl rfl (aa (au (v:=.bool _) rfl rfl) (asb rfl (aj (ah (aA (bg (v:=.bool _) rfl rfl (⟨congrArg Value.bool ?_,(((((ai.rfl_.next E1).next E5).next E12).next E18).next E28)⟩)))))))
    (try simp only [bo,bw,and_true])
    first
     |(rw [eq_comm,decide_eq_false_iff_not];unfold gC;omega)
     |(rw [decide_eq_decide];unfold gC;omega)
     |(rw [eq_comm,decide_eq_true_eq];unfold gC;omega)
   (try simp only [bo,bw,and_true] at Q10)
   refine ab rfl rfl (ab rfl rfl (ab rfl rfl (ab rfl rfl (ab rfl rfl (ab rfl rfl (ab rfl rfl (ab rfl rfl (aa (au (v:=.bool _) rfl rfl) ?_))))))));refine mvb rfl (ab rfl rfl (ab rfl rfl (ab rfl rfl (ab rfl rfl (ab rfl rfl (ab rfl rfl (ab rfl rfl (ab rfl rfl ?_))))))));refine ab rfl rfl (ab rfl rfl (aa (au (v:=.bool _) rfl rfl) (asb rfl (aj (ah (aA (bg (v:=.bool _) rfl rfl (⟨congrArg Value.bool ?_,((((ai.rfl_.next E1).next E5).next E12).next E18)⟩))))))))
   (try simp only [bo,bw,and_true])
   first
    |(rw [eq_comm,decide_eq_false_iff_not];unfold gC;omega)
    |(rw [decide_eq_decide];unfold gC;omega)
    |(rw [eq_comm,decide_eq_true_eq];unfold gC;omega)
  (try simp only [bo,bw,and_true] at Q7)
  refine ab rfl rfl (ab rfl rfl (ab rfl rfl (ab rfl rfl (aa (au (v:=.bool _) rfl rfl) (mvb rfl (ab rfl rfl (ab rfl rfl (ab rfl rfl ?_))))))));refine ab rfl rfl (ab rfl rfl (ab rfl rfl (ab rfl rfl (ab rfl rfl (aa (au (v:=.bool _) rfl rfl) (mvb rfl (ab rfl rfl (ab rfl rfl ?_))))))));refine ab rfl rfl (ab rfl rfl (ab rfl rfl (ab rfl rfl (ab rfl rfl (ab rfl rfl (ab rfl rfl (ab rfl rfl (aa (au (v:=.bool _) rfl rfl) ?_))))))));refine asb rfl (aj (ah (aA (bg (v:=.bool _) rfl rfl (⟨congrArg Value.bool ?_,(((ai.rfl_.next E1).next E5).next E12)⟩)))))
  (try simp only [bo,bw,and_true])
  first
   |(rw [eq_comm,decide_eq_false_iff_not];unfold gC;omega)
   |(rw [decide_eq_decide];unfold gC;omega)
   |(rw [eq_comm,decide_eq_true_eq];unfold gC;omega)
 (try simp only [bo,bw,and_true] at Q4)
 refine ab rfl rfl (ab rfl rfl (ab rfl rfl (ab rfl rfl (ab rfl rfl (ab rfl rfl (aa (au (v:=.bool _) rfl rfl) (mvb rfl (ab rfl rfl ?_))))))));refine ab rfl rfl (ab rfl rfl (ab rfl rfl (aa (au (v:=.bool _) rfl rfl) (mvb rfl (ab rfl rfl (ab rfl rfl (ab rfl rfl (ab rfl rfl ?_))))))));refine ab rfl rfl (ab rfl rfl (ab rfl rfl (ab rfl rfl (aa (au (v:=.bool _) rfl rfl) (mvb rfl (ab rfl rfl (ab rfl rfl (ab rfl rfl ?_))))))));refine ab rfl rfl (ab rfl rfl (ab rfl rfl (ab rfl rfl (ab rfl rfl (ab rfl rfl (ab rfl rfl (aa (au (v:=.bool _) rfl rfl) (asb rfl ?_))))))));refine aj (ah (aA (bg (v:=.bool _) rfl rfl (⟨congrArg Value.bool ?_,((ai.rfl_.next E1).next E5)⟩))))
 (try simp only [bo,bw,and_true])
 first
  |(rw [eq_comm,decide_eq_false_iff_not];unfold gC;omega)
  |(rw [decide_eq_decide];unfold gC;omega)
  |(rw [eq_comm,decide_eq_true_eq];unfold gC;omega)
theorem lQ {s:Rf} {a:Ra} {w:World} {b T:Nat} (hb:Blk w b T (rfV s a).toArray):w.rangeAt b 6 [.int .i64 s.b,.int .i64 s.t,.slice a.E s.es.length a.Ec]:=hb.range 6 _ (fun j v hj=>by
 match j,hj with
 |0,hj=>exact hj
 |1,hj=>exact hj
 |2,hj=>exact hj
 |j+3,hj=>simp at hj)
theorem pk (s:Rf) (a:Ra) (w:World) (he:cB w (.slice a.E s.es.length a.Ec) s.es) :
 Rt prog 132 [.agg (rfV s a).toArray] w (fun v w'=>v=.bool (decide (fm s))∧ai w w'):=by
 refine enter (n:=48) Tryz.func132 rfl rfl rfl (ak (ag (cC (v:=.agg _) rfl ?_)));intro b1 w1 E1 hb1 hk1;refine asb rfl (aj (ah (ak (ag (aa (af bj rfl) (aa (aH (cs:=[.int .i64 s.b,.int .i64 s.t,.slice a.E s.es.length a.Ec]) bL bh rfl (lQ (hk1.from_ ai.rfl_))) (aB kx (xj s a.E s.es.length a.Ec _ (he.from_ (ai.rfl_.next E1))) ?_)))))));rintro v9 w2 ⟨⟨X,Y,Z,rfl,hXYZ⟩,E9⟩;refine mvt rfl (aa (aS rfl rfl) (aa (aS rfl rfl) (aa (aS rfl rfl) (asi rfl (asi rfl (asi rfl (aj (ah (ak (ag (mvi rfl ?_)))))))))));refine aa (bu rfl rfl) (mvb rfl (wL (t:=15) rfl (fun Q3=>?_) (fun Q3=>?_)))
 ·refine ae rfl (mvi rfl (ae rfl (aa (af cJ rfl) (ae rfl (aa (ar aq rfl (by exact (hk1.from_ (ai.rfl_.next E9)).rd 3 rfl)) ?_)))));refine ae rfl (aa (gN rfl rfl) (aa (an (v:=.bool _) rfl rfl) (mvb rfl (wM (t:=21) rfl (fun Q4=>?_) (fun Q4=>?_)))))
  ·(try simp only [bo,bw,and_true] at Q4)
   refine ae rfl (aa (af bj rfl) (ae rfl (aa (af cH rfl) (ae rfl (aa (ar aq rfl (by exact (hk1.from_ (ai.rfl_.next E9)).rd 6 rfl)) ?_)))));refine ae rfl (mvi rfl (ae rfl (aa (af cu rfl) (ae rfl (aa (ar aq rfl (by exact (hk1.from_ (ai.rfl_.next E9)).rd 10 rfl)) ?_)))));refine ae rfl (eG (v:=.int _ _) bK rfl rfl rfl ?_);intro b28 w5 E28 hb28 hk28;refine ae rfl (aB cX (dZ s.b X (some ⟨b28,0,none⟩) 1 [s.commit] _ (fe hk28) (by simp)) ?_);rintro v29 w6 ⟨rfl,rfl⟩;refine aa (an (v:=.bool _) rfl rfl) (mvb rfl (wM (t:=31) rfl (fun Q7=>?_) (fun Q7=>?_)))
   ·(try simp only [bo,bw,and_true] at Q7)
    refine ae rfl (aa (af cp rfl) (ae rfl (aa (ar bT rfl (by exact (hk1.from_ ((ai.rfl_.next E9).next E28)).rd 9 rfl)) ?_)));refine ae rfl (aa (dC (by kernel_rfl) rfl) (ae rfl (aa (gN rfl rfl) (aa (an (v:=.bool _) rfl rfl) (mvb rfl (wM (t:=37) rfl (fun Q8=>?_) (fun Q8=>?_)))))))
    ·refine ae rfl (aa (af bj rfl) (ae rfl (aa (af cH rfl) (ae rfl (aa (ar aq rfl (by exact (hk1.from_ ((ai.rfl_.next E9).next E28)).rd 6 rfl)) ?_)))));refine ae rfl (aa (bM rfl rfl) (ae rfl (mvb rfl (wM (t:=42) rfl (fun Q9=>?_) (fun Q9=>?_)))))
     ·refine ab rfl rfl (ab rfl rfl (ab rfl rfl (ae rfl (aa (an (v:=.bool _) rfl rfl) (aa (an (v:=.bool _) rfl rfl) (asb rfl (aj (ah (aA (bg (v:=.bool _) rfl rfl ?_))))))))));refine ⟨congrArg Value.bool ?_,(((ai.rfl_.next E1).next E9).next E28)⟩
      (try simp only [bo,bw,and_true])
      rcases hXYZ with ⟨hm,hz,hx,hy⟩ | ⟨hm,hz⟩
      ·first
        |(rw [eq_comm,decide_eq_false_iff_not];unfold fm;simp only [hm,true_and];omega)
        |(rw [decide_eq_decide];unfold fm;simp only [hm,true_and];omega)
        |(rw [eq_comm,decide_eq_true_eq];unfold fm;simp only [hm,true_and];omega)
      ·first
        |(exfalso;omega)
        |(rw [eq_comm,decide_eq_false_iff_not];unfold fm;rw [hm];exact fun h=>Bool.noConfusion h.1)
     refine ae rfl (aa (af cp rfl) (ae rfl (aa (ar bT rfl (by exact (hk1.from_ ((ai.rfl_.next E9).next E28)).rd 9 rfl)) ?_)));refine ae rfl (aa (ij (km rfl rfl) (congrArg Value.bool (wy s.snap))) (ae rfl (aa (au (v:=.bool _) rfl rfl) (aa (an (v:=.bool _) rfl rfl) (asb rfl (aj (ah (aA (bg (v:=.bool _) rfl rfl (⟨congrArg Value.bool ?_,(((ai.rfl_.next E1).next E9).next E28)⟩))))))))))
     (try simp only [bo,bw,and_true])
     rcases hXYZ with ⟨hm,hz,hx,hy⟩ | ⟨hm,hz⟩
     ·first
       |(rw [eq_comm,decide_eq_false_iff_not];unfold fm;simp only [hm,true_and];omega)
       |(rw [decide_eq_decide];unfold fm;simp only [hm,true_and];omega)
       |(rw [eq_comm,decide_eq_true_eq];unfold fm;simp only [hm,true_and];omega)
     ·first
       |(exfalso;omega)
       |(rw [eq_comm,decide_eq_false_iff_not];unfold fm;rw [hm];exact fun h=>Bool.noConfusion h.1)
    refine ab rfl rfl (ab rfl rfl (ab rfl rfl (ab rfl rfl (ab rfl rfl (az rfl (az rfl (az rfl (ab rfl rfl ?_))))))));refine aa (au (v:=.bool _) rfl rfl) (asb rfl (aj (ah (aA (bg (v:=.bool _) rfl rfl (⟨congrArg Value.bool ?_,(((ai.rfl_.next E1).next E9).next E28)⟩))))))
    (try simp only [bo,bw,and_true])
    rcases hXYZ with ⟨hm,hz,hx,hy⟩ | ⟨hm,hz⟩
    ·first
      |(rw [eq_comm,decide_eq_false_iff_not];unfold fm;simp only [hm,true_and];omega)
      |(rw [decide_eq_decide];unfold fm;simp only [hm,true_and];omega)
      |(rw [eq_comm,decide_eq_true_eq];unfold fm;simp only [hm,true_and];omega)
    ·first
      |(exfalso;omega)
      |(rw [eq_comm,decide_eq_false_iff_not];unfold fm;rw [hm];exact fun h=>Bool.noConfusion h.1)
   (try simp only [bo,bw,and_true] at Q7)
   refine ab rfl rfl (ab rfl rfl (ab rfl rfl (ab rfl rfl (aa (au (v:=.bool _) rfl rfl) (mvb rfl (ab rfl rfl (ab rfl rfl (ab rfl rfl ?_))))))));refine ab rfl rfl (ab rfl rfl (az rfl (az rfl (az rfl (ab rfl rfl (aa (au (v:=.bool _) rfl rfl) (asb rfl (aj (ah (aA ?_))))))))));refine bg (v:=.bool _) rfl rfl (⟨congrArg Value.bool ?_,(((ai.rfl_.next E1).next E9).next E28)⟩)
   (try simp only [bo,bw,and_true])
   rcases hXYZ with ⟨hm,hz,hx,hy⟩ | ⟨hm,hz⟩
   ·first
     |(rw [eq_comm,decide_eq_false_iff_not];unfold fm;simp only [hm,true_and];omega)
     |(rw [decide_eq_decide];unfold fm;simp only [hm,true_and];omega)
     |(rw [eq_comm,decide_eq_true_eq];unfold fm;simp only [hm,true_and];omega)
   ·first
     |(exfalso;omega)
     |(rw [eq_comm,decide_eq_false_iff_not];unfold fm;rw [hm];exact fun h=>Bool.noConfusion h.1)
  (try simp only [bo,bw,and_true] at Q4)
  refine ab rfl rfl (ab rfl rfl (ab rfl rfl (ab rfl rfl (ab rfl rfl (ab rfl rfl (ab rfl rfl (ab rfl rfl (aa (au (v:=.bool _) rfl rfl) ?_))))))));refine mvb rfl (ab rfl rfl (ab rfl rfl (ab rfl rfl (ab rfl rfl (aa (au (v:=.bool _) rfl rfl) (mvb rfl (ab rfl rfl (ab rfl rfl ?_))))))));refine ab rfl rfl (ab rfl rfl (ab rfl rfl (az rfl (az rfl (az rfl (ab rfl rfl (aa (au (v:=.bool _) rfl rfl) (asb rfl ?_))))))));refine aj (ah (aA (bg (v:=.bool _) rfl rfl (⟨congrArg Value.bool ?_,((ai.rfl_.next E1).next E9)⟩))))
  (try simp only [bo,bw,and_true])
  rcases hXYZ with ⟨hm,hz,hx,hy⟩ | ⟨hm,hz⟩
  ·first
    |(rw [eq_comm,decide_eq_false_iff_not];unfold fm;simp only [hm,true_and];omega)
    |(rw [decide_eq_decide];unfold fm;simp only [hm,true_and];omega)
    |(rw [eq_comm,decide_eq_true_eq];unfold fm;simp only [hm,true_and];omega)
  ·first
    |(exfalso;omega)
    |(rw [eq_comm,decide_eq_false_iff_not];unfold fm;rw [hm];exact fun h=>Bool.noConfusion h.1)
 refine ab rfl rfl (ab rfl rfl (ab rfl rfl (ab rfl rfl (aa (au (v:=.bool _) rfl rfl) (mvb rfl (ab rfl rfl (ab rfl rfl (ab rfl rfl ?_))))))));refine ab rfl rfl (ab rfl rfl (ab rfl rfl (ab rfl rfl (ab rfl rfl (aa (au (v:=.bool _) rfl rfl) (mvb rfl (ab rfl rfl (ab rfl rfl ?_))))))));refine ab rfl rfl (ab rfl rfl (aa (au (v:=.bool _) rfl rfl) (mvb rfl (ab rfl rfl (ab rfl rfl (ab rfl rfl (ab rfl rfl (ab rfl rfl ?_))))))));refine az rfl (az rfl (az rfl (ab rfl rfl (aa (au (v:=.bool _) rfl rfl) (asb rfl (aj (ah (aA (bg (v:=.bool _) rfl rfl (⟨congrArg Value.bool ?_,((ai.rfl_.next E1).next E9)⟩))))))))))
 (try simp only [bo,bw,and_true])
 rcases hXYZ with ⟨hm,hz,hx,hy⟩ | ⟨hm,hz⟩
 ·first
   |(rw [eq_comm,decide_eq_false_iff_not];unfold fm;simp only [hm,true_and];omega)
   |(rw [decide_eq_decide];unfold fm;simp only [hm,true_and];omega)
   |(rw [eq_comm,decide_eq_true_eq];unfold fm;simp only [hm,true_and];omega)
 ·first
   |(exfalso;omega)
   |(rw [eq_comm,decide_eq_false_iff_not];unfold fm;rw [hm];exact fun h=>Bool.noConfusion h.1)
theorem oh (s:Rf) (a:Ra) (w:World) :
 Rt prog 135 [.agg (rfV s a).toArray] w (fun v w'=>v=.bool (decide (fI s))∧ai w w'):=by
 refine enter (n:=23) Tryz.func135 rfl rfl rfl (ak (ag (cC (v:=.agg _) rfl ?_)));intro b1 w1 E1 hb1 hk1;refine asb rfl (aj (ah (ak (ag (aa (af dw rfl) (aa (ar bT rfl (by exact (hk1.from_ ai.rfl_).rd 20 rfl)) ?_))))));refine aa (dC (by kernel_rfl) rfl) (aa (gN rfl rfl) (mvb rfl (wM (t:=7) rfl (fun Q2=>?_) (fun Q2=>?_))))
 ·refine ae rfl (aa (af di rfl) (ae rfl (aa (ar aq rfl (by exact (hk1.from_ ai.rfl_).rd 21 rfl)) ?_)));refine ae rfl (eG (v:=.int _ _) bK rfl rfl rfl ?_);intro b10 w3 E10 hb10 hk10;refine ae rfl (aB cX (dZ 0 1099511625728 (some ⟨b10,0,none⟩) 1 [s.partOf] _ (fe hk10) (by simp)) ?_);rintro v11 w4 ⟨rfl,rfl⟩;refine aa (an (v:=.bool _) rfl rfl) (mvb rfl (wM (t:=13) rfl (fun Q5=>?_) (fun Q5=>?_)))
  ·(try simp only [bo,bw,and_true] at Q5)
   refine ae rfl (aa (af di rfl) (ae rfl (aa (ar aq rfl (by exact (hk1.from_ (ai.rfl_.next E10)).rd 21 rfl)) ?_)));refine ae rfl (aa (bM rfl rfl) (ae rfl (mvb rfl (wM (t:=17) rfl (fun Q6=>?_) (fun Q6=>?_)))))
   ·refine ab rfl rfl (ab rfl rfl (ab rfl rfl (ae rfl (aa (an (v:=.bool _) rfl rfl) (aa (an (v:=.bool _) rfl rfl) (asb rfl (aj (ah (aA (bg (v:=.bool _) rfl rfl ?_))))))))));refine ⟨congrArg Value.bool ?_,((ai.rfl_.next E1).next E10)⟩
    (try simp only [bo,bw,and_true])
    first
     |(rw [eq_comm,decide_eq_false_iff_not];unfold fI;omega)
     |(rw [decide_eq_decide];unfold fI;omega)
     |(rw [eq_comm,decide_eq_true_eq];unfold fI;omega)
   refine ae rfl (aa (af dw rfl) (ae rfl (aa (ar bT rfl (by exact (hk1.from_ (ai.rfl_.next E10)).rd 20 rfl)) ?_)));refine ae rfl (aa (ij (km rfl rfl) (congrArg Value.bool (wy s.part))) (ae rfl (aa (au (v:=.bool _) rfl rfl) (aa (an (v:=.bool _) rfl rfl) (asb rfl (aj (ah (aA (bg (v:=.bool _) rfl rfl (⟨congrArg Value.bool ?_,((ai.rfl_.next E1).next E10)⟩))))))))))
   (try simp only [bo,bw,and_true])
   first
    |(rw [eq_comm,decide_eq_false_iff_not];unfold fI;omega)
    |(rw [decide_eq_decide];unfold fI;omega)
    |(rw [eq_comm,decide_eq_true_eq];unfold fI;omega)
  (try simp only [bo,bw,and_true] at Q5)
  refine ab rfl rfl (ab rfl rfl (ab rfl rfl (ab rfl rfl (az rfl (az rfl (az rfl (ab rfl rfl (aa (au (v:=.bool _) rfl rfl) ?_))))))));refine asb rfl (aj (ah (aA (bg (v:=.bool _) rfl rfl (⟨congrArg Value.bool ?_,((ai.rfl_.next E1).next E10)⟩)))))
  (try simp only [bo,bw,and_true])
  first
   |(rw [eq_comm,decide_eq_false_iff_not];unfold fI;omega)
   |(rw [decide_eq_decide];unfold fI;omega)
   |(rw [eq_comm,decide_eq_true_eq];unfold fI;omega)
 refine ab rfl rfl (ab rfl rfl (ab rfl rfl (ab rfl rfl (aa (au (v:=.bool _) rfl rfl) (mvb rfl (ab rfl rfl (ab rfl rfl (ab rfl rfl ?_))))))));refine ab rfl rfl (az rfl (az rfl (az rfl (ab rfl rfl (aa (au (v:=.bool _) rfl rfl) (asb rfl (aj (ah (aA (bg (v:=.bool _) rfl rfl ?_))))))))));refine ⟨congrArg Value.bool ?_,(ai.rfl_.next E1)⟩
 (try simp only [bo,bw,and_true])
 first
  |(rw [eq_comm,decide_eq_false_iff_not];unfold fI;omega)
  |(rw [decide_eq_decide];unfold fI;omega)
  |(rw [eq_comm,decide_eq_true_eq];unfold fI;omega)
theorem nE (A:Option Addr) (c:Nat) (l:List Int) (n:Int) (w:World) (hr:dK iV w A l) (hl:l.length≤1000000) :
 Rt prog 133 [.slice A l.length c,.int .i64 n] w (fun v w'=>v=.bool (fk l n)∧ai w w'):=by
 refine enter (n:=33) Tryz.func133 rfl rfl rfl (ak (ag (asb rfl (aj (ah (ak (ak (ag (mvs rfl (aa (bn bZ rfl) (mvi rfl (aj (ah (aZ (cj (G:=Nat) [4,5,6,10,11,12,13,14,15,16,17,18,19,20,21,22,23,24,25,26,27,28,29,30,31,32] (fun k=>[(9,.int .i64 (k:Nat))]) (fun k w'=>k≤l.length∧(∀ j (h:j<l.length),j<k→1≤l[j]∧l[j]≤n)∧(∀ j (h:j+1<l.length),j+1<k→l[j]<l[j+1])∧ai w w') (fun k=>l.length-k) (0) ⟨rfl,trivial⟩ ?_ ?_)))))))))))))))
 ·exact ⟨Nat.zero_le _,fun j _ h=>absurd h (by omega),fun j _ h=>absurd h (by omega),ai.rfl_⟩
 rintro k ρ1 w1 ⟨hk,h1,h2,hB⟩;refine ak (ag (aa (bH rfl rfl) (aj (ah (ak (xD rfl (fun Q2=>?_) (fun Q2=>?_)))))))
 ·have hkx:k<l.length:=by omega
  obtain ⟨ba,oa,rfl,hca⟩:=hr (by omega);refine aP (ah (ak (aZ (ak (ag (mvi rfl (aa (cz cw rfl rfl (by omega)) (aa (ar aq rfl (by exact ej hB (hca k hkx))) ?_))))))));refine asi rfl (asi rfl (aj (ah (ak (ag (mvi rfl (mvi rfl (eG (v:=.int _ _) bK rfl rfl rfl ?_))))))));intro b16 w3 E16 hb16 hk16;refine aB cX (dZ 1 n (some ⟨b16,0,none⟩) 1 [l[k]] _ (fe hk16) (by simp)) ?_;rintro v17 w4 ⟨rfl,rfl⟩;refine aa (cf rfl) (mvb rfl (aD (t:=19) rfl (fun Q5=>?_) (fun Q5=>?_)))
  ·replace Q5:=cZ Q5;replace Q5:=dF_ Q5
   (try simp only [bo,bw,and_true] at Q5)
   refine ab rfl rfl (ab rfl rfl (ab rfl rfl (az rfl (az rfl (az rfl (az rfl (az rfl (az rfl ?_))))))));refine az rfl (ab rfl rfl (aa (an (v:=.bool _) rfl rfl) (aj (ah (aJ rfl (ak (ag (asb rfl (aj (ah (aA (aU (ay (ay (aU (ay (bg (v:=.bool _) rfl rfl ?_)))))))))))))))));refine ⟨congrArg Value.bool ?_,(hB.next E16)⟩;rw [eq_comm,←Bool.not_eq_true,fM];rintro ⟨h3,h4⟩;have h5:=h3 _ (List.getElem_mem hkx)
   first
    |omega
    |(obtain ⟨j,rfl⟩:∃ j,k=j+1:=⟨k-1,by omega⟩
      have h6:=h4 j hkx
      (try simp only [Nat.add_sub_cancel] at*)
      omega)
  replace Q5:=c8 Q5;replace Q5:=dT_ Q5
  (try simp only [bo,bw,and_true] at Q5)
  refine ae rfl (mvi rfl (ae rfl (aa (bM rfl rfl) (ae rfl (mvb rfl (wM (t:=22) rfl (fun Q6=>?_) (fun Q6=>?_)))))))
  ·refine ae rfl (mvs rfl (ae rfl (mvi rfl (ae rfl (aa (fh rfl rfl (by omega)) (fg (t:=25) (v:=.int _ _) (v':=.int .i64 ((k-1:Nat):Int)) rfl (by exact bC (by omega)) ?_))))));refine ae rfl (aa (cz cw rfl rfl (by omega)) (ae rfl (aa (ar aq rfl (by exact ej (hB.next E16) (hca (k-1) (by omega)))) ?_)));refine ae rfl (mvi rfl (ae rfl (aa (kJ rfl rfl) (ae rfl (aa (an (v:=.bool _) rfl rfl) (aa (au (v:=.bool _) rfl rfl) (aj (ah (xD rfl (fun Q7=>?_) (fun Q7=>?_))))))))))
   ·refine ak (ag (asb rfl (aj (ah (aA (aU (ay (ay (aU (ay (bg (v:=.bool _) rfl rfl (⟨congrArg Value.bool ?_,(hB.next E16)⟩))))))))))));rw [eq_comm,←Bool.not_eq_true,fM];rintro ⟨h3,h4⟩;have h5:=h3 _ (List.getElem_mem hkx)
    first
     |omega
     |(obtain ⟨j,rfl⟩:∃ j,k=j+1:=⟨k-1,by omega⟩
       have h6:=h4 j hkx
       (try simp only [Nat.add_sub_cancel] at*)
       omega)
   refine aP (bJ (ah (ag (aa (cP (b:=1) rfl rfl (by omega)) (mvi rfl (aj ?_))))));refine cD (k+1) ⟨(by first | rfl | (refine bC ?_;omega)),trivial⟩ (by (iterate 56 refine bR rfl ?_);exact cg) ⟨?_,?_⟩
   ·refine ⟨by omega,fun j h hj=>?_,fun j h hj=>?_,(hB.next E16)⟩
    ·rcases Nat.lt_or_ge j k with e | e
     ·exact h1 j h e
     ·obtain rfl:j=k:=by omega
      omega
    ·rcases Nat.lt_or_ge (j+1) k with e | e
     ·exact h2 j h e
     ·obtain rfl:k=j+1:=by omega
      (try simp only [Nat.add_sub_cancel] at*)
      omega
   ·omega
  refine ab rfl rfl (ab rfl rfl (ab rfl rfl (ab rfl rfl (ab rfl rfl (ab rfl rfl (ab rfl rfl (ae rfl (aa (au (v:=.bool _) rfl rfl) ?_))))))));refine aa (au (v:=.bool _) rfl rfl) (aj (ah (bF rfl (aP (bJ (ah (ag (aa (cP (b:=1) rfl rfl (by omega)) (mvi rfl (aj ?_))))))))));refine cD (k+1) ⟨(by first | rfl | (refine bC ?_;omega)),trivial⟩ (by (iterate 55 refine bR rfl ?_);exact cg) ⟨?_,?_⟩
  ·refine ⟨by omega,fun j h hj=>?_,fun j h hj=>?_,(hB.next E16)⟩
   ·rcases Nat.lt_or_ge j k with e | e
    ·exact h1 j h e
    ·obtain rfl:j=k:=by omega
     omega
   ·rcases Nat.lt_or_ge (j+1) k with e | e
    ·exact h2 j h e
    ·obtain rfl:k=j+1:=by omega
     (try simp only [Nat.add_sub_cancel] at*)
     omega
  ·omega
 refine b0 (bf (bf (bE (ah (ak (ag (asb rfl (aj (ah (aA (bg (v:=.bool _) rfl rfl (⟨congrArg Value.bool ?_,hB⟩))))))))))));obtain rfl:k=l.length:=by omega
 rw [eq_comm,fM];exact ⟨fun x hx=>by obtain ⟨j,hj,rfl⟩:=List.getElem_of_mem hx;exact h1 j hj hj,fun j hj=>h2 j hj hj⟩
theorem aL {s:Rf} (h:s.role=2):jV s↔((s.next.length:Int)=s.nodes∧(s.mtch.length:Int)=s.nodes∧(s.sent.length:Int)=s.nodes∧s.reads.length≤32)∧(bW 1 (bk s+1) s.next∧bW 0 (bk s) s.mtch∧bW 0 s.snap.size s.sent)∧(∀ q∈s.reads,ez s q=true):=by unfold jV;rw [if_pos h]
theorem aY {s:Rf} (h:s.role≠2):jV s↔s.next.length+s.mtch.length+s.sent.length+s.reads.length=0:=by unfold jV;rw [if_neg h]
theorem bY {s:Rf} {q:Rd}:ez s q=true↔(1≤q.id∧q.id≤1099511627776)∧(0≤q.ix∧q.ix≤s.commit)∧(0≤q.rn∧q.rn≤s.round)∧fk q.acks s.nodes=true:=by
 unfold ez inb;simp only [Bool.and_eq_true,decide_eq_true_eq];constructor
 ·rintro ⟨⟨⟨h1,h2⟩,h3⟩,h4⟩;exact ⟨h1,h2,h3,h4⟩
 ·rintro ⟨h1,h2,h3,h4⟩;exact ⟨⟨⟨h1,h2⟩,h3⟩,h4⟩
theorem ng (s:Rf) (a:Ra) (w:World) (hrd:eD w s a) (hN:gC s) (hL:fm s) (hl:s.next.length≤1000000∧s.mtch.length≤1000000∧s.sent.length≤1000000∧s.reads.length≤1000000∧∀ q∈s.reads,q.acks.length≤1000000) :
 Rt prog 134 [.agg (rfV s a).toArray] w (fun v w'=>v=.bool (decide (jV s))∧ai w w'):=by
 obtain ⟨E,Ec,V,Vc,X,Xc,M,Mc,Sn,Sc,Q,Qc,LL⟩:=a;have hrL:LL.map (fun q=>q.1)=s.reads:=hrd.r;have hrk:∀ q∈LL,IR w q.2.1 q.2.2 q.1.acks:=hrd.k;obtain ⟨hl1,hl2,hl3,hl4,hl5⟩:=hl;have hbl:=ey hL.1;have hlr:bk s=s.b+s.es.length:=hbl.1;have hrl:LL.length=s.reads.length:=by rw [←hrL,List.length_map]
 have hN0:=hN.1;refine enter (n:=122) Tryz.func134 rfl rfl rfl (ak (ag (cC (v:=.agg _) rfl ?_)));intro b1 w1 E1 hb1 hk1;refine asb rfl (aj (ah (ak (ak (ag (aa (af cT rfl) (aa (ar aq rfl (by exact (hk1.from_ ai.rfl_).rd 2 rfl)) ?_)))))));refine aa (dr rfl rfl) (aj (ah (xA rfl (fun Q2=>?_) (fun Q2=>?_))))
 ·refine ak (ag (aa (af bX rfl) (aa (ar aN rfl (by exact (show _=some (Value.slice X s.next.length Xc) from (hk1.from_ ai.rfl_).rd 15 rfl))) ?_)));refine aa (bn bZ rfl) (aa (af b_ rfl) (aa (ar aN rfl (by exact (show _=some (Value.slice M s.mtch.length Mc) from (hk1.from_ ai.rfl_).rd 16 rfl))) ?_));refine aa (bn bZ rfl) (aa (cP rfl rfl (by omega)) (aa (af bU rfl) (aa (ar aN rfl (by exact (show _=some (Value.slice Sn s.sent.length Sc) from (hk1.from_ ai.rfl_).rd 17 rfl))) ?_)));refine aa (bn bZ rfl) (aa (cP rfl rfl (by omega)) (aa (af aT rfl) (aa (ar bm rfl (by exact (show _=some (Value.slice Q LL.length Qc) from (hk1.from_ ai.rfl_).rd 19 rfl))) ?_)));refine aa (bn bA rfl) (aa (cP rfl rfl (by omega)) (aa (bu rfl rfl) (asb rfl (aj (ah (aA (ay (bg (v:=.bool _) rfl rfl (⟨congrArg Value.bool ?_,(ai.rfl_.next E1)⟩)))))))));rw [Bool.eq_iff_iff,decide_eq_true_eq,aY (by omega),beq_iff_eq];omega
 refine aP (ah (ak (ag (aa (af bj rfl) (aa (af cH rfl) (aa (ar aq rfl (by exact (hk1.from_ ai.rfl_).rd 6 rfl)) ?_))))));refine aa (af bj rfl) (aa (af cG rfl) (aa (ar cy rfl (by exact (hk1.from_ ai.rfl_).rd 8 rfl)) ?_));refine aa (bn dG rfl) (aa (bI rfl rfl (by omega)) (fg (t:=32) (v:=.int _ _) (v':=.int .i64 (bk s)) rfl (by exact bC hlr.symm) ?_));refine asi rfl (aj (ah (ak (ak (ag (aa (af bX rfl) (aa (ar aN rfl (by exact (show _=some (Value.slice X s.next.length Xc) from (hk1.from_ ai.rfl_).rd 15 rfl))) ?_)))))));refine aa (bn bZ rfl) (aa (af br rfl) (aa (ar aq rfl (by exact (hk1.from_ ai.rfl_).rd 1 rfl)) ?_));refine aa (dr rfl rfl) (mvb rfl (wJ (t:=39) rfl (fun Q3=>?_) (fun Q3=>?_)))
 ·refine ab rfl rfl (ab rfl rfl (ab rfl rfl (ab rfl rfl (ab rfl rfl (ab rfl rfl (aa (an (v:=.bool _) rfl rfl) (mvb rfl (ab rfl rfl ?_))))))));refine ab rfl rfl (ab rfl rfl (ab rfl rfl (ab rfl rfl (ab rfl rfl (aa (an (v:=.bool _) rfl rfl) (mvb rfl (ab rfl rfl (ab rfl rfl ?_))))))));refine ab rfl rfl (ab rfl rfl (aa (an (v:=.bool _) rfl rfl) (aj (ah (aJ rfl (ak (ag (asb rfl (aj (ah (aA (ay (bg (v:=.bool _) rfl rfl ?_)))))))))))));refine ⟨congrArg Value.bool ?_,(ai.rfl_.next E1)⟩;rw [eq_comm,decide_eq_false_iff_not];rw [aL (by omega)];rintro ⟨⟨g1,g2,g3,g4⟩,_⟩;omega
 refine ae rfl (aa (af b_ rfl) (ae rfl (aa (ar aN rfl (by exact (show _=some (Value.slice M s.mtch.length Mc) from (hk1.from_ ai.rfl_).rd 16 rfl))) ?_)));refine ae rfl (aa (bn bZ rfl) (ae rfl (aa (af br rfl) (ae rfl (aa (ar aq rfl (by exact (hk1.from_ ai.rfl_).rd 1 rfl)) ?_)))));refine ae rfl (aa (dr rfl rfl) (aa (au (v:=.bool _) rfl rfl) (mvb rfl (wJ (t:=47) rfl (fun Q4=>?_) (fun Q4=>?_)))))
 ·refine ab rfl rfl (ab rfl rfl (ab rfl rfl (ab rfl rfl (ab rfl rfl (ab rfl rfl (aa (an (v:=.bool _) rfl rfl) (mvb rfl (ab rfl rfl ?_))))))));refine ab rfl rfl (ab rfl rfl (ab rfl rfl (aa (an (v:=.bool _) rfl rfl) (aj (ah (aJ rfl (ak (ag (asb rfl (aj (ah (aA (ay ?_)))))))))))));refine bg (v:=.bool _) rfl rfl (⟨congrArg Value.bool ?_,(ai.rfl_.next E1)⟩);rw [eq_comm,decide_eq_false_iff_not];rw [aL (by omega)];rintro ⟨⟨g1,g2,g3,g4⟩,_⟩;omega
 refine ae rfl (aa (af bU rfl) (ae rfl (aa (ar aN rfl (by exact (show _=some (Value.slice Sn s.sent.length Sc) from (hk1.from_ ai.rfl_).rd 17 rfl))) ?_)));refine ae rfl (aa (bn bZ rfl) (ae rfl (aa (af br rfl) (ae rfl (aa (ar aq rfl (by exact (hk1.from_ ai.rfl_).rd 1 rfl)) ?_)))));refine ae rfl (aa (dr rfl rfl) (aa (au (v:=.bool _) rfl rfl) (mvb rfl (wJ (t:=55) rfl (fun Q5=>?_) (fun Q5=>?_)))))
 ·refine ab rfl rfl (ab rfl rfl (ab rfl rfl (ab rfl rfl (aa (an (v:=.bool _) rfl rfl) (aj (ah (aJ rfl (ak (ag (asb rfl ?_))))))))));refine aj (ah (aA (ay (bg (v:=.bool _) rfl rfl (⟨congrArg Value.bool ?_,(ai.rfl_.next E1)⟩)))));rw [eq_comm,decide_eq_false_iff_not];rw [aL (by omega)];rintro ⟨⟨g1,g2,g3,g4⟩,_⟩;omega
 refine ae rfl (aa (af aT rfl) (ae rfl (aa (ar bm rfl (by exact (show _=some (Value.slice Q LL.length Qc) from (hk1.from_ ai.rfl_).rd 19 rfl))) ?_)));refine ae rfl (aa (bn bA rfl) (ae rfl (aa (bM rfl rfl) (aa (au (v:=.bool _) rfl rfl) (aj (ah (xD rfl (fun Q6=>?_) (fun Q6=>?_))))))))
 ·refine ak (ag (asb rfl (aj (ah (aA (ay (bg (v:=.bool _) rfl rfl (⟨congrArg Value.bool ?_,(ai.rfl_.next E1)⟩))))))));rw [eq_comm,decide_eq_false_iff_not];rw [aL (by omega)];rintro ⟨⟨g1,g2,g3,g4⟩,_⟩;omega
 refine aP (ah (ak (ak (ag (mvi rfl (aa (bI rfl rfl (by omega)) (aa (af bX rfl) (aa (ar aN rfl (by exact (show _=some (Value.slice X s.next.length Xc) from (hk1.from_ ai.rfl_).rd 15 rfl))) ?_))))))));refine aB cX (dZ 1 (bk s+1) X Xc s.next _ (hrd.x.1.from_ (ai.rfl_.next E1)) hl1) ?_;rintro v65 w7 ⟨rfl,rfl⟩;refine aa (cf rfl) (mvb rfl (aD (t:=67) rfl (fun Q8=>?_) (fun Q8=>?_)))
 ·with_reducible (replace Q8:=cZ Q8;replace Q8:=dF_ Q8)
  (try simp only [bo,bw,and_true] at Q8)
  refine ab rfl rfl (ab rfl rfl (ab rfl rfl (ab rfl rfl (ab rfl rfl (aa (an (v:=.bool _) rfl rfl) (mvb rfl (ab rfl rfl (ab rfl rfl ?_))))))));refine ab rfl rfl (ab rfl rfl (ab rfl rfl (ab rfl rfl (ab rfl rfl (aa (an (v:=.bool _) rfl rfl) (aj (ah (aJ rfl (ak (ag ?_))))))))));refine asb rfl (aj (ah (aA (ay (bg (v:=.bool _) rfl rfl (⟨congrArg Value.bool ?_,(ai.rfl_.next E1)⟩))))));rw [eq_comm,decide_eq_false_iff_not];rw [aL (by omega)];rintro ⟨_,⟨g1,g2,g3⟩,_⟩
  simp_all
 with_reducible (replace Q8:=c8 Q8;replace Q8:=dT_ Q8)
 (try simp only [bo,bw,and_true] at Q8)
 refine ae rfl (mvi rfl (ae rfl (aa (af b_ rfl) (ae rfl (aa (ar aN rfl (by exact (show _=some (Value.slice M s.mtch.length Mc) from (hk1.from_ ai.rfl_).rd 16 rfl))) ?_)))));refine ae rfl (aB cX (dZ 0 (bk s) M Mc s.mtch _ (hrd.m.1.from_ (ai.rfl_.next E1)) hl2) ?_);rintro v71 w9 ⟨rfl,rfl⟩;refine ae rfl (aa (cf rfl) (aa (au (v:=.bool _) rfl rfl) (mvb rfl (aD (t:=74) rfl (fun Q10=>?_) (fun Q10=>?_)))))
 ·with_reducible (replace Q10:=cZ Q10;replace Q10:=dF_ Q10)
  (try simp only [bo,bw,and_true] at Q10)
  refine ab rfl rfl (ab rfl rfl (ab rfl rfl (ab rfl rfl (ab rfl rfl (ab rfl rfl (ab rfl rfl (aa (an (v:=.bool _) rfl rfl) (aj (ah ?_)))))))));refine aJ rfl (ak (ag (asb rfl (aj (ah (aA (ay (bg (v:=.bool _) rfl rfl (⟨congrArg Value.bool ?_,(ai.rfl_.next E1)⟩)))))))));rw [eq_comm,decide_eq_false_iff_not];rw [aL (by omega)];rintro ⟨_,⟨g1,g2,g3⟩,_⟩
  simp_all
 with_reducible (replace Q10:=c8 Q10;replace Q10:=dT_ Q10)
 (try simp only [bo,bw,and_true] at Q10)
 refine ae rfl (aa (af cp rfl) (ae rfl (aa (ar bT rfl (by exact (hk1.from_ ai.rfl_).rd 9 rfl)) ?_)));refine ae rfl (aa (dC (by kernel_rfl) rfl) (ae rfl (aa (af bU rfl) (ae rfl (aa (ar aN rfl (by exact (show _=some (Value.slice Sn s.sent.length Sc) from (hk1.from_ ai.rfl_).rd 17 rfl))) ?_)))));refine ae rfl (aB cX (dZ 0 (s.snap.size:Nat) Sn Sc s.sent _ (hrd.n.1.from_ (ai.rfl_.next E1)) hl3) ?_);rintro v80 w11 ⟨rfl,rfl⟩;refine ae rfl (aa (cf rfl) (aa (au (v:=.bool _) rfl rfl) (aj (ah (aV rfl (fun Q12=>?_) (fun Q12=>?_))))))
 ·with_reducible (replace Q12:=cZ Q12;replace Q12:=dF_ Q12)
  refine ak (ag (asb rfl (aj (ah (aA (ay (bg (v:=.bool _) rfl rfl (⟨congrArg Value.bool ?_,(ai.rfl_.next E1)⟩))))))));rw [eq_comm,decide_eq_false_iff_not];rw [aL (by omega)];rintro ⟨_,⟨g1,g2,g3⟩,_⟩
  simp_all
 with_reducible (replace Q12:=c8 Q12;replace Q12:=dT_ Q12)
 refine aP (ah (ak (ak (ag (aa (af aT rfl) (aa (ar bm rfl (by exact (show _=some (Value.slice Q LL.length Qc) from (hk1.from_ ai.rfl_).rd 19 rfl))) ?_))))));refine aa (bn bA rfl) (mvi rfl (aj (ah (aZ (cj (G:=Nat) [2,5,87,88,89,90,91,92,93,94,95,96,97,98,99,100,101,102,103,104,105,106,107,108,109,110,111,112,113,114,115,116,117,118,119,120,121] (fun k=>[(86,.int .i64 (k:Nat))]) (fun k w'=>k≤LL.length∧(∀ j (h:j<LL.length),j<k→ez s LL[j].1=true)∧Blk w' b1 29 (rfV s (⟨E,Ec,V,Vc,X,Xc,M,Mc,Sn,Sc,Q,Qc,LL⟩:Ra)).toArray∧ai w w') (fun k=>LL.length-k) (0) ⟨rfl,trivial⟩ ?_ ?_)))))
 ·exact ⟨Nat.zero_le _,fun j _ h=>absurd h (by omega),hk1.from_ ai.rfl_,(ai.rfl_.next E1)⟩
 rintro k ρ13 w13 ⟨hk,h1,hk1,hB⟩;refine ak (ag (aa (bH rfl rfl) (aj (ah (ak (xD rfl (fun Q14=>?_) (fun Q14=>?_)))))))
 ·have hkL:k<LL.length:=by omega
  have hqm:LL[k].1∈s.reads:=by rw [←hrL];exact List.mem_map_of_mem (List.getElem_mem hkL)
  obtain ⟨ba,oa,rfl,hcs⟩:∃ b o,Q=some ⟨b,o,none⟩∧∀ i (hi:i<LL.length),w.rangeAt b (o+i*4) (rdV LL[i]):=hrd.q (by show 0<LL.length;omega);refine aP (ah (ak (aZ (ak (ag (aa (bq cO rfl rfl (by omega)) (aa (aH (cs:=rdV LL[k]) cY ch rfl (ep hB (hcs k hkL))) (bG eF ?_))))))));intro b5 w15 E5 hb5 hk5;have hg5:w.heap.size≤b5:=by rw [hb5];exact (hB).size
  have hk1L:=hk1.from_ (ai.rfl_.next E5);have hn5:b1≠b5:=by have:=hk1.lt;have:=((ai.rfl_.next E5)).size;omega
  refine bP (vs:=[_,_,_,_]) ch rfl rfl (by simp [Value.oneCell']) (hk5) rfl ?_;intro w16 O10 P10;replace hk1:=hk1L.only O10 hn5;refine aj (ah (ak (ag (aa (af dB rfl) (aa (ar aq rfl (by exact (show _=some (Value.int .i64 LL[k].1.id) from (P10.from_ ai.rfl_).rd 0 rfl))) ?_)))));refine eG (v:=.int _ _) bK rfl rfl rfl ?_;intro b92 w17 E92 hb92 hk92;refine aB cX (dZ 1 1099511627776 (some ⟨b92,0,none⟩) 1 [LL[k].1.id] _ (fe hk92) (by simp)) ?_;rintro v93 w18 ⟨rfl,rfl⟩;refine aa (cf rfl) (mvb rfl (aD (t:=95) rfl (fun Q19=>?_) (fun Q19=>?_)))
  ·with_reducible (replace Q19:=cZ Q19;replace Q19:=dF_ Q19)
   (try simp only [bo,bw,and_true] at Q19)
   refine ab rfl rfl (ab rfl rfl (ab rfl rfl (ab rfl rfl (ab rfl rfl (ab rfl rfl (ab rfl rfl (aa (an (v:=.bool _) rfl rfl) (mvb rfl ?_))))))));refine ab rfl rfl (ab rfl rfl (ab rfl rfl (ab rfl rfl (ab rfl rfl (ab rfl rfl (ab rfl rfl (aa (an (v:=.bool _) rfl rfl) (mvb rfl ?_))))))));refine ab rfl rfl (ab rfl rfl (ab rfl rfl (ab rfl rfl (ab rfl rfl (ab rfl rfl (aa (an (v:=.bool _) rfl rfl) (aj (ah (aJ rfl ?_)))))))));refine ak (ag (asb rfl (aj (ah (aA (aU (ay (ay (aU (ay (bg (v:=.bool _) rfl rfl (⟨congrArg Value.bool ?_,(((hB.next E5).only O10 (hg5)).next E92)⟩))))))))))));rw [eq_comm,decide_eq_false_iff_not];rw [aL (by omega)];rintro ⟨_,_,g⟩;have g5:=bY.1 (g _ hqm)
   first
    |omega
    |simp_all
  with_reducible (replace Q19:=c8 Q19;replace Q19:=dT_ Q19)
  (try simp only [bo,bw,and_true] at Q19)
  refine ae rfl (aa (af cu rfl) (ae rfl (aa (ar aq rfl (by exact (hk1.from_ (ai.rfl_.next E92)).rd 10 rfl)) ?_)));refine ae rfl (aa (af dA rfl) (ae rfl (aa (ar aq rfl (by exact (show _=some (Value.int .i64 LL[k].1.ix) from (P10.from_ (ai.rfl_.next E92)).rd 1 rfl))) ?_)));refine ae rfl (eG (v:=.int _ _) bK rfl rfl rfl ?_);intro b100 w20 E100 hb100 hk100;refine ae rfl (aB cX (dZ 0 s.commit (some ⟨b100,0,none⟩) 1 [LL[k].1.ix] _ (fe hk100) (by simp)) ?_);rintro v101 w21 ⟨rfl,rfl⟩;refine ae rfl (aa (cf rfl) (aa (au (v:=.bool _) rfl rfl) (mvb rfl (aD (t:=104) rfl (fun Q22=>?_) (fun Q22=>?_)))))
  ·with_reducible (replace Q22:=cZ Q22;replace Q22:=dF_ Q22)
   (try simp only [bo,bw,and_true] at Q22)
   refine ab rfl rfl (ab rfl rfl (ab rfl rfl (ab rfl rfl (ab rfl rfl (ab rfl rfl (ab rfl rfl (aa (an (v:=.bool _) rfl rfl) (mvb rfl ?_))))))));refine ab rfl rfl (ab rfl rfl (ab rfl rfl (ab rfl rfl (ab rfl rfl (ab rfl rfl (aa (an (v:=.bool _) rfl rfl) (aj (ah (aJ rfl ?_)))))))));refine ak (ag (asb rfl (aj (ah (aA (aU (ay (ay (aU (ay (bg (v:=.bool _) rfl rfl (⟨congrArg Value.bool ?_,((((hB.next E5).only O10 (hg5)).next E92).next E100)⟩))))))))))));rw [eq_comm,decide_eq_false_iff_not];rw [aL (by omega)];rintro ⟨_,_,g⟩;have g5:=bY.1 (g _ hqm)
   first
    |omega
    |simp_all
  with_reducible (replace Q22:=c8 Q22;replace Q22:=dT_ Q22)
  (try simp only [bo,bw,and_true] at Q22)
  refine ae rfl (aa (af cR rfl) (ae rfl (aa (ar aq rfl (by exact (hk1.from_ ((ai.rfl_.next E92).next E100)).rd 18 rfl)) ?_)));refine ae rfl (aa (af dz rfl) (ae rfl (aa (ar aq rfl (by exact (show _=some (Value.int .i64 LL[k].1.rn) from (P10.from_ ((ai.rfl_.next E92).next E100)).rd 2 rfl))) ?_)));refine ae rfl (eG (v:=.int _ _) bK rfl rfl rfl ?_);intro b109 w23 E109 hb109 hk109;refine ae rfl (aB cX (dZ 0 s.round (some ⟨b109,0,none⟩) 1 [LL[k].1.rn] _ (fe hk109) (by simp)) ?_);rintro v110 w24 ⟨rfl,rfl⟩;refine ae rfl (aa (cf rfl) (aa (au (v:=.bool _) rfl rfl) (mvb rfl (aD (t:=113) rfl (fun Q25=>?_) (fun Q25=>?_)))))
  ·with_reducible (replace Q25:=cZ Q25;replace Q25:=dF_ Q25)
   (try simp only [bo,bw,and_true] at Q25)
   refine ab rfl rfl (ab rfl rfl (ab rfl rfl (ab rfl rfl (ab rfl rfl (ab rfl rfl (aa (an (v:=.bool _) rfl rfl) (aj (ah (aJ rfl ?_)))))))));refine ak (ag (asb rfl (aj (ah (aA (aU (ay (ay (aU (ay (bg (v:=.bool _) rfl rfl (⟨congrArg Value.bool ?_,(((((hB.next E5).only O10 (hg5)).next E92).next E100).next E109)⟩))))))))))));rw [eq_comm,decide_eq_false_iff_not];rw [aL (by omega)];rintro ⟨_,_,g⟩;have g5:=bY.1 (g _ hqm)
   first
    |omega
    |simp_all
  with_reducible (replace Q25:=c8 Q25;replace Q25:=dT_ Q25)
  (try simp only [bo,bw,and_true] at Q25)
  refine ae rfl (aa (af cE rfl) (ae rfl (aa (ar aN rfl (by exact (show _=some (Value.slice LL[k].2.1 LL[k].1.acks.length LL[k].2.2) from (P10.from_ (((ai.rfl_.next E92).next E100).next E109)).rd 3 rfl))) ?_)));refine ae rfl (aa (af br rfl) (ae rfl (aa (ar aq rfl (by exact (hk1.from_ (((ai.rfl_.next E92).next E100).next E109)).rd 1 rfl)) ?_)));refine ae rfl (aB kA (nE LL[k].2.1 LL[k].2.2 LL[k].1.acks s.nodes _ ((hrk _ (List.getElem_mem hkL)).1.from_ (((((hB.next E5).only O10 (hg5)).next E92).next E100).next E109)) (hl5 _ hqm)) ?_);rintro v118 w26 ⟨rfl,E118⟩;refine ae rfl (aa (cf rfl) (aa (au (v:=.bool _) rfl rfl) (aj (ah (xB rfl (fun Q27=>?_) (fun Q27=>?_))))))
  ·refine ak (ag (asb rfl (aj (ah (aA (aU (ay (ay (aU (ay (bg (v:=.bool _) rfl rfl (⟨congrArg Value.bool ?_,((((((hB.next E5).only O10 (hg5)).next E92).next E100).next E109).next E118)⟩))))))))))));rw [eq_comm,decide_eq_false_iff_not];rw [aL (by omega)];rintro ⟨_,_,g⟩;have g5:=bY.1 (g _ hqm)
   first
    |omega
    |simp_all
  refine aP (bJ (ah (ag (aa (bI rfl rfl (by omega)) (mvi rfl (aj ?_))))));refine cD (k+1) ⟨(by first | rfl | (refine bC ?_;omega)),trivial⟩ (by (iterate 78 refine bR rfl ?_);exact cg) ⟨?_,?_⟩
  ·refine ⟨by omega,fun j h hj=>?_,hk1.from_ ((((ai.rfl_.next E92).next E100).next E109).next E118),((((((hB.next E5).only O10 (hg5)).next E92).next E100).next E109).next E118)⟩;rcases Nat.lt_or_ge j k with e | e
   ·exact h1 j h e
   ·obtain rfl:j=k:=by omega
    rw [bY];exact ⟨by omega,by omega,by omega,by first | assumption | simp_all⟩
  ·omega
 refine b0 (bf (bf (bE (ah (ak (ag (asb rfl (aj (ah (aA (bg (v:=.bool _) rfl rfl (⟨congrArg Value.bool ?_,hB⟩))))))))))));rw [eq_comm,decide_eq_true_eq];rw [aL (by omega)];refine ⟨⟨by omega,by omega,by omega,by omega⟩,⟨?_,?_,?_⟩,fun q hq=>?_⟩
 ·simp_all
 ·simp_all
 ·simp_all
 ·rw [←hrL] at hq;obtain ⟨y,hy,rfl⟩:=List.mem_map.1 hq;obtain ⟨i,hi,rfl⟩:=List.getElem_of_mem hy;exact h1 i hi (by omega)
theorem aM {s:Rf}:gj s=true↔gC s∧fm s∧fk s.votes s.nodes=true∧jV s∧fI s:=by
 constructor
 ·intro h;have F:=jn h;have hl:=F.last;refine ⟨⟨F.n,F.i,F.ro,⟨F.vo,F.le⟩,F.te,F.el,F.ti,F.rn⟩,⟨F.lg,F.lt,F.co,F.sn,?_⟩,F.vs,?_,⟨F.pa,F.po,?_⟩⟩
  ·have:=F.sb;omega
  ·by_cases hr:s.role=2
   ·rw [aL hr];have hx:=F.nx;have hm:=F.ma;have hs:=F.se;rw [ik hr] at hx hm hs;have:=F.n;exact ⟨⟨by omega,by omega,by omega,F.rl⟩,⟨hx.2,hm.2,hs.2⟩,F.rd⟩
   ·rw [aY hr];obtain ⟨e1,e2,e3,e4⟩:=F.free hr;rw [e1,e2,e3,e4];rfl
  ·have:=F.pp;have:=F.po;omega
 ·rintro ⟨⟨n,i,ro,⟨vo,le⟩,te,el,ti,rn⟩,⟨lg,lt,co,sn,sb⟩,vs,ls,⟨pa,po,pp⟩⟩;have hbl:=ey lg
  have key:(s.next.length=fq s∧∀ x∈s.next,1≤x∧x≤bk s+1)∧(s.mtch.length=fq s∧∀ x∈s.mtch,0≤x∧x≤bk s)∧(s.sent.length=fq s∧∀ x∈s.sent,0≤x∧x≤(s.snap.size:Int))∧s.reads.length≤32∧(fq s≠0∨s.reads.length=0)∧∀ q∈s.reads,ez s q=true:=by
   by_cases hr:s.role=2
   ·rw [aL hr] at ls;obtain ⟨⟨l1,l2,l3,l4⟩,⟨g1,g2,g3⟩,g4⟩:=ls;rw [ik hr];exact ⟨⟨by omega,g1⟩,⟨by omega,g2⟩,⟨by omega,g3⟩,l4,.inl (by omega),g4⟩
   ·rw [aY hr] at ls;rw [lS hr];have e1:s.next=[]:=List.eq_nil_of_length_eq_zero (by omega);have e2:s.mtch=[]:=List.eq_nil_of_length_eq_zero (by omega);have e3:s.sent=[]:=List.eq_nil_of_length_eq_zero (by omega);have e4:s.reads=[]:=List.eq_nil_of_length_eq_zero (by omega);rw [e1,e2,e3,e4];exact ⟨⟨rfl,fun x hx=>by cases hx⟩,⟨rfl,fun x hx=>by cases hx⟩,⟨rfl,fun x hx=>by cases hx⟩,by decide,.inr rfl,fun x hx=>by cases hx⟩
  obtain ⟨k1,k2,k3,k4,k5,k6⟩:=key;unfold gj ea nT;simp only [Bool.and_eq_true,Bool.or_eq_true,decide_eq_true_eq,List.all_eq_true];exact ⟨⟨⟨⟨⟨⟨⟨⟨⟨⟨⟨⟨⟨⟨⟨⟨⟨⟨⟨⟨⟨⟨⟨⟨n.1,n.2⟩,eA i⟩,eA ro⟩,eA te⟩,eA vo⟩,eA le⟩,lg⟩,sn⟩,by omega⟩,eA el⟩,eA ti⟩,eA rn⟩,vs⟩,lt⟩,eA co⟩,pa⟩,eA po⟩,by omega⟩,k1⟩,k2⟩,k3⟩,k4⟩,k5⟩,k6⟩
theorem p_ (s:Rf) (a:Ra) (w:World) (hrd:eD w s a) (hl:s.votes.length≤1000000∧s.next.length≤1000000∧s.mtch.length≤1000000∧s.sent.length≤1000000∧s.reads.length≤1000000∧∀ q∈s.reads,q.acks.length≤1000000) :
 Rt prog 95 [.agg (rfV s a).toArray] w (fun v w'=>v=.int .i64 (if gj s=true then 0 else 1)∧ai w w'):=by
 refine enter (n:=29) Tryz.func95 rfl rfl rfl (ak (ag (cC (v:=.agg _) rfl ?_)));intro b1 w1 E1 hb1 hk1;refine asi rfl (aj (ah (ak (ak (ag (aa (aH (cs:=rfV s a) aG av rfl ((hk1.from_ ai.rfl_).whole)) (aB pc (lD s a _) ?_)))))));rintro v4 w2 ⟨rfl,E4⟩;refine aa (cf rfl) (mvb rfl (aD (t:=6) rfl (fun Q3=>?_) (fun Q3=>?_)))
 ·replace Q3:=cZ Q3;replace Q3:=dF_ Q3;have hNn:¬ gC s:=by first | exact Q3 | simpa using Q3
  refine ab rfl rfl (ab rfl rfl (ab rfl rfl (aa (an (v:=.bool _) rfl rfl) (mvb rfl (ab rfl rfl (ab rfl rfl (ab rfl rfl (ab rfl rfl ?_))))))));refine ab rfl rfl (ab rfl rfl (aa (an (v:=.bool _) rfl rfl) (mvb rfl (ab rfl rfl (ab rfl rfl (ab rfl rfl (aa (an (v:=.bool _) rfl rfl) (mvb rfl ?_))))))));refine ab rfl rfl (ab rfl rfl (ab rfl rfl (aa (an (v:=.bool _) rfl rfl) (aj (ah (aJ rfl (ak (ag (asi rfl (aj (ah (aA (ay ?_)))))))))))));refine bg (v:=.int _ _) rfl rfl (⟨bC (by rw [if_neg (fun h=>by obtain ⟨g1,g2,g3,g4,g5⟩:=aM.1 h;first | exact hNn g1 | exact hLn g2 | exact hVn g3 | exact hSn g4 | exact hPn g5)]),((ai.rfl_.next E1).next E4)⟩)
 replace Q3:=c8 Q3;replace Q3:=dT_ Q3;have hN:gC s:=by first | exact Q3 | simpa using Q3
 refine ae rfl (aa (aH (cs:=rfV s a) aG av rfl ((hk1.from_ (ai.rfl_.next E4)).whole)) (ae rfl (aB pb (pk s a _ (hrd.e.from_ ((ai.rfl_.next E1).next E4))) ?_)));rintro v8 w4 ⟨rfl,E8⟩;refine ae rfl (aa (cf rfl) (aa (au (v:=.bool _) rfl rfl) (mvb rfl (aD (t:=11) rfl (fun Q5=>?_) (fun Q5=>?_)))))
 ·replace Q5:=cZ Q5;replace Q5:=dF_ Q5;have hLn:¬ fm s:=by first | exact Q5 | simpa using Q5
  refine ab rfl rfl (ab rfl rfl (ab rfl rfl (ab rfl rfl (ab rfl rfl (ab rfl rfl (aa (an (v:=.bool _) rfl rfl) (mvb rfl (ab rfl rfl ?_))))))));refine ab rfl rfl (ab rfl rfl (aa (an (v:=.bool _) rfl rfl) (mvb rfl (ab rfl rfl (ab rfl rfl (ab rfl rfl (aa (an (v:=.bool _) rfl rfl) (aj (ah ?_)))))))));refine aJ rfl (ak (ag (asi rfl (aj (ah (aA (ay (bg (v:=.int _ _) rfl rfl (⟨bC (by rw [if_neg (fun h=>by obtain ⟨g1,g2,g3,g4,g5⟩:=aM.1 h;first | exact hNn g1 | exact hLn g2 | exact hVn g3 | exact hSn g4 | exact hPn g5)]),(((ai.rfl_.next E1).next E4).next E8)⟩)))))))))
 replace Q5:=c8 Q5;replace Q5:=dT_ Q5;have hL:fm s:=by first | exact Q5 | simpa using Q5
 refine ae rfl (aa (af cK rfl) (ae rfl (aa (ar aN rfl (by exact (show _=some (Value.slice a.V s.votes.length a.Vc) from (hk1.from_ ((ai.rfl_.next E4).next E8)).rd 14 rfl))) ?_)));refine ae rfl (aa (af br rfl) (ae rfl (aa (ar aq rfl (by exact (hk1.from_ ((ai.rfl_.next E4).next E8)).rd 1 rfl)) ?_)));refine ae rfl (aB kA (nE a.V a.Vc s.votes s.nodes _ (hrd.v.1.from_ (((ai.rfl_.next E1).next E4).next E8)) hl.1) ?_);rintro v16 w6 ⟨rfl,E16⟩;refine ae rfl (aa (cf rfl) (aa (au (v:=.bool _) rfl rfl) (mvb rfl (wK (t:=19) rfl (fun Q7=>?_) (fun Q7=>?_)))))
 ·have hVn:¬ fk s.votes s.nodes=true:=by first | exact Q7 | simpa using Q7
  refine ab rfl rfl (ab rfl rfl (ab rfl rfl (aa (an (v:=.bool _) rfl rfl) (mvb rfl (ab rfl rfl (ab rfl rfl (ab rfl rfl (aa (an (v:=.bool _) rfl rfl) ?_))))))));refine aj (ah (aJ rfl (ak (ag (asi rfl (aj (ah (aA (ay (bg (v:=.int _ _) rfl rfl (⟨bC (by rw [if_neg (fun h=>by obtain ⟨g1,g2,g3,g4,g5⟩:=aM.1 h;first | exact hNn g1 | exact hLn g2 | exact hVn g3 | exact hSn g4 | exact hPn g5)]),((((ai.rfl_.next E1).next E4).next E8).next E16)⟩)))))))))))
 have hV:fk s.votes s.nodes=true:=by first | exact Q7 | simpa using Q7
 refine ae rfl (aa (aH (cs:=rfV s a) aG av rfl ((hk1.from_ (((ai.rfl_.next E4).next E8).next E16)).whole)) (ae rfl (aB o_ (ng s a _ (hrd.from_ ((((ai.rfl_.next E1).next E4).next E8).next E16)) hN hL hl.2) ?_)));rintro v21 w8 ⟨rfl,E21⟩;refine ae rfl (aa (cf rfl) (aa (au (v:=.bool _) rfl rfl) (mvb rfl (aD (t:=24) rfl (fun Q9=>?_) (fun Q9=>?_)))))
 ·replace Q9:=cZ Q9;replace Q9:=dF_ Q9;have hSn:¬ jV s:=by first | exact Q9 | simpa using Q9
  refine ab rfl rfl (ab rfl rfl (ab rfl rfl (aa (an (v:=.bool _) rfl rfl) (aj (ah (aJ rfl (ak (ag (asi rfl (aj (ah (aA (ay ?_)))))))))))));refine bg (v:=.int _ _) rfl rfl (⟨bC (by rw [if_neg (fun h=>by obtain ⟨g1,g2,g3,g4,g5⟩:=aM.1 h;first | exact hNn g1 | exact hLn g2 | exact hVn g3 | exact hSn g4 | exact hPn g5)]),(((((ai.rfl_.next E1).next E4).next E8).next E16).next E21)⟩)
 replace Q9:=c8 Q9;replace Q9:=dT_ Q9;have hS:jV s:=by first | exact Q9 | simpa using Q9
 refine ae rfl (aa (aH (cs:=rfV s a) aG av rfl ((hk1.from_ ((((ai.rfl_.next E4).next E8).next E16).next E21)).whole)) (ae rfl (aB o8 (oh s a _) ?_)));rintro v26 w10 ⟨rfl,E26⟩;refine ae rfl (aa (cf rfl) (aa (au (v:=.bool _) rfl rfl) (aj (ah (aV rfl (fun Q11=>?_) (fun Q11=>?_))))))
 ·replace Q11:=cZ Q11;replace Q11:=dF_ Q11;have hPn:¬ fI s:=by first | exact Q11 | simpa using Q11
  refine ak (ag (asi rfl (aj (ah (aA (ay (bg (v:=.int _ _) rfl rfl (⟨bC (by rw [if_neg (fun h=>by obtain ⟨g1,g2,g3,g4,g5⟩:=aM.1 h;first | exact hNn g1 | exact hLn g2 | exact hVn g3 | exact hSn g4 | exact hPn g5)]),((((((ai.rfl_.next E1).next E4).next E8).next E16).next E21).next E26)⟩))))))))
 replace Q11:=c8 Q11;replace Q11:=dT_ Q11;have hP:fI s:=by first | exact Q11 | simpa using Q11
 refine aP (ah (ak (ag (asi rfl (aj (ah (aA (bg (v:=.int _ _) rfl rfl (⟨bC (by rw [if_pos (aM.2 ⟨hN,hL,hV,hS,hP⟩)]),((((((ai.rfl_.next E1).next E4).next E8).next E16).next E21).next E26)⟩)))))))))
theorem qu:prog.underlying 26=some (.slice 3):=by kernel_rfl
theorem dO:iA prog 27=some (54,4,48,(.agg #[.int .i64 0,.int .i64 0,.int .i64 0,.slice none 0 0])):=by kernel_rfl
theorem qt:prog.underlying 27=some (.slice 54):=by kernel_rfl
theorem qw:h_ prog 91=some true:=by kernel_rfl
theorem jE:dH prog 91=some 22:=by kernel_rfl
theorem lz:jO prog 91=some (.agg #[.int .i64 0,.int .i64 0,.int .i64 0,.int .i64 0,.int .i64 0,.int .i64 0,.int .i64 0,.int .i64 0,.slice none 0 0,.string ⟨#[]⟩,.int .i64 0,.int .i64 0,.int .i64 0,.int .u64 0,.slice none 0 0,.slice none 0 0,.slice none 0 0,.slice none 0 0,.int .i64 0,.slice none 0 0,.string ⟨#[]⟩,.int .i64 0]):=by kernel_rfl
theorem qs:dH prog 22=some 1:=by kernel_rfl
theorem fD:aR prog 136=true:=by kernel_rfl
theorem pd:aR prog 137=true:=by kernel_rfl
theorem nu:∀ (a0:Int) (a1:Int) (a2:Int) (a3:Int) (a4:Int) (a5:Int) (a6:Int) (a7:Int) (a8:Option Addr) (a9 a10:Nat) (a11:ByteArray) (a12:Int) (a13:Int) (a14:Int) (a15:Int) (a16:Option Addr) (a17 a18:Nat) (a19:Option Addr) (a20 a21:Nat) (a22:Option Addr) (a23 a24:Nat) (a25:Option Addr) (a26 a27:Nat) (a28:Int) (a29:Option Addr) (a30 a31:Nat) (a32:ByteArray) (a33:Int),prog.built 91 [(0,.agg #[.int .i64 a0,.int .i64 a1,.int .i64 a2,.int .i64 a3,.int .i64 a4,.int .i64 a5,.int .i64 a6,.int .i64 a7,.slice a8 a9 a10,.string a11,.int .i64 a12,.int .i64 a13,.int .i64 a14,.int .u64 a15,.slice a16 a17 a18,.slice a19 a20 a21,.slice a22 a23 a24,.slice a25 a26 a27,.int .i64 a28,.slice a29 a30 a31,.string a32,.int .i64 a33])]=some #[.int .i64 a0,.int .i64 a1,.int .i64 a2,.int .i64 a3,.int .i64 a4,.int .i64 a5,.int .i64 a6,.int .i64 a7,.slice a8 a9 a10,.string a11,.int .i64 a12,.int .i64 a13,.int .i64 a14,.int .u64 a15,.slice a16 a17 a18,.slice a19 a20 a21,.slice a22 a23 a24,.slice a25 a26 a27,.int .i64 a28,.slice a29 a30 a31,.string a32,.int .i64 a33]:=by intros;kernel_rfl
theorem lA:aR prog 95=true:=by kernel_rfl
theorem qv:aR prog 96=true:=by kernel_rfl
theorem nt:∀ (a0:Int) (a1:Int) (a2:Int) (a3:Int) (a4:Int) (a5:Int) (a6:Int) (a7:Int) (a8:Option Addr) (a9 a10:Nat) (a11:ByteArray) (a12:Int) (a13:Int) (a14:Int) (a15:Int) (a16:Option Addr) (a17 a18:Nat) (a19:Option Addr) (a20 a21:Nat) (a22:Option Addr) (a23 a24:Nat) (a25:Option Addr) (a26 a27:Nat) (a28:Int) (a29:Option Addr) (a30 a31:Nat) (a32:ByteArray) (a33:Int),prog.built 96 [(0,.agg #[.int .i64 a0,.int .i64 a1,.int .i64 a2,.int .i64 a3,.int .i64 a4,.int .i64 a5,.int .i64 a6,.int .i64 a7,.slice a8 a9 a10,.string a11,.int .i64 a12,.int .i64 a13,.int .i64 a14,.int .u64 a15,.slice a16 a17 a18,.slice a19 a20 a21,.slice a22 a23 a24,.slice a25 a26 a27,.int .i64 a28,.slice a29 a30 a31,.string a32,.int .i64 a33])]=some #[.int .i64 a0,.int .i64 a1,.int .i64 a2,.int .i64 a3,.int .i64 a4,.int .i64 a5,.int .i64 a6,.int .i64 a7,.slice a8 a9 a10,.string a11,.int .i64 a12,.int .i64 a13,.int .i64 a14,.int .u64 a15,.slice a16 a17 a18,.slice a19 a20 a21,.slice a22 a23 a24,.slice a25 a26 a27,.int .i64 a28,.slice a29 a30 a31,.string a32,.int .i64 a33,.slice none 0 0]:=by intros;kernel_rfl
theorem dU (A:Option Addr) (c n:Nat) (xs:List Value) (w:World) (hx:xs.length=n*1) (hr:0<n→∃ b o,A=some ⟨b,o,none⟩∧w.rangeAt b o xs) (hn0:A=none→n=0∧c=0) (h1:∀ u∈xs,u.oneCell'=true) (hl:n≤100000000000) :
 Rt prog 136 [.slice A n c] w (fun v w'=>(∃ A' c',v=.slice A' n c'∧w'.ownsRow w.heap.size 3 1 (.slice A' n c') n xs)∧ai w w'):=by
 refine enter (n:=8) Tryz.func136 rfl rfl rfl (ak (ag (ass rfl (aj (ah (ak (ak (ag (mvs rfl (aa (ml qu rfl rfl) (aj (ah (aV rfl (fun Q1=>?_) (fun Q1=>?_))))))))))))))
 ·(try first | (replace Q1 := cZ Q1; trace "@MK N dU:c4+ 1.1") | (replace Q1 := c8 Q1; trace "@MK N dU:c4+ 1.2"))
  (try first | (replace Q1 := jx Q1; trace "@MK N dU:c4+ 2.1") | (replace Q1 := jy Q1; trace "@MK N dU:c4+ 2.2") | (replace Q1 := fz Q1; trace "@MK N dU:c4+ 2.3") | (replace Q1 := fA Q1; trace "@MK N dU:c4+ 2.4") | (replace Q1 := dT_ Q1; trace "@MK N dU:c4+ 2.5") | (replace Q1 := dF_ Q1; trace "@MK N dU:c4+ 2.6"))
  obtain rfl:A=none:=Option.isNone_iff_eq_none.1 Q1;obtain ⟨rfl,rfl⟩:=hn0 rfl;obtain rfl:xs=[]:=List.eq_nil_of_length_eq_zero (by omega);refine ak (ag (ass rfl (aj (ah (aA (ay (bg (v:=.slice _ _ _) rfl rfl (⟨⟨none,0,rfl,World.ownsRow_nil _ _ _ _⟩,ai.rfl_⟩))))))))
 (try first | (replace Q1 := cZ Q1; trace "@MK N dU:c4- 1.1") | (replace Q1 := c8 Q1; trace "@MK N dU:c4- 1.2"))
 (try first | (replace Q1 := jx Q1; trace "@MK N dU:c4- 2.1") | (replace Q1 := jy Q1; trace "@MK N dU:c4- 2.2") | (replace Q1 := fz Q1; trace "@MK N dU:c4- 2.3") | (replace Q1 := fA Q1; trace "@MK N dU:c4- 2.4") | (replace Q1 := dT_ Q1; trace "@MK N dU:c4- 2.5") | (replace Q1 := dF_ Q1; trace "@MK N dU:c4- 2.6"))
 have hA4:A=none→c=0:=fun h=>by rw [h] at Q1;cases Q1
 refine aP (ah (ak (ag (rX bK _ (ai.rfl_.size) ?_))));intro b5 w2 E5 hb5 ho5;refine mvs rfl ?_;refine kG (a0:=w) bK rfl (by decide) rfl ho5 (ai.rfl_.next E5) rfl hx (fun h=>(let ⟨b,o,hA,hc⟩:=hr h;⟨b,o,hA,ep (ai.rfl_.next E5) hc⟩)) hA4 h1 (by omega) (by omega) ?_;intro A7 c7 w3 ho7 B7 hg7;refine ass rfl (aj (ah (aA (bg (v:=.slice _ _ _) rfl rfl (⟨⟨A7,c7,by rw [Nat.zero_add],by simpa using ho7⟩,B7⟩)))))
theorem dT (A:Option Addr) (c n:Nat) (xs:List Value) (w:World) (hx:xs.length=n*4) (hr:0<n→∃ b o,A=some ⟨b,o,none⟩∧w.rangeAt b o xs) (hn0:A=none→n=0∧c=0) (h1:∀ u∈xs,u.oneCell'=true) (hl:n≤100000000000) :
 Rt prog 137 [.slice A n c] w (fun v w'=>(∃ A' c',v=.slice A' n c'∧w'.ownsRow w.heap.size 54 4 (.slice A' n c') n xs)∧ai w w'):=by
 refine enter (n:=8) Tryz.func137 rfl rfl rfl (ak (ag (ass rfl (aj (ah (ak (ak (ag (mvs rfl (aa (ml qt rfl rfl) (aj (ah (aV rfl (fun Q1=>?_) (fun Q1=>?_))))))))))))))
 ·(try first | (replace Q1 := cZ Q1; trace "@MK N dT:c4+ 1.1") | (replace Q1 := c8 Q1; trace "@MK N dT:c4+ 1.2"))
  (try first | (replace Q1 := jx Q1; trace "@MK N dT:c4+ 2.1") | (replace Q1 := jy Q1; trace "@MK N dT:c4+ 2.2") | (replace Q1 := fz Q1; trace "@MK N dT:c4+ 2.3") | (replace Q1 := fA Q1; trace "@MK N dT:c4+ 2.4") | (replace Q1 := dT_ Q1; trace "@MK N dT:c4+ 2.5") | (replace Q1 := dF_ Q1; trace "@MK N dT:c4+ 2.6"))
  obtain rfl:A=none:=Option.isNone_iff_eq_none.1 Q1;obtain ⟨rfl,rfl⟩:=hn0 rfl;obtain rfl:xs=[]:=List.eq_nil_of_length_eq_zero (by omega);refine ak (ag (ass rfl (aj (ah (aA (ay (bg (v:=.slice _ _ _) rfl rfl (⟨⟨none,0,rfl,World.ownsRow_nil _ _ _ _⟩,ai.rfl_⟩))))))))
 (try first | (replace Q1 := cZ Q1; trace "@MK N dT:c4- 1.1") | (replace Q1 := c8 Q1; trace "@MK N dT:c4- 1.2"))
 (try first | (replace Q1 := jx Q1; trace "@MK N dT:c4- 2.1") | (replace Q1 := jy Q1; trace "@MK N dT:c4- 2.2") | (replace Q1 := fz Q1; trace "@MK N dT:c4- 2.3") | (replace Q1 := fA Q1; trace "@MK N dT:c4- 2.4") | (replace Q1 := dT_ Q1; trace "@MK N dT:c4- 2.5") | (replace Q1 := dF_ Q1; trace "@MK N dT:c4- 2.6"))
 have hA4:A=none→c=0:=fun h=>by rw [h] at Q1;cases Q1
 refine aP (ah (ak (ag (rX dO _ (ai.rfl_.size) ?_))));intro b5 w2 E5 hb5 ho5;refine mvs rfl ?_;refine kG (a0:=w) dO rfl (by decide) rfl ho5 (ai.rfl_.next E5) rfl hx (fun h=>(let ⟨b,o,hA,hc⟩:=hr h;⟨b,o,hA,ep (ai.rfl_.next E5) hc⟩)) hA4 h1 (by omega) (by omega) ?_;intro A7 c7 w3 ho7 B7 hg7;refine ass rfl (aj (ah (aA (bg (v:=.slice _ _ _) rfl rfl (⟨⟨A7,c7,by rw [Nat.zero_add],by simpa using ho7⟩,B7⟩)))))
theorem iD (A:Option Addr) (c:Nat) (l:List Int) (w:World) (h:IR w A c l) (hl:l.length≤1000000):Rt prog 136 [.slice A l.length c] w fun v w'=>(∃ A' c',v=.slice A' l.length c'∧w'.ownsRow w.heap.size 3 1 (.slice A' l.length c') l.length (l.map iV))∧ai w w':=
 dU A c l.length (l.map iV) w (by simp) (fun h0=>by
  obtain ⟨b,o,hA,hc⟩:=h.1 h0;refine ⟨b,o,hA,fun j v hv=>?_⟩;rw [List.getElem?_map] at hv;cases hj:l[j]? with
  |none=>rw [hj] at hv;cases hv
  |some x=>
   obtain ⟨hjl,rfl⟩:=List.getElem?_eq_some_iff.1 hj;rw [hj] at hv;cases hv;exact hc j hjl) h.2.2.2 (fun u hu=>by obtain ⟨x,_,rfl⟩:=List.mem_map.1 hu;rfl) (by omega)
theorem sX (A:Option Addr) (c:Nat) (L:List (Rd×Option Addr×Nat)) (w:World) (h:fP 4 rdV w A L) (hn:A=none→L.length=0∧c=0) (hl:L.length≤1000000):Rt prog 137 [.slice A L.length c] w fun v w'=>(∃ A' c',v=.slice A' L.length c'∧w'.ownsRow w.heap.size 54 4 (.slice A' L.length c') L.length (L.flatMap rdV))∧ai w w':=
 dT A c L.length (L.flatMap rdV) w (ks fw L) (fun h0=>fP.flat fw h h0) hn (uU L) (by omega)
def kR (N O:List (Rd×Option Addr×Nat)):List (Rd×Option Addr×Nat):=N++O.drop N.length
def zS (s:Rf):Rf:={ s with es:=[],votes:=[],next:=[],mtch:=[],sent:=[],reads:=[] }
theorem gR {w w':World} {tag:Nat→Nat} {g d base e s n cc:Nat} {A:Option Addr} {xs:List Value} (hC:Chg (fun k=>k=g) w w') (hg:tag g=8) (hd:d≠8) (h:w.ownsRow base e s (.slice A n cc) n xs∧Col tag d A):w'.ownsRow base e s (.slice A n cc) n xs∧Col tag d A:=
 ⟨db h.1 hC (fun k hk e=>hd ((h.2 k hk).symm.trans (by rw [show k=g from e];exact hg))),h.2⟩
theorem bB.chg8 {w w':World} {y g:Nat} {tag:Nat→Nat} {s:Rf} {a:Ra} (h:bB y w tag s a) (hC:Chg (fun k=>k=g) w w') (hg:tag g=8):bB y w' tag s a:=
 ⟨fun hx=>gR hC hg (by decide) (h.e hx),fun hx=>gR hC hg (by decide) (h.v hx),fun hx=>gR hC hg (by decide) (h.x hx),fun hx=>gR hC hg (by decide) (h.m hx),fun hx=>gR hC hg (by decide) (h.n hx),h.r,fun hx=>gR hC hg (by decide) (h.q hx),fun i hi hx=>gR hC hg (by omega) (h.k i hi hx)⟩
theorem nR:∀ (N O:List (Rd×Option Addr×Nat)) (x:Rd×Option Addr×Nat) (A:Option Addr) (c:Nat),((N++x::O).flatMap rdV).set (N.length*4+3) (.slice A x.1.acks.length c)=((N++(x.1,A,c)::O).flatMap rdV)
 |[],O,x,A,c=>rfl
 |y::N,O,x,A,c=>by
  have ih:=nR N O x A c;show (rdV y++(N++x::O).flatMap rdV).set ((N.length+1)*4+3) _=rdV y++(N++(x.1,A,c)::O).flatMap rdV;rw [List.set_append_right _ _ (by rw [fw];omega),fw,show (N.length+1)*4+3-4=N.length*4+3 by omega,ih]
theorem u1 {N O:List (Rd×Option Addr×Nat)} (h:N.length<O.length):kR N O=N++O[N.length]::O.drop (N.length+1):=by
 unfold kR;rw [List.drop_eq_getElem_cons h]
theorem tP {N O:List (Rd×Option Addr×Nat)} (h:N.length<O.length) (A:Option Addr) (c:Nat):((kR N O).flatMap rdV).set (N.length*4+3) (.slice A O[N.length].1.acks.length c)=(kR (N++[(O[N.length].1,A,c)]) O).flatMap rdV:=by
 rw [u1 h,nR];unfold kR;rw [List.length_append,List.length_singleton,List.append_assoc];rfl
theorem tQ {N O:List (Rd×Option Addr×Nat)} (h:N.length=O.length):kR N O=N:=by unfold kR;rw [h,List.drop_length,List.append_nil]
theorem mB {N O:List (Rd×Option Addr×Nat)} (h:N.length≤O.length):(kR N O).length=O.length:=by unfold kR;rw [List.length_append,List.length_drop];omega
theorem sW (s:Rf) (a:Ra) (w:World) (hrd:eD w s a) (hl:s.votes.length≤1000000∧s.next.length≤1000000∧s.mtch.length≤1000000∧s.sent.length≤1000000∧s.reads.length≤1000000∧∀ q∈s.reads,q.acks.length≤1000000) (hel:s.es.length≤1000000) :
 Rt prog 96 [.agg (rfV s a).toArray] w (fun v w'=>(∃ tag a',v=.agg (rfV s a').toArray∧aQ w' tag s a'∧∀ k,k<w.heap.size→tag k=8)∧ai w w'):=by
 obtain ⟨E,Ec,V,Vc,X,Xc,M,Mc,Sn,Sc,Q,Qc,LL⟩:=a;obtain ⟨hl1,hl2,hl3,hl4,hl5,hl6⟩:=hl;have hrL:LL.map (fun q=>q.1)=s.reads:=hrd.r;have hrk:∀ q∈LL,IR w q.2.1 q.2.2 q.1.acks:=hrd.k;have hrq:fP 4 rdV w Q LL:=hrd.q;have hqn:Q=none→LL.length=0∧Qc=0:=hrd.qc.2.2;have hLl:LL.length=s.reads.length:=by rw [←hrL,List.length_map]
 have hqm:LL.length≤1000000:=by omega
 refine enter (n:=51) Tryz.func96 rfl rfl rfl (ak (ag (cC (v:=.agg _) rfl ?_)));intro b1 w1 E1 hb1 hk1;refine bG lz ?_;intro b2 w2 E2 hb2 hk2;have hg1:w.heap.size≤b1:=Nat.le_of_eq hb1.symm;have h12:b1<b2:=by have:=hk1.lt;omega
 have hg2:w.heap.size≤b2:=by omega
 have hk2z:Blk w2 b2 91 ((.agg #[.int .i64 0,.int .i64 0,.int .i64 0,.int .i64 0,.int .i64 0,.int .i64 0,.int .i64 0,.int .i64 0,.slice none 0 0,.string ⟨#[]⟩,.int .i64 0,.int .i64 0,.int .i64 0,.int .u64 0,.slice none 0 0,.slice none 0 0,.slice none 0 0,.slice none 0 0,.int .i64 0,.slice none 0 0,.string ⟨#[]⟩,.int .i64 0]):Value).cells:=hk2;have ht0:∀ k,k≤b2→(fun _:Nat=>8) k=8:=fun _ _=>rfl
 refine aj (ah (ak (ag (aa (af bj rfl) (aa (af cG rfl) (aa (ar cy rfl (by exact (show _=some (Value.slice E s.es.length Ec) from (hk1.from_ (ai.rfl_.next E2)).rd 8 rfl))) ?_))))));have hN7:ai _ w2:=(ai.rfl_.next E2);have hk2c:=hk2z.from_ (ai.rfl_ (a:=w2));have hlt7:=hk2c.lt;have hf0:aQ w2 (fun _=>8) ({ s with es:=[],votes:=[],next:=[],mtch:=[],sent:=[],reads:=[] }:Rf) a0:=aQ.same aQ.zero rfl rfl rfl rfl rfl rfl;refine aB iZ (p9 E s.es.length Ec s.es _ (hrd.e.from_ ((ai.rfl_.next E1).next E2)) (by omega)) ?_;rintro v7 w3 ⟨A7,c7,rfl,ho7,E7⟩;obtain ⟨tag1,hf1,ht1⟩:∃ t,aQ w3 t ({ s with es:=s.es,votes:=[],next:=[],mtch:=[],sent:=[],reads:=[] }:Rf) (⟨A7,c7,none,0,none,0,none,0,none,0,none,0,[]⟩:Ra)∧(∀ k,k≤b2→t k=8):=⟨_,bB.log (aQ.but (c:=0) hf0 (ai.toChg E7)) s.b s.t rfl (d_ ho7 (Nat.zero_le _)) (fun k hk=>cN (dt ho7 k hk).1),fun k hk=>(bQ (by omega)).trans (ht0 k hk)⟩;refine aa (af bj rfl) (aa (af cG rfl) ?_);have hS1:ai _ w3:=ai.rfl_;refine cF (s':=s) (a':=(⟨A7,c7,V,Vc,X,Xc,M,Mc,Sn,Sc,Q,Qc,LL⟩:Ra)) (v:=.slice _ _ _) qs rfl rfl rfl ((hk1.from_ ((hN7.next E7).next ai.rfl_))) (by exact ⟨by decide,rfl⟩) ?_;intro w4 O1_0 P1_0;replace hf1:=(hf1.from_ hS1).chg8 (O1_0.toChg rfl) (ht1 b1 (by omega));replace hk2z:=(hk2c.from_ (E7.next hS1)).only O1_0 (by omega);refine aj (ah (ak (ag (aa (af cK rfl) (aa (ar aN rfl (by exact (show _=some (Value.slice V s.votes.length Vc) from (P1_0.from_ ai.rfl_).rd 14 rfl))) ?_)))));have hN12:ai _ w4:=ai.rfl_;have hk2c:=hk2z.from_ ai.rfl_;have hlt12:=hk2c.lt;have hf1n:=hf1.from_ ai.rfl_;refine aB fD (iD V Vc s.votes _ (IR.from_ hrd.v ((((ai.rfl_.next E1).next E2).next E7).only O1_0 (hg1))) hl1) ?_;rintro v12 w5 ⟨⟨A12,c12,rfl,ho12⟩,E12⟩;obtain ⟨tag2,hf2,ht2⟩:∃ t,aQ w5 t ({ s with es:=s.es,votes:=s.votes,next:=[],mtch:=[],sent:=[],reads:=[] }:Rf) (⟨A7,c7,A12,c12,none,0,none,0,none,0,none,0,[]⟩:Ra)∧(∀ k,k≤b2→t k=8):=⟨_,bB.votes (aQ.but (c:=1) hf1n (ai.toChg E12)) rfl (d_ ho12 (Nat.zero_le _)) (fun k hk=>cN (dt ho12 k hk).1),fun k hk=>(bQ (by omega)).trans (ht1 k hk)⟩;refine aa (af cK rfl) ?_;have hS2:ai _ w5:=ai.rfl_;refine cF (s':=s) (a':=(⟨A7,c7,A12,c12,X,Xc,M,Mc,Sn,Sc,Q,Qc,LL⟩:Ra)) (v:=.slice _ _ _) cS rfl rfl rfl ((P1_0.from_ ((hN12.next E12).next ai.rfl_))) (by exact ⟨by decide,rfl⟩) ?_;intro w6 O2_0 P2_0;replace hf2:=(hf2.from_ hS2).chg8 (O2_0.toChg rfl) (ht2 b1 (by omega));replace hk2z:=(hk2c.from_ (E12.next hS2)).only O2_0 (by omega);refine aj (ah (ak (ag (aa (af bX rfl) (aa (ar aN rfl (by exact (show _=some (Value.slice X s.next.length Xc) from (P2_0.from_ ai.rfl_).rd 15 rfl))) ?_)))));have hN16:ai _ w6:=ai.rfl_;have hk2c:=hk2z.from_ ai.rfl_;have hlt16:=hk2c.lt;have hf2n:=hf2.from_ ai.rfl_;refine aB fD (iD X Xc s.next _ (IR.from_ hrd.x ((((((ai.rfl_.next E1).next E2).next E7).only O1_0 (hg1)).next E12).only O2_0 (hg1))) hl2) ?_;rintro v16 w7 ⟨⟨A16,c16,rfl,ho16⟩,E16⟩;obtain ⟨tag3,hf3,ht3⟩:∃ t,aQ w7 t ({ s with es:=s.es,votes:=s.votes,next:=s.next,mtch:=[],sent:=[],reads:=[] }:Rf) (⟨A7,c7,A12,c12,A16,c16,none,0,none,0,none,0,[]⟩:Ra)∧(∀ k,k≤b2→t k=8):=⟨_,bB.next (aQ.but (c:=2) hf2n (ai.toChg E16)) rfl (d_ ho16 (Nat.zero_le _)) (fun k hk=>cN (dt ho16 k hk).1),fun k hk=>(bQ (by omega)).trans (ht2 k hk)⟩;refine aa (af bX rfl) ?_;have hS3:ai _ w7:=ai.rfl_;refine cF (s':=s) (a':=(⟨A7,c7,A12,c12,A16,c16,M,Mc,Sn,Sc,Q,Qc,LL⟩:Ra)) (v:=.slice _ _ _) cS rfl rfl rfl ((P2_0.from_ ((hN16.next E16).next ai.rfl_))) (by exact ⟨by decide,rfl⟩) ?_;intro w8 O3_0 P3_0;replace hf3:=(hf3.from_ hS3).chg8 (O3_0.toChg rfl) (ht3 b1 (by omega));replace hk2z:=(hk2c.from_ (E16.next hS3)).only O3_0 (by omega);refine aj (ah (ak (ag (aa (af b_ rfl) (aa (ar aN rfl (by exact (show _=some (Value.slice M s.mtch.length Mc) from (P3_0.from_ ai.rfl_).rd 16 rfl))) ?_)))));have hN20:ai _ w8:=ai.rfl_;have hk2c:=hk2z.from_ ai.rfl_;have hlt20:=hk2c.lt;have hf3n:=hf3.from_ ai.rfl_;refine aB fD (iD M Mc s.mtch _ (IR.from_ hrd.m ((((((((ai.rfl_.next E1).next E2).next E7).only O1_0 (hg1)).next E12).only O2_0 (hg1)).next E16).only O3_0 (hg1))) hl3) ?_;rintro v20 w9 ⟨⟨A20,c20,rfl,ho20⟩,E20⟩;obtain ⟨tag4,hf4,ht4⟩:∃ t,aQ w9 t ({ s with es:=s.es,votes:=s.votes,next:=s.next,mtch:=s.mtch,sent:=[],reads:=[] }:Rf) (⟨A7,c7,A12,c12,A16,c16,A20,c20,none,0,none,0,[]⟩:Ra)∧(∀ k,k≤b2→t k=8):=⟨_,bB.mtch (aQ.but (c:=3) hf3n (ai.toChg E20)) rfl (d_ ho20 (Nat.zero_le _)) (fun k hk=>cN (dt ho20 k hk).1),fun k hk=>(bQ (by omega)).trans (ht3 k hk)⟩;refine aa (af b_ rfl) ?_;have hS4:ai _ w9:=ai.rfl_;refine cF (s':=s) (a':=(⟨A7,c7,A12,c12,A16,c16,A20,c20,Sn,Sc,Q,Qc,LL⟩:Ra)) (v:=.slice _ _ _) cS rfl rfl rfl ((P3_0.from_ ((hN20.next E20).next ai.rfl_))) (by exact ⟨by decide,rfl⟩) ?_;intro w10 O4_0 P4_0;replace hf4:=(hf4.from_ hS4).chg8 (O4_0.toChg rfl) (ht4 b1 (by omega));replace hk2z:=(hk2c.from_ (E20.next hS4)).only O4_0 (by omega);refine aj (ah (ak (ag (aa (af bU rfl) (aa (ar aN rfl (by exact (show _=some (Value.slice Sn s.sent.length Sc) from (P4_0.from_ ai.rfl_).rd 17 rfl))) ?_)))));have hN24:ai _ w10:=ai.rfl_;have hk2c:=hk2z.from_ ai.rfl_;have hlt24:=hk2c.lt;have hf4n:=hf4.from_ ai.rfl_;refine aB fD (iD Sn Sc s.sent _ (IR.from_ hrd.n ((((((((((ai.rfl_.next E1).next E2).next E7).only O1_0 (hg1)).next E12).only O2_0 (hg1)).next E16).only O3_0 (hg1)).next E20).only O4_0 (hg1))) hl4) ?_;rintro v24 w11 ⟨⟨A24,c24,rfl,ho24⟩,E24⟩;obtain ⟨tag5,hf5,ht5⟩:∃ t,aQ w11 t ({ s with es:=s.es,votes:=s.votes,next:=s.next,mtch:=s.mtch,sent:=s.sent,reads:=[] }:Rf) (⟨A7,c7,A12,c12,A16,c16,A20,c20,A24,c24,none,0,[]⟩:Ra)∧(∀ k,k≤b2→t k=8):=⟨_,bB.sent (aQ.but (c:=4) hf4n (ai.toChg E24)) rfl (d_ ho24 (Nat.zero_le _)) (fun k hk=>cN (dt ho24 k hk).1),fun k hk=>(bQ (by omega)).trans (ht4 k hk)⟩;refine aa (af bU rfl) ?_;have hS5:ai _ w11:=ai.rfl_;refine cF (s':=s) (a':=(⟨A7,c7,A12,c12,A16,c16,A20,c20,A24,c24,Q,Qc,LL⟩:Ra)) (v:=.slice _ _ _) cS rfl rfl rfl ((P4_0.from_ ((hN24.next E24).next ai.rfl_))) (by exact ⟨by decide,rfl⟩) ?_;intro w12 O5_0 P5_0;replace hf5:=(hf5.from_ hS5).chg8 (O5_0.toChg rfl) (ht5 b1 (by omega));replace hk2z:=(hk2c.from_ (E24.next hS5)).only O5_0 (by omega);refine aj (ah (ak (ag (aa (af aT rfl) (aa (ar bm rfl (by exact (show _=some (Value.slice Q LL.length Qc) from (P5_0.from_ ai.rfl_).rd 19 rfl))) ?_)))));have hN28:ai _ w12:=ai.rfl_;have hk2c:=hk2z.from_ ai.rfl_;have hlt28:=hk2c.lt;have hf5n:=hf5.from_ ai.rfl_;refine aB pd (sX Q Qc LL _ (hrq.from_ ((((((((((((ai.rfl_.next E1).next E2).next E7).only O1_0 (hg1)).next E12).only O2_0 (hg1)).next E16).only O3_0 (hg1)).next E20).only O4_0 (hg1)).next E24).only O5_0 (hg1))) hqn hqm) ?_;rintro v28 w13 ⟨⟨A28,c28,rfl,ho28⟩,E28⟩;obtain ⟨tag6,hg6,ht6,hc6⟩:∃ t,bB 5 w13 t ({ s with es:=s.es,votes:=s.votes,next:=s.next,mtch:=s.mtch,sent:=s.sent,reads:=[] }:Rf) (⟨A7,c7,A12,c12,A16,c16,A20,c20,A24,c24,none,0,[]⟩:Ra)∧(∀ k,k≤b2→t k=8)∧Col t 5 A28:=⟨_,aQ.but (c:=5) hf5n (ai.toChg E28),fun k hk=>(bQ (by omega)).trans (ht5 k hk),fun k hk=>cN (dt ho28 k hk).1⟩;refine aa (af aT rfl) ?_;have hS6:ai _ w13:=ai.rfl_;refine cF (s':=s) (a':=(⟨A7,c7,A12,c12,A16,c16,A20,c20,A24,c24,A28,c28,LL⟩:Ra)) (v:=.slice _ _ _) fQ rfl rfl rfl ((P5_0.from_ ((hN28.next E28).next ai.rfl_))) (by exact ⟨by decide,rfl⟩) ?_;intro w14 O6_0 P6_0;replace hg6:=(hg6.from_ hS6).chg8 (O6_0.toChg rfl) (ht6 b1 (by omega));have hr6:=fL (d_ (base':=0) (ho28.kept_from hS6) (Nat.zero_le _)) O6_0 (fun k hk e=>by have:=hc6 k hk;rw [e,ht6 b1 (by omega)] at this;cases this);replace hk2z:=(hk2c.from_ (E28.next hS6)).only O6_0 (by omega);refine aj (ah (ak (ak (ag (aa (af aT rfl) (aa (ar bm rfl (by exact (show _=some (Value.slice A28 LL.length c28) from (P6_0.from_ ai.rfl_).rd 19 rfl))) ?_))))));refine aa (bn bA rfl) (mvi rfl (aj (ah (aZ (cj (G:=List (Rd×Option Addr×Nat)×(Nat→Nat)) [3,34,35,36,37,38,39,40,41,42,43,44,45,46,47,48] (fun (N,tg)=>[(33,.int .i64 (N.length:Nat))]) (fun (N,tg) w'=>N.length≤LL.length∧(∀ i (h:i<N.length) (h2:i<LL.length),N[i].1=LL[i].1)∧bB 5 w' tg ({ s with es:=s.es,votes:=s.votes,next:=s.next,mtch:=s.mtch,sent:=s.sent,reads:=[] }:Rf) (⟨A7,c7,A12,c12,A16,c16,A20,c20,A24,c24,none,0,N⟩:Ra)∧(∀ k,k≤b2→tg k=8)∧Col tg 5 A28∧w'.ownsRow 0 54 4 (.slice A28 LL.length c28) LL.length ((kR N LL).flatMap rdV)∧Blk w' b1 29 (rfV s (⟨A7,c7,A12,c12,A16,c16,A20,c20,A24,c24,A28,c28,LL⟩:Ra)).toArray∧Blk w' b2 91 ((.agg #[.int .i64 0,.int .i64 0,.int .i64 0,.int .i64 0,.int .i64 0,.int .i64 0,.int .i64 0,.int .i64 0,.slice none 0 0,.string ⟨#[]⟩,.int .i64 0,.int .i64 0,.int .i64 0,.int .u64 0,.slice none 0 0,.slice none 0 0,.slice none 0 0,.slice none 0 0,.int .i64 0,.slice none 0 0,.string ⟨#[]⟩,.int .i64 0]):Value).cells∧ai w w') (fun (N,_)=>LL.length-N.length) (([],tag6)) ⟨rfl,trivial⟩ ?_ ?_)))))
 ·exact ⟨Nat.zero_le _,fun i h=>absurd h (Nat.not_lt_zero _),hg6.from_ ai.rfl_,ht6,hc6,hr6.kept_from ai.rfl_,P6_0.from_ ai.rfl_,hk2z.from_ ai.rfl_,((((((((((((((ai.rfl_.next E1).next E2).next E7).only O1_0 (hg1)).next E12).only O2_0 (hg1)).next E16).only O3_0 (hg1)).next E20).only O4_0 (hg1)).next E24).only O5_0 (hg1)).next E28).only O6_0 (hg1))⟩
 rintro ⟨N,tg⟩ ρ15 w15 ⟨hNl,hNe,hgN,htN,hcN,hrN,hbN,hk2N,hBN⟩;refine ak (ag (aa (bH rfl rfl) (aj (ah (ak (xD rfl (fun Q16=>?_) (fun Q16=>?_)))))))
 ·have hNL:N.length<LL.length:=by omega
  have hqk:LL[N.length].1∈s.reads:=by rw [←hrL];exact List.mem_map_of_mem (List.getElem_mem hNL)
  obtain ⟨g28,rfl⟩:=eu hrN (by omega);obtain ⟨z9,hz9⟩:∃ z,z=(w15).heap.size:=⟨_,rfl⟩
  have hc44:(w15).cell? ⟨g28,0+N.length*4+3,none⟩=some (.slice LL[N.length].2.1 LL[N.length].1.acks.length LL[N.length].2.2):=by
   obtain ⟨b9,o9,he9,hcs⟩:=(fP.own fw (by decide) hrN).2 (by rw [mB hNl];omega);cases he9;have h9:=hcs N.length (by rw [mB hNl];omega)
   have hm9:(kR N LL)[N.length]'(by rw [mB hNl];omega)=LL[N.length]:=by
    unfold kR;rw [List.getElem_append_right (Nat.le_refl _)];simp
   rw [hm9] at h9;exact h9 3 _ rfl
  have htg28:tg g28=5:=hcN g28 rfl
  have hg28:b2<g28:=by
   rcases Nat.lt_or_ge b2 g28 with e | e
   ·exact e
   ·have:=htN g28 e;omega
  refine aP (ah (ak (aZ (ak (ag (mvi rfl (asi rfl (aj (ah ?_)))))))));apply dY 12 [(36,eqp _),(37,eqp (.slice (some ⟨g28,0,none⟩) LL.length c28)),(38,eqp _),(39,eqp _),(40,eqp (.slice (some ⟨g28,0,none⟩) LL.length c28)),(41,eqp _),(42,eqp _),(43,eqp _),(44,eqp (.slice LL[N.length].2.1 LL[N.length].1.acks.length LL[N.length].2.2)),(45,fun v w'=>∃ A' c',v=.slice A' LL[N.length].1.acks.length c'∧w'.ownsRow z9 3 1 (.slice A' LL[N.length].1.acks.length c') LL[N.length].1.acks.length (LL[N.length].1.acks.map iV)),(46,eqp _),(47,eqp _)] (by repeat first | exact eL | refine eK ?_ | refine ee ?_) (by kernel_rfl) (by kernel_rfl) ⟨aw _,aw _,aw _,aw _,aw _,aw _,aw _,aw _,aw _,(fun _ _ _ hF ⟨a,b,h1,h2⟩=>⟨a,b,h1,h2.kept_from hF⟩),aw _,aw _,trivial⟩
  case hop=>
   constructor
   ·rintro-w18 D18;exact aF (af aT rfl) rfl
   constructor
   ·rintro-w19 D19;rintro _ rfl;exact aF (ar bm rfl (by exact (show _=some (Value.slice (some ⟨g28,0,none⟩) LL.length c28) from (hbN.from_ (ai.rfl_.next D19)).rd 19 rfl))) rfl
   constructor
   ·rintro-w20 D20;exact aF (a_ (v:=.int _ _) rfl) rfl
   constructor
   ·rintro-w21 D21;exact aF (af aT rfl) rfl
   constructor
   ·rintro-w22 D22;rintro _ rfl;exact aF (ar bm rfl (by exact (show _=some (Value.slice (some ⟨g28,0,none⟩) LL.length c28) from (hbN.from_ (ai.rfl_.next D22)).rd 19 rfl))) rfl
   constructor
   ·rintro-w23 D23;exact aF (a_ (v:=.int _ _) rfl) rfl
   constructor
   ·rintro-w24 D24;rintro v24_40 rfl _ rfl;exact aF (bq cO rfl rfl (by omega)) rfl
   constructor
   ·rintro-w25 D25;rintro _ rfl;exact aF (af cE rfl) rfl
   constructor
   ·rintro-w26 D26;rintro _ rfl;exact aF (ar aN rfl (by exact ej (ai.rfl_.next D26) hc44)) rfl
   constructor
   ·rintro-w27 D27;rintro v27_44 rfl;refine fy fD ((iD LL[N.length].2.1 LL[N.length].2.2 LL[N.length].1.acks _ ((hrk _ (List.getElem_mem hNL)).from_ (hBN.next D27)) (hl6 _ hqk)).mono ?_);rintro v w9 ⟨⟨a,b,rfl,ho⟩,hF9⟩;exact ⟨hF9,a,b,rfl,d_ ho (by rw [hz9];exact ((ai.rfl_.next D27)).size)⟩
   constructor
   ·rintro-w28 D28;rintro v28_37 rfl _ rfl;exact aF (bq cO rfl rfl (by omega)) rfl
   constructor
   ·rintro-w29 D29;rintro _ rfl;exact aF (af cE rfl) rfl
   exact trivial
  case hend=>
   intro w30 D30;rintro _ rfl v37 rfl _ rfl _ rfl v40 rfl _ rfl _ rfl _ rfl v44 rfl v45 ⟨A45,c45,rfl,ho45⟩ _ rfl _ rfl;show St ..;have hM10:ai _ w30:=(ai.rfl_.next D30);refine qI (o:=N.length*4+3) cS (by show Value.pointer (some ⟨g28,0+N.length*4+3,none⟩)=_;rw [Nat.zero_add]) rfl rfl (hrN.kept_from (ai.rfl_.next D30)) (by omega) ?_;intro w31 O10 P10;have hlt9:=hrN.lt g28 rfl;obtain ⟨tg2,hg2n,ht2n,hc2n⟩:∃ t,bB 5 w31 t ({ s with es:=s.es,votes:=s.votes,next:=s.next,mtch:=s.mtch,sent:=s.sent,reads:=[] }:Rf) (⟨A7,c7,A12,c12,A16,c16,A20,c20,A24,c24,none,0,(N++[(LL[N.length].1,A45,c45)])⟩:Ra)∧(∀ k,k≤b2→t k=8)∧Col t 5 (some ⟨g28,0,none⟩):=⟨_,bB.five (bB.ack (q:=LL[N.length].1) (A:=A45) (c:=c45) hgN hM10 (by rw [←hz9];exact ho45)) O10 ((bQ hlt9.2).trans htg28),fun k hk=>(bQ (by omega)).trans (htN k hk),fun k hk=>by cases hk;exact (bQ hlt9.2).trans htg28⟩
   have hr2n:(w31).ownsRow 0 54 4 (.slice (some ⟨g28,0,none⟩) LL.length c28) LL.length ((kR (N++[(LL[N.length].1,A45,c45)]) LL).flatMap rdV):=by
    rw [←tP hNL];exact P10
   have hb2n:=(hbN.from_ hM10).only O10 (by omega);have hk2n:=(hk2N.from_ hM10).only O10 (by omega);refine aj (bJ (ah (ag (aa (bI rfl rfl (by omega)) (mvi rfl (aj ?_))))));refine cD (((N++[(LL[N.length].1,A45,c45)]),tg2)) ⟨bC (by rw [List.length_append,List.length_singleton];omega),trivial⟩ (by (iterate 34 refine bR rfl ?_);exact cg) ⟨?_,?_⟩
   ·refine ⟨by rw [List.length_append,List.length_singleton];omega,fun i h h2=>?_,hg2n.from_ ai.rfl_,ht2n,hc2n,hr2n.kept_from ai.rfl_,hb2n.from_ ai.rfl_,hk2n.from_ ai.rfl_,((hBN.next D30).only O10 (by omega))⟩;rcases Nat.lt_or_ge i N.length with e | e
    ·rw [List.getElem_append_left e];exact hNe i e h2
    ·obtain rfl:i=N.length:=by rw [List.length_append,List.length_singleton] at h;omega
     simp only [List.getElem_append_right (Nat.le_refl _),Nat.sub_self,List.getElem_singleton]
   ·show LL.length-(N++[_]).length<LL.length-N.length;rw [List.length_append,List.length_singleton];omega
 refine b0 (bf (bf (bE (ah (ak (ag (aa (aH (cs:=rfV s (⟨A7,c7,A12,c12,A16,c16,A20,c20,A24,c24,A28,c28,LL⟩:Ra)) aG av rfl ((hbN.from_ ai.rfl_).whole)) (aa (cA (l:=[(0,.tmp 49)]) (nu _ _ _ _ _ _ _ _ _ _ _ _ _ _ _ _ _ _ _ _ _ _ _ _ _ _ _ _ _ _ _ _ _ _)) ?_))))))));have hM12:ai _ w15:=ai.rfl_;refine bP (vs:=[_,_,_,_,_,_,_,_,_,_,_,_,_,_,_,_,_,_,_,_,_,_]) jE rfl rfl (by simp [Value.oneCell']) ((hk2N.from_ ai.rfl_)) rfl ?_;intro w32 O12 P12;refine aj (ah (aA (pA rfl (cU (cs:=[_,_,_,_,_,_,_,_,_,_,_,_,_,_,_,_,_,_,_,_,_,_]) qw jE rfl (by exact P12.whole)) ?_)));have hNf:N.length=LL.length:=by omega
 have e9:N.map (fun q=>q.1)=s.reads:=by
  rw [←hrL];refine List.ext_getElem (by simp [hNf]) fun i h1 h2=>?_
  simp only [List.getElem_map];exact hNe i (by simpa using h1) (by simpa using h2)
 have hfin:=bB.reads hgN (A:=A28) (c:=c28) (n:=LL.length) hNf.symm (by rw [tQ hNf] at hrN;exact hrN) hcN;rw [show ((⟨A7,c7,A12,c12,A16,c16,A20,c20,A24,c24,none,0,N⟩:Ra)).L=N from rfl,e9] at hfin;exact ⟨⟨tg,(⟨A7,c7,A12,c12,A16,c16,A20,c20,A24,c24,A28,c28,N⟩:Ra),(by show Value.agg (rfV s (⟨A7,c7,A12,c12,A16,c16,A20,c20,A24,c24,A28,c28,LL⟩:Ra)).toArray=Value.agg (rfV s (⟨A7,c7,A12,c12,A16,c16,A20,c20,A24,c24,A28,c28,N⟩:Ra)).toArray;unfold rfV;simp only [hNf]),bB.chg8 (bB.from_ hfin hM12) (O12.toChg rfl) (htN b2 (Nat.le_refl _)),fun k hk=>htN k (by omega)⟩,(hBN.only O12 (hg2))⟩
theorem tj {w w1 w':World} {g T:Nat} {tag:Nat→Nat} {s:Rf} {a:Ra} (hF:ai w w1) (hf:aQ w1 tag s a) (ht:∀ k,k<w.heap.size→tag k=8) (hE:ai w1 w') (hg:g=w1.heap.size) (hb:Blk w' g T (rfV s a++[Value.slice none 0 0]).toArray):bN w (fun k=>k<w.heap.size) w' T g ⟨s,[]⟩:=by
 subst hg;have hz:=hF.size;refine ⟨⟨et w1.heap.size 7 tag,a,none,0,[],⟨hb,(hf.re 7).from_ hE,⟨World.ownsRow_nil _ _ _ _,rfl,fun j hj=>absurd hj (Nat.not_lt_zero _),Col.none⟩,cN (Nat.le_refl _),fun k hk=>(bQ (Nat.lt_of_lt_of_le hk hz)).trans (ht k hk)⟩⟩,fun k hk=>hk,(hF.next hE).toChg⟩
theorem qd (s:Rf) (a:Ra) (w:World) (hrd:eD w s a) (hl:s.votes.length≤1000000∧s.next.length≤1000000∧s.mtch.length≤1000000∧s.sent.length≤1000000∧s.reads.length≤1000000∧∀ q∈s.reads,q.acks.length≤1000000) (_:s.es.length≤1000000) (hm:gj s=false) :
 Rt prog 55 [.agg (rfV s a).toArray] w (fun v w'=>v=.tuple #[.pointer none,.int .i64 1]∧ai w w'):=by
 refine enter (n:=11) Tryz.func55 rfl rfl rfl (ak (ag (cC (v:=.agg _) rfl ?_)));intro b1 w1 E1 hb1 hk1;refine asp rfl (asi rfl (aj (ah (ak (ak (ag (aa (aH (cs:=rfV s a) aG av rfl ((hk1.from_ ai.rfl_).whole)) (aB lA (p_ s a _ (hrd.from_ (ai.rfl_.next E1)) hl) ?_))))))));rintro v5 w2 ⟨rfl,E5⟩;refine aa (du (dr rfl rfl) (by rw [hm];rfl)) ?_;refine aj (ah (aJ rfl (ak (ag (asp rfl (asi rfl (aj (ah (aA (ay (nk (v:=.pointer _) (v':=.int _ _) rfl rfl rfl (⟨rfl,((ai.rfl_.next E1).next E5)⟩))))))))))))
theorem kv (s:Rf) (a:Ra) (w:World) (hrd:eD w s a) (hl:s.votes.length≤1000000∧s.next.length≤1000000∧s.mtch.length≤1000000∧s.sent.length≤1000000∧s.reads.length≤1000000∧∀ q∈s.reads,q.acks.length≤1000000) (hel:s.es.length≤1000000) (hm:gj s=true) :
 Rt prog 55 [.agg (rfV s a).toArray] w (fun v w'=>(∃ g,v=.tuple #[.pointer (some ⟨g,0,none⟩),.int .i64 0]∧bN w (fun k=>k<w.heap.size) w' 96 g ⟨s,[]⟩)):=by
 refine enter (n:=11) Tryz.func55 rfl rfl rfl (ak (ag (cC (v:=.agg _) rfl ?_)));intro b1 w1 E1 hb1 hk1;refine asp rfl (asi rfl (aj (ah (ak (ak (ag (aa (aH (cs:=rfV s a) aG av rfl ((hk1.from_ ai.rfl_).whole)) (aB lA (p_ s a _ (hrd.from_ (ai.rfl_.next E1)) hl) ?_))))))));rintro v5 w2 ⟨rfl,E5⟩;refine aa (dI (dr rfl rfl) (by rw [hm];rfl)) ?_;refine aj (ah (bF rfl (aP (ah (ak (ag (aa (aH (cs:=rfV s a) aG av rfl ((hk1.from_ (ai.rfl_.next E5)).whole)) ?_)))))));have hz8:=(((ai.rfl_.next E1).next E5)).size;refine aB qv (sW s a _ (hrd.from_ ((ai.rfl_.next E1).next E5)) hl hel) ?_;rintro v8 w3 ⟨⟨tag,a',rfl,hf8,ht8⟩,E8⟩;have hB8:ai w w3:=(((ai.rfl_.next E1).next E5).next E8);refine aa (cA (l:=[(0,.tmp 8)]) (nt _ _ _ _ _ _ _ _ _ _ _ _ _ _ _ _ _ _ _ _ _ _ _ _ _ _ _ _ _ _ _ _ _ _)) (cC (v:=.agg _) rfl ?_);intro b10 w4 E10 hb10 hk10;have hb10e:=hb10;have hb10:Blk w4 b10 96 (rfV s a'++[Value.slice none 0 0]).toArray:=hk10;refine asp rfl (asi rfl (aj (ah (aA (nk (v:=.pointer _) (v':=.int _ _) rfl rfl rfl (⟨b10,rfl,tj hB8 hf8 (fun k hk=>ht8 k (Nat.lt_of_lt_of_le hk hz8)) E10 hb10e hb10⟩))))))
theorem g_:aR prog 28=true:=by kernel_rfl
theorem nb:aR prog 60=true:=by kernel_rfl
theorem bS:jO prog 29=some (.agg #[.int .i64 0,.int .i64 0,.int .i64 0,.int .i64 0,.int .i64 0,.int .i64 0,.int .i64 0,.int .i64 0,.slice none 0 0,.string ⟨#[]⟩,.int .i64 0,.int .i64 0,.int .i64 0,.int .u64 0,.slice none 0 0,.slice none 0 0,.slice none 0 0,.slice none 0 0,.int .i64 0,.slice none 0 0,.string ⟨#[]⟩,.int .i64 0]):=by kernel_rfl
theorem rO:aR prog 27=true:=by kernel_rfl
theorem rN:aR prog 29=true:=by kernel_rfl
theorem vi (A:Option Addr) (c:Nat) (l:List Int) (w:World) (hr:dK iV w A l) (hl:l.length*8≤140737488351232) :
 Rt prog 28 [.slice A l.length c] w (fun v w'=>∃ A' c',v=.slice A' l.length c'∧w'.ownsRow w.heap.size 3 1 v l.length (l.map iV)∧ai w w'):=by
 refine enter (n:=19) Tryz.func28 rfl rfl rfl (ak (ag (ass rfl (aj (ah (ak (ag (ass rfl (aj (ah (ak (ak (ag (asi rfl (aj (ah (aZ (cj (G:=Nat×Option Addr×Nat) [5,6,7,8,9,10,11,12,13,14,15,16,17] (fun g=>[(3,.slice g.2.1 g.1 g.2.2),(4,.int .i64 (g.1:Nat))]) (fun g w'=>g.1≤l.length∧w'.ownsRow w.heap.size 3 1 (.slice g.2.1 g.1 g.2.2) g.1 ((l.take g.1).map iV)∧ai w w') (fun g=>l.length-g.1) ((0,none,0)) ⟨rfl,rfl,trivial⟩ ?_ ?_))))))))))))))))))
 ·exact ⟨Nat.zero_le _,World.ownsRow_nil _ _ _ _,ai.rfl_⟩
 rintro ⟨k,A3,c3⟩ ρ1 w1 ⟨hk,ho,hB⟩;simp only at hk ho;refine ak (ak (ag (mvi rfl (mvs rfl (aa (bn bZ rfl) (aa (bH rfl rfl) (aj (ah (xD rfl (fun Q2=>?_) (fun Q2=>?_))))))))))
 ·obtain ⟨ba,oa,rfl,ca⟩:=hr (by omega);refine aP (ah (ak (aZ (ag (mvs rfl (mvs rfl (mvi rfl (aa (cz cw rfl rfl (by omega)) (aa (ar aq rfl (by first | (exact ej hB (ca k (by omega))))) ?_)))))))));refine eG (v:=.int _ _) bK rfl rfl rfl ?_;intro b16 w3 E16 hb16 hk16;refine pt (a0:=w) bK rfl rfl (ho.kept_from E16) (hB.next E16) rfl hk16 rfl (by omega) (by omega) ?_;intro A17 c17 w4 ho17 B17 hg17;refine ass rfl (aj (bJ (ah (ag (mvi rfl (aa (bI rfl rfl (by omega)) (asi rfl (aj ?_))))))));refine cD ((k+1,A17,c17)) ⟨(by first | rfl | (refine bC ?_;omega)),(by first | rfl | (refine bC ?_;omega)),trivial⟩ (by (iterate 30 refine bR rfl ?_);exact cg) ⟨?_,?_⟩
  ·exact ⟨by simp only;omega,by rw [np iV (by omega)];exact ho17,B17⟩
  ·simp only;omega
 refine b0 (bf (bf (bE (ah (ak (ag (mvs rfl (ass rfl (aj (ah (aA (bg (v:=.slice _ _ _) rfl rfl ?_))))))))))));obtain rfl:k=l.length:=by omega
 exact ⟨A3,c3,rfl,by rwa [List.take_length] at ho,hB⟩
theorem ju (A:Option Addr) (c:Nat) (l:List Int) (w:World) (h:IR w A c l) (hl:l.length≤1000000):Rt prog 28 [.slice A l.length c] w fun v w'=>(∃ A' c',v=.slice A' l.length c'∧w'.ownsRow w.heap.size 3 1 (.slice A' l.length c') l.length (l.map iV))∧ai w w':=
 (vi A c l w h.1 (by omega)).mono fun v w' ⟨A',c',hv,ho,hF⟩=>⟨⟨A',c',hv,hv ▸ ho⟩,hF⟩
theorem bB.grow5 {w w':World} {tag:Nat→Nat} {s:Rf} {a:Ra} (h:bB 5 w tag s a) (hC:Chg (fun k=>tag k=5) w w'):bB 5 w' (et w.heap.size 5 tag) s a:=
 ⟨fun _=>dQ hC (by decide) (h.e (by decide)),fun _=>dQ hC (by decide) (h.v (by decide)),fun _=>dQ hC (by decide) (h.x (by decide)),fun _=>dQ hC (by decide) (h.m (by decide)),fun _=>dQ hC (by decide) (h.n (by decide)),fun e=>absurd rfl e,fun e=>absurd rfl e,fun i hi _=>dQ hC (by omega) (h.k i hi (by omega))⟩
theorem p0 (q:Rd) (A:Option Addr) (c:Nat) (w:World) (h:IR w A c q.acks) (hl:q.acks.length≤1000000) :
 Rt prog 60 [.agg (rdV (q,A,c)).toArray] w (fun v w'=>(∃ A' c',v=.agg (rdV (q,A',c')).toArray∧w'.ownsRow w.heap.size 3 1 (.slice A' q.acks.length c') q.acks.length (q.acks.map iV))∧ai w w'):=by
 refine enter (n:=10) Tryz.func60 rfl rfl rfl (ak (ag (cC (v:=.agg _) rfl ?_)));intro b1 w1 E1 hb1 hk1;refine bG eF ?_;intro b2 w2 E2 hb2 hk2;have hg2:w.heap.size≤b2:=by rw [hb2];exact ((ai.rfl_.next E1)).size
 have h12:b1≠b2:=by have:=hk1.lt;omega
 replace hk1:=hk1.from_ E2;refine aj (ah (ak (ag (aa (aH (cs:=rdV (q,A,c)) cY ch rfl ((hk1.from_ ai.rfl_).whole)) ?_))));have hM3a:ai _ w2:=ai.rfl_;have hk1p:=hk1.from_ hM3a;have hk2p:=hk2.from_ hM3a;refine bG eF ?_;intro b3 w3 E3 hb3 hk3;have hg3:w.heap.size≤b3:=by rw [hb3];exact (((ai.rfl_.next E1).next E2)).size
 have hM3:=hM3a.next E3;replace hk1:=hk1.from_ hM3;replace hk2:=hk2.from_ hM3;have h13:b1≠b3:=fun e=>by have h9:=hk1p.lt;omega
 have h23:b2≠b3:=fun e=>by have h9:=hk2p.lt;omega
 refine bP (vs:=[_,_,_,_]) ch rfl rfl (by simp [Value.oneCell']) (hk3) rfl ?_;intro w4 O1 P1;replace hk1:=hk1.only O1 h13;replace hk2:=hk2.only O1 h23;refine aj (ah (ak (ag (aa (af cE rfl) (aa (ar aN rfl (by exact (show _=some (Value.slice A q.acks.length c) from (hk1.from_ ai.rfl_).rd 3 rfl))) ?_)))));have hz7:=(((((ai.rfl_.next E1).next E2).next E3).only O1 (hg3))).size;refine aB g_ (ju A c q.acks _ (h.from_ ((((ai.rfl_.next E1).next E2).next E3).only O1 (hg3))) hl) ?_;rintro v7 w5 ⟨⟨A7,c7,rfl,ho7⟩,E7⟩;refine aa (af cE rfl) ?_;have hM8:ai _ w5:=(ai.rfl_.next E7);refine mb (v:=.slice _ _ _) cS rfl rfl rfl ((P1.from_ (ai.rfl_.next E7))) (by show _<4;decide) ?_;intro w6 O2 P2;replace hk2:=(hk2.from_ hM8).only O2 h23;replace ho7:=fL ho7 O2 (oG ho7 (P1.from_ hM8) (by decide));refine aj (ah (ak (ag (aa (aH (cs:=rdV (q,A7,c7)) cY ch rfl ((P2.from_ ai.rfl_).whole)) ?_))));have hM9:ai _ w6:=ai.rfl_;refine bP (vs:=[_,_,_,_]) ch rfl rfl (by simp [Value.oneCell']) ((hk2.from_ ai.rfl_)) rfl ?_;intro w7 O3 P3;replace ho7:=fL (ho7.kept_from hM9) O3 (oG (ho7.kept_from hM9) (hk2.from_ hM9) (by decide));refine aj (ah (aA (pA rfl (cU (cs:=[_,_,_,_]) cY ch rfl (by exact P3.whole)) ?_)));exact ⟨⟨A7,c7,rfl,d_ ho7 hz7⟩,(((((((ai.rfl_.next E1).next E2).next E3).only O1 (hg3)).next E7).only O2 (hg3)).only O3 (hg2))⟩
theorem wi {A A':Option Addr} {n:Nat} (hL:A'.map (·.block)=A.map (·.block)∨A'.map (·.block)=some n):∀ k,A'.map (·.block)=some k→A.map (·.block)=some k∨n≤k:=fun k hk=>by
 rcases hL with e | e
 ·exact .inl (e ▸ hk)
 ·rw [e] at hk;cases hk;exact .inr (Nat.le_refl _)
theorem ku (x:Rd×Option Addr×Nat) (w:World) (h:IR w x.2.1 x.2.2 x.1.acks) (hl:x.1.acks.length≤1000000):Rt prog 60 [.agg (rdV x).toArray] w fun v w'=>(∃ A' c',v=.agg (rdV (x.1,A',c')).toArray∧w'.ownsRow w.heap.size 3 1 (.slice A' x.1.acks.length c') x.1.acks.length (x.1.acks.map iV))∧ai w w':=
 p0 x.1 x.2.1 x.2.2 w h hl
theorem oQ (s:Rf) (a:Ra) (tag:Nat→Nat) (Q:Option Addr) (Qc:Nat) (LL:List (Rd×Option Addr×Nat)) (w:World) (hg:bB 5 w tag s a) (ha:a.L=[]) (hq:fP 4 rdV w Q LL) (hk:∀ x∈LL,IR w x.2.1 x.2.2 x.1.acks) (hle:∀ x∈LL,x.1.acks.length≤1000000) (hn:LL.length≤1000000) :
 Rt prog 29 [.slice Q LL.length Qc] w (fun v w'=>(∃ tag' Q' c' N,v=.slice Q' LL.length c'∧N.map (fun q=>q.1)=LL.map (fun q=>q.1)∧bB 5 w' tag' s { a with L:=N }∧(∀ k,k<w.heap.size→tag' k=tag k)∧Col tag' 5 Q'∧w'.ownsRow 0 54 4 (.slice Q' LL.length c') LL.length (N.flatMap rdV))∧ai w w'):=by
 refine enter (n:=20) Tryz.func29 rfl rfl rfl (ak (ag (ass rfl (aj (ah (ak (ag (ass rfl (aj (ah (ak (ak (ag (asi rfl (aj (ah (aZ (cj (G:=List (Rd×Option Addr×Nat)×(Nat→Nat)×Option Addr×Nat) [5,6,7,8,9,10,11,12,13,14,15,16,17,18] (fun (N,tg,A3,c3)=>[(3,.slice A3 N.length c3),(4,.int .i64 (N.length:Nat))]) (fun (N,tg,A3,c3) w'=>N.length≤LL.length∧(∀ i (h:i<N.length) (h2:i<LL.length),N[i].1=LL[i].1)∧bB 5 w' tg s { a with L:=N }∧(∀ k,k<w.heap.size→tg k=tag k)∧Col tg 5 A3∧w'.ownsRow w.heap.size 54 4 (.slice A3 N.length c3) N.length (N.flatMap rdV)∧ai w w') (fun (N,_)=>LL.length-N.length) (([],tag,none,0)) ⟨rfl,rfl,trivial⟩ ?_ ?_))))))))))))))))))
 ·exact ⟨Nat.zero_le _,fun i h=>absurd h (Nat.not_lt_zero _),(by rw [←ha];exact hg.from_ ai.rfl_),fun _ _=>rfl,Col.none,World.ownsRow_nil _ _ _ _,ai.rfl_⟩
 rintro ⟨N,tg,A3,c3⟩ ρ1 w1 ⟨hNl,hNe,hgN,htN,hcN,hrN,hBN⟩;refine ak (ak (ag (mvi rfl (mvs rfl (aa (bn bA rfl) (aa (bH rfl rfl) (aj (ah (xD rfl (fun Q2=>?_) (fun Q2=>?_))))))))))
 ·have hNL:N.length<LL.length:=by omega
  obtain ⟨ba,oa,rfl,hca⟩:=hq (by omega);have hkN:=hk _ (List.getElem_mem hNL);have hlN:=hle _ (List.getElem_mem hNL);refine aP (ah (ak (aZ (ag (mvs rfl (mvs rfl (mvi rfl (aa (iG cO rfl rfl (by omega)) (aa (aH (cs:=rdV LL[N.length]) cY ch rfl (ep hBN (hca N.length hNL))) ?_)))))))));have hgN9:=hgN.from_ ai.rfl_;have hz16:=(hBN).size;have hrN9:=hrN.kept_from ai.rfl_;refine aB nb (ku LL[N.length] _ (hkN.from_ hBN) hlN) ?_;rintro v16 w3 ⟨⟨A16,c16,rfl,ho16⟩,E16⟩;obtain ⟨t16,hg16,ht16,hc16⟩:∃ t,bB 5 w3 t s { a with L:=(N++[(LL[N.length].1,A16,c16)]) }∧(∀ k,k<w.heap.size→t k=tag k)∧Col t 5 A3:=⟨_,hgN9.ack E16 (q:=LL[N.length].1) ho16,fun k hk=>(bQ (Nat.lt_of_lt_of_le hk hz16)).trans (htN k hk),hcN.re (fun k hk=>(dt hrN9 k hk).2)⟩;refine im (l:=[(0,.tmp 16)]) (cells:=(rdV (LL[N.length].1,A16,c16)).toArray) dO rfl rfl (by show Instr.fill _ _ [(0,Value.agg (rdV (LL[N.length].1,A16,c16)).toArray)]=_;kernel_rfl) ?_;intro b17 w4 E17 hb17 hk17;have hM18:ai _ w4:=((ai.rfl_.next E16).next E17);have hB18:ai w w4:=((hBN.next E16).next E17);have hM18:ai _ w4:=((ai.rfl_.next E16).next E17);have hB18:ai w w4:=((hBN.next E16).next E17);have hr18:=hrN.kept_from hM18;refine gK (news:=rdV (LL[N.length].1,A16,c16)) dO rfl (by decide) rfl hr18 hB18.size rfl rfl ⟨b17,0,rfl,hk17.whole⟩ (by simp [rdV,Value.oneCell']) (by omega) (by omega) ?_;intro A18 c18 w5 ho18 hgr18 hL18;obtain ⟨t18,hg18,ht18,hc18⟩:∃ t,bB 5 w5 t s { a with L:=(N++[(LL[N.length].1,A16,c16)]) }∧(∀ k,k<w.heap.size→t k=tag k)∧Col t 5 A18:=⟨_,(hg16.from_ (ai.rfl_.next E17)).grow5 (Chg.of_grown hgr18 (fun q hq=>hc16 q hq)),fun k hk=>(bQ (Nat.lt_of_lt_of_le hk hB18.size)).trans (ht16 k hk),hc16.new (fun k hk=>(dt hr18 k hk).2) (wi hL18)⟩;have hF18:ai w w5:=hB18.grew hgr18 (fun k hk=>(dt hr18 k hk).1);refine ass rfl (aj (bJ (ah (ag (mvi rfl (aa (bI rfl rfl (by omega)) (asi rfl (aj ?_))))))));refine cD (((N++[(LL[N.length].1,A16,c16)]),t18,A18,c18)) ⟨(show Value.slice A18 (N.length+1) c18=Value.slice A18 (N++[(LL[N.length].1,A16,c16)]).length c18 by rw [List.length_append];rfl),bC (by rw [List.length_append,List.length_singleton];omega),trivial⟩ (by (iterate 32 refine bR rfl ?_);exact cg) ⟨?_,?_⟩
  ·have e18:(N++[(LL[N.length].1,A16,c16)]).length=N.length+1:=by rw [List.length_append];rfl
   refine ⟨by omega,fun i h h2=>?_,hg18.from_ ai.rfl_,ht18,hc18,?_,hF18⟩
   ·rcases Nat.lt_or_ge i N.length with e | e
    ·rw [List.getElem_append_left e];exact hNe i e h2
    ·obtain rfl:i=N.length:=by omega
     simp only [List.getElem_append_right (Nat.le_refl _),Nat.sub_self,List.getElem_singleton]
   ·have h9:=ho18.kept_from ai.rfl_;show World.ownsRow _ _ _ _ (.slice A18 (N++[(LL[N.length].1,A16,c16)]).length c18) (N++[(LL[N.length].1,A16,c16)]).length ((N++[(LL[N.length].1,A16,c16)]).flatMap rdV);rw [e18,List.flatMap_append,show [(LL[N.length].1,A16,c16)].flatMap rdV=rdV (LL[N.length].1,A16,c16) from List.append_nil _];exact h9
  ·show LL.length-(N++[_]).length<LL.length-N.length;rw [List.length_append,List.length_singleton];omega
 refine b0 (bf (bf (bE (ah (ak (ag (mvs rfl (ass rfl (aj (ah (aA (bg (v:=.slice _ _ _) rfl rfl ?_))))))))))));have hNf:N.length=LL.length:=by omega
 rw [hNf] at hrN;refine ⟨⟨tg,A3,c3,N,by rw [hNf],?_,hgN.from_ ai.rfl_,htN,hcN,d_ (hrN.kept_from ai.rfl_) (Nat.zero_le _)⟩,hBN⟩;refine List.ext_getElem (by simp [hNf]) fun i h1 h2=>?_
 simp only [List.getElem_map];exact hNe i (by simpa using h1) (by simpa using h2)
theorem eZ (s:Rf) (a:Ra) (w:World) (hrd:eD w s a) (hl:s.votes.length≤1000000∧s.next.length≤1000000∧s.mtch.length≤1000000∧s.sent.length≤1000000∧s.reads.length≤1000000∧∀ q∈s.reads,q.acks.length≤1000000) (hel:s.es.length≤1000000) :
 Rt prog 16 [.agg (rfV s a).toArray] w (fun v w'=>(∃ tag a',v=.agg (rfV s a').toArray∧aQ w' tag s a'∧∀ k,k<w.heap.size→tag k=8)∧ai w w'):=by
 obtain ⟨E,Ec,V,Vc,X,Xc,M,Mc,Sn,Sc,Q,Qc,LL⟩:=a;obtain ⟨hl1,hl2,hl3,hl4,hl5,hl6⟩:=hl;have hrL:LL.map (fun q=>q.1)=s.reads:=hrd.r;have hrk:∀ q∈LL,IR w q.2.1 q.2.2 q.1.acks:=hrd.k;have hrq:fP 4 rdV w Q LL:=hrd.q;have hLl:LL.length=s.reads.length:=by rw [←hrL,List.length_map]
 have hqm:LL.length≤1000000:=by omega
 refine enter (n:=30) Tryz.func16 rfl rfl rfl (ak (ag (cC (v:=.agg _) rfl ?_)));intro b1 w1 E1 hb1 hk1;refine bG bS ?_;intro b2 w2 E2 hb2 hk2;have hg2:w.heap.size≤b2:=by rw [hb2];exact ((ai.rfl_.next E1)).size
 have hlt1:=hk1.lt;replace hk1:=hk1.from_ E2;refine aj (ah (ak (ag (aa (aH (cs:=rfV s (⟨E,Ec,V,Vc,X,Xc,M,Mc,Sn,Sc,Q,Qc,LL⟩:Ra)) aG av rfl (hk1.whole)) (bG bS ?_)))));intro b3 w3 E3 hb3 hk3;have hg3:w.heap.size≤b3:=by rw [hb3];exact (((ai.rfl_.next E1).next E2)).size
 have hlt2:=hk2.lt;have hlt1b:=hk1.lt;replace hk1:=hk1.from_ E3;replace hk2:=hk2.from_ E3;have h13:b1≠b3:=by omega
 have h23:b2≠b3:=by omega
 have ht0:∀ k,k≤b3→(fun _:Nat=>8) k=8:=fun _ _=>rfl
 refine bP (vs:=[_,_,_,_,_,_,_,_,_,_,_,_,_,_,_,_,_,_,_,_,_,_]) av rfl rfl (by simp [Value.oneCell']) (hk3) rfl ?_;intro w4 O1 P1;replace hk1:=hk1.only O1 h13;replace hk2:=hk2.only O1 h23;have hx1:Blk w4 b3 29 (rfV s (⟨E,Ec,V,Vc,X,Xc,M,Mc,Sn,Sc,Q,Qc,LL⟩:Ra)++[]).toArray:=P1;refine aj (ah (ak (ag (aa (af bj rfl) (aa (aH (cs:=[.int .i64 s.b,.int .i64 s.t,.slice E s.es.length Ec]) bL bh rfl (jj (show Blk _ b1 29 (rfV s (⟨E,Ec,V,Vc,X,Xc,M,Mc,Sn,Sc,Q,Qc,LL⟩:Ra)++[]).toArray from hk1.from_ ai.rfl_))) ?_)))));have hN7:ai _ w4:=ai.rfl_;have hx1n:=hx1.from_ hN7;have hlt7:=hx1n.lt;replace hk1:=hk1.from_ ai.rfl_;replace hk2:=hk2.from_ ai.rfl_;have hf0n:aQ w4 (fun _=>8) ({ s with es:=[],votes:=[],next:=[],mtch:=[],sent:=[],reads:=[] }:Rf) a0:=aQ.same aQ.zero rfl rfl rfl rfl rfl rfl;refine aB rO (rm s.b s.t E s.es.length Ec s.es _ (hrd.e.from_ ((((ai.rfl_.next E1).next E2).next E3).only O1 (hg3))) (by omega)) ?_;rintro v7 w5 ⟨A7,c7,rfl,ho7,_,E7⟩;obtain ⟨tag1,hf1,ht1⟩:∃ t,aQ w5 t ({ s with es:=s.es,votes:=[],next:=[],mtch:=[],sent:=[],reads:=[] }:Rf) (⟨A7,c7,none,0,none,0,none,0,none,0,none,0,[]⟩:Ra)∧(∀ k,k≤b3→t k=8):=⟨_,bB.log (aQ.but (c:=0) hf0n (ai.toChg E7)) s.b s.t rfl (d_ ho7 (Nat.zero_le _)) (fun k hk=>cN (dt ho7 k hk).1),fun k hk=>(bQ (by omega)).trans (ht0 k hk)⟩;replace hx1n:=hx1n.from_ E7;replace hk1:=hk1.from_ E7;replace hk2:=hk2.from_ E7;refine aa (af bj rfl) ?_;have hS1:ai _ w5:=ai.rfl_;have hB1:ai w w5:=(((((ai.rfl_.next E1).next E2).next E3).only O1 (hg3)).next E7);refine jH (s:=s) (a:=(⟨E,Ec,V,Vc,X,Xc,M,Mc,Sn,Sc,Q,Qc,LL⟩:Ra)) (R:=[]) (b:=s.b) (t9:=s.t) (es:=s.es) rfl bh rfl rfl (hx1n.from_ hS1) ?_;intro w6 O1_0 P1_0;have hx2:Blk w6 b3 29 (rfV s (⟨A7,c7,V,Vc,X,Xc,M,Mc,Sn,Sc,Q,Qc,LL⟩:Ra)++[]).toArray:=P1_0;replace hf1:=(hf1.from_ hS1).chg8 (O1_0.toChg rfl) (ht1 b3 (Nat.le_refl _));replace hk1:=(hk1.from_ hS1).only O1_0 h13;replace hk2:=(hk2.from_ hS1).only O1_0 h23;refine aj (ah (ak (ag (aa (af cK rfl) (aa (ar aN rfl (by exact (show _=some (Value.slice V s.votes.length Vc) from (hk1.from_ ai.rfl_).rd 14 rfl))) ?_)))));have hN11:ai _ w6:=ai.rfl_;have hx2n:=hx2.from_ hN11;have hlt11:=hx2n.lt;replace hk1:=hk1.from_ ai.rfl_;replace hk2:=hk2.from_ ai.rfl_;have hf1n:=hf1.from_ hN11;refine aB g_ (ju V Vc s.votes _ (IR.from_ hrd.v (hB1.only O1_0 hg3)) hl1) ?_;rintro v11 w7 ⟨⟨A11,c11,rfl,ho11⟩,E11⟩;obtain ⟨tag2,hf2,ht2⟩:∃ t,aQ w7 t ({ s with es:=s.es,votes:=s.votes,next:=[],mtch:=[],sent:=[],reads:=[] }:Rf) (⟨A7,c7,A11,c11,none,0,none,0,none,0,none,0,[]⟩:Ra)∧(∀ k,k≤b3→t k=8):=⟨_,bB.votes (aQ.but (c:=1) hf1n (ai.toChg E11)) rfl (d_ ho11 (Nat.zero_le _)) (fun k hk=>cN (dt ho11 k hk).1),fun k hk=>(bQ (by omega)).trans (ht1 k hk)⟩;replace hx2n:=hx2n.from_ E11;replace hk1:=hk1.from_ E11;replace hk2:=hk2.from_ E11;refine aa (af cK rfl) ?_;have hS2:ai _ w7:=ai.rfl_;refine cF (s':=s) (a':=(⟨A7,c7,A11,c11,X,Xc,M,Mc,Sn,Sc,Q,Qc,LL⟩:Ra)) (v:=.slice _ _ _) cS rfl rfl rfl ((hx2n.from_ hS2)) (by exact ⟨by decide,rfl⟩) ?_;intro w8 O2_0 P2_0;have hx3:Blk w8 b3 29 (rfV s (⟨A7,c7,A11,c11,X,Xc,M,Mc,Sn,Sc,Q,Qc,LL⟩:Ra)++[]).toArray:=P2_0;replace hf2:=(hf2.from_ hS2).chg8 (O2_0.toChg rfl) (ht2 b3 (Nat.le_refl _));replace hk1:=(hk1.from_ hS2).only O2_0 h13;replace hk2:=(hk2.from_ hS2).only O2_0 h23;refine aj (ah (ak (ag (aa (af bX rfl) (aa (ar aN rfl (by exact (show _=some (Value.slice X s.next.length Xc) from (hk1.from_ ai.rfl_).rd 15 rfl))) ?_)))));have hN15:ai _ w8:=ai.rfl_;have hx3n:=hx3.from_ hN15;have hlt15:=hx3n.lt;replace hk1:=hk1.from_ ai.rfl_;replace hk2:=hk2.from_ ai.rfl_;have hf2n:=hf2.from_ hN15;refine aB g_ (ju X Xc s.next _ (IR.from_ hrd.x (((hB1.only O1_0 hg3).next E11).only O2_0 (hg3))) hl2) ?_;rintro v15 w9 ⟨⟨A15,c15,rfl,ho15⟩,E15⟩;obtain ⟨tag3,hf3,ht3⟩:∃ t,aQ w9 t ({ s with es:=s.es,votes:=s.votes,next:=s.next,mtch:=[],sent:=[],reads:=[] }:Rf) (⟨A7,c7,A11,c11,A15,c15,none,0,none,0,none,0,[]⟩:Ra)∧(∀ k,k≤b3→t k=8):=⟨_,bB.next (aQ.but (c:=2) hf2n (ai.toChg E15)) rfl (d_ ho15 (Nat.zero_le _)) (fun k hk=>cN (dt ho15 k hk).1),fun k hk=>(bQ (by omega)).trans (ht2 k hk)⟩;replace hx3n:=hx3n.from_ E15;replace hk1:=hk1.from_ E15;replace hk2:=hk2.from_ E15;refine aa (af bX rfl) ?_;have hS3:ai _ w9:=ai.rfl_;refine cF (s':=s) (a':=(⟨A7,c7,A11,c11,A15,c15,M,Mc,Sn,Sc,Q,Qc,LL⟩:Ra)) (v:=.slice _ _ _) cS rfl rfl rfl ((hx3n.from_ hS3)) (by exact ⟨by decide,rfl⟩) ?_;intro w10 O3_0 P3_0;have hx4:Blk w10 b3 29 (rfV s (⟨A7,c7,A11,c11,A15,c15,M,Mc,Sn,Sc,Q,Qc,LL⟩:Ra)++[]).toArray:=P3_0;replace hf3:=(hf3.from_ hS3).chg8 (O3_0.toChg rfl) (ht3 b3 (Nat.le_refl _));replace hk1:=(hk1.from_ hS3).only O3_0 h13;replace hk2:=(hk2.from_ hS3).only O3_0 h23;refine aj (ah (ak (ag (aa (af b_ rfl) (aa (ar aN rfl (by exact (show _=some (Value.slice M s.mtch.length Mc) from (hk1.from_ ai.rfl_).rd 16 rfl))) ?_)))));have hN19:ai _ w10:=ai.rfl_;have hx4n:=hx4.from_ hN19;have hlt19:=hx4n.lt;replace hk1:=hk1.from_ ai.rfl_;replace hk2:=hk2.from_ ai.rfl_;have hf3n:=hf3.from_ hN19;refine aB g_ (ju M Mc s.mtch _ (IR.from_ hrd.m (((((hB1.only O1_0 hg3).next E11).only O2_0 (hg3)).next E15).only O3_0 (hg3))) hl3) ?_;rintro v19 w11 ⟨⟨A19,c19,rfl,ho19⟩,E19⟩;obtain ⟨tag4,hf4,ht4⟩:∃ t,aQ w11 t ({ s with es:=s.es,votes:=s.votes,next:=s.next,mtch:=s.mtch,sent:=[],reads:=[] }:Rf) (⟨A7,c7,A11,c11,A15,c15,A19,c19,none,0,none,0,[]⟩:Ra)∧(∀ k,k≤b3→t k=8):=⟨_,bB.mtch (aQ.but (c:=3) hf3n (ai.toChg E19)) rfl (d_ ho19 (Nat.zero_le _)) (fun k hk=>cN (dt ho19 k hk).1),fun k hk=>(bQ (by omega)).trans (ht3 k hk)⟩;replace hx4n:=hx4n.from_ E19;replace hk1:=hk1.from_ E19;replace hk2:=hk2.from_ E19;refine aa (af b_ rfl) ?_;have hS4:ai _ w11:=ai.rfl_;refine cF (s':=s) (a':=(⟨A7,c7,A11,c11,A15,c15,A19,c19,Sn,Sc,Q,Qc,LL⟩:Ra)) (v:=.slice _ _ _) cS rfl rfl rfl ((hx4n.from_ hS4)) (by exact ⟨by decide,rfl⟩) ?_;intro w12 O4_0 P4_0;have hx5:Blk w12 b3 29 (rfV s (⟨A7,c7,A11,c11,A15,c15,A19,c19,Sn,Sc,Q,Qc,LL⟩:Ra)++[]).toArray:=P4_0;replace hf4:=(hf4.from_ hS4).chg8 (O4_0.toChg rfl) (ht4 b3 (Nat.le_refl _));replace hk1:=(hk1.from_ hS4).only O4_0 h13;replace hk2:=(hk2.from_ hS4).only O4_0 h23;refine aj (ah (ak (ag (aa (af bU rfl) (aa (ar aN rfl (by exact (show _=some (Value.slice Sn s.sent.length Sc) from (hk1.from_ ai.rfl_).rd 17 rfl))) ?_)))));have hN23:ai _ w12:=ai.rfl_;have hx5n:=hx5.from_ hN23;have hlt23:=hx5n.lt;replace hk1:=hk1.from_ ai.rfl_;replace hk2:=hk2.from_ ai.rfl_;have hf4n:=hf4.from_ hN23;refine aB g_ (ju Sn Sc s.sent _ (IR.from_ hrd.n (((((((hB1.only O1_0 hg3).next E11).only O2_0 (hg3)).next E15).only O3_0 (hg3)).next E19).only O4_0 (hg3))) hl4) ?_;rintro v23 w13 ⟨⟨A23,c23,rfl,ho23⟩,E23⟩;obtain ⟨tag5,hf5,ht5⟩:∃ t,aQ w13 t ({ s with es:=s.es,votes:=s.votes,next:=s.next,mtch:=s.mtch,sent:=s.sent,reads:=[] }:Rf) (⟨A7,c7,A11,c11,A15,c15,A19,c19,A23,c23,none,0,[]⟩:Ra)∧(∀ k,k≤b3→t k=8):=⟨_,bB.sent (aQ.but (c:=4) hf4n (ai.toChg E23)) rfl (d_ ho23 (Nat.zero_le _)) (fun k hk=>cN (dt ho23 k hk).1),fun k hk=>(bQ (by omega)).trans (ht4 k hk)⟩;replace hx5n:=hx5n.from_ E23;replace hk1:=hk1.from_ E23;replace hk2:=hk2.from_ E23;refine aa (af bU rfl) ?_;have hS5:ai _ w13:=ai.rfl_;refine cF (s':=s) (a':=(⟨A7,c7,A11,c11,A15,c15,A19,c19,A23,c23,Q,Qc,LL⟩:Ra)) (v:=.slice _ _ _) cS rfl rfl rfl ((hx5n.from_ hS5)) (by exact ⟨by decide,rfl⟩) ?_;intro w14 O5_0 P5_0;have hx6:Blk w14 b3 29 (rfV s (⟨A7,c7,A11,c11,A15,c15,A19,c19,A23,c23,Q,Qc,LL⟩:Ra)++[]).toArray:=P5_0;replace hf5:=(hf5.from_ hS5).chg8 (O5_0.toChg rfl) (ht5 b3 (Nat.le_refl _));replace hk1:=(hk1.from_ hS5).only O5_0 h13;replace hk2:=(hk2.from_ hS5).only O5_0 h23;refine aj (ah (ak (ag (aa (af aT rfl) (aa (ar bm rfl (by exact (show _=some (Value.slice Q LL.length Qc) from (hk1.from_ ai.rfl_).rd 19 rfl))) ?_)))));have hN27:ai _ w14:=ai.rfl_;have hx6n:=hx6.from_ hN27;have hlt27:=hx6n.lt;replace hk1:=hk1.from_ ai.rfl_;replace hk2:=hk2.from_ ai.rfl_;have hf5n:=aQ.but (c:=5) (hf5.from_ hN27) ai.rfl_.toChg;refine aB rN (oQ ({ s with es:=s.es,votes:=s.votes,next:=s.next,mtch:=s.mtch,sent:=s.sent,reads:=[] }:Rf) (⟨A7,c7,A11,c11,A15,c15,A19,c19,A23,c23,none,0,[]⟩:Ra) _ Q Qc LL _ hf5n rfl (hrq.from_ (((((((((hB1.only O1_0 hg3).next E11).only O2_0 (hg3)).next E15).only O3_0 (hg3)).next E19).only O4_0 (hg3)).next E23).only O5_0 (hg3))) (fun x hx=>(hrk x hx).from_ (((((((((hB1.only O1_0 hg3).next E11).only O2_0 (hg3)).next E15).only O3_0 (hg3)).next E19).only O4_0 (hg3)).next E23).only O5_0 (hg3))) (fun x hx=>hl6 _ (by rw [←hrL];exact List.mem_map_of_mem hx)) hqm) ?_;rintro v27 w15 ⟨⟨tag6,A27,c27,N,rfl,hNe,hg6,ht6a,hc6,hr6⟩,E27⟩;have ht6:∀ k,k≤b3→tag6 k=8:=fun k hk=>(ht6a k (by omega)).trans ((bQ (by omega)).trans (ht5 k hk))
 replace hx6n:=hx6n.from_ E27;replace hk2:=hk2.from_ E27;have hfin:=bB.reads hg6 (A:=A27) (c:=c27) (n:=LL.length) (by have h9:=congrArg List.length hNe;rw [List.length_map,List.length_map] at h9;exact h9.symm) hr6 hc6;rw [show ({ (⟨A7,c7,A11,c11,A15,c15,A19,c19,A23,c23,none,0,[]⟩:Ra) with L:=N }:Ra).L=N from rfl,hNe,hrL] at hfin;refine aa (af aT rfl) ?_;have hS6:ai _ w15:=ai.rfl_;refine cF (s':=s) (a':=(⟨A7,c7,A11,c11,A15,c15,A19,c19,A23,c23,A27,c27,LL⟩:Ra)) (v:=.slice _ _ _) fQ rfl rfl rfl ((hx6n.from_ hS6)) (by exact ⟨by decide,rfl⟩) ?_;intro w16 O6_0 P6_0;have hx7:Blk w16 b3 29 (rfV s (⟨A7,c7,A11,c11,A15,c15,A19,c19,A23,c23,A27,c27,LL⟩:Ra)++[]).toArray:=P6_0;replace hfin:=(hfin.from_ hS6).chg8 (O6_0.toChg rfl) (ht6 b3 (Nat.le_refl _));replace hk2:=(hk2.from_ hS6).only O6_0 h23;refine aj (ah (ak (ag (aa (aH (cs:=rfV s (⟨A7,c7,A11,c11,A15,c15,A19,c19,A23,c23,A27,c27,LL⟩:Ra)) aG av rfl (jk (hx7.from_ ai.rfl_))) ?_))));have hM8:ai _ w16:=ai.rfl_;refine bP (vs:=[_,_,_,_,_,_,_,_,_,_,_,_,_,_,_,_,_,_,_,_,_,_]) av rfl rfl (by simp [Value.oneCell']) ((hk2.from_ ai.rfl_)) rfl ?_;intro w17 O8 P8;refine aj (ah (aA (pA rfl (cU (cs:=[_,_,_,_,_,_,_,_,_,_,_,_,_,_,_,_,_,_,_,_,_,_]) aG av rfl (by exact P8.whole)) ?_)));refine ⟨⟨tag6,(⟨A7,c7,A11,c11,A15,c15,A19,c19,A23,c23,A27,c27,N⟩:Ra),?_,(hfin.from_ hM8).chg8 (O8.toChg rfl) (ht6 b2 (by omega)),fun k hk=>ht6 k (by omega)⟩,((((((((((((hB1.only O1_0 hg3).next E11).only O2_0 (hg3)).next E15).only O3_0 (hg3)).next E19).only O4_0 (hg3)).next E23).only O5_0 (hg3)).next E27).only O6_0 (hg3)).only O8 (hg2))⟩;show Value.agg (rfV s (⟨A7,c7,A11,c11,A15,c15,A19,c19,A23,c23,A27,c27,LL⟩:Ra)).toArray=Value.agg (rfV s (⟨A7,c7,A11,c11,A15,c15,A19,c19,A23,c23,A27,c27,N⟩:Ra)).toArray;have h9:=congrArg List.length hNe;rw [List.length_map,List.length_map] at h9;unfold rfV;simp only [h9]
end Go.Proofs.YtkpooenofjdpmaaGreat
