/- texts that the claim stands on. -/
import Derived.Test.YtkpooenofjdpmaaGreatSlRfLawV13

set_option maxRecDepth 100000
set_option maxHeartbeats 4000000
namespace Go.Proofs.YtkpooenofjdpmaaGreat
open Go.Proofs.Tryz (prog)
open Go.RowKit
open Go.ChangeShapes Go.WideShapes Go.ChangeAt
theorem lK:wk prog 26=some (3,8,.int .i64 0):=by kernel_rfl
theorem oU:aR prog 99=true:=by kernel_rfl
theorem tu:aR prog 75=true:=by kernel_rfl
theorem tt:aR prog 76=true:=by kernel_rfl
theorem oV:aR prog 84=true:=by kernel_rfl
theorem ts:aR prog 79=true:=by kernel_rfl
theorem sB {P:Program} {ρ:Operand→Value} {w:World} {t:TypeId} {x y:Operand} {e by_ m:Nat} {z:Value} {kl kc:IntKind} (ht:wk P t=some (e,by_,z)) (hz:z.cells=#[z]) (hx:ρ x=.int kl (m:Nat)) (hy:ρ y=.int kc (m:Nat)) (hm:m≤9223372036854775807) (hb:by_*m≤281474976710656) :
 RO P ρ (.makeSlice t x y) w (.slice (some ⟨w.heap.size,0,none⟩) m m) (w.alloc (.cells (List.replicate m z).toArray e)):=by
 unfold wk at ht;split at ht
 ·rename_i e' hu;cases hi:P.info? e' with
  |none=>simp [hi] at ht
  |some i=>
   rw [hi] at ht;simp only [Option.bind_some] at ht;split at ht
   ·rename_i hs;cases hzz:i.zero with
    |none=>simp [hzz] at ht
    |some z'=>
     simp only [hzz,Option.map_some,Option.some.injEq,Prod.mk.injEq] at ht;obtain ⟨rfl,rfl,rfl⟩:=ht
     have hr:=run_make (P:=P) w t e' i z' hu hi hzz kl kc (m:Int) (m:Int) (by omega) (Int.le_refl _) (by
      have:((i.bytes*m:Nat):Int)≤281474976710656:=by omega
      rwa [Int.natCast_mul] at this) (by omega)
     have hcells:madeCells z'.cells ((m:Int).toNat*i.size)=(List.replicate m z').toArray:=by
      rw [hs,Int.toNat_natCast,Nat.mul_one,hz];apply Array.ext_getElem?;intro j;simp only [madeCells,Array.getElem?_map];by_cases hj:j<m
      ·simp [hj,Nat.mod_one]
      ·simp [hj]
     rw [hcells,Int.toNat_natCast] at hr;exact fun _ _ _ _ _=>by simp [execOp,hx,hy,hr]
   ·cases ht
 ·cases ht
structure G3 where
 x:Nat
 m:Nat
 s:Nat
def lv (s:Rf) (a:Ra) (p q r:Value):List Value:=[.int .i64 s.id,.int .i64 s.nodes,.int .i64 s.role,.int .i64 s.term,.int .i64 s.vote,.int .i64 s.leader,.int .i64 s.b,.int .i64 s.t,.slice a.E s.es.length a.Ec,.string s.snap,.int .i64 s.commit,.int .i64 s.elapsed,.int .i64 s.timeout,.int .u64 s.seed,.slice a.V s.votes.length a.Vc,p,q,r,.int .i64 s.round,.slice a.Q a.L.length a.Qc,.string s.part,.int .i64 s.partOf]
def lvX (s:Rf) (a:Ra) (n:Nat) (x:G3) (S:Nat→Bool):List Value:=lv s a (bif S 28 then .slice (some ⟨x.x,0,none⟩) n n else .slice a.X s.next.length a.Xc) (bif S 33 then .slice (some ⟨x.m,0,none⟩) n n else .slice a.M s.mtch.length a.Mc) (bif S 38 then .slice (some ⟨x.s,0,none⟩) n n else .slice a.S s.sent.length a.Sc)
def MK (w0 w:World) (n k:Nat):Prop:=w0.heap.size≤k∧Blk w k 3 (List.replicate n (Value.int .i64 0)).toArray
structure LI (w0:World) (T g n:Nat) (s:Rf) (a:Ra) (R:Value) (x:G3) (S:Nat→Bool) (w:World):Prop where
 c:Chg (fun k=>k=g) w0 w
 b:Blk w g T (lvX s a n x S++[R]).toArray
 h9:S 9=true→MK w0 w n x.x
 h16:S 16=true→MK w0 w n x.m
 h23:S 23=true→MK w0 w n x.s
 a1:S 9=true→S 16=true→x.x≠x.m
 a2:S 9=true→S 23=true→x.x≠x.s
 a3:S 16=true→S 23=true→x.m≠x.s
 lt:g<w0.heap.size
section
variable {w0 w1 w2:World} {T g n i:Nat} {s:Rf} {a:Ra} {R:Value} {x:G3} {S:Nat→Bool}
theorem MK.from_ {k:Nat} (h:MK w0 w1 n k) (hF:ai w1 w2):MK w0 w2 n k:=⟨h.1,h.2.from_ hF⟩
theorem nG {i:Nat} (h28:i≠28) (h33:i≠33) (h38:i≠38):lvX s a n x (dL S i)=lvX s a n x S:=by
 unfold lvX;rw [fA h28.symm,fA h33.symm,fA h38.symm]
theorem LI.rd (h:LI w0 T g n s a R x S w1) (hq:[9,16,23,28,33,38].elem i=false) (hF:ai w1 w2):LI w0 T g n s a R x (dL S i) w2:=by
 have hm:i≠9∧i≠16∧i≠23∧i≠28∧i≠33∧i≠38:=by
  refine ⟨?_,?_,?_,?_,?_,?_⟩ <;> rintro rfl <;> exact absurd hq (by decide)
 obtain ⟨m1,m2,m3,m4,m5,m6⟩:=hm;refine ⟨h.c.next hF.toChg,by rw [nG m4 m5 m6];exact h.b.from_ hF,fun e=>?_,fun e=>?_,fun e=>?_,fun e f=>?_,fun e f=>?_,fun e f=>?_,h.lt⟩
 ·rw [fA m1.symm] at e;exact (h.h9 e).from_ hF
 ·rw [fA m2.symm] at e;exact (h.h16 e).from_ hF
 ·rw [fA m3.symm] at e;exact (h.h23 e).from_ hF
 ·rw [fA m1.symm] at e;rw [fA m2.symm] at f;exact h.a1 e f
 ·rw [fA m1.symm] at e;rw [fA m3.symm] at f;exact h.a2 e f
 ·rw [fA m2.symm] at e;rw [fA m3.symm] at f;exact h.a3 e f
theorem MK.fresh {k:Nat} (h:MK w0 w1 n k):k≠w1.heap.size:=by have:=h.2.lt;omega
theorem LI.mk9 (h:LI w0 T g n s a R x S w1) (h28:S 28=false) (hk:MK w0 w2 n w1.heap.size) (hF:ai w1 w2):LI w0 T g n s a R ⟨w1.heap.size,x.m,x.s⟩ (dL S 9) w2:=by
 refine ⟨h.c.next hF.toChg,?_,fun _=>hk,fun e=>?_,fun e=>?_,fun _ f=>?_,fun _ f=>?_,fun e f=>?_,h.lt⟩
 ·rw [nG (by decide) (by decide) (by decide)];have:=h.b.from_ hF;unfold lvX at this ⊢;rw [h28] at this ⊢;exact this
 ·rw [fA (by decide)] at e;exact (h.h16 e).from_ hF
 ·rw [fA (by decide)] at e;exact (h.h23 e).from_ hF
 ·rw [fA (by decide)] at f;exact (h.h16 f).fresh.symm
 ·rw [fA (by decide)] at f;exact (h.h23 f).fresh.symm
 ·rw [fA (by decide)] at e f;exact h.a3 e f
theorem LI.mk16 (h:LI w0 T g n s a R x S w1) (h33:S 33=false) (hk:MK w0 w2 n w1.heap.size) (hF:ai w1 w2):LI w0 T g n s a R ⟨x.x,w1.heap.size,x.s⟩ (dL S 16) w2:=by
 refine ⟨h.c.next hF.toChg,?_,fun e=>?_,fun _=>hk,fun e=>?_,fun e _=>?_,fun e f=>?_,fun _ f=>?_,h.lt⟩
 ·rw [nG (by decide) (by decide) (by decide)];have:=h.b.from_ hF;unfold lvX at this ⊢;rw [h33] at this ⊢;exact this
 ·rw [fA (by decide)] at e;exact (h.h9 e).from_ hF
 ·rw [fA (by decide)] at e;exact (h.h23 e).from_ hF
 ·rw [fA (by decide)] at e;exact (h.h9 e).fresh
 ·rw [fA (by decide)] at e f;exact h.a2 e f
 ·rw [fA (by decide)] at f;exact (h.h23 f).fresh.symm
theorem LI.mk23 (h:LI w0 T g n s a R x S w1) (h38:S 38=false) (hk:MK w0 w2 n w1.heap.size) (hF:ai w1 w2):LI w0 T g n s a R ⟨x.x,x.m,w1.heap.size⟩ (dL S 23) w2:=by
 refine ⟨h.c.next hF.toChg,?_,fun e=>?_,fun e=>?_,fun _=>hk,fun e f=>?_,fun e _=>?_,fun e _=>?_,h.lt⟩
 ·rw [nG (by decide) (by decide) (by decide)];have:=h.b.from_ hF;unfold lvX at this ⊢;rw [h38] at this ⊢;exact this
 ·rw [fA (by decide)] at e;exact (h.h9 e).from_ hF
 ·rw [fA (by decide)] at e;exact (h.h16 e).from_ hF
 ·rw [fA (by decide)] at e f;exact h.a1 e f
 ·rw [fA (by decide)] at e;exact (h.h9 e).fresh
 ·rw [fA (by decide)] at e;exact (h.h16 e).fresh
theorem MK.only {k:Nat} (h:MK w0 w1 n k) (hO:fc g w1 w2) (hg:g<w0.heap.size):MK w0 w2 n k:=⟨h.1,h.2.only hO (by have:=h.1;omega)⟩
theorem LI.st (h:LI w0 T g n s a R x S w1) (hi:i=28∨i=33∨i=38) (hO:fc g w1 w2) (hb:Blk w2 g T (lvX s a n x (dL S i)++[R]).toArray):LI w0 T g n s a R x (dL S i) w2:=by
 refine ⟨h.c.next (hO.toChg rfl),hb,fun e=>?_,fun e=>?_,fun e=>?_,fun e f=>?_,fun e f=>?_,fun e f=>?_,h.lt⟩
 ·rw [fA (by omega)] at e;exact (h.h9 e).only hO h.lt
 ·rw [fA (by omega)] at e;exact (h.h16 e).only hO h.lt
 ·rw [fA (by omega)] at e;exact (h.h23 e).only hO h.lt
 ·rw [fA (by omega)] at e f;exact h.a1 e f
 ·rw [fA (by omega)] at e f;exact h.a2 e f
 ·rw [fA (by omega)] at e f;exact h.a3 e f
theorem zN {S:Nat→Bool}:(lvX s a n x S++[R]).toArray.setIfInBounds 15 (.slice (some ⟨x.x,0,none⟩) n n)=(lvX s a n x (dL S 28)++[R]).toArray:=by
 unfold lvX;rw [ny,fA (by decide),fA (by decide)];rfl
theorem zL {S:Nat→Bool}:(lvX s a n x S++[R]).toArray.setIfInBounds 16 (.slice (some ⟨x.m,0,none⟩) n n)=(lvX s a n x (dL S 33)++[R]).toArray:=by
 unfold lvX;rw [ny,fA (by decide),fA (by decide)];rfl
theorem zK {S:Nat→Bool}:(lvX s a n x S++[R]).toArray.setIfInBounds 17 (.slice (some ⟨x.s,0,none⟩) n n)=(lvX s a n x (dL S 38)++[R]).toArray:=by
 unfold lvX;rw [ny,fA (by decide),fA (by decide)];rfl
end
theorem qg {w0 w:World} {n k:Nat} (h:MK w0 w n k) (hn:n≤1000):w.ownsRow 0 3 1 (.slice (some ⟨k,0,none⟩) n n) n ((List.replicate n (0:Int)).map iV):=by
 refine sC (Nat.zero_le _) h.2 (Nat.le_refl _) (by unfold maxLen;omega) (by simp) ?_;simp
theorem bw.three {w0 w:World} {g n:Nat} {tag:Nat→Nat} {s:Rf} {a:Ra} {x:G3} (h:bw w0 tag s a) (hC:Chg (fun k=>k=g) w0 w) (hg:tag g=7) (hn:n≤1000) (h1:MK w0 w n x.x) (h2:MK w0 w n x.m) (h3:MK w0 w n x.s) (a1:x.x≠x.m) (a2:x.x≠x.s) (a3:x.m≠x.s) :
 bw w (fun k=>if k<w0.heap.size then tag k else if k=x.x then 2 else if k=x.m then 3 else 4) { s with next:=List.replicate n 0,mtch:=List.replicate n 0,sent:=List.replicate n 0 } { a with X:=some ⟨x.x,0,none⟩,Xc:=n,M:=some ⟨x.m,0,none⟩,Mc:=n,S:=some ⟨x.s,0,none⟩,Sc:=n }:=by
 have hh:=h.chgG hC hg
 have re:∀ {c:Nat} {A:Option Addr},Col tag c A→(∀ k,A.map (·.block)=some k→k<w0.heap.size)→Col (fun k=>if k<w0.heap.size then tag k else if k=x.x then 2 else if k=x.m then 3 else 4) c A:=fun hc hl k hk=>by
  show (if k<w0.heap.size then tag k else _)=_;rw [if_pos (hl k hk)];exact hc k hk
 have l:(List.replicate n (0:Int)).length=n:=List.length_replicate;refine ⟨fun hx=>⟨(hh.e hx).1,re (h.e hx).2 (ej (h.e hx).1)⟩,fun hx=>⟨(hh.v hx).1,re (h.v hx).2 (ej (h.v hx).1)⟩,fun _=>⟨by show World.ownsRow _ _ _ _ (.slice _ (List.replicate n (0:Int)).length _) (List.replicate n (0:Int)).length _;rw [l];exact qg h1 hn,fun k hk=>?_⟩,fun _=>⟨by show World.ownsRow _ _ _ _ (.slice _ (List.replicate n (0:Int)).length _) (List.replicate n (0:Int)).length _;rw [l];exact qg h2 hn,fun k hk=>?_⟩,fun _=>⟨by show World.ownsRow _ _ _ _ (.slice _ (List.replicate n (0:Int)).length _) (List.replicate n (0:Int)).length _;rw [l];exact qg h3 hn,fun k hk=>?_⟩,hh.r,fun hx=>⟨(hh.q hx).1,re (h.q hx).2 (ej (h.q hx).1)⟩,fun i hi hx=>⟨(hh.k i hi hx).1,re (h.k i hi hx).2 (ej (h.k i hi hx).1)⟩⟩
 ·cases hk;have:=h1.1;show (if x.x<w0.heap.size then _ else _)=2;rw [if_neg (by omega),if_pos rfl]
 ·cases hk;have:=h2.1;show (if x.m<w0.heap.size then _ else _)=3;rw [if_neg (by omega),if_neg (Ne.symm a1),if_pos rfl]
 ·cases hk;have:=h3.1;show (if x.s<w0.heap.size then _ else _)=4;rw [if_neg (by omega),if_neg (Ne.symm a2),if_neg (Ne.symm a3)]
theorem a_.three {wa w0 w:World} {Z:Nat→Prop} {T g n oc:Nat} {tag:Nat→Nat} {s:Rf} {out:List Msg} {O:Option Addr} {L:List Msg} {a:Ra} {x:G3} (h:a_ wa Z w0 T g ⟨s,out⟩) (hs:gQ w0 Z T g tag ⟨s,out⟩ a O oc L) (hC:Chg (fun k=>k=g) w0 w) (hn:n≤1000) (h1:MK w0 w n x.x) (h2:MK w0 w n x.m) (h3:MK w0 w n x.s) (a1:x.x≠x.m) (a2:x.x≠x.s) (a3:x.m≠x.s)
 (hb:Blk w g T (rfV { s with next:=List.replicate n 0,mtch:=List.replicate n 0,sent:=List.replicate n 0 } { a with X:=some ⟨x.x,0,none⟩,Xc:=n,M:=some ⟨x.m,0,none⟩,Mc:=n,S:=some ⟨x.s,0,none⟩,Sc:=n }++[Value.slice O L.length oc]).toArray) :
 a_ wa Z w T g ⟨{ s with next:=List.replicate n 0,mtch:=List.replicate n 0,sent:=List.replicate n 0 },out⟩∧∃ tag',gQ w Z T g tag' ⟨{ s with next:=List.replicate n 0,mtch:=List.replicate n 0,sent:=List.replicate n 0 },out⟩ { a with X:=some ⟨x.x,0,none⟩,Xc:=n,M:=some ⟨x.m,0,none⟩,Mc:=n,S:=some ⟨x.s,0,none⟩,Sc:=n } O oc L:=by
 have hm:=hs.m.chgG hC hs.gc;have hz:=h.zw
 have re:∀ {c:Nat} {A:Option Addr},Col tag c A→(∀ k,A.map (·.block)=some k→k<w0.heap.size)→Col (fun k=>if k<w0.heap.size then tag k else if k=x.x then 2 else if k=x.m then 3 else 4) c A:=fun hc hl k hk=>by
  show (if k<w0.heap.size then tag k else _)=_;rw [if_pos (hl k hk)];exact hc k hk
 have h9:gQ w Z T g (fun k=>if k<w0.heap.size then tag k else if k=x.x then 2 else if k=x.m then 3 else 4) ⟨{ s with next:=List.replicate n 0,mtch:=List.replicate n 0,sent:=List.replicate n 0 },out⟩ { a with X:=some ⟨x.x,0,none⟩,Xc:=n,M:=some ⟨x.m,0,none⟩,Mc:=n,S:=some ⟨x.s,0,none⟩,Sc:=n } O oc L:=
  ⟨hb,hs.f.three hC hs.gc hn h1 h2 h3 a1 a2 a3,⟨hm.o,hm.l,fun j hj=>⟨(hm.e j hj).1,re (hm.e j hj).2 (ej (hs.m.e j hj).1)⟩,re hm.c (ej hs.m.o)⟩,(if_pos hs.b.lt).trans hs.gc,fun k hk=>(if_pos (hz k hk)).trans (hs.z k hk)⟩
 refine ⟨⟨⟨_,_,_,_,_,h9⟩,h.zl,h.fr.next (hC.wide fun k hk=>.inl fun hz1=>?_)⟩,_,h9⟩;have:=hs.z k hz1;rw [show k=g from hk,hs.gc] at this;cases this
theorem bw.novotes {w:World} {tag:Nat→Nat} {s:Rf} {a:Ra} (h:bw w tag s a):bw w tag { s with votes:=[] } { a with V:=none,Vc:=0 }:=
 ⟨fun _=>h.e (by decide),fun _=>⟨c6,Col.none⟩,fun _=>h.x (by decide),fun _=>h.m (by decide),fun _=>h.n (by decide),fun _=>h.r (by decide),fun _=>h.q (by decide),fun i hi _=>h.k i hi (by omega)⟩
theorem bw.noreads {w:World} {tag:Nat→Nat} {s:Rf} {a:Ra} (h:bw w tag s a):bw w tag { s with reads:=[] } { a with Q:=none,Qc:=0,L:=[] }:=
 ⟨fun _=>h.e (by decide),fun _=>h.v (by decide),fun _=>h.x (by decide),fun _=>h.m (by decide),fun _=>h.n (by decide),fun _=>rfl,fun _=>⟨c6,Col.none⟩,fun i hi _=>absurd hi (Nat.not_lt_zero _)⟩
def iF (n i:Nat) (v:Int):List Int:=List.replicate i v++List.replicate (n-i) 0
theorem rm {n i:Nat} {v:Int} (h:i≤n):(iF n i v).length=n:=by unfold iF;rw [List.length_append,List.length_replicate,List.length_replicate];omega
theorem vH {n i:Nat} {v:Int} (h:i<n):(iF n i v).set i v=iF n (i+1) v:=by
 unfold iF;rw [List.set_append_right _ _ (by rw [List.length_replicate];exact Nat.le_refl _),List.length_replicate,Nat.sub_self,show n-i=(n-(i+1))+1 by omega,List.replicate_succ,List.set_cons_zero,List.replicate_succ',List.append_assoc];rfl
theorem vI {n:Nat} {v:Int}:iF n 0 v=List.replicate n 0:=by unfold iF;rw [Nat.sub_zero];rfl
theorem yZ {n:Nat} {v:Int}:iF n n v=List.replicate n v:=by unfold iF;rw [Nat.sub_self];simp
theorem xZ (w0:World) (Z:Nat→Prop) (T g:Nat) (p:Sp) (w:World) (h:a_ w0 Z w T g p) (hF:RfF p.s) (hl:p.out.length≤700) :
 Rt prog 161 [.pointer (some ⟨g,0,none⟩)] w (fun v w'=>v=.tuple #[]∧a_ w0 Z w' T g (lZ p)):=by
 obtain ⟨s,out⟩:=p;obtain ⟨tag,a,O,oc,L,hs⟩:=h.ex;obtain ⟨E,Ec,V,Vc,X,Xc,M,Mc,Sn,Sc,Q,Qc,LL⟩:=a;have hb:Blk w g T (rfV s (⟨E,Ec,V,Vc,X,Xc,M,Mc,Sn,Sc,Q,Qc,LL⟩:Ra)++[Value.slice O L.length oc]).toArray:=hs.b
 have hll:L.length=out.length:=by
  have h9:=congrArg List.length hs.m.l;rw [List.length_map] at h9;exact h9
 have hF:RfF s:=hF;have hl:out.length≤700:=hl;have hB0:ai w w:=ai.rfl_;have hbl:=hF.last;have hlb:dP s.b s.es=bH s:=rfl;have he:cF w (.slice E s.es.length Ec) s.es:=hs.f.rd.e;have hnn:=hF.n;have hid:=hF.i;have hzw:=h.zw;obtain ⟨n,hn0⟩:∃ n,n=s.nodes.toNat:=⟨_,rfl⟩;have hn:s.nodes=((n:Nat):Int):=by omega
 refine enter (n:=124) Tryz.func161 rfl rfl rfl (ak (ak (ag (mvp rfl (ab (ay rfl) (ab (aa aN rfl) (aB tu (x_ T g s _ _ _ (hb.from_ ai.rfl_) (he.from_ ai.rfl_) hF.lg) ?_)))))));rintro v8 w1 ⟨rfl,E8⟩;refine aj (af (aU rfl (fun Q2=>?_) (fun Q2=>?_)))
 ·have h8t:il s=true:=Q2;refine ak ?_;apply nK [(0,9,fun _ v _=>v=_),(1,10,fun _ v _=>v=_),(2,11,fun _ v _=>v=_),(3,12,fun _ v _=>v=_),(4,13,fun _ v _=>v=_),(5,14,fun _ v _=>v=_),(6,15,fun _ v _=>v=_),(7,16,fun _ v _=>v=_),(8,17,fun _ v _=>v=_),(9,18,fun _ v _=>v=_)] [9] (fun S w'=>(S 9=false→ai w1 w')∧(S 9=true→a_ w0 Z w' T g ⟨bC s s.term,out⟩)) (by kernel_rfl) (by kernel_rfl) rfl rfl ⟨fun _ _ _ _ _ _ _ h=>h,fun _ _ _ _ _ _ _ h=>h,fun _ _ _ _ _ _ _ h=>h,fun _ _ _ _ _ _ _ h=>h,fun _ _ _ _ _ _ _ h=>h,fun _ _ _ _ _ _ _ h=>h,fun _ _ _ _ _ _ _ h=>h,fun _ _ _ _ _ _ _ h=>h,fun _ _ _ _ _ _ _ h=>h,fun _ _ _ _ _ _ _ h=>h,trivial⟩ (fun S i w1 w2 hq hF h=>⟨fun h0=>(h.1 (o3 h0)).next hF,fun h1=>(fun h=>h.from_ hF) (h.2 (o1 (show 9≠i by rintro rfl;exact absurd hq (by decide)) h1))⟩) ⟨fun _=>ai.rfl_.d1,fun h=>by cases h⟩
  case hstep=>
   constructor
   ·rintro S L' w3 hU hmo hme hI hM hC hS ⟨-⟩;have hS0:S 9=false:=(au hC (j:=9) rfl (by kernel_rfl) (au hC (j:=2) rfl (by kernel_rfl) (au hC (j:=1) rfl (by kernel_rfl) hS)));have hM3:=hM.1 hS0;have e0:=hI.1 0 (fM rfl);exact bf [(0,_)] hU hmo hme hI hM (.head _) rfl rfl (by kernel_rfl) ⟨e0,trivial⟩ (aH (v:=.pointer _) rfl) ai.rfl_ (rfl)
   constructor
   ·rintro S L' w4 hU hmo hme hI hM hC hS ⟨d0,-⟩;have hS0:S 9=false:=(au hC (j:=9) rfl (by kernel_rfl) (au hC (j:=2) rfl (by kernel_rfl) hS));have hM4:=hM.1 hS0;obtain ⟨v4_9,e9,h9⟩:=hI.get (i:=0) (.head _) d0;obtain rfl:=h9;exact bf [(9,_)] hU hmo hme hI hM (.tail _ (.head _)) rfl rfl (by kernel_rfl) ⟨e9,trivial⟩ (ay rfl) ai.rfl_ (rfl)
   constructor
   ·rintro S L' w5 hU hmo hme hI hM hC hS ⟨d1,-⟩;have hS0:S 9=false:=(au hC (j:=9) rfl (by kernel_rfl) hS);have hM5:=hM.1 hS0;obtain ⟨v5_10,e10,h10⟩:=hI.get (i:=1) (.tail _ (.head _)) d1;obtain rfl:=h10;exact bf [(10,_)] hU hmo hme hI hM (gM 2 rfl) rfl rfl (by kernel_rfl) ⟨e10,trivial⟩ (aa aN rfl) ai.rfl_ (rfl)
   constructor
   ·rintro S L' w6 hU hmo hme hI hM hC hS ⟨-⟩;have hS0:S 9=false:=(au hC (j:=9) rfl (by kernel_rfl) (au hC (j:=8) rfl (by kernel_rfl) (au hC (j:=7) rfl (by kernel_rfl) (au hC (j:=6) rfl (by kernel_rfl) (au hC (j:=5) rfl (by kernel_rfl) (au hC (j:=4) rfl (by kernel_rfl) hS))))));have hM6:=hM.1 hS0;have e0:=hI.1 0 (fM rfl);exact bf [(0,_)] hU hmo hme hI hM (gM 3 rfl) rfl rfl (by kernel_rfl) ⟨e0,trivial⟩ (aH (v:=.pointer _) rfl) ai.rfl_ (rfl)
   constructor
   ·rintro S L' w7 hU hmo hme hI hM hC hS ⟨d3,-⟩;have hS0:S 9=false:=(au hC (j:=9) rfl (by kernel_rfl) (au hC (j:=8) rfl (by kernel_rfl) (au hC (j:=7) rfl (by kernel_rfl) (au hC (j:=6) rfl (by kernel_rfl) (au hC (j:=5) rfl (by kernel_rfl) hS)))));have hM7:=hM.1 hS0;obtain ⟨v7_12,e12,h12⟩:=hI.get (i:=3) (gM 3 rfl) d3;obtain rfl:=h12;exact bf [(12,_)] hU hmo hme hI hM (gM 4 rfl) rfl rfl (by kernel_rfl) ⟨e12,trivial⟩ (ay rfl) ai.rfl_ (rfl)
   constructor
   ·rintro S L' w8 hU hmo hme hI hM hC hS ⟨d4,-⟩;have hS0:S 9=false:=(au hC (j:=9) rfl (by kernel_rfl) (au hC (j:=8) rfl (by kernel_rfl) (au hC (j:=7) rfl (by kernel_rfl) (au hC (j:=6) rfl (by kernel_rfl) hS))));have hM8:=hM.1 hS0;obtain ⟨v8_13,e13,h13⟩:=hI.get (i:=4) (gM 4 rfl) d4;obtain rfl:=h13;exact bf [(13,_)] hU hmo hme hI hM (gM 5 rfl) rfl rfl (by kernel_rfl) ⟨e13,trivial⟩ (aa aN rfl) ai.rfl_ (rfl)
   constructor
   ·rintro S L' w9 hU hmo hme hI hM hC hS ⟨d5,-⟩;have hS0:S 9=false:=(au hC (j:=9) rfl (by kernel_rfl) (au hC (j:=8) rfl (by kernel_rfl) (au hC (j:=7) rfl (by kernel_rfl) hS)));have hM9:=hM.1 hS0;obtain ⟨v9_14,e14,h14⟩:=hI.get (i:=5) (gM 5 rfl) d5;obtain rfl:=h14;exact bf [(14,_)] hU hmo hme hI hM (gM 6 rfl) rfl rfl (by kernel_rfl) ⟨e14,trivial⟩ (aa aE rfl) ai.rfl_ (rfl)
   constructor
   ·rintro S L' w10 hU hmo hme hI hM hC hS ⟨d6,-⟩;have hS0:S 9=false:=(au hC (j:=9) rfl (by kernel_rfl) (au hC (j:=8) rfl (by kernel_rfl) hS));have hM10:=hM.1 hS0;obtain ⟨v10_15,e15,h15⟩:=hI.get (i:=6) (gM 6 rfl) d6;obtain rfl:=h15;exact bf [(15,_)] hU hmo hme hI hM (gM 7 rfl) rfl rfl (by kernel_rfl) ⟨e15,trivial⟩ (aa bt rfl) ai.rfl_ (rfl)
   constructor
   ·rintro S L' w11 hU hmo hme hI hM hC hS ⟨d7,-⟩;have hS0:S 9=false:=(au hC (j:=9) rfl (by kernel_rfl) hS);have hM11:=hM.1 hS0;obtain ⟨v11_16,e16,h16⟩:=hI.get (i:=7) (gM 7 rfl) d7;obtain rfl:=h16;exact bf [(16,_)] hU hmo hme hI hM (gM 8 rfl) rfl rfl (by kernel_rfl) ⟨e16,trivial⟩ (aq an rfl (by exact (show _=some (Value.int .i64 s.term) from dO (hb.from_ ((ai.rfl_.next E8).next hM11)) 3 rfl))) ai.rfl_ (rfl)
   constructor
   ·rintro S L' w12 hU hmo hme hI hM hC hS ⟨d2,d8,-⟩;have hS0:S 9=false:=hS;have hM12:=hM.1 hS0;obtain ⟨v12_11,e11,h11⟩:=hI.get (i:=2) (gM 2 rfl) d2;obtain rfl:=h11;obtain ⟨v12_17,e17,h17⟩:=hI.get (i:=8) (gM 8 rfl) d8;obtain rfl:=h17;refine jZ (al:=[.tmp 11,.tmp 17]) [(11,_),(17,_)] hU hI (gM 9 rfl) (by kernel_rfl) ⟨e11,e17,trivial⟩ oU ((pQ w0 Z T g ⟨s,out⟩ _ (h.from_ ((ai.rfl_.next E8).next hM12)) s.term).mono ?_);rintro v9 w2 ⟨rfl,hS2⟩;exact ⟨⟨fun h0=>(by rw [ny] at h0;cases h0),fun _=>hS2⟩,rfl,⟨fun _ _ _ h=>h,fun _ _ _ h=>h,fun _ _ _ h=>h,fun _ _ _ h=>h,fun _ _ _ h=>h,fun _ _ _ h=>h,fun _ _ _ h=>h,fun _ _ _ h=>h,fun _ _ _ h=>h,fun _ _ _ h=>h,trivial⟩⟩
   exact trivial
  case hend=>
   intro w13 hM;obtain hS9:=hM.2 rfl;rintro v13_9 rfl v13_10 rfl v13_11 rfl v13_12 rfl v13_13 rfl v13_14 rfl v13_15 rfl v13_16 rfl v13_17 rfl v13_18 rfl;refine jd (af (aC (az (ey rfl ?_))));unfold lZ
   first
    |(rw [if_pos h8t];exact ⟨rfl,hS9.from_ ai.rfl_⟩)
    |(rw [if_neg (by show ¬ il s=true;rw [h8];decide)]
      refine ⟨rfl,?_⟩;show a_ w0 Z _ T g ⟨dE (Sp.all ⟨fy (eE s) ⟨#[]⟩,out⟩).s,(Sp.all ⟨fy (eE s) ⟨#[]⟩,out⟩).out⟩;rw [show (Sp.all ⟨fy (eE s) ⟨#[]⟩,out⟩).s=fy (eE s) ⟨#[]⟩ by rw [mP]];exact h12.from_ (ai.rfl_ (a:=w1)))
 have h8:il s=false:=by simpa using Q2
 refine aM (af (ak (ag (mvp rfl (ab (ay rfl) (ab (aa aN rfl) (aB gK (kF T g s _ _ _ (hb.from_ (ai.rfl_.next E8)) (he.from_ (ai.rfl_.next E8)) hF.lg) ?_)))))));rintro v23 w14 ⟨rfl,E23⟩;refine mvt rfl (ab (aY rfl rfl) (ab (aY rfl rfl) (asi rfl (asi rfl (aj (af (ak (ag (mvp rfl (mvp rfl (mvp rfl ?_)))))))))));refine mvp rfl (mvp rfl (ab (ay rfl) (ab (aa aN rfl) (ab (aa aE rfl) (ab (aa cM rfl) (ab (aq an rfl (by exact (show _=some (Value.int .i64 s.id) from dO (hb.from_ ((ai.rfl_.next E8).next E23)) 0 rfl))) ?_))))));refine ab (ay rfl) (ab (aa aN rfl) (ab (aa aE rfl) (ab (aa du rfl) ?_)));have hB0:ai w w14:=((ai.rfl_.next E8).next E23);refine cW (s':=({ s with role:=2 }:Rf)) (a':=(⟨E,Ec,V,Vc,X,Xc,M,Mc,Sn,Sc,Q,Qc,LL⟩:Ra)) (v:=.int _ _) aS rfl rfl rfl ((hb.from_ ((ai.rfl_.next E8).next E23))) (by exact ⟨by decide,rfl⟩) ?_;intro w15 O3_0 P3_0;have hC1:Chg (fun k=>k=g) w w15:=(ai.toChg hB0).only O3_0 rfl;refine ab (ay rfl) (ab (aa aN rfl) (ab (aa aE rfl) (ab (aa eQ rfl) (cW (s':=({ s with role:=2,leader:=s.id }:Rf)) (a':=(⟨E,Ec,V,Vc,X,Xc,M,Mc,Sn,Sc,Q,Qc,LL⟩:Ra)) (v:=.int _ _) aS rfl rfl rfl (P3_0) (by exact ⟨by decide,rfl⟩) ?_))));intro w16 O3_1 P3_1;replace hC1:=hC1.only O3_1 rfl;refine ab (ay rfl) (ab (aa aN rfl) (ab (aa aE rfl) (ab (aa di rfl) (cW (s':=({ s with role:=2,leader:=s.id,votes:=[] }:Rf)) (a':=(⟨E,Ec,none,0,X,Xc,M,Mc,Sn,Sc,Q,Qc,LL⟩:Ra)) (v:=.slice _ _ _) df rfl rfl rfl (P3_1) (by exact ⟨by decide,rfl⟩) ?_))));intro w17 O3_2 P3_2;replace hC1:=hC1.only O3_2 rfl;refine ab (ay rfl) (ab (aa aN rfl) (ab (aa aE rfl) (ab (aa c_ rfl) (cW (s':=({ s with role:=2,leader:=s.id,votes:=[],elapsed:=0 }:Rf)) (a':=(⟨E,Ec,none,0,X,Xc,M,Mc,Sn,Sc,Q,Qc,LL⟩:Ra)) (v:=.int _ _) aS rfl rfl rfl (P3_2) (by exact ⟨by decide,rfl⟩) ?_))));intro w18 O3_3 P3_3;replace hC1:=hC1.only O3_3 rfl;obtain ⟨hs3,h3⟩:=h.set (s':=({ s with role:=2,leader:=s.id,votes:=[],elapsed:=0 }:Rf)) (a':=(⟨E,Ec,none,0,X,Xc,M,Mc,Sn,Sc,Q,Qc,LL⟩:Ra)) hs hC1 (bw.same hs.f.novotes rfl rfl rfl rfl rfl rfl) P3_3;refine aj (af (ak (wT (X:=G3) [(0,52,fun x=>.pointer (some ⟨g,0,none⟩)),(1,53,fun x=>.pointer (some ⟨g,0,none⟩)),(2,54,fun x=>.pointer (some ⟨g,0,none⟩)),(3,55,fun x=>.pointer (some ⟨g,0,none⟩)),(4,56,fun x=>.pointer (some ⟨g,0,none⟩)),(5,57,fun x=>.pointer (some ⟨g,0+0,none⟩)),(6,58,fun x=>.pointer (some ⟨g,0+0+0,none⟩)),(7,59,fun x=>.pointer (some ⟨g,0+0+0+1,none⟩)),(8,60,fun x=>.int .i64 (n:Nat)),(9,61,fun x=>.slice (some ⟨x.x,0,none⟩) n n),(10,62,fun x=>.pointer (some ⟨g,0,none⟩)),(11,63,fun x=>.pointer (some ⟨g,0,none⟩)),(12,64,fun x=>.pointer (some ⟨g,0+0,none⟩)),(13,65,fun x=>.pointer (some ⟨g,0+0+0,none⟩)),(14,66,fun x=>.pointer (some ⟨g,0+0+0+1,none⟩)),(15,67,fun x=>.int .i64 (n:Nat)),(16,68,fun x=>.slice (some ⟨x.m,0,none⟩) n n),(17,69,fun x=>.pointer (some ⟨g,0,none⟩)),(18,70,fun x=>.pointer (some ⟨g,0,none⟩)),(19,71,fun x=>.pointer (some ⟨g,0+0,none⟩)),(20,72,fun x=>.pointer (some ⟨g,0+0+0,none⟩)),(21,73,fun x=>.pointer (some ⟨g,0+0+0+1,none⟩)),(22,74,fun x=>.int .i64 (n:Nat)),(23,75,fun x=>.slice (some ⟨x.s,0,none⟩) n n),(24,76,fun x=>.pointer (some ⟨g,0,none⟩)),(25,77,fun x=>.pointer (some ⟨g,0+0,none⟩)),(26,78,fun x=>.pointer (some ⟨g,0+0+0,none⟩)),(27,79,fun x=>.pointer (some ⟨g,0+0+0+15,none⟩)),(29,80,fun x=>.pointer (some ⟨g,0,none⟩)),(30,81,fun x=>.pointer (some ⟨g,0+0,none⟩)),(31,82,fun x=>.pointer (some ⟨g,0+0+0,none⟩)),(32,83,fun x=>.pointer (some ⟨g,0+0+0+16,none⟩)),(34,84,fun x=>.pointer (some ⟨g,0,none⟩)),(35,85,fun x=>.pointer (some ⟨g,0+0,none⟩)),(36,86,fun x=>.pointer (some ⟨g,0+0+0,none⟩)),(37,87,fun x=>.pointer (some ⟨g,0+0+0+17,none⟩))] [9,16,23,28,33,38] (fun x S w'=>LI w18 T g n ({ s with role:=2,leader:=s.id,votes:=[],elapsed:=0 }:Rf) (⟨E,Ec,none,0,X,Xc,M,Mc,Sn,Sc,Q,Qc,LL⟩:Ra) (Value.slice O L.length oc) x S w') (by kernel_rfl) (by kernel_rfl) rfl rfl (fun x S i w1 w2 hq hF h=>LI.rd h hq hF) (⟨⟨0,0,0⟩,⟨ai.rfl_.d1.toChg,(hs3.b.from_ ((ai.rfl_).d1)),fun h=>(by cases h),fun h=>(by cases h),fun h=>(by cases h),fun h=>(by cases h),fun h=>(by cases h),fun h=>(by cases h),(hs3.b.from_ ai.rfl_).lt⟩⟩) ?_ ?_)))
 ·constructor
  ·rintro S L' w19 x hU hme hI hM hC hS ⟨-⟩;have hM':=hM;obtain ⟨hc19,hb19,u919,u1619,u2319,q119,q219,q319,lt19⟩:=hM';have e0:=InvX.out hI (t:=0) rfl;exact cS [(0,_)] x hU hI (.head _) rfl (by kernel_rfl) ⟨e0,trivial⟩ (aH (v:=.pointer _) rfl) c8 (hme _ _ _ _ _ rfl ai.rfl_ hM)
  constructor
  ·rintro S L' w20 x hU hme hI hM hC hS ⟨-,-⟩;have hM':=hM;obtain ⟨hc20,hb20,u920,u1620,u2320,q120,q220,q320,lt20⟩:=hM';have e0:=InvX.out hI (t:=0) rfl;exact cS [(0,_)] x hU hI (.tail _ (.head _)) rfl (by kernel_rfl) ⟨e0,trivial⟩ (aH (v:=.pointer _) rfl) c8 (hme _ _ _ _ _ rfl ai.rfl_ hM)
  constructor
  ·rintro S L' w21 x hU hme hI hM hC hS ⟨-,-⟩;have hM':=hM;obtain ⟨hc21,hb21,u921,u1621,u2321,q121,q221,q321,lt21⟩:=hM';have e0:=InvX.out hI (t:=0) rfl;exact cS [(0,_)] x hU hI (gM 2 rfl) rfl (by kernel_rfl) ⟨e0,trivial⟩ (aH (v:=.pointer _) rfl) c8 (hme _ _ _ _ _ rfl ai.rfl_ hM)
  constructor
  ·rintro S L' w22 x hU hme hI hM hC hS ⟨-⟩;have hM':=hM;obtain ⟨hc22,hb22,u922,u1622,u2322,q122,q222,q322,lt22⟩:=hM';have e0:=InvX.out hI (t:=0) rfl;exact cS [(0,_)] x hU hI (gM 3 rfl) rfl (by kernel_rfl) ⟨e0,trivial⟩ (aH (v:=.pointer _) rfl) c8 (hme _ _ _ _ _ rfl ai.rfl_ hM)
  constructor
  ·rintro S L' w23 x hU hme hI hM hC hS ⟨d3,-⟩;have hM':=hM;obtain ⟨hc23,hb23,u923,u1623,u2323,q123,q223,q323,lt23⟩:=hM';have e55:=InvX.get hI (i:=3) (gM 3 rfl) d3;exact cS [(55,_)] x hU hI (gM 4 rfl) rfl (by kernel_rfl) ⟨e55,trivial⟩ (ay rfl) c8 (hme _ _ _ _ _ rfl ai.rfl_ hM)
  constructor
  ·rintro S L' w24 x hU hme hI hM hC hS ⟨d4,-⟩;have hM':=hM;obtain ⟨hc24,hb24,u924,u1624,u2324,q124,q224,q324,lt24⟩:=hM';have e56:=InvX.get hI (i:=4) (gM 4 rfl) d4;exact cS [(56,_)] x hU hI (gM 5 rfl) rfl (by kernel_rfl) ⟨e56,trivial⟩ (aa aN rfl) c8 (hme _ _ _ _ _ rfl ai.rfl_ hM)
  constructor
  ·rintro S L' w25 x hU hme hI hM hC hS ⟨d5,-⟩;have hM':=hM;obtain ⟨hc25,hb25,u925,u1625,u2325,q125,q225,q325,lt25⟩:=hM';have e57:=InvX.get hI (i:=5) (gM 5 rfl) d5;exact cS [(57,_)] x hU hI (gM 6 rfl) rfl (by kernel_rfl) ⟨e57,trivial⟩ (aa aE rfl) c8 (hme _ _ _ _ _ rfl ai.rfl_ hM)
  constructor
  ·rintro S L' w26 x hU hme hI hM hC hS ⟨d6,-⟩;have hM':=hM;obtain ⟨hc26,hb26,u926,u1626,u2326,q126,q226,q326,lt26⟩:=hM';have e58:=InvX.get hI (i:=6) (gM 6 rfl) d6;exact cS [(58,_)] x hU hI (gM 7 rfl) rfl (by kernel_rfl) ⟨e58,trivial⟩ (aa bX rfl) c8 (hme _ _ _ _ _ rfl ai.rfl_ hM)
  constructor
  ·rintro S L' w27 x hU hme hI hM hC hS ⟨d7,-⟩;have hM':=hM;obtain ⟨hc27,hb27,u927,u1627,u2327,q127,q227,q327,lt27⟩:=hM';have e59:=InvX.get hI (i:=7) (gM 7 rfl) d7;exact cS [(59,_)] x hU hI (gM 8 rfl) rfl (by kernel_rfl) ⟨e59,trivial⟩ (iD (aq an rfl (show _=some (Value.int .i64 s.nodes) from hM.b.rd 1 rfl)) (bT hn)) c8 (hme _ _ _ _ _ rfl ai.rfl_ hM)
  constructor
  ·rintro S L' w28 x hU hme hI hM hC hS ⟨d8,d8,-⟩;have hM':=hM;obtain ⟨hc28,hb28,u928,u1628,u2328,q128,q228,q328,lt28⟩:=hM';have e60:=InvX.get hI (i:=8) (gM 8 rfl) d8;have h28:S 28=false:=au hC (j:=28) rfl (by kernel_rfl) hS;exact cS [(60,_)] ⟨w28.heap.size,x.m,x.s⟩ hU hI (gM 9 rfl) rfl (by kernel_rfl) ⟨e60,trivial⟩ (sB lK rfl rfl rfl (by omega) (by omega)) ⟨fun _=>rfl,fun _=>rfl,fun _=>rfl,fun _=>rfl,fun _=>rfl,fun _=>rfl,fun _=>rfl,fun _=>rfl,fun _=>rfl,fun h=>(by rw [hS] at h;cases h),fun _=>rfl,fun _=>rfl,fun _=>rfl,fun _=>rfl,fun _=>rfl,fun _=>rfl,fun _=>rfl,fun _=>rfl,fun _=>rfl,fun _=>rfl,fun _=>rfl,fun _=>rfl,fun _=>rfl,fun _=>rfl,fun _=>rfl,fun _=>rfl,fun _=>rfl,fun _=>rfl,fun _=>rfl,fun _=>rfl,fun _=>rfl,fun _=>rfl,fun _=>rfl,fun _=>rfl,fun _=>rfl,fun _=>rfl,trivial⟩ (LI.mk9 hM h28 ⟨hM.c.size,Blk.new _ _ _⟩ (ai.rfl_.new _))
  constructor
  ·rintro S L' w29 x hU hme hI hM hC hS ⟨-⟩;have hM':=hM;obtain ⟨hc29,hb29,u929,u1629,u2329,q129,q229,q329,lt29⟩:=hM';have e0:=InvX.out hI (t:=0) rfl;exact cS [(0,_)] x hU hI (gM 10 rfl) rfl (by kernel_rfl) ⟨e0,trivial⟩ (aH (v:=.pointer _) rfl) c8 (hme _ _ _ _ _ rfl ai.rfl_ hM)
  constructor
  ·rintro S L' w30 x hU hme hI hM hC hS ⟨d10,-⟩;have hM':=hM;obtain ⟨hc30,hb30,u930,u1630,u2330,q130,q230,q330,lt30⟩:=hM';have e62:=InvX.get hI (i:=10) (gM 10 rfl) d10;exact cS [(62,_)] x hU hI (gM 11 rfl) rfl (by kernel_rfl) ⟨e62,trivial⟩ (ay rfl) c8 (hme _ _ _ _ _ rfl ai.rfl_ hM)
  constructor
  ·rintro S L' w31 x hU hme hI hM hC hS ⟨d11,-⟩;have hM':=hM;obtain ⟨hc31,hb31,u931,u1631,u2331,q131,q231,q331,lt31⟩:=hM';have e63:=InvX.get hI (i:=11) (gM 11 rfl) d11;exact cS [(63,_)] x hU hI (gM 12 rfl) rfl (by kernel_rfl) ⟨e63,trivial⟩ (aa aN rfl) c8 (hme _ _ _ _ _ rfl ai.rfl_ hM)
  constructor
  ·rintro S L' w32 x hU hme hI hM hC hS ⟨d12,-⟩;have hM':=hM;obtain ⟨hc32,hb32,u932,u1632,u2332,q132,q232,q332,lt32⟩:=hM';have e64:=InvX.get hI (i:=12) (gM 12 rfl) d12;exact cS [(64,_)] x hU hI (gM 13 rfl) rfl (by kernel_rfl) ⟨e64,trivial⟩ (aa aE rfl) c8 (hme _ _ _ _ _ rfl ai.rfl_ hM)
  constructor
  ·rintro S L' w33 x hU hme hI hM hC hS ⟨d13,-⟩;have hM':=hM;obtain ⟨hc33,hb33,u933,u1633,u2333,q133,q233,q333,lt33⟩:=hM';have e65:=InvX.get hI (i:=13) (gM 13 rfl) d13;exact cS [(65,_)] x hU hI (gM 14 rfl) rfl (by kernel_rfl) ⟨e65,trivial⟩ (aa bX rfl) c8 (hme _ _ _ _ _ rfl ai.rfl_ hM)
  constructor
  ·rintro S L' w34 x hU hme hI hM hC hS ⟨d14,-⟩;have hM':=hM;obtain ⟨hc34,hb34,u934,u1634,u2334,q134,q234,q334,lt34⟩:=hM';have e66:=InvX.get hI (i:=14) (gM 14 rfl) d14;exact cS [(66,_)] x hU hI (gM 15 rfl) rfl (by kernel_rfl) ⟨e66,trivial⟩ (iD (aq an rfl (show _=some (Value.int .i64 s.nodes) from hM.b.rd 1 rfl)) (bT hn)) c8 (hme _ _ _ _ _ rfl ai.rfl_ hM)
  constructor
  ·rintro S L' w35 x hU hme hI hM hC hS ⟨d15,d15,-⟩;have hM':=hM;obtain ⟨hc35,hb35,u935,u1635,u2335,q135,q235,q335,lt35⟩:=hM';have e67:=InvX.get hI (i:=15) (gM 15 rfl) d15;have h28:S 33=false:=au hC (j:=33) rfl (by kernel_rfl) hS;exact cS [(67,_)] ⟨x.x,w35.heap.size,x.s⟩ hU hI (gM 16 rfl) rfl (by kernel_rfl) ⟨e67,trivial⟩ (sB lK rfl rfl rfl (by omega) (by omega)) ⟨fun _=>rfl,fun _=>rfl,fun _=>rfl,fun _=>rfl,fun _=>rfl,fun _=>rfl,fun _=>rfl,fun _=>rfl,fun _=>rfl,fun _=>rfl,fun _=>rfl,fun _=>rfl,fun _=>rfl,fun _=>rfl,fun _=>rfl,fun _=>rfl,fun h=>(by rw [hS] at h;cases h),fun _=>rfl,fun _=>rfl,fun _=>rfl,fun _=>rfl,fun _=>rfl,fun _=>rfl,fun _=>rfl,fun _=>rfl,fun _=>rfl,fun _=>rfl,fun _=>rfl,fun _=>rfl,fun _=>rfl,fun _=>rfl,fun _=>rfl,fun _=>rfl,fun _=>rfl,fun _=>rfl,fun _=>rfl,trivial⟩ (LI.mk16 hM h28 ⟨hM.c.size,Blk.new _ _ _⟩ (ai.rfl_.new _))
  constructor
  ·rintro S L' w36 x hU hme hI hM hC hS ⟨-⟩;have hM':=hM;obtain ⟨hc36,hb36,u936,u1636,u2336,q136,q236,q336,lt36⟩:=hM';have e0:=InvX.out hI (t:=0) rfl;exact cS [(0,_)] x hU hI (gM 17 rfl) rfl (by kernel_rfl) ⟨e0,trivial⟩ (aH (v:=.pointer _) rfl) c8 (hme _ _ _ _ _ rfl ai.rfl_ hM)
  constructor
  ·rintro S L' w37 x hU hme hI hM hC hS ⟨d17,-⟩;have hM':=hM;obtain ⟨hc37,hb37,u937,u1637,u2337,q137,q237,q337,lt37⟩:=hM';have e69:=InvX.get hI (i:=17) (gM 17 rfl) d17;exact cS [(69,_)] x hU hI (gM 18 rfl) rfl (by kernel_rfl) ⟨e69,trivial⟩ (ay rfl) c8 (hme _ _ _ _ _ rfl ai.rfl_ hM)
  constructor
  ·rintro S L' w38 x hU hme hI hM hC hS ⟨d18,-⟩;have hM':=hM;obtain ⟨hc38,hb38,u938,u1638,u2338,q138,q238,q338,lt38⟩:=hM';have e70:=InvX.get hI (i:=18) (gM 18 rfl) d18;exact cS [(70,_)] x hU hI (gM 19 rfl) rfl (by kernel_rfl) ⟨e70,trivial⟩ (aa aN rfl) c8 (hme _ _ _ _ _ rfl ai.rfl_ hM)
  constructor
  ·rintro S L' w39 x hU hme hI hM hC hS ⟨d19,-⟩;have hM':=hM;obtain ⟨hc39,hb39,u939,u1639,u2339,q139,q239,q339,lt39⟩:=hM';have e71:=InvX.get hI (i:=19) (gM 19 rfl) d19;exact cS [(71,_)] x hU hI (gM 20 rfl) rfl (by kernel_rfl) ⟨e71,trivial⟩ (aa aE rfl) c8 (hme _ _ _ _ _ rfl ai.rfl_ hM)
  constructor
  ·rintro S L' w40 x hU hme hI hM hC hS ⟨d20,-⟩;have hM':=hM;obtain ⟨hc40,hb40,u940,u1640,u2340,q140,q240,q340,lt40⟩:=hM';have e72:=InvX.get hI (i:=20) (gM 20 rfl) d20;exact cS [(72,_)] x hU hI (gM 21 rfl) rfl (by kernel_rfl) ⟨e72,trivial⟩ (aa bX rfl) c8 (hme _ _ _ _ _ rfl ai.rfl_ hM)
  constructor
  ·rintro S L' w41 x hU hme hI hM hC hS ⟨d21,-⟩;have hM':=hM;obtain ⟨hc41,hb41,u941,u1641,u2341,q141,q241,q341,lt41⟩:=hM';have e73:=InvX.get hI (i:=21) (gM 21 rfl) d21;exact cS [(73,_)] x hU hI (gM 22 rfl) rfl (by kernel_rfl) ⟨e73,trivial⟩ (iD (aq an rfl (show _=some (Value.int .i64 s.nodes) from hM.b.rd 1 rfl)) (bT hn)) c8 (hme _ _ _ _ _ rfl ai.rfl_ hM)
  constructor
  ·rintro S L' w42 x hU hme hI hM hC hS ⟨d22,d22,-⟩;have hM':=hM;obtain ⟨hc42,hb42,u942,u1642,u2342,q142,q242,q342,lt42⟩:=hM';have e74:=InvX.get hI (i:=22) (gM 22 rfl) d22;have h28:S 38=false:=au hC (j:=38) rfl (by kernel_rfl) hS;exact cS [(74,_)] ⟨x.x,x.m,w42.heap.size⟩ hU hI (gM 23 rfl) rfl (by kernel_rfl) ⟨e74,trivial⟩ (sB lK rfl rfl rfl (by omega) (by omega)) ⟨fun _=>rfl,fun _=>rfl,fun _=>rfl,fun _=>rfl,fun _=>rfl,fun _=>rfl,fun _=>rfl,fun _=>rfl,fun _=>rfl,fun _=>rfl,fun _=>rfl,fun _=>rfl,fun _=>rfl,fun _=>rfl,fun _=>rfl,fun _=>rfl,fun _=>rfl,fun _=>rfl,fun _=>rfl,fun _=>rfl,fun _=>rfl,fun _=>rfl,fun _=>rfl,fun h=>(by rw [hS] at h;cases h),fun _=>rfl,fun _=>rfl,fun _=>rfl,fun _=>rfl,fun _=>rfl,fun _=>rfl,fun _=>rfl,fun _=>rfl,fun _=>rfl,fun _=>rfl,fun _=>rfl,fun _=>rfl,trivial⟩ (LI.mk23 hM h28 ⟨hM.c.size,Blk.new _ _ _⟩ (ai.rfl_.new _))
  constructor
  ·rintro S L' w43 x hU hme hI hM hC hS ⟨d0,d0,-,-,d3,d4,d5,d6,d7,d8,d9,-,-,-,-,-,d15,-,-,-,-,-,-,d22,-,-⟩;have hM':=hM;obtain ⟨hc43,hb43,u943,u1643,u2343,q143,q243,q343,lt43⟩:=hM';have e52:=InvX.get hI (i:=0) (.head _) d0;exact cS [(52,_)] x hU hI (gM 24 rfl) rfl (by kernel_rfl) ⟨e52,trivial⟩ (ay rfl) c8 (hme _ _ _ _ _ rfl ai.rfl_ hM)
  constructor
  ·rintro S L' w44 x hU hme hI hM hC hS ⟨d24,d0,-,-,d3,d4,d5,d6,d7,d8,d9,-,-,-,-,-,d15,-,-,-,-,-,-,d22,-,-⟩;have hM':=hM;obtain ⟨hc44,hb44,u944,u1644,u2344,q144,q244,q344,lt44⟩:=hM';have e76:=InvX.get hI (i:=24) (gM 24 rfl) d24;exact cS [(76,_)] x hU hI (gM 25 rfl) rfl (by kernel_rfl) ⟨e76,trivial⟩ (aa aN rfl) c8 (hme _ _ _ _ _ rfl ai.rfl_ hM)
  constructor
  ·rintro S L' w45 x hU hme hI hM hC hS ⟨d25,d0,-,-,d3,d4,d5,d6,d7,d8,d9,-,-,-,-,-,d15,-,-,-,-,-,-,d22,-,-⟩;have hM':=hM;obtain ⟨hc45,hb45,u945,u1645,u2345,q145,q245,q345,lt45⟩:=hM';have e77:=InvX.get hI (i:=25) (gM 25 rfl) d25;exact cS [(77,_)] x hU hI (gM 26 rfl) rfl (by kernel_rfl) ⟨e77,trivial⟩ (aa aE rfl) c8 (hme _ _ _ _ _ rfl ai.rfl_ hM)
  constructor
  ·rintro S L' w46 x hU hme hI hM hC hS ⟨d26,d0,-,-,d3,d4,d5,d6,d7,d8,d9,-,-,-,-,-,d15,-,-,-,-,-,-,d22,-,-⟩;have hM':=hM;obtain ⟨hc46,hb46,u946,u1646,u2346,q146,q246,q346,lt46⟩:=hM';have e78:=InvX.get hI (i:=26) (gM 26 rfl) d26;exact cS [(78,_)] x hU hI (gM 27 rfl) rfl (by kernel_rfl) ⟨e78,trivial⟩ (aa cL rfl) c8 (hme _ _ _ _ _ rfl ai.rfl_ hM)
  constructor
  ·rintro S L' w47 x hU hme hI hM hC hS ⟨d27,d9,d0,-,-,d3,d4,d5,d6,d7,d8,d9,-,-,-,-,-,d15,-,-,-,-,-,-,d22,-,-⟩;have hM':=hM;obtain ⟨hc47,hb47,u947,u1647,u2347,q147,q247,q347,lt47⟩:=hM';have e61:=InvX.get hI (i:=9) (gM 9 rfl) d9;have e79:=InvX.get hI (i:=27) (gM 27 rfl) d27;obtain ⟨w2,hR,hO,hb2⟩:=eK (n:=124) (L:=[(61,_),(79,_)]) (x:=.tmp 79) (y:=.tmp 61) (v:=.slice (some ⟨x.x,0,none⟩) n n) df rfl rfl rfl hM.b (show 15<23 by decide)
   have hb3:Blk w2 g T (lvX ({ s with role:=2,leader:=s.id,votes:=[],elapsed:=0 }:Rf) (⟨E,Ec,none,0,X,Xc,M,Mc,Sn,Sc,Q,Qc,LL⟩:Ra) n x (dL S 28)++[Value.slice O L.length oc]).toArray:=by
    rw [←zN];exact hb2
   exact nQ [(61,_),(79,_)] hI (y8 rfl) rfl (by kernel_rfl) ⟨e61,e79,trivial⟩ hR (LI.st hM (.inl rfl) hO hb3)
  constructor
  ·rintro S L' w48 x hU hme hI hM hC hS ⟨d1,d0,d1,-,d3,d4,d5,d6,d7,d8,d9,d10,d11,d12,d13,d14,d15,d16,-,-,-,-,-,d22,-,d24,d25,d26,d27,d28,-⟩;have hM':=hM;obtain ⟨hc48,hb48,u948,u1648,u2348,q148,q248,q348,lt48⟩:=hM';have e53:=InvX.get hI (i:=1) (.tail _ (.head _)) d1;exact cS [(53,_)] x hU hI (gM 28 rfl) rfl (by kernel_rfl) ⟨e53,trivial⟩ (ay rfl) c8 (hme _ _ _ _ _ rfl ai.rfl_ hM)
  constructor
  ·rintro S L' w49 x hU hme hI hM hC hS ⟨d29,d0,d1,-,d3,d4,d5,d6,d7,d8,d9,d10,d11,d12,d13,d14,d15,d16,-,-,-,-,-,d22,-,d24,d25,d26,d27,d28,-⟩;have hM':=hM;obtain ⟨hc49,hb49,u949,u1649,u2349,q149,q249,q349,lt49⟩:=hM';have e80:=InvX.get hI (i:=29) (gM 28 rfl) d29;exact cS [(80,_)] x hU hI (gM 29 rfl) rfl (by kernel_rfl) ⟨e80,trivial⟩ (aa aN rfl) c8 (hme _ _ _ _ _ rfl ai.rfl_ hM)
  constructor
  ·rintro S L' w50 x hU hme hI hM hC hS ⟨d30,d0,d1,-,d3,d4,d5,d6,d7,d8,d9,d10,d11,d12,d13,d14,d15,d16,-,-,-,-,-,d22,-,d24,d25,d26,d27,d28,-⟩;have hM':=hM;obtain ⟨hc50,hb50,u950,u1650,u2350,q150,q250,q350,lt50⟩:=hM';have e81:=InvX.get hI (i:=30) (gM 29 rfl) d30;exact cS [(81,_)] x hU hI (gM 30 rfl) rfl (by kernel_rfl) ⟨e81,trivial⟩ (aa aE rfl) c8 (hme _ _ _ _ _ rfl ai.rfl_ hM)
  constructor
  ·rintro S L' w51 x hU hme hI hM hC hS ⟨d31,d0,d1,-,d3,d4,d5,d6,d7,d8,d9,d10,d11,d12,d13,d14,d15,d16,-,-,-,-,-,d22,-,d24,d25,d26,d27,d28,-⟩;have hM':=hM;obtain ⟨hc51,hb51,u951,u1651,u2351,q151,q251,q351,lt51⟩:=hM';have e82:=InvX.get hI (i:=31) (gM 30 rfl) d31;exact cS [(82,_)] x hU hI (gM 31 rfl) rfl (by kernel_rfl) ⟨e82,trivial⟩ (aa cO rfl) c8 (hme _ _ _ _ _ rfl ai.rfl_ hM)
  constructor
  ·rintro S L' w52 x hU hme hI hM hC hS ⟨d32,d16,d28,d0,d1,-,d3,d4,d5,d6,d7,d8,d9,d10,d11,d12,d13,d14,d15,d16,-,-,-,-,-,d22,-,d24,d25,d26,d27,d28,-⟩;have hM':=hM;obtain ⟨hc52,hb52,u952,u1652,u2352,q152,q252,q352,lt52⟩:=hM';have e68:=InvX.get hI (i:=16) (gM 16 rfl) d16;have e83:=InvX.get hI (i:=32) (gM 31 rfl) d32;obtain ⟨w2,hR,hO,hb2⟩:=eK (n:=124) (L:=[(68,_),(83,_)]) (x:=.tmp 83) (y:=.tmp 68) (v:=.slice (some ⟨x.m,0,none⟩) n n) df rfl rfl rfl hM.b (show 16<23 by decide)
   have hb3:Blk w2 g T (lvX ({ s with role:=2,leader:=s.id,votes:=[],elapsed:=0 }:Rf) (⟨E,Ec,none,0,X,Xc,M,Mc,Sn,Sc,Q,Qc,LL⟩:Ra) n x (dL S 33)++[Value.slice O L.length oc]).toArray:=by
    rw [←zL];exact hb2
   exact nQ [(68,_),(83,_)] hI (y8 rfl) rfl (by kernel_rfl) ⟨e68,e83,trivial⟩ hR (LI.st hM (.inr (.inl rfl)) hO hb3)
  constructor
  ·rintro S L' w53 x hU hme hI hM hC hS ⟨d2,d0,d1,d2,d3,d4,d5,d6,d7,d8,d9,d10,d11,d12,d13,d14,d15,d16,d17,d18,d19,d20,d21,d22,d23,d24,d25,d26,d27,d28,d29,d30,d31,d32,d33,-⟩;have hM':=hM;obtain ⟨hc53,hb53,u953,u1653,u2353,q153,q253,q353,lt53⟩:=hM';have e54:=InvX.get hI (i:=2) (gM 2 rfl) d2;exact cS [(54,_)] x hU hI (gM 32 rfl) rfl (by kernel_rfl) ⟨e54,trivial⟩ (ay rfl) c8 (hme _ _ _ _ _ rfl ai.rfl_ hM)
  constructor
  ·rintro S L' w54 x hU hme hI hM hC hS ⟨d34,d0,d1,d2,d3,d4,d5,d6,d7,d8,d9,d10,d11,d12,d13,d14,d15,d16,d17,d18,d19,d20,d21,d22,d23,d24,d25,d26,d27,d28,d29,d30,d31,d32,d33,-⟩;have hM':=hM;obtain ⟨hc54,hb54,u954,u1654,u2354,q154,q254,q354,lt54⟩:=hM';have e84:=InvX.get hI (i:=34) (gM 32 rfl) d34;exact cS [(84,_)] x hU hI (gM 33 rfl) rfl (by kernel_rfl) ⟨e84,trivial⟩ (aa aN rfl) c8 (hme _ _ _ _ _ rfl ai.rfl_ hM)
  constructor
  ·rintro S L' w55 x hU hme hI hM hC hS ⟨d35,d0,d1,d2,d3,d4,d5,d6,d7,d8,d9,d10,d11,d12,d13,d14,d15,d16,d17,d18,d19,d20,d21,d22,d23,d24,d25,d26,d27,d28,d29,d30,d31,d32,d33,-⟩;have hM':=hM;obtain ⟨hc55,hb55,u955,u1655,u2355,q155,q255,q355,lt55⟩:=hM';have e85:=InvX.get hI (i:=35) (gM 33 rfl) d35;exact cS [(85,_)] x hU hI (gM 34 rfl) rfl (by kernel_rfl) ⟨e85,trivial⟩ (aa aE rfl) c8 (hme _ _ _ _ _ rfl ai.rfl_ hM)
  constructor
  ·rintro S L' w56 x hU hme hI hM hC hS ⟨d36,d0,d1,d2,d3,d4,d5,d6,d7,d8,d9,d10,d11,d12,d13,d14,d15,d16,d17,d18,d19,d20,d21,d22,d23,d24,d25,d26,d27,d28,d29,d30,d31,d32,d33,-⟩;have hM':=hM;obtain ⟨hc56,hb56,u956,u1656,u2356,q156,q256,q356,lt56⟩:=hM';have e86:=InvX.get hI (i:=36) (gM 34 rfl) d36;exact cS [(86,_)] x hU hI (gM 35 rfl) rfl (by kernel_rfl) ⟨e86,trivial⟩ (aa cT rfl) c8 (hme _ _ _ _ _ rfl ai.rfl_ hM)
  constructor
  ·rintro S L' w57 x hU hme hI hM hC hS ⟨d37,d23,d33,d0,d1,d2,d3,d4,d5,d6,d7,d8,d9,d10,d11,d12,d13,d14,d15,d16,d17,d18,d19,d20,d21,d22,d23,d24,d25,d26,d27,d28,d29,d30,d31,d32,d33,-⟩;have hM':=hM;obtain ⟨hc57,hb57,u957,u1657,u2357,q157,q257,q357,lt57⟩:=hM';have e75:=InvX.get hI (i:=23) (gM 23 rfl) d23;have e87:=InvX.get hI (i:=37) (gM 35 rfl) d37;obtain ⟨w2,hR,hO,hb2⟩:=eK (n:=124) (L:=[(75,_),(87,_)]) (x:=.tmp 87) (y:=.tmp 75) (v:=.slice (some ⟨x.s,0,none⟩) n n) df rfl rfl rfl hM.b (show 17<23 by decide)
   have hb3:Blk w2 g T (lvX ({ s with role:=2,leader:=s.id,votes:=[],elapsed:=0 }:Rf) (⟨E,Ec,none,0,X,Xc,M,Mc,Sn,Sc,Q,Qc,LL⟩:Ra) n x (dL S 38)++[Value.slice O L.length oc]).toArray:=by
    rw [←zK];exact hb2
   exact nQ [(75,_),(87,_)] hI (y8 rfl) rfl (by kernel_rfl) ⟨e75,e87,trivial⟩ hR (LI.st hM (.inr (.inr rfl)) hO hb3)
  exact trivial
 ·intro x58 w58 hM;obtain ⟨hc58,hb58,u958,u1658,u2358,q158,q258,q358,lt58⟩:=hM;obtain ⟨xx,xm,xs⟩:=x58;have hbr:=hb58
  have hb4:Blk w58 g T (rfV ({ s with role:=2,leader:=s.id,votes:=[],elapsed:=0,next:=List.replicate n 0,mtch:=List.replicate n 0,sent:=List.replicate n 0 }:Rf) (⟨E,Ec,none,0,some ⟨xx,0,none⟩,n,some ⟨xm,0,none⟩,n,some ⟨xs,0,none⟩,n,Q,Qc,LL⟩:Ra)++[Value.slice O L.length oc]).toArray:=by
   unfold rfV;simp only [List.length_replicate];exact hb58
  obtain ⟨h4,tag4,hs4⟩:=h3.three hs3 hc58 (by omega) (u958 rfl) (u1658 rfl) (u2358 rfl) (q158 rfl rfl) (q258 rfl rfl) (q358 rfl rfl) hb4;refine af (ak (ak (ag (mvp rfl (ab (ay rfl) (ab (aa aN rfl) (ab (aa aE rfl) (ab (aa cL rfl) (ab (aq bn rfl (by exact (show _=some (Value.slice (some ⟨xx,0,none⟩) n n) from (hbr.from_ ai.rfl_).rd 15 rfl))) ?_)))))))));refine ab (bW cB rfl) (mvi rfl (aj (af (bg (dd (G:=Nat×(Nat→Nat)) [4,96,97,98,99,100,101,102,103,104,105,106,107,108] (fun (i,_)=>[(95,.int .i64 (i:Nat))]) (fun (i,tg) w'=>i≤n∧a_ w0 Z w' T g ⟨({ s with role:=2,leader:=s.id,votes:=[],elapsed:=0,next:=iF n i (bH s+1),mtch:=List.replicate n 0,sent:=List.replicate n 0 }:Rf),out⟩∧gQ w' Z T g tg ⟨({ s with role:=2,leader:=s.id,votes:=[],elapsed:=0,next:=iF n i (bH s+1),mtch:=List.replicate n 0,sent:=List.replicate n 0 }:Rf),out⟩ (⟨E,Ec,none,0,some ⟨xx,0,none⟩,n,some ⟨xm,0,none⟩,n,some ⟨xs,0,none⟩,n,Q,Qc,LL⟩:Ra) O oc L) (fun (i,_)=>n-i) ((0,tag4)) ⟨rfl,trivial⟩ ?_ ?_)))))
  ·exact ⟨Nat.zero_le _,(by rw [vI];exact h4.from_ (ai.rfl_ (a:=w58))),(by rw [vI];exact hs4.from_ (ai.rfl_ (a:=w58)))⟩
  rintro ⟨i,tg⟩ ρ59 w59 ⟨hi,h5,hs5⟩;refine ak (ag (ab (b_ rfl rfl) (aj (af (ak (Ab rfl (fun Q60=>?_) (fun Q60=>?_)))))))
  ·have hb5:=hs5.b;have hil:(iF n i (bH s+1)).length=n:=rm hi
   have hr15:∀ w9,ai w59 w9→w9.cell? ⟨g,15,none⟩=some (.slice (some ⟨xx,0,none⟩) n n):=fun w9 hF9=>by
    have h9:=dO (hb5.from_ hF9) 15 rfl;rw [show ({ s with role:=2,leader:=s.id,votes:=[],elapsed:=0,next:=iF n i (bH s+1),mtch:=List.replicate n 0,sent:=List.replicate n 0 }:Rf).next.length=n from hil] at h9;exact h9
   have hxo:(w59).ownsRow 0 3 1 (.slice (some ⟨xx,0,none⟩) n n) n ((iF n i (bH s+1)).map iV):=by
    have h9:=(hs5.f.x (by decide)).1;rw [show (Sp.s ⟨({ s with role:=2,leader:=s.id,votes:=[],elapsed:=0,next:=iF n i (bH s+1),mtch:=List.replicate n 0,sent:=List.replicate n 0 }:Rf),out⟩).next.length=n from hil] at h9;exact h9
   refine aM (af (ak (bg (ak (ag (mvi rfl (asi rfl (aj (af (ag (mvp rfl (ab (ay rfl) (ab (aa aN rfl) (ab (aa aE rfl) (ab (aa cL rfl) ?_)))))))))))))));refine ab (aq bn rfl (by exact hr15 _ (ai.rfl_ (a:=w59)))) ?_;refine mvi rfl (mvi rfl (ab (cq rfl rfl (by omega)) (ab (ew db rfl rfl (by omega)) ?_)));have hB8:ai _ w59:=(ai.rfl_ (a:=w59));refine mn (xs:=(iF n i (bH s+1)).map iV) aS rfl rfl rfl (hxo.kept_from (ai.rfl_ (a:=w59))) (by omega) ?_;intro w61 O8 P8;have hgx:tg xx=2:=(hs5.f.x (by decide)).2 xx rfl;have hC8:Chg (fun k=>tg k=2) _ w61:=(ai.toChg hB8).only O8 hgx;have hil2:(iF n (i+1) (bH s+1)).length=n:=rm (by omega)
   have hxo8:(w61).ownsRow 0 3 1 (.slice (some ⟨xx,0,none⟩) n n) n ((iF n (i+1) (bH s+1)).map iV):=by
    rw [←vH (by omega),←vz];exact P8
   have hb8:Blk w61 g T (rfV ({ s with role:=2,leader:=s.id,votes:=[],elapsed:=0,next:=iF n (i+1) (bH s+1),mtch:=List.replicate n 0,sent:=List.replicate n 0 }:Rf) (⟨E,Ec,none,0,some ⟨xx,0,none⟩,n,some ⟨xm,0,none⟩,n,some ⟨xs,0,none⟩,n,Q,Qc,LL⟩:Ra)++[Value.slice O L.length oc]).toArray:=by
    have h9:=(hb5.from_ hB8).only O8 (fun e=>by have:=hs5.gc;rw [e,hgx] at this;cases this)
    have e9:rfV ({ s with role:=2,leader:=s.id,votes:=[],elapsed:=0,next:=iF n (i+1) (bH s+1),mtch:=List.replicate n 0,sent:=List.replicate n 0 }:Rf) (⟨E,Ec,none,0,some ⟨xx,0,none⟩,n,some ⟨xm,0,none⟩,n,some ⟨xs,0,none⟩,n,Q,Qc,LL⟩:Ra)=rfV ({ s with role:=2,leader:=s.id,votes:=[],elapsed:=0,next:=iF n i (bH s+1),mtch:=List.replicate n 0,sent:=List.replicate n 0 }:Rf) (⟨E,Ec,none,0,some ⟨xx,0,none⟩,n,some ⟨xm,0,none⟩,n,some ⟨xs,0,none⟩,n,Q,Qc,LL⟩:Ra):=by
     unfold rfV;simp only [hil,hil2]
    rw [e9];exact h9
   have hf8:=(hs5.f.but hC8).next (l:=iF n (i+1) (bH s+1)) hil2.symm hxo8 (fun q hq=>by cases hq;rw [da (ej hxo _ rfl)];exact hgx);obtain ⟨hs6a,h6⟩:=h5.put (s':=({ s with role:=2,leader:=s.id,votes:=[],elapsed:=0,next:=iF n (i+1) (bH s+1),mtch:=List.replicate n 0,sent:=List.replicate n 0 }:Rf)) (a':=(⟨E,Ec,none,0,some ⟨xx,0,none⟩,n,some ⟨xm,0,none⟩,n,some ⟨xs,0,none⟩,n,Q,Qc,LL⟩:Ra)) hs5 hC8 (.inl (by decide)) hf8 (Chg.rfl_ (U:=fun k=>k=g)) hb8;obtain ⟨tg6,hs6⟩:∃ t,gQ w61 Z T g t ⟨({ s with role:=2,leader:=s.id,votes:=[],elapsed:=0,next:=iF n (i+1) (bH s+1),mtch:=List.replicate n 0,sent:=List.replicate n 0 }:Rf),out⟩ (⟨E,Ec,none,0,some ⟨xx,0,none⟩,n,some ⟨xm,0,none⟩,n,some ⟨xs,0,none⟩,n,Q,Qc,LL⟩:Ra) O oc L:=⟨_,hs6a⟩;refine aj (bE (af (ag (ab (cq rfl rfl (by omega)) (mvi rfl (aj ?_))))));refine cu ((i+1,tg6)) ⟨(by first | rfl | (refine bT ?_;omega)),trivial⟩ (by (iterate 30 refine bI rfl ?_);exact bU) ⟨?_,?_⟩
   ·exact ⟨by omega,h6.from_ (ai.rfl_ (a:=w61)),hs6.from_ (ai.rfl_ (a:=w61))⟩
   ·show n-(i+1)<n-i;omega
  have hin:i=n:=by omega
  rw [hin,yZ] at h5 hs5;have hb7:=hs5.b;refine cI (bD (bD (cr (af (ak (ag (mvp rfl (ab (ay rfl) (ab (aa aN rfl) (ab (aa aE rfl) (ab (aa bL rfl) ?_)))))))))));have hB7:ai _ w59:=(ai.rfl_ (a:=w59));refine cW (s':=({ s with role:=2,leader:=s.id,votes:=[],elapsed:=0,next:=List.replicate n (bH s+1),mtch:=List.replicate n 0,reads:=[],sent:=List.replicate n 0 }:Rf)) (a':=(⟨E,Ec,none,0,some ⟨xx,0,none⟩,n,some ⟨xm,0,none⟩,n,some ⟨xs,0,none⟩,n,none,0,[]⟩:Ra)) (v:=.slice _ _ _) jg rfl rfl rfl ((hb7.from_ (ai.rfl_ (a:=w59)))) (by exact ⟨by decide,rfl⟩) ?_;intro w62 O10_0 P10_0;obtain ⟨hs7,h7a⟩:=h5.set (s':=({ s with role:=2,leader:=s.id,votes:=[],elapsed:=0,next:=List.replicate n (bH s+1),mtch:=List.replicate n 0,reads:=[],sent:=List.replicate n 0 }:Rf)) (a':=(⟨E,Ec,none,0,some ⟨xx,0,none⟩,n,some ⟨xm,0,none⟩,n,some ⟨xs,0,none⟩,n,none,0,[]⟩:Ra)) hs5 ((ai.toChg hB7).only O10_0 rfl) (bw.same hs5.f.noreads rfl rfl rfl rfl rfl rfl) P10_0;rw [hn0] at h7a;have h7:a_ w0 Z w62 T g ⟨eE s,out⟩:=h7a;refine aj (af (ak (ag (mvp rfl (ab (ay rfl) (ab (aa aN rfl) (aB tt (zj w0 Z T g ⟨(eE s),out⟩ _ (h7.from_ (ai.rfl_ (a:=w62))) hF.chief h8 ⟨#[]⟩ (by decide)) ?_)))))));rintro v117 w63 ⟨rfl,h9⟩;refine aj (af (ak (ag (mvp rfl (aB oV (nW w0 Z T g ⟨fy (eE s) ⟨#[]⟩,out⟩ _ (h9.from_ (ai.rfl_ (a:=w63))) (hF.lead h8) rfl (show out.length≤800 by omega)) ?_)))));rintro v119 w64 ⟨rfl,h10⟩;refine aj (af (ag (mvp rfl (ab (ay rfl) (ab (aa aN rfl) ?_)))))
  have h11:a_ w0 Z w64 T g ⟨fy (eE s) ⟨#[]⟩,((⟨fy (eE s) ⟨#[]⟩,out⟩:Sp).all).out⟩:=by
   have e9:(⟨fy (eE s) ⟨#[]⟩,out⟩:Sp).all=⟨fy (eE s) ⟨#[]⟩,((⟨fy (eE s) ⟨#[]⟩,out⟩:Sp).all).out⟩:=by rw [mP]
   rw [←e9];exact h10.from_ (ai.rfl_ (a:=w64))
  obtain ⟨tag11,a11,O11,oc11,L11,hs11⟩:=h11.ex;refine aB ts (uv w0 Z T g (fy (eE s) ⟨#[]⟩) ((⟨fy (eE s) ⟨#[]⟩,out⟩:Sp).all).out _ (h11.from_ (ai.rfl_ (a:=w64))) _ _ _ _ _ (hs11.from_ (ai.rfl_ (a:=w64))) (hF.lead h8) rfl) ?_;rintro v123 w65 ⟨rfl,h12,_⟩;refine aj (cR (ey rfl ?_));unfold lZ
  first
   |(rw [if_pos h8t];exact ⟨rfl,hS9.from_ ai.rfl_⟩)
   |(rw [if_neg (by show ¬ il s=true;rw [h8];decide)]
     refine ⟨rfl,?_⟩;show a_ w0 Z _ T g ⟨dE (Sp.all ⟨fy (eE s) ⟨#[]⟩,out⟩).s,(Sp.all ⟨fy (eE s) ⟨#[]⟩,out⟩).out⟩;rw [show (Sp.all ⟨fy (eE s) ⟨#[]⟩,out⟩).s=fy (eE s) ⟨#[]⟩ by rw [mP]];exact h12.from_ (ai.rfl_ (a:=w65)))
end Go.Proofs.YtkpooenofjdpmaaGreat
namespace Go.Proofs.YtkpooenofjdpmaaGreat
open Go.Proofs.Tryz (prog)
open Go.RowKit
open Go.ChangeShapes Go.WideShapes Go.ChangeAt
theorem r_:aR prog 86=true:=by kernel_rfl
theorem qD:aR prog 161=true:=by kernel_rfl
theorem kU:aR prog 54=true:=by kernel_rfl
theorem jo:∀ (a0:Int) (a1:Int),prog.built 39 [(0,.int .i64 1),(4,.int .i64 a0),(5,.int .i64 a1)]=some #[.int .i64 1,.int .i64 0,.int .i64 0,.int .i64 0,.int .i64 a0,.int .i64 a1,.int .i64 0,.int .i64 0,.bool false,.slice none 0 0,.int .i64 0,.string ⟨#[]⟩,.bool false]:=by intros;kernel_rfl
theorem qE:aR prog 138=true:=by kernel_rfl
theorem r9:aR prog 97=true:=by kernel_rfl
def o7 (s:Rf) (k:Int):Msg:={ zM with k:=1,t:=k,ix:=bH s,lt:=dp s.t s.es }
theorem wW (s:Rf):∀ (l:List Int) (p:Sp),(l.foldl (fun (p:Sp) k=>p.tell (o7 s k)) p).s=p.s
 |[],_=>rfl
 |_::l,p=>wW s l (p.tell _)
theorem oM (s:Rf):∀ (l:List Int) (p:Sp),(l.foldl (fun (p:Sp) k=>p.tell (o7 s k)) p).out.length=p.out.length+l.length
 |[],_=>rfl
 |x::l,p=>by
  show (l.foldl _ (p.tell (o7 s x))).out.length=_;rw [oM s l (p.tell _)];show (p.out++[_]).length+l.length=p.out.length+(l.length+1);rw [List.length_append,List.length_singleton];omega
theorem wX {s:Rf} {l:List Int} {i:Nat} (h:i<l.length) (p:Sp):(l.take (i+1)).foldl (fun (p:Sp) k=>p.tell (o7 s k)) p=((l.take i).foldl (fun (p:Sp) k=>p.tell (o7 s k)) p).tell (o7 s l[i]):=by
 rw [List.take_succ_eq_append_getElem h,List.foldl_append];rfl
theorem rL {s:Rf} (h:s.term≠eO):ja s=kj ((dM (eh s)).foldl (fun (p:Sp) k=>p.tell (o7 (eh s) k)) (⟨eh s,[]⟩:Sp)):=by
 unfold ja;rw [if_neg h];rfl
theorem ym {s:Rf} (h:RfF s) (hr:s.role≠2):iy { s with term:=s.term+1,vote:=s.id,role:=1,leader:=0,votes:=[s.id],part:=⟨#[]⟩,partOf:=0 }=eh s:=by
 obtain ⟨h1,h2,h3,h4⟩:=h.free hr;unfold eh iy fw;simp only [h1,h2,h3,h4]
theorem wN (w0:World) (Z:Nat→Prop) (T g:Nat) (p:Sp) (w:World) (h:a_ w0 Z w T g p) (hF:RfF p.s) (hl:p.out.length≤700) :
 Rt prog 138 [.pointer (some ⟨g,0,none⟩)] w (fun v w'=>v=.tuple #[]∧a_ w0 Z w' T g (kj p)):=by
 obtain ⟨s,out⟩:=p;obtain ⟨tag,a,O,oc,L,hs⟩:=h.ex;obtain ⟨E,Ec,V,Vc,X,Xc,M,Mc,Sn,Sc,Q,Qc,LL⟩:=a;have hb:Blk w g T (rfV s (⟨E,Ec,V,Vc,X,Xc,M,Mc,Sn,Sc,Q,Qc,LL⟩:Ra)++[Value.slice O L.length oc]).toArray:=hs.b
 have hll:L.length=out.length:=by
  have h9:=congrArg List.length hs.m.l;rw [List.length_map] at h9;exact h9
 have hF:RfF s:=hF;have hl:out.length≤700:=hl;have hvr:IR w V Vc s.votes:=mC (hs.f.v (by decide)).1;have hvl:=hF.vl;have hnn:=hF.n;refine enter (n:=14) Tryz.func138 rfl rfl rfl (ak ?_);apply bK 10 [(2,eqp _),(3,eqp _),(4,eqp _),(5,eqp _),(6,eqp _),(7,eqp _),(8,eqp _),(9,eqp _),(10,eqp (.slice V s.votes.length Vc)),(11,eqp _)] (by repeat first | exact cj | refine ch ?_ | refine bQ ?_) (by kernel_rfl) (by kernel_rfl) ⟨ah _,ah _,ah _,ah _,ah _,ah _,ah _,ah _,ah _,ah _,trivial⟩
 case hop=>
  constructor
  ·rintro-w2 D2;exact ar (aH (v:=.pointer _) rfl) rfl
  constructor
  ·rintro-w3 D3;rintro _ rfl;exact ar (ay rfl) rfl
  constructor
  ·rintro-w4 D4;rintro _ rfl;exact ar (aa aN rfl) rfl
  constructor
  ·rintro-w5 D5;exact ar (aH (v:=.pointer _) rfl) rfl
  constructor
  ·rintro-w6 D6;rintro _ rfl;exact ar (ay rfl) rfl
  constructor
  ·rintro-w7 D7;rintro _ rfl;exact ar (aa aN rfl) rfl
  constructor
  ·rintro-w8 D8;rintro _ rfl;exact ar (aa aE rfl) rfl
  constructor
  ·rintro-w9 D9;rintro _ rfl;exact ar (aa di rfl) rfl
  constructor
  ·rintro-w10 D10;rintro _ rfl;exact ar (aq bn rfl (by exact (show _=some (Value.slice V s.votes.length Vc) from dO (hb.from_ (ai.rfl_.next D10)) 14 rfl))) rfl
  constructor
  ·rintro-w11 D11;rintro _ rfl v11_10 rfl;refine gd r_ ((sT T g s _ _ _ (hb.from_ (ai.rfl_.next D11)) V Vc s.votes (hvr.1.from_ (ai.rfl_.next D11)) (by omega) hnn).mono ?_);rintro v _ ⟨rfl,E11'⟩;exact ⟨E11',rfl⟩
  exact trivial
 case hend=>
  intro w12 D12;rintro _ rfl _ rfl _ rfl _ rfl _ rfl _ rfl _ rfl _ rfl v10 rfl _ rfl;show St ..;refine aj (af (Ab rfl (fun Q13=>?_) (fun Q13=>?_)))
  ·have h11t:ft s.nodes s.votes=true:=by
    unfold ft;exact decide_eq_true Q13
   refine ag (mvp rfl (aB qD (xZ w0 Z T g ⟨s,out⟩ _ (h.from_ (ai.rfl_.next D12)) hF hl) ?_));rintro v13 w14 ⟨rfl,h13⟩;refine aj (cR (ey rfl ?_));unfold kj
   first
    |(rw [if_pos h11t];exact ⟨rfl,h13.from_ (ai.rfl_ (a:=w14))⟩)
    |(rw [if_neg (by show ¬ ft s.nodes s.votes=true;rw [h11f];decide)];exact ⟨rfl,h.from_ (ai.rfl_ (a:=w14))⟩)
  have h11f:ft s.nodes s.votes=false:=by
   unfold ft;exact decide_eq_false (by omega)
  refine aM (cR (ey rfl ?_));unfold kj
  first
   |(rw [if_pos h11t];exact ⟨rfl,h13.from_ (ai.rfl_.next D12)⟩)
   |(rw [if_neg (by show ¬ ft s.nodes s.votes=true;rw [h11f];decide)];exact ⟨rfl,h.from_ (ai.rfl_.next D12)⟩)
theorem wK (w0:World) (Z:Nat→Prop) (T g:Nat) (s:Rf) (w:World) (h:a_ w0 Z w T g ⟨s,[]⟩) (hF:RfF s) (hr:s.role≠2) :
 Rt prog 97 [.pointer (some ⟨g,0,none⟩)] w (fun v w'=>v=.tuple #[]∧a_ w0 Z w' T g (ja s)):=by
 obtain ⟨tag,a,O,oc,L,hs⟩:=h.ex;obtain ⟨E,Ec,V,Vc,X,Xc,M,Mc,Sn,Sc,Q,Qc,LL⟩:=a;have hb:Blk w g T (rfV s (⟨E,Ec,V,Vc,X,Xc,M,Mc,Sn,Sc,Q,Qc,LL⟩:Ra)++[Value.slice O L.length oc]).toArray:=hs.b
 have hll:L.length=0:=by
  have h9:=congrArg List.length hs.m.l;rw [List.length_map] at h9;exact h9
 have hB0:ai w w:=ai.rfl_;have hte:=hF.te;refine enter (n:=100) Tryz.func97 rfl rfl rfl (ak (ak (ag (mvp rfl (ab (ay rfl) (ab (aa aN rfl) (ab (aa aE rfl) (ab (aa bt rfl) (ab (aq an rfl (by exact (show _=some (Value.int .i64 s.term) from dO (hb.from_ ai.rfl_) 3 rfl))) ?_)))))))));refine ab (bj rfl rfl) (aj (af (Ab rfl (fun Q1=>?_) (fun Q1=>?_))))
 ·have hte8:s.term=eO:=Q1;refine ak (ag (mvp rfl (ab (ay rfl) (ab (aa aN rfl) ?_))));have hB16:ai w w:=ai.rfl_;refine aB kU (qo T g s _ _ _ (hb.from_ ai.rfl_)) ?_;rintro v16 w2 ⟨rfl,hb16,hC16⟩;refine aj (af (aC (az (ey rfl ?_))));unfold ja;rw [if_pos hte8];exact ⟨rfl,((h.set (s':=iy s) hs ((ai.toChg hB16).next hC16) (bw.same hs.f rfl rfl rfl rfl rfl rfl) hb16).2).from_ (ai.rfl_ (a:=w2))⟩
 have hte9:s.term≠eO:=Q1;have hFc:RfF (eh s):=hF.cand hte9;refine aM (af (ak (ag (mvp rfl (ab (ay rfl) (ab (aa aN rfl) (ab (aa aE rfl) (ab (aa bt rfl) (ab (aq an rfl (by exact (show _=some (Value.int .i64 s.term) from dO (hb.from_ ai.rfl_) 3 rfl))) ?_)))))))));refine ab (cq rfl rfl (by omega)) (ab (ay rfl) (ab (aa aN rfl) (ab (aa aE rfl) ?_)));have hB0:ai w w:=ai.rfl_;refine ab (aa bt rfl) (cW (s':=({ s with term:=s.term+1 }:Rf)) (a':=(⟨E,Ec,V,Vc,X,Xc,M,Mc,Sn,Sc,Q,Qc,LL⟩:Ra)) (v:=.int _ _) aS rfl rfl rfl ((hb.from_ ai.rfl_)) (by exact ⟨by decide,rfl⟩) ?_);intro w3 O2_0 P2_0;have hC1:Chg (fun k=>k=g) w w3:=(ai.toChg hB0).only O2_0 rfl;refine aj (af (ak (ag (mvp rfl (mvp rfl (mvp rfl (mvp rfl (ab (ay rfl) (ab (aa aN rfl) (ab (aa aE rfl) (ab (aa cM rfl) ?_)))))))))));refine ab (aq an rfl (by exact (show _=some (Value.int .i64 s.id) from dO (P2_0.from_ (ai.rfl_ (a:=w3))) 0 rfl))) ?_;refine ab (ay rfl) (ab (aa aN rfl) (ab (aa aE rfl) ?_));have hM0:ai _ w3:=ai.rfl_;refine ab (aa bY rfl) (cW (s':=({ s with term:=s.term+1,vote:=s.id }:Rf)) (a':=(⟨E,Ec,V,Vc,X,Xc,M,Mc,Sn,Sc,Q,Qc,LL⟩:Ra)) (v:=.int _ _) aS rfl rfl rfl ((P2_0.from_ ai.rfl_)) (by exact ⟨by decide,rfl⟩) ?_);intro w4 O3_0 P3_0;replace hC1:=(hC1.next (ai.toChg hM0)).only O3_0 rfl;refine ab (ay rfl) (ab (aa aN rfl) (ab (aa aE rfl) (ab (aa du rfl) (cW (s':=({ s with term:=s.term+1,vote:=s.id,role:=1 }:Rf)) (a':=(⟨E,Ec,V,Vc,X,Xc,M,Mc,Sn,Sc,Q,Qc,LL⟩:Ra)) (v:=.int _ _) aS rfl rfl rfl (P3_0) (by exact ⟨by decide,rfl⟩) ?_))));intro w5 O3_1 P3_1;replace hC1:=hC1.only O3_1 rfl;refine ab (ay rfl) (ab (aa aN rfl) (ab (aa aE rfl) (ab (aa eQ rfl) (cW (s':=({ s with term:=s.term+1,vote:=s.id,role:=1,leader:=0 }:Rf)) (a':=(⟨E,Ec,V,Vc,X,Xc,M,Mc,Sn,Sc,Q,Qc,LL⟩:Ra)) (v:=.int _ _) aS rfl rfl rfl (P3_1) (by exact ⟨by decide,rfl⟩) ?_))));intro w6 O3_2 P3_2;replace hC1:=hC1.only O3_2 rfl;obtain ⟨hs3,h3⟩:=h.set (s':=({ s with term:=s.term+1,vote:=s.id,role:=1,leader:=0 }:Rf)) (a':=(⟨E,Ec,V,Vc,X,Xc,M,Mc,Sn,Sc,Q,Qc,LL⟩:Ra)) hs hC1 (bw.same hs.f rfl rfl rfl rfl rfl rfl) P3_2;have hb3:=P3_2;refine aj (af (ak (ag (mvp rfl (mvp rfl (ab (ay rfl) (ab (aa aN rfl) (ab (aa aE rfl) (ab (aa cM rfl) (ab (aq an rfl (by exact (show _=some (Value.int .i64 s.id) from dO (hb3.from_ (ai.rfl_ (a:=w6))) 0 rfl))) ?_))))))))));have hz55:=((ai.rfl_ (a:=w6))).size;refine fb (v:=.int _ _) ct rfl rfl rfl ?_;intro b56 w7 E56 hb56 hk56;refine ab (ay rfl) (ab (aa aN rfl) (ab (aa aE rfl) (ab (aa di rfl) ?_)));have hB56:ai _ w7:=((ai.rfl_ (a:=w6)).next E56);refine cW (s':=({ s with term:=s.term+1,vote:=s.id,role:=1,leader:=0,votes:=[s.id] }:Rf)) (a':=(⟨E,Ec,some ⟨b56,0,none⟩,1,X,Xc,M,Mc,Sn,Sc,Q,Qc,LL⟩:Ra)) (v:=.slice _ _ _) df rfl rfl rfl ((hb3.from_ ((ai.rfl_ (a:=w6)).next E56))) (by exact ⟨by decide,rfl⟩) ?_;intro w8 O4_0 P4_0;have hC4:Chg (fun k=>k=g) _ w8:=Chg.rfl_.only O4_0 rfl;refine aj (af (ak (ag (mvp rfl (mvp rfl (ab (ay rfl) (ab (aa aN rfl) (ab (aa aE rfl) ?_))))))));have hM0:ai _ w8:=ai.rfl_;refine ab (aa dS rfl) (cW (s':=({ s with term:=s.term+1,vote:=s.id,role:=1,leader:=0,votes:=[s.id],part:=⟨#[]⟩ }:Rf)) (a':=(⟨E,Ec,some ⟨b56,0,none⟩,1,X,Xc,M,Mc,Sn,Sc,Q,Qc,LL⟩:Ra)) (v:=.string _) jV rfl rfl rfl ((P4_0.from_ ai.rfl_)) (by exact ⟨by decide,rfl⟩) ?_);intro w9 O5_0 P5_0;replace hC4:=(hC4.next (ai.toChg hM0)).only O5_0 rfl;refine ab (ay rfl) (ab (aa aN rfl) (ab (aa aE rfl) (ab (aa dJ rfl) (cW (s':=({ s with term:=s.term+1,vote:=s.id,role:=1,leader:=0,votes:=[s.id],part:=⟨#[]⟩,partOf:=0 }:Rf)) (a':=(⟨E,Ec,some ⟨b56,0,none⟩,1,X,Xc,M,Mc,Sn,Sc,Q,Qc,LL⟩:Ra)) (v:=.int _ _) aS rfl rfl rfl (P5_0) (by exact ⟨by decide,rfl⟩) ?_))));intro w10 O5_1 P5_1;replace hC4:=hC4.only O5_1 rfl;refine aj (af (ak (ag (mvp rfl (ab (ay rfl) (ab (aa aN rfl) ?_))))));have hM74:ai _ w10:=(ai.rfl_ (a:=w10));refine aB kU (qo T g ({ s with term:=s.term+1,vote:=s.id,role:=1,leader:=0,votes:=[s.id],part:=⟨#[]⟩,partOf:=0 }:Rf) (⟨E,Ec,some ⟨b56,0,none⟩,1,X,Xc,M,Mc,Sn,Sc,Q,Qc,LL⟩:Ra) _ _ (P5_1.from_ (ai.rfl_ (a:=w10)))) ?_;rintro v74 w11 ⟨rfl,hb74,hC74⟩;have hf4:=(hs3.f.but (c:=1) (ai.toChg hB56)).votes (l:=[s.id]) rfl (sC (Nat.zero_le _) hk56 (Nat.le_refl _) (by show 1≤maxLen;unfold maxLen;omega) rfl rfl) (fun q hq=>by cases hq;exact dY (by rw [hb56];exact hz55));obtain ⟨hs7,h7⟩:=h3.put (s':=iy ({ s with term:=s.term+1,vote:=s.id,role:=1,leader:=0,votes:=[s.id],part:=⟨#[]⟩,partOf:=0 }:Rf)) (a':=(⟨E,Ec,some ⟨b56,0,none⟩,1,X,Xc,M,Mc,Sn,Sc,Q,Qc,LL⟩:Ra)) hs3 (ai.toChg hB56) (.inl (by decide)) (bw.same hf4 rfl rfl rfl rfl rfl rfl) ((hC4.next (ai.toChg hM74)).next hC74) hb74;rw [ym hF hr] at hs7 h7;refine aj (af (ak (ag (mvp rfl (ab (ay rfl) (ab (aa aN rfl) (aB gK (kF T g (eh s) _ _ _ (hs7.b.from_ (ai.rfl_ (a:=w11))) (hs7.f.rd.e.from_ (ai.rfl_ (a:=w11))) hFc.lg) ?_)))))));rintro v79 w12 ⟨rfl,E79⟩;refine mvt rfl (ab (aY rfl rfl) (ab (aY rfl rfl) (asi rfl (asi rfl (aj (af (ak (ak (ag (mvp rfl (ab (ay rfl) (ab (aa aN rfl) ?_))))))))))));have hz84:=(((ai.rfl_ (a:=w11)).next E79)).size;refine aB oQ (pF T g (eh s) _ _ _ (hs7.b.from_ ((ai.rfl_ (a:=w11)).next E79)) (by have:=hFc.n;omega)) ?_;rintro v85 w13 ⟨⟨A85,c85,rfl,ho85⟩,E85⟩
 have h8:=h7.at_ (Z':=fun k=>Z k∨A85.map (·.block)=some k) (((ai.rfl_ (a:=w11)).next E79).next E85) (fun k hk=>by
  have hz7:=((((ai.rfl_ (a:=w11)).next E79).next E85)).size;rcases hk with e | e
  ·exact ⟨Nat.lt_of_lt_of_le (h7.zw k e) hz7,.inl e⟩
  ·have:=fe ho85 k e;exact ⟨this.2,.inr (by omega)⟩)
 have hB7:ai _ w13:=(((ai.rfl_ (a:=w11)).next E79).next E85);have ho7:=ho85;obtain ⟨Z7,hZ7⟩:∃ Z7,Z7=fun k=>Z k∨A85.map (·.block)=some k:=⟨_,rfl⟩
 rw [←hZ7] at h8;have hzi:∀ k,Z k→Z7 k:=fun k hk=>by rw [hZ7];exact .inl hk
 have hzr:∀ k,A85.map (·.block)=some k→Z7 k:=fun k hk=>by rw [hZ7];exact .inr hk
 have hol:=lI (eh s);have hnn:=hFc.n;refine ab (bW cB rfl) (mvi rfl (aj (af (bg (dd (G:=Nat) [5,88,89,90,91,92,93,94,95,96,97] (fun i=>[(87,.int .i64 (i:Nat))]) (fun i w'=>i≤(dM (eh s)).length∧a_ w13 Z7 w' T g (((dM (eh s)).take i).foldl (fun (p:Sp) k=>p.tell (o7 (eh s) k)) (⟨eh s,[]⟩:Sp))) (fun i=>(dM (eh s)).length-i) (0) ⟨rfl,trivial⟩ ?_ ?_)))))
 ·exact ⟨Nat.zero_le _,h8⟩
 rintro i ρ14 w14 ⟨hi,h15⟩;refine ak (ag (ab (b_ rfl rfl) (aj (af (ak (Ab rfl (fun Q15=>?_) (fun Q15=>?_)))))))
 ·have hi9:i<(dM (eh s)).length:=by omega
  obtain ⟨g7,rfl⟩:=fK ho7 (by omega);have ho8:=eH ho7 h15.fr (fun q hq e=>e (hzr q hq));have hc8:=jN (l:=(dM (eh s))) ho8 i hi9;obtain ⟨tg9,a9,O9,oc9,L9,hs9⟩:=h15.ex
  have hl9:L9.length≤7:=by
   have h1:=congrArg List.length hs9.m.l;rw [List.length_map,oM,List.length_take] at h1;have h2:((⟨eh s,[]⟩:Sp).out).length=0:=rfl;omega
  refine aM (af (ak (bg (ak (ag (ab (ew db rfl rfl (by omega)) (ab (aq an rfl (by exact fq (ai.rfl_ (a:=w14)) hc8)) ?_)))))));refine asi rfl (aj (af (ag (mvp rfl (mvi rfl (mvi rfl (mvi rfl (ab (cp (l:=[(0,.const (.int .i64 1)),(4,.tmp 93),(5,.tmp 94)]) (jo _ _)) (aB fj (j8 _ Z7 T g (((dM (eh s)).take i).foldl (fun (p:Sp) k=>p.tell (o7 (eh s) k)) (⟨eh s,[]⟩:Sp)) _ (h15.from_ (ai.rfl_ (a:=w14))) tg9 a9 O9 oc9 L9 (hs9.from_ (ai.rfl_ (a:=w14))) (by omega) { zM with k:=1,ix:=bH (eh s),lt:=dp (eh s).t (eh s).es } (dM (eh s))[i] ⟨c6,Col.none⟩) ?_)))))))));rintro v96 w16 ⟨rfl,h16⟩;refine aj (bE (af (ag (ab (cq rfl rfl (by omega)) (mvi rfl (aj ?_))))));refine cu (i+1) ⟨(by first | rfl | (refine bT ?_;omega)),trivial⟩ (by (iterate 24 refine bI rfl ?_);exact bU) ⟨?_,?_⟩
  ·exact ⟨by omega,by rw [wX hi9];exact h16.from_ (ai.rfl_ (a:=w16))⟩
  ·omega
 obtain rfl:i=(dM (eh s)).length:=by omega
 rw [List.take_length] at h15;have h9:=h7.back hB7 h15 hzi;refine cI (bD (bD (cr (af (ag (mvp rfl (aB qE (wN w0 Z T g ((dM (eh s)).foldl (fun (p:Sp) k=>p.tell (o7 (eh s) k)) (⟨eh s,[]⟩:Sp)) _ (h9.from_ (ai.rfl_ (a:=w14))) (by rw [wW];exact hFc) (by rw [oM];show 0+_≤700;have:=hFc.n;omega)) ?_)))))));rintro v99 w17 ⟨rfl,h17⟩;refine aj (cR (ey rfl ?_));rw [rL hte9];exact ⟨rfl,h17.from_ (ai.rfl_ (a:=w17))⟩
theorem xC (w0:World) (Z:Nat→Prop) (T g:Nat) (s:Rf) (w:World) (h:a_ w0 Z w T g ⟨s,[]⟩) (hF:RfF s) :
 Rt prog 56 [.pointer (some ⟨g,0,none⟩)] w (fun v w'=>v=.tuple #[]∧a_ w0 Z w' T g (iC s)):=by
 obtain ⟨tag,a,O,oc,L,hs⟩:=h.ex;obtain ⟨E,Ec,V,Vc,X,Xc,M,Mc,Sn,Sc,Q,Qc,LL⟩:=a;have hb:Blk w g T (rfV s (⟨E,Ec,V,Vc,X,Xc,M,Mc,Sn,Sc,Q,Qc,LL⟩:Ra)++[Value.slice O L.length oc]).toArray:=hs.b
 have hll:L.length=0:=by
  have h9:=congrArg List.length hs.m.l;rw [List.length_map] at h9;exact h9
 have hB0:ai w w:=ai.rfl_;have hel:=hF.el;have hrn:=hF.rn;have hti:=hF.ti;have hFe:RfF ({ s with elapsed:=min (s.elapsed+1) 1099511627775 }:Rf):=hF.elapse (by omega);refine enter (n:=64) Tryz.func56 rfl rfl rfl (ak (ag (mvp rfl (mvp rfl (ab (ay rfl) (ab (aa aN rfl) (ab (aa aE rfl) (ab (aa c_ rfl) (ab (aq an rfl (by exact (show _=some (Value.int .i64 s.elapsed) from dO (hb.from_ ai.rfl_) 11 rfl))) ?_)))))))));refine ab (cq rfl rfl (by omega)) (ab (lH rfl rfl) (dm (t:=10) (v:=.int _ _) (v':=.int .i64 (min (s.elapsed+1) 1099511627775)) rfl (by exact bT (by omega)) ?_));refine ab (ay rfl) (ab (aa aN rfl) (ab (aa aE rfl) (ab (aa c_ rfl) ?_)));have hB0:ai w w:=ai.rfl_;refine cW (s':=({ s with elapsed:=(min (s.elapsed+1) 1099511627775) }:Rf)) (a':=(⟨E,Ec,V,Vc,X,Xc,M,Mc,Sn,Sc,Q,Qc,LL⟩:Ra)) (v:=.int _ _) aS rfl rfl rfl ((hb.from_ ai.rfl_)) (by exact ⟨by decide,rfl⟩) ?_;intro w1 O0_0 P0_0;have hC1:Chg (fun k=>k=g) w w1:=(ai.toChg hB0).only O0_0 rfl;obtain ⟨hs3,h3⟩:=h.set (s':=({ s with elapsed:=(min (s.elapsed+1) 1099511627775) }:Rf)) (a':=(⟨E,Ec,V,Vc,X,Xc,M,Mc,Sn,Sc,Q,Qc,LL⟩:Ra)) hs hC1 (bw.same hs.f rfl rfl rfl rfl rfl rfl) P0_0;have hb3:=P0_0;refine aj (af (ak (ak (ag (mvp rfl (ab (ay rfl) (ab (aa aN rfl) (ab (aa aE rfl) (ab (aa du rfl) (ab (aq an rfl (by exact (show _=some (Value.int .i64 s.role) from dO (hb3.from_ (ai.rfl_ (a:=w1))) 2 rfl))) ?_))))))))));refine ab (dG rfl rfl) (aj (af (zZ rfl (fun Q2=>?_) (fun Q2=>?_))))
 ·refine ak (ak ?_);apply bK 13 [(22,eqp _),(23,eqp _),(24,eqp _),(25,eqp _),(26,eqp _),(27,eqp _),(28,eqp _),(29,eqp _),(30,eqp _),(31,eqp _),(32,eqp _),(33,eqp _),(34,eqp _)] (by repeat first | exact cj | refine ch ?_ | refine bQ ?_) (by kernel_rfl) (by kernel_rfl) ⟨ah _,ah _,ah _,ah _,ah _,ah _,ah _,ah _,ah _,ah _,ah _,ah _,ah _,trivial⟩
  case hop=>
   constructor
   ·rintro-w4 D4;exact ar (aH (v:=.pointer _) rfl) rfl
   constructor
   ·rintro-w5 D5;rintro _ rfl;exact ar (ay rfl) rfl
   constructor
   ·rintro-w6 D6;rintro _ rfl;exact ar (aa aN rfl) rfl
   constructor
   ·rintro-w7 D7;rintro _ rfl;exact ar (aa aE rfl) rfl
   constructor
   ·rintro-w8 D8;rintro _ rfl;exact ar (aa c_ rfl) rfl
   constructor
   ·rintro-w9 D9;rintro _ rfl;exact ar (aq an rfl (by exact (show _=some (Value.int .i64 (min (s.elapsed+1) 1099511627775)) from dO (hb3.from_ ((ai.rfl_ (a:=w1)).next D9)) 11 rfl))) rfl
   constructor
   ·rintro-w10 D10;exact ar (aH (v:=.pointer _) rfl) rfl
   constructor
   ·rintro-w11 D11;rintro _ rfl;exact ar (ay rfl) rfl
   constructor
   ·rintro-w12 D12;rintro _ rfl;exact ar (aa aN rfl) rfl
   constructor
   ·rintro-w13 D13;rintro _ rfl;exact ar (aa aE rfl) rfl
   constructor
   ·rintro-w14 D14;rintro _ rfl;exact ar (aa eY rfl) rfl
   constructor
   ·rintro-w15 D15;rintro _ rfl;exact ar (aq an rfl (by exact (show _=some (Value.int .i64 s.timeout) from dO (hb3.from_ ((ai.rfl_ (a:=w1)).next D15)) 12 rfl))) rfl
   constructor
   ·rintro-w16 D16;rintro _ rfl _ rfl;exact ar (j7 rfl rfl) rfl
   exact trivial
  case hend=>
   intro w17 D17;rintro _ rfl _ rfl _ rfl _ rfl _ rfl _ rfl _ rfl _ rfl _ rfl _ rfl _ rfl _ rfl _ rfl;show St ..;refine aj (af (Ab rfl (fun Q18=>?_) (fun Q18=>?_)))
   ·refine ag (mvp rfl (aB r9 (wK w0 Z T g ({ s with elapsed:=min (s.elapsed+1) 1099511627775 }:Rf) _ (h3.from_ ((ai.rfl_ (a:=w1)).next D17)) hFe (show s.role≠2 by omega)) ?_));rintro v36 w19 ⟨rfl,h7⟩;refine aj (af (aC (az (ey rfl (⟨rfl,?_⟩)))));show a_ w0 Z _ T g (if s.role=2 then (if 2≤min (s.elapsed+1) 1099511627775 then Sp.all ⟨({ s with elapsed:=0,round:=min (s.round+1) 1099511627775 }:Rf),[]⟩ else ⟨({ s with elapsed:=min (s.elapsed+1) 1099511627775 }:Rf),[]⟩) else if s.timeout≤min (s.elapsed+1) 1099511627775 then ja ({ s with elapsed:=min (s.elapsed+1) 1099511627775 }:Rf) else ⟨({ s with elapsed:=min (s.elapsed+1) 1099511627775 }:Rf),[]⟩)
    first
     |(rw [if_neg (show ¬ s.role=2 by omega),if_pos (by omega)];exact h7.from_ (ai.rfl_ (a:=w19)))
     |(rw [if_neg (show ¬ s.role=2 by omega),if_neg (by omega)];exact h3.from_ (ai.rfl_ (a:=w19)))
     |(rw [if_pos (show s.role=2 by omega),if_pos (by omega)];exact h8.from_ (ai.rfl_ (a:=w19)))
     |(rw [if_pos (show s.role=2 by omega),if_neg (by omega)];exact h3.from_ (ai.rfl_ (a:=w19)))
   refine aM (af (aC (az (ey rfl (⟨rfl,?_⟩)))));show a_ w0 Z _ T g (if s.role=2 then (if 2≤min (s.elapsed+1) 1099511627775 then Sp.all ⟨({ s with elapsed:=0,round:=min (s.round+1) 1099511627775 }:Rf),[]⟩ else ⟨({ s with elapsed:=min (s.elapsed+1) 1099511627775 }:Rf),[]⟩) else if s.timeout≤min (s.elapsed+1) 1099511627775 then ja ({ s with elapsed:=min (s.elapsed+1) 1099511627775 }:Rf) else ⟨({ s with elapsed:=min (s.elapsed+1) 1099511627775 }:Rf),[]⟩)
   first
    |(rw [if_neg (show ¬ s.role=2 by omega),if_pos (by omega)];exact h7.from_ ((ai.rfl_ (a:=w1)).next D17))
    |(rw [if_neg (show ¬ s.role=2 by omega),if_neg (by omega)];exact h3.from_ ((ai.rfl_ (a:=w1)).next D17))
    |(rw [if_pos (show s.role=2 by omega),if_pos (by omega)];exact h8.from_ ((ai.rfl_ (a:=w1)).next D17))
    |(rw [if_pos (show s.role=2 by omega),if_neg (by omega)];exact h3.from_ ((ai.rfl_ (a:=w1)).next D17))
 refine aM (af (ak (ag (mvp rfl (ab (ay rfl) (ab (aa aN rfl) (ab (aa aE rfl) (ab (aa c_ rfl) (ab (aq an rfl (by exact (show _=some (Value.int .i64 (min (s.elapsed+1) 1099511627775)) from dO (hb3.from_ (ai.rfl_ (a:=w1))) 11 rfl))) ?_)))))))));refine ab (j7 rfl rfl) (aj (af (Ab rfl (fun Q20=>?_) (fun Q20=>?_))))
 ·refine ak (ag (mvp rfl (ab (ay rfl) (ab (aa aN rfl) (ab (aa aE rfl) (ab (aa c_ rfl) ?_))))));have hB5:ai _ w1:=(ai.rfl_ (a:=w1));refine cW (s':=({ s with elapsed:=0 }:Rf)) (a':=(⟨E,Ec,V,Vc,X,Xc,M,Mc,Sn,Sc,Q,Qc,LL⟩:Ra)) (v:=.int _ _) aS rfl rfl rfl ((hb3.from_ (ai.rfl_ (a:=w1)))) (by exact ⟨by decide,rfl⟩) ?_;intro w21 O5_0 P5_0;have hC5:Chg (fun k=>k=g) _ w21:=(ai.toChg hB5).only O5_0 rfl;refine aj (af (ak (ag (mvp rfl (mvp rfl (ab (ay rfl) (ab (aa aN rfl) (ab (aa aE rfl) (ab (aa dA rfl) (ab (aq an rfl (by exact (show _=some (Value.int .i64 s.round) from dO (P5_0.from_ (ai.rfl_ (a:=w21))) 18 rfl))) ?_))))))))));refine ab (cq rfl rfl (by omega)) (ab (lH rfl rfl) (dm (t:=57) (v:=.int _ _) (v':=.int .i64 (min (s.round+1) 1099511627775)) rfl (by exact bT (by omega)) ?_));refine ab (ay rfl) (ab (aa aN rfl) (ab (aa aE rfl) (ab (aa dA rfl) ?_)));have hB6:ai _ w21:=(ai.rfl_ (a:=w21));refine cW (s':=({ s with elapsed:=0,round:=min (s.round+1) 1099511627775 }:Rf)) (a':=(⟨E,Ec,V,Vc,X,Xc,M,Mc,Sn,Sc,Q,Qc,LL⟩:Ra)) (v:=.int _ _) aS rfl rfl rfl ((P5_0.from_ (ai.rfl_ (a:=w21)))) (by exact ⟨by decide,rfl⟩) ?_;intro w22 O6_0 P6_0;obtain ⟨hs6,h6⟩:=h3.set (s':=({ s with elapsed:=0,round:=min (s.round+1) 1099511627775 }:Rf)) (a':=(⟨E,Ec,V,Vc,X,Xc,M,Mc,Sn,Sc,Q,Qc,LL⟩:Ra)) hs3 ((hC5.next (ai.toChg hB6)).only O6_0 rfl) (bw.same hs3.f rfl rfl rfl rfl rfl rfl) P6_0;refine aj (af (ag (mvp rfl (aB oV (nW w0 Z T g ⟨({ s with elapsed:=0,round:=min (s.round+1) 1099511627775 }:Rf),[]⟩ _ (h6.from_ (ai.rfl_ (a:=w22))) (hF.beat (by omega) (by omega)) (show s.role=2 by omega) (by show 0≤800;omega)) ?_))));rintro v63 w23 ⟨rfl,h8⟩;refine aj (cR (ey rfl (⟨rfl,?_⟩)));show a_ w0 Z _ T g (if s.role=2 then (if 2≤min (s.elapsed+1) 1099511627775 then Sp.all ⟨({ s with elapsed:=0,round:=min (s.round+1) 1099511627775 }:Rf),[]⟩ else ⟨({ s with elapsed:=min (s.elapsed+1) 1099511627775 }:Rf),[]⟩) else if s.timeout≤min (s.elapsed+1) 1099511627775 then ja ({ s with elapsed:=min (s.elapsed+1) 1099511627775 }:Rf) else ⟨({ s with elapsed:=min (s.elapsed+1) 1099511627775 }:Rf),[]⟩)
  first
   |(rw [if_neg (show ¬ s.role=2 by omega),if_pos (by omega)];exact h7.from_ (ai.rfl_ (a:=w23)))
   |(rw [if_neg (show ¬ s.role=2 by omega),if_neg (by omega)];exact h3.from_ (ai.rfl_ (a:=w23)))
   |(rw [if_pos (show s.role=2 by omega),if_pos (by omega)];exact h8.from_ (ai.rfl_ (a:=w23)))
   |(rw [if_pos (show s.role=2 by omega),if_neg (by omega)];exact h3.from_ (ai.rfl_ (a:=w23)))
 refine aM (cR (ey rfl (⟨rfl,?_⟩)));show a_ w0 Z _ T g (if s.role=2 then (if 2≤min (s.elapsed+1) 1099511627775 then Sp.all ⟨({ s with elapsed:=0,round:=min (s.round+1) 1099511627775 }:Rf),[]⟩ else ⟨({ s with elapsed:=min (s.elapsed+1) 1099511627775 }:Rf),[]⟩) else if s.timeout≤min (s.elapsed+1) 1099511627775 then ja ({ s with elapsed:=min (s.elapsed+1) 1099511627775 }:Rf) else ⟨({ s with elapsed:=min (s.elapsed+1) 1099511627775 }:Rf),[]⟩)
 first
  |(rw [if_neg (show ¬ s.role=2 by omega),if_pos (by omega)];exact h7.from_ (ai.rfl_ (a:=w1)))
  |(rw [if_neg (show ¬ s.role=2 by omega),if_neg (by omega)];exact h3.from_ (ai.rfl_ (a:=w1)))
  |(rw [if_pos (show s.role=2 by omega),if_pos (by omega)];exact h8.from_ (ai.rfl_ (a:=w1)))
  |(rw [if_pos (show s.role=2 by omega),if_neg (by omega)];exact h3.from_ (ai.rfl_ (a:=w1)))
end Go.Proofs.YtkpooenofjdpmaaGreat
namespace Go.Proofs.YtkpooenofjdpmaaGreat
open Go.Proofs.Tryz (prog)
open Go.RowKit
def vx (ops:Array Oper) (n:Fr) (L:List (Nat×Value)) (o:Oper):Option (Nat×Value):=
 match o.dst with
 |none=>none
 |some d=>match o.guard with
  |some (j,b)=>match jr ops n L j with
   | .bool b'=>bif b'==b then none else some (d,undef)
   | .tuple ⟨[]⟩=>some (d,undef)
   |_=>none
  |none=>match o.op with
   | .pick c x y=>match ev n L c with
    | .bool true=>match ev n L x with
     | .bool v=>some (d,.bool v)
     |_=>none
    | .bool false=>match ev n L y with
     | .bool v=>some (d,.bool v)
     |_=>none
    |_=>none
   | .move x=>match ev n L x with
    | .bool v=>some (d,.bool v)
    |_=>none
   |_=>none
def vv (ops:Array Oper) (n:Fr):List Oper→List (Nat×Value)→Option (List (Nat×Value))
 |[],L=>some L
 |o::r,L=>match vx ops n L o with
  |some p=>vv ops n r (p::L)
  |none=>none
section
variable {P:Program} {Q:Exit→Act→World→Prop} {n:Fr} {L:List (Nat×Value)} {w:World} {ops:Array Oper} {rest:List Oper}
theorem vw {o:Oper} {p:Nat×Value} (h:vx ops n L o=some p) (k:St P ops Q rest n (p::L) w):St P ops Q (o::rest) n L w:=by
 obtain ⟨dst,op,ty,pos,after,g⟩:=o;unfold vx at h;cases dst with
 |none=>cases h
 |some d=>
  cases g with
  |some gb=>
   obtain ⟨j,b⟩:=gb;simp only at h;split at h
   ·rename_i b' hw;cases hb:b'==b with
    |true=>rw [hb] at h;cases h
    |false=>rw [hb] at h;cases h;exact ao hw hb k
   ·rename_i hw;cases h;exact dz hw k
   ·cases h
  |none=>
   simp only at h;split at h
   ·split at h
    ·rename_i hc;split at h
     ·rename_i v hx;cases h;exact ab (aJ hc hx) k
     ·cases h
    ·rename_i hc;split at h
     ·rename_i v hx;cases h;exact ab (aw hc hx) k
     ·cases h
    ·cases h
   ·split at h
    ·rename_i v hx;cases h;exact ab (aH hx) k
    ·cases h
   ·cases h
theorem bc:∀ {rest:List Oper} {L L':List (Nat×Value)} (_:vv ops n rest L=some L') (_:St P ops Q [] n L' w),St P ops Q rest n L w:=by
 intro rest
 induction rest with
 |nil=>intro L L' h k;cases h;exact k
 |cons o r ih=>
  intro L L' h k;unfold vv at h;split at h
  ·rename_i p hp;exact vw hp (ih h k)
  ·cases h
end
end Go.Proofs.YtkpooenofjdpmaaGreat
namespace Go.Proofs.YtkpooenofjdpmaaGreat
open Go.Proofs.Tryz (prog)
open Go.RowKit
open Go.ChangeShapes Go.WideShapes Go.ChangeAt
theorem bR:cP prog 39 4=some 4:=by kernel_rfl
theorem ck:cP prog 39 5=some 5:=by kernel_rfl
theorem fz:cP prog 39 6=some 6:=by kernel_rfl
theorem dg:cP prog 39 7=some 7:=by kernel_rfl
theorem dU:cP prog 39 10=some 10:=by kernel_rfl
theorem jj:aR prog 139=true:=by kernel_rfl
theorem fk:cP prog 39 8=some 8:=by kernel_rfl
theorem gk:cP prog 39 12=some 12:=by kernel_rfl
theorem eR:cP prog 39 11=some 11:=by kernel_rfl
theorem dC:cP prog 39 9=some 9:=by kernel_rfl
theorem dW:ki prog 39=some (.agg #[.int .i64 0,.int .i64 0,.int .i64 0,.int .i64 0,.int .i64 0,.int .i64 0,.int .i64 0,.int .i64 0,.bool false,.slice none 0 0,.int .i64 0,.string ⟨#[]⟩,.bool false]):=by kernel_rfl
theorem cw:cP prog 39 0=some 0:=by kernel_rfl
theorem lk:eg prog 22=some 1:=by kernel_rfl
theorem th:aR prog 162=true:=by kernel_rfl
theorem tl:aR prog 141=true:=by kernel_rfl
theorem tn:aR prog 140=true:=by kernel_rfl
theorem tk:aR prog 142=true:=by kernel_rfl
theorem tj:aR prog 143=true:=by kernel_rfl
def de (lo hi:Int) (xs:List Int):Prop:=∀ x∈xs,lo≤x∧x≤hi
instance (lo hi:Int) (xs:List Int):Decidable (de lo hi xs):=by unfold de;exact inferInstance
theorem bN {lo hi:Int}:de lo hi []↔True:=by simp [de]
theorem bG {lo hi x:Int} {l:List Int}:de lo hi (x::l)↔(lo≤x∧x≤hi)∧de lo hi l:=by simp [de]
theorem oO {lo hi x:Int} {l:List Int}:de lo hi (l++[x])↔de lo hi l∧(lo≤x∧x≤hi):=by
 simp only [de,List.mem_append,List.mem_singleton];exact ⟨fun h=>⟨fun y hy=>h y (.inl hy),h x (.inr rfl)⟩,fun h y hy=>hy.elim (h.1 y) (fun e=>e ▸ h.2)⟩
theorem yo (d:ByteArray):(d.toList==(⟨#[]⟩:ByteArray).toList)=decide (d.size=0):=by
 obtain ⟨⟨l⟩⟩:=d;rw [ByteArray.toList_eq,ByteArray.toList_eq];cases l with
 |nil=>rfl
 |cons a r=>rfl
theorem bz:(⟨#[]⟩:ByteArray).size=0:=rfl
def ExR (k ix lt cm rd:Int) (ok:Bool) (n:Nat) (a:Int) (d:ByteArray) (dn:Bool):Prop:=
 if k=1 then cm=0∧rd=0∧ok.toNat=0∧n=0∧a=0∧d.size=0∧dn.toNat=0
 else if k=2 then ix=0∧lt=0∧cm=0∧rd=0∧n=0∧a=0∧d.size=0∧dn.toNat=0
 else if k=3 then ok.toNat=0∧a=0∧d.size=0∧dn.toNat=0
 else if k=4 then lt=0∧cm=0∧n=0∧a=0∧d.size=0∧dn.toNat=0
 else if k=5 then cm=0∧ok.toNat=0∧n=0
 else if k=6 then lt=0∧cm=0∧ok.toNat=0∧n=0∧d.size=0∧dn.toNat=0
 else ix=0∧lt=0∧cm=0∧rd=0∧ok.toNat=0∧n=0∧a=0∧d.size=0∧dn.toNat=0
instance (k ix lt cm rd:Int) (ok:Bool) (n:Nat) (a:Int) (d:ByteArray) (dn:Bool):Decidable (ExR k ix lt cm rd ok n a d dn):=by unfold ExR;exact inferInstance
def gH (k f t tm ix lt cm rd a:Int):Prop:=(1≤k∧k≤6)∧(1≤f∧f≤7)∧(1≤t∧t≤7)∧(0≤tm∧tm≤1099511627775)∧(0≤ix∧ix≤1099511627775)∧(0≤lt∧lt≤1099511627775)∧(0≤cm∧cm≤1099511627775)∧(0≤rd∧rd≤1099511627775)∧(0≤a∧a≤1099511627775)
instance (k f t tm ix lt cm rd a:Int):Decidable (gH k f t tm ix lt cm rd a):=by unfold gH;exact inferInstance
def lM (k ix lt:Int) (es:List Ent):Prop:=k=3→es.length≤16∧d_ es ix lt=true
instance (k ix lt:Int) (es:List Ent):Decidable (lM k ix lt es):=by unfold lM;exact inferInstance
def je (k ix a:Int) (d:ByteArray):Prop:=k=5→(1≤ix∧ix≤1099511625728)∧a≤524288∧d.size≤1024
instance (k ix a:Int) (d:ByteArray):Decidable (je k ix a d):=by unfold je;exact inferInstance
def OkR (k f t tm ix lt cm rd:Int) (ok:Bool) (es:List Ent) (a:Int) (d:ByteArray) (dn:Bool):Prop:=
 gH k f t tm ix lt cm rd a∧ExR k ix lt cm rd ok es.length a d dn∧lM k ix lt es∧je k ix a d
instance (k f t tm ix lt cm rd:Int) (ok:Bool) (es:List Ent) (a:Int) (d:ByteArray) (dn:Bool):Decidable (OkR k f t tm ix lt cm rd ok es a d dn):=by unfold OkR;exact inferInstance
theorem zJ {xs:List Int} {k:Nat} (h:k<xs.length):(xs.map iV).toArray[k]? =some (iV xs[k]):=by simp [h]
theorem kt (lo hi:Int) (g m c:Nat) (xs:List Int) (w:World) (hm:m=xs.length) (hb:Blk w g 3 (xs.map iV).toArray) (hl:xs.length≤1000) :
 Rt prog 139 [.int .i64 lo,.int .i64 hi,.slice (some ⟨g,0,none⟩) m c] w (fun v w'=>v=.bool (decide (de lo hi xs))∧w=w'):=by
 refine enter (n:=24) Tryz.func139 rfl rfl rfl (ak (ag (asb rfl (aj (af (ak (ak (ag (mvs rfl (ab (bW cB rfl) (mvi rfl (aj (af (bg (dd (G:=Nat) [6,8,12,13,14,15,16,17,18,19,20,21,22,23] (fun k=>[(11,.int .i64 (k:Nat))]) (fun k w'=>k≤xs.length∧de lo hi (xs.take k)∧w=w') (fun k=>xs.length-k) (0) ⟨rfl,trivial⟩ ?_ ?_)))))))))))))))
 ·exact ⟨Nat.zero_le _,bN.2 trivial,rfl⟩
 rintro k ρ1 w1 ⟨hk,ha,rfl⟩;refine ak (ag (ab (b_ rfl rfl) (aj (af (ak (Ab rfl (fun Q2=>?_) (fun Q2=>?_)))))))
 ·have hkx:k<xs.length:=by omega
  refine aM (af (ak (bg (ak (ag (ab (ew db rfl rfl (by omega)) (ab (aq an rfl (by exact hb.rd k (zJ hkx))) ?_)))))));refine asi rfl (aj (af (ak (ag (mvi rfl (mvi rfl (ab (b_ rfl rfl) (mvb rfl (zt (t:=18) rfl (fun Q3=>?_) (fun Q3=>?_))))))))))
  ·refine bc rfl (aj (af (aL rfl (ak (ag (asb rfl (aj (af (aC (aZ (az (az (aZ (az (bo (v:=.bool _) rfl rfl (⟨congrArg Value.bool ?_,rfl⟩))))))))))))))));rw [eq_comm,decide_eq_false_iff_not];intro h;have:=h _ (List.getElem_mem hkx);omega
  refine ae rfl (mvi rfl (ae rfl (mvi rfl (ae rfl (ab (bS rfl rfl) (ab (aw (v:=.bool _) rfl rfl) (aj (af (Ab rfl (fun Q4=>?_) (fun Q4=>?_))))))))))
  ·refine ak (ag (asb rfl (aj (af (aC (aZ (az (az (aZ (az (bo (v:=.bool _) rfl rfl (⟨congrArg Value.bool ?_,rfl⟩))))))))))));rw [eq_comm,decide_eq_false_iff_not];intro h;have:=h _ (List.getElem_mem hkx);omega
  refine aM (bE (af (ag (ab (dI (b:=1) rfl rfl (by omega)) (mvi rfl (aj ?_))))));refine cu (k+1) ⟨(by first | rfl | (refine bT ?_;omega)),trivial⟩ (by (iterate 30 refine bI rfl ?_);exact bU) ⟨?_,?_⟩
  ·exact ⟨by omega,by rw [List.take_succ_eq_append_getElem hkx];exact oO.2 ⟨ha,by omega⟩,rfl⟩
  ·omega
 obtain rfl:k=xs.length:=by omega
 rw [List.take_length] at ha;refine cI (bD (bD (cr (af (ak (ag (asb rfl (aj (af (aC (bo (v:=.bool _) rfl rfl (⟨congrArg Value.bool (decide_eq_true ha).symm,rfl⟩))))))))))))
theorem yg (k f t tm ix lt cm rd:Int) (ok:Bool) (E:Option Addr) (n c:Nat) (a:Int) (d:ByteArray) (dn:Bool) (w:World) :
 Rt prog 140 [.agg #[.int .i64 k,.int .i64 f,.int .i64 t,.int .i64 tm,.int .i64 ix,.int .i64 lt,.int .i64 cm,.int .i64 rd,.bool ok,.slice E n c,.int .i64 a,.string d,.bool dn]] w (fun v w'=>v=.bool (decide (ix=0∧lt=0∧cm=0∧rd=0∧a=0∧ok.toNat=0∧dn.toNat=0∧d.size=0∧n=0))∧ai w w'):=by
 refine enter (n:=36) Tryz.func140 rfl rfl rfl (ak (ag (bZ (v:=.agg _) rfl ?_)));intro b1 w1 E1 hb1 hk1;refine asb rfl (aj (af (ak (ag (ab (aa bR rfl) (ab (aq an rfl (by exact (hk1.from_ ai.rfl_).rd 4 rfl)) ?_))))));refine ab (aa ck rfl) (ab (aq an rfl (by exact (hk1.from_ ai.rfl_).rd 5 rfl)) ?_);refine ab (aa fz rfl) (ab (aq an rfl (by exact (hk1.from_ ai.rfl_).rd 6 rfl)) ?_);refine ab (aa dg rfl) (ab (aq an rfl (by exact (hk1.from_ ai.rfl_).rd 7 rfl)) ?_);refine ab (aa dU rfl) (ab (aq an rfl (by exact (hk1.from_ ai.rfl_).rd 10 rfl)) ?_);refine lP [.tmp 4,.tmp 6,.tmp 8,.tmp 10,.tmp 12] [.int _ _,.int _ _,.int _ _,.int _ _,.int _ _] ct rfl rfl rfl rfl (by simp [Value.cells]) ?_;intro b13 w2 E13 hb13 hk13;refine aB jj (kt 0 0 b13 5 5 [ix,lt,cm,rd,a] _ rfl hk13 (by simp)) ?_;rintro v14 w3 ⟨rfl,rfl⟩;refine mvb rfl (zt (t:=15) rfl (fun Q4=>?_) (fun Q4=>?_))
 ·simp only [bG,bN,and_true] at Q4;refine ae rfl (ab (aa fk rfl) (ae rfl (ab (aq fm rfl (by exact (hk1.from_ (ai.rfl_.next E13)).rd 8 rfl)) ?_)));refine ae rfl (ab (cl rfl) (ab (aJ (v:=.bool _) rfl rfl) (mvb rfl (zq (t:=20) rfl (fun Q5=>?_) (fun Q5=>?_)))))
  ·have ho:ok.toNat=0:=by cases ok <;> simp_all
   refine ae rfl (ab (aa gk rfl) (ae rfl (ab (aq fm rfl (by exact (hk1.from_ (ai.rfl_.next E13)).rd 12 rfl)) ?_)));refine ae rfl (ab (cl rfl) (ab (aJ (v:=.bool _) rfl rfl) (mvb rfl (zq (t:=25) rfl (fun Q6=>?_) (fun Q6=>?_)))))
   ·have hd:dn.toNat=0:=by cases dn <;> simp_all
    refine ae rfl (ab (aa eR rfl) (ae rfl (ab (aq cK rfl (by exact (hk1.from_ (ai.rfl_.next E13)).rd 11 rfl)) ?_)));refine ae rfl (ab (iD (k7 rfl rfl) (congrArg Value.bool (yo d))) (ab (aJ (v:=.bool _) rfl rfl) (mvb rfl (zt (t:=30) rfl (fun Q7=>?_) (fun Q7=>?_)))))
    ·refine ae rfl (ab (aa dC rfl) (ae rfl (ab (aq cY rfl (by exact (hk1.from_ (ai.rfl_.next E13)).rd 9 rfl)) ?_)));refine ae rfl (ab (bW cC rfl) (ae rfl ?_));refine ab (iD (bj rfl rfl) (congrArg Value.bool (show (((n:Nat):Int)==0)=decide (n=0) by rw [Bool.eq_iff_iff,beq_iff_eq,decide_eq_true_eq];omega))) ?_;refine ab (aJ (v:=.bool _) rfl rfl) (asb rfl (aj (af (aC (bo (v:=.bool _) rfl rfl (⟨congrArg Value.bool ?_,((ai.rfl_.next E1).next E13)⟩))))))
     first
      |(rw [eq_comm,decide_eq_false_iff_not];omega)
      |(rw [decide_eq_decide];omega)
      |(rw [eq_comm,decide_eq_true_eq];omega)
    refine ao rfl rfl (ao rfl rfl (ao rfl rfl (ao rfl rfl (ab (aw (v:=.bool _) rfl rfl) (asb rfl (aj (af (aC (bo (v:=.bool _) rfl rfl (⟨congrArg Value.bool ?_,((ai.rfl_.next E1).next E13)⟩))))))))))
    first
     |(rw [eq_comm,decide_eq_false_iff_not];omega)
     |(rw [decide_eq_decide];omega)
     |(rw [eq_comm,decide_eq_true_eq];omega)
   have hd:dn.toNat=1:=by cases dn <;> simp_all
   refine ao rfl rfl (ao rfl rfl (ao rfl rfl (ab (aw (v:=.bool _) rfl rfl) (mvb rfl (ao rfl rfl (ao rfl rfl (ao rfl rfl (ao rfl rfl ?_))))))));refine ab (aw (v:=.bool _) rfl rfl) (asb rfl (aj (af (aC (bo (v:=.bool _) rfl rfl (⟨congrArg Value.bool ?_,((ai.rfl_.next E1).next E13)⟩))))))
   first
    |(rw [eq_comm,decide_eq_false_iff_not];omega)
    |(rw [decide_eq_decide];omega)
    |(rw [eq_comm,decide_eq_true_eq];omega)
  have ho:ok.toNat=1:=by cases ok <;> simp_all
  refine ao rfl rfl (ao rfl rfl (ao rfl rfl (ab (aw (v:=.bool _) rfl rfl) (mvb rfl (ao rfl rfl (ao rfl rfl (ao rfl rfl (ab (aw (v:=.bool _) rfl rfl) ?_))))))));refine mvb rfl (ao rfl rfl (ao rfl rfl (ao rfl rfl (ao rfl rfl (ab (aw (v:=.bool _) rfl rfl) (asb rfl (aj (af (aC (bo (v:=.bool _) rfl rfl ?_))))))))));refine ⟨congrArg Value.bool ?_,((ai.rfl_.next E1).next E13)⟩
  first
   |(rw [eq_comm,decide_eq_false_iff_not];omega)
   |(rw [decide_eq_decide];omega)
   |(rw [eq_comm,decide_eq_true_eq];omega)
 simp only [bG,bN,and_true] at Q4;refine ao rfl rfl (ao rfl rfl (ao rfl rfl (ab (aw (v:=.bool _) rfl rfl) (mvb rfl (ao rfl rfl (ao rfl rfl (ao rfl rfl (ab (aw (v:=.bool _) rfl rfl) ?_))))))));refine mvb rfl (ao rfl rfl (ao rfl rfl (ao rfl rfl (ab (aw (v:=.bool _) rfl rfl) (mvb rfl (ao rfl rfl (ao rfl rfl (ao rfl rfl ?_))))))));refine ao rfl rfl (ab (aw (v:=.bool _) rfl rfl) (asb rfl (aj (af (aC (bo (v:=.bool _) rfl rfl (⟨congrArg Value.bool ?_,((ai.rfl_.next E1).next E13)⟩)))))))
 first
  |(rw [eq_comm,decide_eq_false_iff_not];omega)
  |(rw [decide_eq_decide];omega)
  |(rw [eq_comm,decide_eq_true_eq];omega)
theorem ug (k f t tm ix lt cm rd:Int) (ok:Bool) (E:Option Addr) (n c:Nat) (a:Int) (d:ByteArray) (dn:Bool) (w:World) :
 Rt prog 141 [.agg #[.int .i64 k,.int .i64 f,.int .i64 t,.int .i64 tm,.int .i64 ix,.int .i64 lt,.int .i64 cm,.int .i64 rd,.bool ok,.slice E n c,.int .i64 a,.string d,.bool dn]] w (fun v w'=>(∃ ix' lt' cm' rd' ok' E' n' c' a' d' dn',v=.agg #[.int .i64 k,.int .i64 f,.int .i64 t,.int .i64 tm,.int .i64 ix',.int .i64 lt',.int .i64 cm',.int .i64 rd',.bool ok',.slice E' n' c',.int .i64 a',.string d',.bool dn']∧((ix'=0∧lt'=0∧cm'=0∧rd'=0∧a'=0∧ok'.toNat=0∧dn'.toNat=0∧d'.size=0∧n'=0)↔ExR k ix lt cm rd ok n a d dn))∧ai w w'):=by
 refine enter (n:=38) Tryz.func141 rfl rfl rfl (ak (ag (bZ (v:=.agg _) rfl ?_)));intro b1 w1 E1 hb1 hk1;have hg1:w.heap.size≤b1:=by rw [hb1];exact Nat.le_refl _
 refine cf dW ?_;intro b2 w2 E2 hb2 hk2;have hlt:=hk1.lt;have hg2:w.heap.size≤b2:=by rw [hb2];exact ((ai.rfl_.next E1)).size
 have h12:b1<b2:=by omega
 replace hk1:=hk1.from_ E2;refine aj (af (ak (ak (ag (ab (aa cw rfl) (ab (aq an rfl (by exact hk1.rd 0 rfl)) ?_))))));refine aj (af (bg (ak (ag (ab (bj rfl rfl) (asb rfl (aj (af (Aa rfl (fun Q3=>?_) (fun Q3=>?_))))))))))
 ·refine ag (ab (aa bR rfl) (dD (v:=.int _ _) aS rfl rfl rfl (hk1) (by show 0+4<13;decide) ?_));intro w4 O3_0 P3_0;replace hk2:=hk2.only O3_0 (by omega);replace hk1:Blk w4 b1 39 #[.int .i64 k,.int .i64 f,.int .i64 t,.int .i64 tm,.int .i64 0,.int .i64 lt,.int .i64 cm,.int .i64 rd,.bool ok,.slice E n c,.int .i64 a,.string d,.bool dn]:=P3_0;refine ab (aa ck rfl) (dD (v:=.int _ _) aS rfl rfl rfl (hk1) (by show 0+5<13;decide) ?_);intro w5 O3_1 P3_1;replace hk2:=hk2.only O3_1 (by omega);replace hk1:Blk w5 b1 39 #[.int .i64 k,.int .i64 f,.int .i64 t,.int .i64 tm,.int .i64 0,.int .i64 0,.int .i64 cm,.int .i64 rd,.bool ok,.slice E n c,.int .i64 a,.string d,.bool dn]:=P3_1;refine aj (bE (af (ak (ag (ab (aG (cs:=[_,_,_,_,_,_,_,_,_,_,_,_,_]) bk aP rfl (by exact hk1.whole)) ?_)))));refine b0 (vs:=[_,_,_,_,_,_,_,_,_,_,_,_,_]) aP rfl rfl (by simp [Value.oneCell']) (hk2) rfl ?_;intro w6 O14 P14;refine aj (af (aC (iU rfl (cX (cs:=[_,_,_,_,_,_,_,_,_,_,_,_,_]) bk aP rfl (by exact P14.whole)) ?_)));refine ⟨⟨_,_,_,_,_,_,_,_,_,_,_,rfl,?_⟩,(((((ai.rfl_.next E1).next E2).only O3_0 (hg1)).only O3_1 (hg1)).only O14 (hg2))⟩;unfold ExR
  first
   |(rw [if_pos (by omega)];(try simp only [true_and]);first | done | omega)
   |(rw [if_neg (by omega),if_pos (by omega)];(try simp only [Bool.toNat_false,bz,true_and,and_true]);first | done | omega)
   |(rw [if_neg (by omega),if_neg (by omega),if_pos (by omega)];(try simp only [Bool.toNat_false,bz,true_and,and_true]);first | done | omega)
   |(rw [if_neg (by omega),if_neg (by omega),if_neg (by omega),if_pos (by omega)];(try simp only [Bool.toNat_false,bz,true_and,and_true]);first | done | omega)
   |(rw [if_neg (by omega),if_neg (by omega),if_neg (by omega),if_neg (by omega),if_pos (by omega)];(try simp only [Bool.toNat_false,bz,true_and,and_true]);first | done | omega)
   |(rw [if_neg (by omega),if_neg (by omega),if_neg (by omega),if_neg (by omega),if_neg (by omega),if_pos (by omega)];(try simp only [Bool.toNat_false,bz,true_and,and_true]);first | done | omega)
   |(rw [if_neg (by omega),if_neg (by omega),if_neg (by omega),if_neg (by omega),if_neg (by omega),if_neg (by omega)];omega)
 refine ak (ag (ab (bj rfl rfl) (asb rfl (aj (af (Aa rfl (fun Q7=>?_) (fun Q7=>?_)))))))
 ·refine ag (ab (aa fk rfl) (dD (v:=.bool _) jl rfl rfl rfl (hk1) (by show 0+8<13;decide) ?_));intro w8 O5_0 P5_0;replace hk2:=hk2.only O5_0 (by omega);replace hk1:Blk w8 b1 39 #[.int .i64 k,.int .i64 f,.int .i64 t,.int .i64 tm,.int .i64 ix,.int .i64 lt,.int .i64 cm,.int .i64 rd,.bool false,.slice E n c,.int .i64 a,.string d,.bool dn]:=P5_0;refine aj (bE (af (ak (ag (ab (aG (cs:=[_,_,_,_,_,_,_,_,_,_,_,_,_]) bk aP rfl (by exact hk1.whole)) ?_)))));refine b0 (vs:=[_,_,_,_,_,_,_,_,_,_,_,_,_]) aP rfl rfl (by simp [Value.oneCell']) (hk2) rfl ?_;intro w9 O14 P14;refine aj (af (aC (iU rfl (cX (cs:=[_,_,_,_,_,_,_,_,_,_,_,_,_]) bk aP rfl (by exact P14.whole)) ?_)));refine ⟨⟨_,_,_,_,_,_,_,_,_,_,_,rfl,?_⟩,((((ai.rfl_.next E1).next E2).only O5_0 (hg1)).only O14 (hg2))⟩;unfold ExR
  first
   |(rw [if_pos (by omega)];(try simp only [Bool.toNat_false,bz,true_and,and_true]);first | done | omega)
   |(rw [if_neg (by omega),if_pos (by omega)];(try simp only [Bool.toNat_false,true_and]);first | done | omega)
   |(rw [if_neg (by omega),if_neg (by omega),if_pos (by omega)];(try simp only [Bool.toNat_false,bz,true_and,and_true]);first | done | omega)
   |(rw [if_neg (by omega),if_neg (by omega),if_neg (by omega),if_pos (by omega)];(try simp only [Bool.toNat_false,bz,true_and,and_true]);first | done | omega)
   |(rw [if_neg (by omega),if_neg (by omega),if_neg (by omega),if_neg (by omega),if_pos (by omega)];(try simp only [Bool.toNat_false,bz,true_and,and_true]);first | done | omega)
   |(rw [if_neg (by omega),if_neg (by omega),if_neg (by omega),if_neg (by omega),if_neg (by omega),if_pos (by omega)];(try simp only [Bool.toNat_false,bz,true_and,and_true]);first | done | omega)
   |(rw [if_neg (by omega),if_neg (by omega),if_neg (by omega),if_neg (by omega),if_neg (by omega),if_neg (by omega)];omega)
 refine ak (ag (ab (bj rfl rfl) (asb rfl (aj (af (Aa rfl (fun Q10=>?_) (fun Q10=>?_)))))))
 ·refine ag (ab (aa bR rfl) (dD (v:=.int _ _) aS rfl rfl rfl (hk1) (by show 0+4<13;decide) ?_));intro w11 O7_0 P7_0;replace hk2:=hk2.only O7_0 (by omega);replace hk1:Blk w11 b1 39 #[.int .i64 k,.int .i64 f,.int .i64 t,.int .i64 tm,.int .i64 0,.int .i64 lt,.int .i64 cm,.int .i64 rd,.bool ok,.slice E n c,.int .i64 a,.string d,.bool dn]:=P7_0;refine ab (aa ck rfl) (dD (v:=.int _ _) aS rfl rfl rfl (hk1) (by show 0+5<13;decide) ?_);intro w12 O7_1 P7_1;replace hk2:=hk2.only O7_1 (by omega);replace hk1:Blk w12 b1 39 #[.int .i64 k,.int .i64 f,.int .i64 t,.int .i64 tm,.int .i64 0,.int .i64 0,.int .i64 cm,.int .i64 rd,.bool ok,.slice E n c,.int .i64 a,.string d,.bool dn]:=P7_1;refine ab (aa fz rfl) (dD (v:=.int _ _) aS rfl rfl rfl (hk1) (by show 0+6<13;decide) ?_);intro w13 O7_2 P7_2;replace hk2:=hk2.only O7_2 (by omega);replace hk1:Blk w13 b1 39 #[.int .i64 k,.int .i64 f,.int .i64 t,.int .i64 tm,.int .i64 0,.int .i64 0,.int .i64 0,.int .i64 rd,.bool ok,.slice E n c,.int .i64 a,.string d,.bool dn]:=P7_2;refine ab (aa dg rfl) (dD (v:=.int _ _) aS rfl rfl rfl (hk1) (by show 0+7<13;decide) ?_);intro w14 O7_3 P7_3;replace hk2:=hk2.only O7_3 (by omega);replace hk1:Blk w14 b1 39 #[.int .i64 k,.int .i64 f,.int .i64 t,.int .i64 tm,.int .i64 0,.int .i64 0,.int .i64 0,.int .i64 0,.bool ok,.slice E n c,.int .i64 a,.string d,.bool dn]:=P7_3;refine ab (aa dC rfl) (dD (v:=.slice _ _ _) lk rfl rfl rfl (hk1) (by show 0+9<13;decide) ?_);intro w15 O7_4 P7_4;replace hk2:=hk2.only O7_4 (by omega);replace hk1:Blk w15 b1 39 #[.int .i64 k,.int .i64 f,.int .i64 t,.int .i64 tm,.int .i64 0,.int .i64 0,.int .i64 0,.int .i64 0,.bool ok,.slice none 0 0,.int .i64 a,.string d,.bool dn]:=P7_4;refine aj (bE (af (ak (ag (ab (aG (cs:=[_,_,_,_,_,_,_,_,_,_,_,_,_]) bk aP rfl (by exact hk1.whole)) ?_)))));refine b0 (vs:=[_,_,_,_,_,_,_,_,_,_,_,_,_]) aP rfl rfl (by simp [Value.oneCell']) (hk2) rfl ?_;intro w16 O14 P14;refine aj (af (aC (iU rfl (cX (cs:=[_,_,_,_,_,_,_,_,_,_,_,_,_]) bk aP rfl (by exact P14.whole)) ?_)));refine ⟨⟨_,_,_,_,_,_,_,_,_,_,_,rfl,?_⟩,((((((((ai.rfl_.next E1).next E2).only O7_0 (hg1)).only O7_1 (hg1)).only O7_2 (hg1)).only O7_3 (hg1)).only O7_4 (hg1)).only O14 (hg2))⟩;unfold ExR
  first
   |(rw [if_pos (by omega)];(try simp only [Bool.toNat_false,bz,true_and,and_true]);first | done | omega)
   |(rw [if_neg (by omega),if_pos (by omega)];(try simp only [Bool.toNat_false,bz,true_and,and_true]);first | done | omega)
   |(rw [if_neg (by omega),if_neg (by omega),if_pos (by omega)];(try simp only [true_and,and_true]);first | done | omega)
   |(rw [if_neg (by omega),if_neg (by omega),if_neg (by omega),if_pos (by omega)];(try simp only [Bool.toNat_false,bz,true_and,and_true]);first | done | omega)
   |(rw [if_neg (by omega),if_neg (by omega),if_neg (by omega),if_neg (by omega),if_pos (by omega)];(try simp only [Bool.toNat_false,bz,true_and,and_true]);first | done | omega)
   |(rw [if_neg (by omega),if_neg (by omega),if_neg (by omega),if_neg (by omega),if_neg (by omega),if_pos (by omega)];(try simp only [Bool.toNat_false,bz,true_and,and_true]);first | done | omega)
   |(rw [if_neg (by omega),if_neg (by omega),if_neg (by omega),if_neg (by omega),if_neg (by omega),if_neg (by omega)];omega)
 refine ak (ag (ab (bj rfl rfl) (asb rfl (aj (af (Aa rfl (fun Q17=>?_) (fun Q17=>?_)))))))
 ·refine ag (ab (aa fk rfl) (dD (v:=.bool _) jl rfl rfl rfl (hk1) (by show 0+8<13;decide) ?_));intro w18 O9_0 P9_0;replace hk2:=hk2.only O9_0 (by omega);replace hk1:Blk w18 b1 39 #[.int .i64 k,.int .i64 f,.int .i64 t,.int .i64 tm,.int .i64 ix,.int .i64 lt,.int .i64 cm,.int .i64 rd,.bool false,.slice E n c,.int .i64 a,.string d,.bool dn]:=P9_0;refine ab (aa bR rfl) (dD (v:=.int _ _) aS rfl rfl rfl (hk1) (by show 0+4<13;decide) ?_);intro w19 O9_1 P9_1;replace hk2:=hk2.only O9_1 (by omega);replace hk1:Blk w19 b1 39 #[.int .i64 k,.int .i64 f,.int .i64 t,.int .i64 tm,.int .i64 0,.int .i64 lt,.int .i64 cm,.int .i64 rd,.bool false,.slice E n c,.int .i64 a,.string d,.bool dn]:=P9_1;refine ab (aa dg rfl) (dD (v:=.int _ _) aS rfl rfl rfl (hk1) (by show 0+7<13;decide) ?_);intro w20 O9_2 P9_2;replace hk2:=hk2.only O9_2 (by omega);replace hk1:Blk w20 b1 39 #[.int .i64 k,.int .i64 f,.int .i64 t,.int .i64 tm,.int .i64 0,.int .i64 lt,.int .i64 cm,.int .i64 0,.bool false,.slice E n c,.int .i64 a,.string d,.bool dn]:=P9_2;refine aj (bE (af (ak (ag (ab (aG (cs:=[_,_,_,_,_,_,_,_,_,_,_,_,_]) bk aP rfl (by exact hk1.whole)) ?_)))));refine b0 (vs:=[_,_,_,_,_,_,_,_,_,_,_,_,_]) aP rfl rfl (by simp [Value.oneCell']) (hk2) rfl ?_;intro w21 O14 P14;refine aj (af (aC (iU rfl (cX (cs:=[_,_,_,_,_,_,_,_,_,_,_,_,_]) bk aP rfl (by exact P14.whole)) ?_)));refine ⟨⟨_,_,_,_,_,_,_,_,_,_,_,rfl,?_⟩,((((((ai.rfl_.next E1).next E2).only O9_0 (hg1)).only O9_1 (hg1)).only O9_2 (hg1)).only O14 (hg2))⟩;unfold ExR
  first
   |(rw [if_pos (by omega)];(try simp only [Bool.toNat_false,bz,true_and,and_true]);first | done | omega)
   |(rw [if_neg (by omega),if_pos (by omega)];(try simp only [Bool.toNat_false,bz,true_and,and_true]);first | done | omega)
   |(rw [if_neg (by omega),if_neg (by omega),if_pos (by omega)];(try simp only [Bool.toNat_false,bz,true_and,and_true]);first | done | omega)
   |(rw [if_neg (by omega),if_neg (by omega),if_neg (by omega),if_pos (by omega)];(try simp only [Bool.toNat_false,true_and]);first | done | omega)
   |(rw [if_neg (by omega),if_neg (by omega),if_neg (by omega),if_neg (by omega),if_pos (by omega)];(try simp only [Bool.toNat_false,bz,true_and,and_true]);first | done | omega)
   |(rw [if_neg (by omega),if_neg (by omega),if_neg (by omega),if_neg (by omega),if_neg (by omega),if_pos (by omega)];(try simp only [Bool.toNat_false,bz,true_and,and_true]);first | done | omega)
   |(rw [if_neg (by omega),if_neg (by omega),if_neg (by omega),if_neg (by omega),if_neg (by omega),if_neg (by omega)];omega)
 refine ak (ag (ab (bj rfl rfl) (asb rfl (aj (af (Aa rfl (fun Q22=>?_) (fun Q22=>?_)))))))
 ·refine ag (ab (aa bR rfl) (dD (v:=.int _ _) aS rfl rfl rfl (hk1) (by show 0+4<13;decide) ?_));intro w23 O11_0 P11_0;replace hk2:=hk2.only O11_0 (by omega);replace hk1:Blk w23 b1 39 #[.int .i64 k,.int .i64 f,.int .i64 t,.int .i64 tm,.int .i64 0,.int .i64 lt,.int .i64 cm,.int .i64 rd,.bool ok,.slice E n c,.int .i64 a,.string d,.bool dn]:=P11_0;refine ab (aa ck rfl) (dD (v:=.int _ _) aS rfl rfl rfl (hk1) (by show 0+5<13;decide) ?_);intro w24 O11_1 P11_1;replace hk2:=hk2.only O11_1 (by omega);replace hk1:Blk w24 b1 39 #[.int .i64 k,.int .i64 f,.int .i64 t,.int .i64 tm,.int .i64 0,.int .i64 0,.int .i64 cm,.int .i64 rd,.bool ok,.slice E n c,.int .i64 a,.string d,.bool dn]:=P11_1;refine ab (aa dg rfl) (dD (v:=.int _ _) aS rfl rfl rfl (hk1) (by show 0+7<13;decide) ?_);intro w25 O11_2 P11_2;replace hk2:=hk2.only O11_2 (by omega);replace hk1:Blk w25 b1 39 #[.int .i64 k,.int .i64 f,.int .i64 t,.int .i64 tm,.int .i64 0,.int .i64 0,.int .i64 cm,.int .i64 0,.bool ok,.slice E n c,.int .i64 a,.string d,.bool dn]:=P11_2;refine ab (aa dU rfl) (dD (v:=.int _ _) aS rfl rfl rfl (hk1) (by show 0+10<13;decide) ?_);intro w26 O11_3 P11_3;replace hk2:=hk2.only O11_3 (by omega);replace hk1:Blk w26 b1 39 #[.int .i64 k,.int .i64 f,.int .i64 t,.int .i64 tm,.int .i64 0,.int .i64 0,.int .i64 cm,.int .i64 0,.bool ok,.slice E n c,.int .i64 0,.string d,.bool dn]:=P11_3;refine ab (aa eR rfl) (dD (v:=.string _) jV rfl rfl rfl (hk1) (by show 0+11<13;decide) ?_);intro w27 O11_4 P11_4;replace hk2:=hk2.only O11_4 (by omega);replace hk1:Blk w27 b1 39 #[.int .i64 k,.int .i64 f,.int .i64 t,.int .i64 tm,.int .i64 0,.int .i64 0,.int .i64 cm,.int .i64 0,.bool ok,.slice E n c,.int .i64 0,.string ⟨#[]⟩,.bool dn]:=P11_4;refine ab (aa gk rfl) (dD (v:=.bool _) jl rfl rfl rfl (hk1) (by show 0+12<13;decide) ?_);intro w28 O11_5 P11_5;replace hk2:=hk2.only O11_5 (by omega);replace hk1:Blk w28 b1 39 #[.int .i64 k,.int .i64 f,.int .i64 t,.int .i64 tm,.int .i64 0,.int .i64 0,.int .i64 cm,.int .i64 0,.bool ok,.slice E n c,.int .i64 0,.string ⟨#[]⟩,.bool false]:=P11_5;refine aj (bE (af (ak (ag (ab (aG (cs:=[_,_,_,_,_,_,_,_,_,_,_,_,_]) bk aP rfl (by exact hk1.whole)) ?_)))));refine b0 (vs:=[_,_,_,_,_,_,_,_,_,_,_,_,_]) aP rfl rfl (by simp [Value.oneCell']) (hk2) rfl ?_;intro w29 O14 P14;refine aj (af (aC (iU rfl (cX (cs:=[_,_,_,_,_,_,_,_,_,_,_,_,_]) bk aP rfl (by exact P14.whole)) ?_)));refine ⟨⟨_,_,_,_,_,_,_,_,_,_,_,rfl,?_⟩,(((((((((ai.rfl_.next E1).next E2).only O11_0 (hg1)).only O11_1 (hg1)).only O11_2 (hg1)).only O11_3 (hg1)).only O11_4 (hg1)).only O11_5 (hg1)).only O14 (hg2))⟩;unfold ExR
  first
   |(rw [if_pos (by omega)];(try simp only [Bool.toNat_false,bz,true_and,and_true]);first | done | omega)
   |(rw [if_neg (by omega),if_pos (by omega)];(try simp only [Bool.toNat_false,bz,true_and,and_true]);first | done | omega)
   |(rw [if_neg (by omega),if_neg (by omega),if_pos (by omega)];(try simp only [Bool.toNat_false,bz,true_and,and_true]);first | done | omega)
   |(rw [if_neg (by omega),if_neg (by omega),if_neg (by omega),if_pos (by omega)];(try simp only [Bool.toNat_false,bz,true_and,and_true]);first | done | omega)
   |(rw [if_neg (by omega),if_neg (by omega),if_neg (by omega),if_neg (by omega),if_pos (by omega)];(try simp only [Bool.toNat_false,bz,true_and]);first | done | omega)
   |(rw [if_neg (by omega),if_neg (by omega),if_neg (by omega),if_neg (by omega),if_neg (by omega),if_pos (by omega)];(try simp only [Bool.toNat_false,bz,true_and,and_true]);first | done | omega)
   |(rw [if_neg (by omega),if_neg (by omega),if_neg (by omega),if_neg (by omega),if_neg (by omega),if_neg (by omega)];omega)
 refine ak (ag (ab (bj rfl rfl) (asb rfl (aj (af (Aa rfl (fun Q30=>?_) (fun Q30=>?_)))))))
 ·refine ag (ab (aa bR rfl) (dD (v:=.int _ _) aS rfl rfl rfl (hk1) (by show 0+4<13;decide) ?_));intro w31 O13_0 P13_0;replace hk2:=hk2.only O13_0 (by omega);replace hk1:Blk w31 b1 39 #[.int .i64 k,.int .i64 f,.int .i64 t,.int .i64 tm,.int .i64 0,.int .i64 lt,.int .i64 cm,.int .i64 rd,.bool ok,.slice E n c,.int .i64 a,.string d,.bool dn]:=P13_0;refine ab (aa dU rfl) (dD (v:=.int _ _) aS rfl rfl rfl (hk1) (by show 0+10<13;decide) ?_);intro w32 O13_1 P13_1;replace hk2:=hk2.only O13_1 (by omega);replace hk1:Blk w32 b1 39 #[.int .i64 k,.int .i64 f,.int .i64 t,.int .i64 tm,.int .i64 0,.int .i64 lt,.int .i64 cm,.int .i64 rd,.bool ok,.slice E n c,.int .i64 0,.string d,.bool dn]:=P13_1;refine ab (aa dg rfl) (dD (v:=.int _ _) aS rfl rfl rfl (hk1) (by show 0+7<13;decide) ?_);intro w33 O13_2 P13_2;replace hk2:=hk2.only O13_2 (by omega);replace hk1:Blk w33 b1 39 #[.int .i64 k,.int .i64 f,.int .i64 t,.int .i64 tm,.int .i64 0,.int .i64 lt,.int .i64 cm,.int .i64 0,.bool ok,.slice E n c,.int .i64 0,.string d,.bool dn]:=P13_2;refine aj (bE (af (ak (ag (ab (aG (cs:=[_,_,_,_,_,_,_,_,_,_,_,_,_]) bk aP rfl (by exact hk1.whole)) ?_)))));refine b0 (vs:=[_,_,_,_,_,_,_,_,_,_,_,_,_]) aP rfl rfl (by simp [Value.oneCell']) (hk2) rfl ?_;intro w34 O14 P14;refine aj (af (aC (iU rfl (cX (cs:=[_,_,_,_,_,_,_,_,_,_,_,_,_]) bk aP rfl (by exact P14.whole)) ?_)));refine ⟨⟨_,_,_,_,_,_,_,_,_,_,_,rfl,?_⟩,((((((ai.rfl_.next E1).next E2).only O13_0 (hg1)).only O13_1 (hg1)).only O13_2 (hg1)).only O14 (hg2))⟩;unfold ExR
  first
   |(rw [if_pos (by omega)];(try simp only [Bool.toNat_false,bz,true_and,and_true]);first | done | omega)
   |(rw [if_neg (by omega),if_pos (by omega)];(try simp only [Bool.toNat_false,bz,true_and,and_true]);first | done | omega)
   |(rw [if_neg (by omega),if_neg (by omega),if_pos (by omega)];(try simp only [Bool.toNat_false,bz,true_and,and_true]);first | done | omega)
   |(rw [if_neg (by omega),if_neg (by omega),if_neg (by omega),if_pos (by omega)];(try simp only [Bool.toNat_false,bz,true_and,and_true]);first | done | omega)
   |(rw [if_neg (by omega),if_neg (by omega),if_neg (by omega),if_neg (by omega),if_pos (by omega)];(try simp only [Bool.toNat_false,bz,true_and,and_true]);first | done | omega)
   |(rw [if_neg (by omega),if_neg (by omega),if_neg (by omega),if_neg (by omega),if_neg (by omega),if_pos (by omega)];(try simp only [true_and]);first | done | omega)
   |(rw [if_neg (by omega),if_neg (by omega),if_neg (by omega),if_neg (by omega),if_neg (by omega),if_neg (by omega)];omega)
 refine aM (bE (af (ak (ag (ab (aG (cs:=[_,_,_,_,_,_,_,_,_,_,_,_,_]) bk aP rfl (by exact hk1.whole)) ?_)))));refine b0 (vs:=[_,_,_,_,_,_,_,_,_,_,_,_,_]) aP rfl rfl (by simp [Value.oneCell']) (hk2) rfl ?_;intro w35 O14 P14;refine aj (af (aC (iU rfl (cX (cs:=[_,_,_,_,_,_,_,_,_,_,_,_,_]) bk aP rfl (by exact P14.whole)) ?_)));refine ⟨⟨_,_,_,_,_,_,_,_,_,_,_,rfl,?_⟩,(((ai.rfl_.next E1).next E2).only O14 (hg2))⟩;unfold ExR
 first
  |(rw [if_pos (by omega)];(try simp only [Bool.toNat_false,bz,true_and,and_true]);first | done | omega)
  |(rw [if_neg (by omega),if_pos (by omega)];(try simp only [Bool.toNat_false,bz,true_and,and_true]);first | done | omega)
  |(rw [if_neg (by omega),if_neg (by omega),if_pos (by omega)];(try simp only [Bool.toNat_false,bz,true_and,and_true]);first | done | omega)
  |(rw [if_neg (by omega),if_neg (by omega),if_neg (by omega),if_pos (by omega)];(try simp only [Bool.toNat_false,bz,true_and,and_true]);first | done | omega)
  |(rw [if_neg (by omega),if_neg (by omega),if_neg (by omega),if_neg (by omega),if_pos (by omega)];(try simp only [Bool.toNat_false,bz,true_and,and_true]);first | done | omega)
  |(rw [if_neg (by omega),if_neg (by omega),if_neg (by omega),if_neg (by omega),if_neg (by omega),if_pos (by omega)];(try simp only [Bool.toNat_false,bz,true_and,and_true]);first | done | omega)
  |(rw [if_neg (by omega),if_neg (by omega),if_neg (by omega),if_neg (by omega),if_neg (by omega),if_neg (by omega)];omega)
theorem zI {es:List Ent} (hl:es.length≤512) (h:d_ es 0 0=true):cD 0 0 es=true:=by
 simp only [cD,Bool.and_eq_true,decide_eq_true_eq];exact ⟨⟨⟨by decide,by decide⟩,hl⟩,h⟩
theorem wh {p q:Int} {es:List Ent} (hp:0≤p∧p≤1099511627775) (hq:0≤q∧q≤1099511627775) (hl:es.length≤16):(fv 0 0 p q [] es).1=0↔d_ es p q=true:=by
 by_cases h:d_ es p q=true
 ·refine ⟨fun _=>h,fun _=>?_⟩;unfold fv;rw [if_pos ⟨zI (by simp) rfl,ff (by omega),ff hq,h⟩];split
  ·rfl
  ·rename_i hn;have hP:mgP 0 p=p:=by unfold mgP;rw [if_neg (by omega)]
   have hQ:mgQ 0 0 p q=q:=by unfold mgQ;rw [if_neg (by omega)]
   have hC:fS 0 p es=es:=by unfold fS;rw [if_neg (by omega)]
   rw [hP,hQ] at hn
   have h0:p=0:=by
    simp only [List.length_nil] at hn;omega
   subst h0;have hT:er 0 0 [] 0=0:=rfl;rw [hT] at hn;have h1:q=0:=by omega
   subst h1;rw [hC]
   have hS:fO 0 0 [] es=es:=by
    cases es with
    |nil=>rfl
    |cons e r=>
     refine jv fun h0=>?_
     have:=(fZ h).1;simp only [List.length_nil] at h0;omega
   have hI:pK 0 [] es=0:=by
    cases es with
    |nil=>rfl
    |cons e r=>
     have:=(fZ h).1;show (e.i-1-0).toNat=0;omega
   rw [hS];unfold mg2;rw [hI,if_neg (by omega),if_pos (by simpa using zI (by omega) h)]
 ·refine ⟨fun h0=>?_,fun h0=>absurd h0 h⟩;unfold fv at h0;rw [if_neg (fun a=>h a.2.2.2)] at h0;cases h0
theorem oZ (k f t tm ix lt cm rd:Int) (ok:Bool) (E:Option Addr) (n c:Nat) (a:Int) (d:ByteArray) (dn:Bool) (w:World) (es:List Ent) (hn:n=es.length) (he:cF w (.slice E n c) es) (hl:es.length≤400000000000) (hi:0≤ix∧ix≤1099511627775) (hlt:0≤lt∧lt≤1099511627775) :
 Rt prog 142 [.agg #[.int .i64 k,.int .i64 f,.int .i64 t,.int .i64 tm,.int .i64 ix,.int .i64 lt,.int .i64 cm,.int .i64 rd,.bool ok,.slice E n c,.int .i64 a,.string d,.bool dn]] w (fun v w'=>v=.bool (decide (lM k ix lt es))∧ai w w'):=by
 subst hn;refine enter (n:=29) Tryz.func142 rfl rfl rfl (ak (ag (bZ (v:=.agg _) rfl ?_)));intro b1 w1 E1 hb1 hk1;refine asb rfl (aj (af (ak (ak (ag (ab (aa cw rfl) (ab (aq an rfl (by exact (hk1.from_ ai.rfl_).rd 0 rfl)) ?_)))))));refine ab (dG rfl rfl) (aj (af (aU rfl (fun Q2=>?_) (fun Q2=>?_))))
 ·replace Q2:=dw Q2;replace Q2:=ee Q2;refine ak (ag (asb rfl (aj (af (aC (az (bo (v:=.bool _) rfl rfl (⟨congrArg Value.bool (decide_eq_true ?_).symm,(ai.rfl_.next E1)⟩))))))));intro h;omega
 replace Q2:=dy Q2;replace Q2:=ed Q2;refine aM (af (ak (ag (ab (cp (l:=[]) (fp)) (ab (aa bR rfl) (ab (aq an rfl (by exact (hk1.from_ ai.rfl_).rd 4 rfl)) ?_))))));refine ab (aa ck rfl) (ab (aq an rfl (by exact (hk1.from_ ai.rfl_).rd 5 rfl)) ?_);refine ab (aa dC rfl) (ab (aq cY rfl (by exact (hk1.from_ ai.rfl_).rd 9 rfl)) ?_);refine aB th (we 0 0 ix lt none E 0 c [] es _ (cF.nil_ _) (he.from_ (ai.rfl_.next E1)) (by omega)) ?_;rintro v17 w3 ⟨⟨X,Y,A2,m2,c2,rfl,-,-⟩,E17⟩;refine mvt rfl (ab (aY rfl rfl) (ab (aY rfl rfl) (ab (aY rfl rfl) (cf kh ?_))));intro b3 w4 E3 hb3 hk3;have hg3:w.heap.size≤b3:=by rw [hb3];exact (((ai.rfl_.next E1).next E17)).size
 have h13:b1<b3:=by have:=(hk1.from_ E17).lt;omega
 refine b0 (vs:=[_,_,_]) bd rfl rfl (by simp [Value.oneCell']) (hk3) rfl ?_;intro w5 O3 P3;replace hk1:=((hk1.from_ (E17.next E3)).only O3 (by omega));refine asb rfl (asi rfl (aj (af (ak (ag (ab (aa dC rfl) (ab (aq cY rfl (by exact (hk1.from_ ai.rfl_).rd 9 rfl)) ?_)))))));refine ab (bW cC rfl) (ab (gu rfl rfl) (mvb rfl (zt (t:=25) rfl (fun Q6=>?_) (fun Q6=>?_))))
 ·refine ae rfl (mvi rfl (ae rfl (ab (bj rfl rfl) (ab (aJ (v:=.bool _) rfl rfl) (asb rfl (aj (af (aC (bo (v:=.bool _) rfl rfl (⟨congrArg Value.bool ?_,((((ai.rfl_.next E1).next E17).next E3).only O3 (hg3))⟩))))))))));have hk3:k=3:=by omega
  by_cases h16:es.length≤16
  ·have hm:=wh hi hlt h16;rw [Bool.eq_iff_iff,decide_eq_true_eq];unfold lM
   first
    |(rw [beq_iff_eq,hm];exact ⟨fun a _=>⟨h16,a⟩,fun a=>(a hk3).2⟩)
    |(exfalso;omega)
  ·rw [eq_comm,Bool.eq_iff_iff,decide_eq_true_eq];unfold lM
   first
    |(refine ⟨fun a=>absurd (a hk3).1 h16,fun a=>by cases a⟩)
    |(exfalso;omega)
 refine ao rfl rfl (ao rfl rfl (ab (aw (v:=.bool _) rfl rfl) (asb rfl (aj (af (aC (bo (v:=.bool _) rfl rfl (⟨congrArg Value.bool ?_,((((ai.rfl_.next E1).next E17).next E3).only O3 (hg3))⟩))))))));have hk3:k=3:=by omega
 by_cases h16:es.length≤16
 ·have hm:=wh hi hlt h16;rw [Bool.eq_iff_iff,decide_eq_true_eq];unfold lM
  first
   |(rw [beq_iff_eq,hm];exact ⟨fun a _=>⟨h16,a⟩,fun a=>(a hk3).2⟩)
   |(exfalso;omega)
 ·rw [eq_comm,Bool.eq_iff_iff,decide_eq_true_eq];unfold lM
  first
   |(refine ⟨fun a=>absurd (a hk3).1 h16,fun a=>by cases a⟩)
   |(exfalso;omega)
theorem qQ (k f t tm ix lt cm rd:Int) (ok:Bool) (E:Option Addr) (n c:Nat) (a:Int) (d:ByteArray) (dn:Bool) (w:World) :
 Rt prog 143 [.agg #[.int .i64 k,.int .i64 f,.int .i64 t,.int .i64 tm,.int .i64 ix,.int .i64 lt,.int .i64 cm,.int .i64 rd,.bool ok,.slice E n c,.int .i64 a,.string d,.bool dn]] w (fun v w'=>v=.bool (decide (je k ix a d))∧ai w w'):=by
 refine enter (n:=23) Tryz.func143 rfl rfl rfl (ak (ag (bZ (v:=.agg _) rfl ?_)));intro b1 w1 E1 hb1 hk1;refine asb rfl (aj (af (ak (ag (ab (aa cw rfl) (ab (aq an rfl (by exact (hk1.from_ ai.rfl_).rd 0 rfl)) ?_))))));refine ab (dG rfl rfl) (mvb rfl (aF (t:=6) rfl (fun Q2=>?_) (fun Q2=>?_)))
 ·replace Q2:=dw Q2;replace Q2:=ee Q2;refine ao rfl rfl (ao rfl rfl (ao rfl rfl (ao rfl rfl (ao rfl rfl (dz rfl (dz rfl (dz rfl (ao rfl rfl ?_))))))));refine ao rfl rfl (dz rfl (dz rfl (dz rfl (dz rfl (ao rfl rfl (ab (aJ (v:=.bool _) rfl rfl) (asb rfl (aj (af (aC ?_))))))))));refine bo (v:=.bool _) rfl rfl (⟨congrArg Value.bool ?_,(ai.rfl_.next E1)⟩)
  first
   |(rw [eq_comm,decide_eq_false_iff_not];unfold je;omega)
   |(rw [decide_eq_decide];unfold je;omega)
   |(rw [eq_comm,decide_eq_true_eq];unfold je;omega)
 replace Q2:=dy Q2;replace Q2:=ed Q2;refine ae rfl (ab (aa bR rfl) (ae rfl (ab (aq an rfl (by exact (hk1.from_ ai.rfl_).rd 4 rfl)) ?_)));refine ae rfl (fb (v:=.int _ _) ct rfl rfl rfl ?_);intro b9 w3 E9 hb9 hk9;refine ae rfl (aB jj (kt 1 1099511625728 b9 1 1 [ix] _ rfl hk9 (by simp)) ?_);rintro v10 w4 ⟨rfl,rfl⟩;refine ae rfl (mvb rfl (zt (t:=11) rfl (fun Q5=>?_) (fun Q5=>?_)))
 ·simp only [bG,bN,and_true] at Q5;refine ae rfl (ab (aa dU rfl) (ae rfl (ab (aq an rfl (by exact (hk1.from_ (ai.rfl_.next E9)).rd 10 rfl)) ?_)));refine ae rfl (ab (gu rfl rfl) (ae rfl (ab (aJ (v:=.bool _) rfl rfl) (ae rfl (mvb rfl (zt (t:=16) rfl (fun Q6=>?_) (fun Q6=>?_)))))))
  ·refine ae rfl (ab (aa eR rfl) (ae rfl (ab (aq cK rfl (by exact (hk1.from_ (ai.rfl_.next E9)).rd 11 rfl)) ?_)));refine ae rfl (ab (eG (by kernel_rfl) rfl) (ae rfl (ab (gu rfl rfl) (ae rfl (ab (aJ (v:=.bool _) rfl rfl) (ab (aw (v:=.bool _) rfl rfl) (asb rfl (aj (af (aC ?_))))))))));refine bo (v:=.bool _) rfl rfl (⟨congrArg Value.bool ?_,((ai.rfl_.next E1).next E9)⟩)
   first
    |(rw [eq_comm,decide_eq_false_iff_not];unfold je;omega)
    |(rw [decide_eq_decide];unfold je;omega)
    |(rw [eq_comm,decide_eq_true_eq];unfold je;omega)
  refine ao rfl rfl (ao rfl rfl (ao rfl rfl (ao rfl rfl (ae rfl (ab (aw (v:=.bool _) rfl rfl) (ab (aw (v:=.bool _) rfl rfl) (asb rfl (aj (af (aC ?_))))))))));refine bo (v:=.bool _) rfl rfl (⟨congrArg Value.bool ?_,((ai.rfl_.next E1).next E9)⟩)
  first
   |(rw [eq_comm,decide_eq_false_iff_not];unfold je;omega)
   |(rw [decide_eq_decide];unfold je;omega)
   |(rw [eq_comm,decide_eq_true_eq];unfold je;omega)
 simp only [bG,bN,and_true] at Q5;refine ao rfl rfl (ao rfl rfl (ao rfl rfl (ae rfl (ab (aw (v:=.bool _) rfl rfl) (ae rfl (mvb rfl (ao rfl rfl (ao rfl rfl ?_))))))));refine ao rfl rfl (ao rfl rfl (ae rfl (ab (aw (v:=.bool _) rfl rfl) (ab (aw (v:=.bool _) rfl rfl) (asb rfl (aj (af (aC (bo (v:=.bool _) rfl rfl (⟨congrArg Value.bool ?_,((ai.rfl_.next E1).next E9)⟩))))))))))
 first
  |(rw [eq_comm,decide_eq_false_iff_not];unfold je;omega)
  |(rw [decide_eq_decide];unfold je;omega)
  |(rw [eq_comm,decide_eq_true_eq];unfold je;omega)
theorem yk (k f t tm ix lt cm rd:Int) (ok:Bool) (E:Option Addr) (n c:Nat) (a:Int) (d:ByteArray) (dn:Bool) (w:World) (es:List Ent) (hn:n=es.length) (he:cF w (.slice E n c) es) (hl:es.length≤400000000000) :
 Rt prog 98 [.agg #[.int .i64 k,.int .i64 f,.int .i64 t,.int .i64 tm,.int .i64 ix,.int .i64 lt,.int .i64 cm,.int .i64 rd,.bool ok,.slice E n c,.int .i64 a,.string d,.bool dn]] w (fun v w'=>v=.int .i64 (if OkR k f t tm ix lt cm rd ok es a d dn then 0 else 1)∧ai w w'):=by
 refine enter (n:=47) Tryz.func98 rfl rfl rfl (ak (ag (bZ (v:=.agg _) rfl ?_)));intro b1 w1 E1 hb1 hk1;refine asi rfl (aj (af (ak (ag (ab (aa cw rfl) (ab (aq an rfl (by exact (hk1.from_ ai.rfl_).rd 0 rfl)) ?_))))));refine fb (v:=.int _ _) ct rfl rfl rfl ?_;intro b6 w2 E6 hb6 hk6;refine aB jj (kt 1 6 b6 1 1 [k] _ rfl hk6 (by simp)) ?_;rintro v7 w3 ⟨rfl,rfl⟩;refine mvb rfl (zt (t:=8) rfl (fun Q4=>?_) (fun Q4=>?_))
 ·simp only [bG,bN,and_true] at Q4;have h8:=Q4;refine ae rfl (ab (aa bA rfl) (ae rfl (ab (aq an rfl (by exact (hk1.from_ (ai.rfl_.next E6)).rd 1 rfl)) ?_)));refine ae rfl (ab (aa ez rfl) (ae rfl (ab (aq an rfl (by exact (hk1.from_ (ai.rfl_.next E6)).rd 2 rfl)) ?_)));refine ae rfl (lP [.tmp 10,.tmp 12] [.int _ _,.int _ _] ct rfl rfl rfl rfl (by simp [Value.cells]) ?_);intro b13 w5 E13 hb13 hk13;refine ae rfl (aB jj (kt 1 7 b13 2 2 [f,t] _ rfl hk13 (by simp)) ?_);rintro v14 w6 ⟨rfl,rfl⟩;refine ab (aJ (v:=.bool _) rfl rfl) (mvb rfl (zt (t:=16) rfl (fun Q7=>?_) (fun Q7=>?_)))
  ·simp only [bG,bN,and_true] at Q7;have h16:=Q7;refine ae rfl (ab (aa bu rfl) (ae rfl (ab (aq an rfl (by exact (hk1.from_ ((ai.rfl_.next E6).next E13)).rd 3 rfl)) ?_)));refine ae rfl (ab (aa bR rfl) (ae rfl (ab (aq an rfl (by exact (hk1.from_ ((ai.rfl_.next E6).next E13)).rd 4 rfl)) ?_)));refine ae rfl (ab (aa ck rfl) (ae rfl (ab (aq an rfl (by exact (hk1.from_ ((ai.rfl_.next E6).next E13)).rd 5 rfl)) ?_)));refine ae rfl (ab (aa fz rfl) (ae rfl (ab (aq an rfl (by exact (hk1.from_ ((ai.rfl_.next E6).next E13)).rd 6 rfl)) ?_)));refine ae rfl (ab (aa dg rfl) (ae rfl (ab (aq an rfl (by exact (hk1.from_ ((ai.rfl_.next E6).next E13)).rd 7 rfl)) ?_)));refine ae rfl (ab (aa dU rfl) (ae rfl (ab (aq an rfl (by exact (hk1.from_ ((ai.rfl_.next E6).next E13)).rd 10 rfl)) ?_)));refine ae rfl (lP [.tmp 18,.tmp 20,.tmp 22,.tmp 24,.tmp 26,.tmp 28] [.int _ _,.int _ _,.int _ _,.int _ _,.int _ _,.int _ _] ct rfl rfl rfl rfl (by simp [Value.cells]) ?_);intro b29 w8 E29 hb29 hk29;refine ae rfl (aB jj (kt 0 1099511627775 b29 6 6 [tm,ix,lt,cm,rd,a] _ rfl hk29 (by simp)) ?_);rintro v30 w9 ⟨rfl,rfl⟩;refine ab (aJ (v:=.bool _) rfl rfl) (mvb rfl (zt (t:=32) rfl (fun Q10=>?_) (fun Q10=>?_)))
   ·simp only [bG,bN,and_true] at Q10;have h32:=Q10;refine ae rfl (ab (aG (cs:=[_,_,_,_,_,_,_,_,_,_,_,_,_]) bk aP rfl (by exact (hk1.from_ (((ai.rfl_.next E6).next E13).next E29)).whole)) ?_);refine ae rfl (aB tl (ug k f t tm ix lt cm rd ok E n c a d dn _) ?_);rintro v34 w11 ⟨⟨ix',lt',cm',rd',ok',E',n',c',a',d',dn',rfl,hex⟩,E34⟩;refine ae rfl (aB tn (yg k f t tm ix' lt' cm' rd' ok' E' n' c' a' d' dn' _) ?_);rintro v35 w12 ⟨rfl,E35⟩;refine ab (aJ (v:=.bool _) rfl rfl) (mvb rfl (zt (t:=37) rfl (fun Q13=>?_) (fun Q13=>?_)))
    ·have hx:=hex.1 Q13;have h37:=Q13;refine ae rfl (ab (aG (cs:=[_,_,_,_,_,_,_,_,_,_,_,_,_]) bk aP rfl (by exact (hk1.from_ (((((ai.rfl_.next E6).next E13).next E29).next E34).next E35)).whole)) ?_);refine ae rfl (aB tk (oZ k f t tm ix lt cm rd ok E n c a d dn _ es hn (he.from_ ((((((ai.rfl_.next E1).next E6).next E13).next E29).next E34).next E35)) hl (by omega) (by omega)) ?_);rintro v39 w14 ⟨rfl,E39⟩;refine ab (aJ (v:=.bool _) rfl rfl) (mvb rfl (zt (t:=41) rfl (fun Q15=>?_) (fun Q15=>?_)))
     ·have h41:=Q15;refine ae rfl (ab (aG (cs:=[_,_,_,_,_,_,_,_,_,_,_,_,_]) bk aP rfl (by exact (hk1.from_ ((((((ai.rfl_.next E6).next E13).next E29).next E34).next E35).next E39)).whole)) ?_);refine ae rfl (aB tj (qQ k f t tm ix lt cm rd ok E n c a d dn _) ?_);rintro v43 w16 ⟨rfl,E43⟩;refine ab (aJ (v:=.bool _) rfl rfl) (asb rfl (aj (af (ak (ak (ag (mvb rfl (ab (cl rfl) (aj (af (aU rfl (fun Q17=>?_) (fun Q17=>?_))))))))))))
      ·replace Q17:=dw Q17;replace Q17:=dF_ Q17;have hno:¬ (OkR k f t tm ix lt cm rd ok es a d dn):=fun h=>Q17 h.2.2.2
       refine ak (ag (asi rfl (aj (af (aC (az (bo (v:=.int _ _) rfl rfl (⟨bT (by rw [if_neg hno]),((((((((ai.rfl_.next E1).next E6).next E13).next E29).next E34).next E35).next E39).next E43)⟩))))))))
      replace Q17:=dy Q17;replace Q17:=dT_ Q17;have hyes:OkR k f t tm ix lt cm rd ok es a d dn:=⟨by unfold gH;omega,hn ▸ hx,h41,Q17⟩;refine aM (af (ak (ag (asi rfl (aj (af (aC (bo (v:=.int _ _) rfl rfl (⟨bT (by rw [if_pos hyes]),((((((((ai.rfl_.next E1).next E6).next E13).next E29).next E34).next E35).next E39).next E43)⟩)))))))))
     have hno:¬ (OkR k f t tm ix lt cm rd ok es a d dn):=fun h=>Q15 h.2.2.1
     refine ao rfl rfl (ao rfl rfl (ab (aw (v:=.bool _) rfl rfl) (asb rfl (aj (af (ak (ak (ag (mvb rfl (ab (cl rfl) (aj (af (aL rfl ?_)))))))))))));refine ak (ag (asi rfl (aj (af (aC (az (bo (v:=.int _ _) rfl rfl (⟨bT (by rw [if_neg hno]),(((((((ai.rfl_.next E1).next E6).next E13).next E29).next E34).next E35).next E39)⟩))))))))
    have hno:¬ (OkR k f t tm ix lt cm rd ok es a d dn):=fun h=>Q13 (hex.2 (hn ▸ h.2.1))
    refine ao rfl rfl (ao rfl rfl (ab (aw (v:=.bool _) rfl rfl) (mvb rfl (ao rfl rfl (ao rfl rfl (ab (aw (v:=.bool _) rfl rfl) (asb rfl (aj (af (ak (ak (ag ?_))))))))))));refine mvb rfl (ab (cl rfl) (aj (af (aL rfl (ak (ag (asi rfl (aj (af (aC (az (bo (v:=.int _ _) rfl rfl (⟨bT (by rw [if_neg hno]),((((((ai.rfl_.next E1).next E6).next E13).next E29).next E34).next E35)⟩)))))))))))))
   simp only [bG,bN,and_true] at Q10;have hno:¬ (OkR k f t tm ix lt cm rd ok es a d dn):=fun h=>Q10 (by have:=h.1;unfold gH at this;omega)
   refine ao rfl rfl (ao rfl rfl (ao rfl rfl (ab (aw (v:=.bool _) rfl rfl) (mvb rfl (ao rfl rfl (ao rfl rfl (ab (aw (v:=.bool _) rfl rfl) (mvb rfl ?_))))))));refine ao rfl rfl (ao rfl rfl (ab (aw (v:=.bool _) rfl rfl) (asb rfl (aj (af (ak (ak (ag (mvb rfl (ab (cl rfl) (aj (af (aL rfl ?_)))))))))))));refine ak (ag (asi rfl (aj (af (aC (az (bo (v:=.int _ _) rfl rfl (⟨bT (by rw [if_neg hno]),((((ai.rfl_.next E1).next E6).next E13).next E29)⟩))))))))
  simp only [bG,bN,and_true] at Q7;have hno:¬ (OkR k f t tm ix lt cm rd ok es a d dn):=fun h=>Q7 (by have:=h.1;unfold gH at this;omega)
  refine ao rfl rfl (ao rfl rfl (ao rfl rfl (ao rfl rfl (ao rfl rfl (ao rfl rfl (ao rfl rfl (ao rfl rfl (ao rfl rfl ?_))))))));refine ao rfl rfl (ao rfl rfl (ao rfl rfl (ao rfl rfl (ao rfl rfl (ab (aw (v:=.bool _) rfl rfl) (mvb rfl (ao rfl rfl (ao rfl rfl ?_))))))));refine ao rfl rfl (ab (aw (v:=.bool _) rfl rfl) (mvb rfl (ao rfl rfl (ao rfl rfl (ab (aw (v:=.bool _) rfl rfl) (mvb rfl (ao rfl rfl (ao rfl rfl ?_))))))));refine ab (aw (v:=.bool _) rfl rfl) (asb rfl (aj (af (ak (ak (ag (mvb rfl (ab (cl rfl) (aj (af (aL rfl (ak (ag (asi rfl ?_))))))))))))));refine aj (af (aC (az (bo (v:=.int _ _) rfl rfl (⟨bT (by rw [if_neg hno]),(((ai.rfl_.next E1).next E6).next E13)⟩)))))
 simp only [bG,bN,and_true] at Q4;have hno:¬ (OkR k f t tm ix lt cm rd ok es a d dn):=fun h=>Q4 (by have:=h.1;unfold gH at this;omega)
 refine ao rfl rfl (ao rfl rfl (ao rfl rfl (ao rfl rfl (ao rfl rfl (ao rfl rfl (ab (aw (v:=.bool _) rfl rfl) (mvb rfl (ao rfl rfl ?_))))))));refine ao rfl rfl (ao rfl rfl (ao rfl rfl (ao rfl rfl (ao rfl rfl (ao rfl rfl (ao rfl rfl (ao rfl rfl (ao rfl rfl ?_))))))));refine ao rfl rfl (ao rfl rfl (ao rfl rfl (ao rfl rfl (ab (aw (v:=.bool _) rfl rfl) (mvb rfl (ao rfl rfl (ao rfl rfl (ao rfl rfl ?_))))))));refine ab (aw (v:=.bool _) rfl rfl) (mvb rfl (ao rfl rfl (ao rfl rfl (ab (aw (v:=.bool _) rfl rfl) (mvb rfl (ao rfl rfl (ao rfl rfl (ab (aw (v:=.bool _) rfl rfl) ?_))))))));refine asb rfl (aj (af (ak (ak (ag (mvb rfl (ab (cl rfl) (aj (af (aL rfl (ak (ag (asi rfl (aj (af (aC (az ?_)))))))))))))))));refine bo (v:=.int _ _) rfl rfl (⟨bT (by rw [if_neg hno]),((ai.rfl_.next E1).next E6)⟩)
theorem fV:jn prog 54=some true:=by kernel_rfl
theorem ef:eg prog 54=some 4:=by kernel_rfl
theorem fa:cP prog 54 0=some 0:=by kernel_rfl
theorem e_:cP prog 54 1=some 1:=by kernel_rfl
theorem eZ:cP prog 54 2=some 2:=by kernel_rfl
theorem ep:cP prog 54 3=some 3:=by kernel_rfl
theorem kT:aR prog 92=true:=by kernel_rfl
theorem dR:(gT prog 27).isSome=true:=by kernel_rfl
theorem fx:gT prog 27=some (54,4):=by kernel_rfl
theorem xg:aR prog 87=true:=by kernel_rfl
theorem xc:aR prog 91=true:=by kernel_rfl
theorem dc:jn prog 27=some false:=by kernel_rfl
theorem xh:aR prog 42=true:=by kernel_rfl
theorem zT (A B:Option Addr) (ca cb:Nat) (a b:List Int) (w:World) (ha:eu iV w A a) (hb:eu iV w B b) (hla:a.length*8≤140737488351232) :
 Rt prog 92 [.slice A a.length ca,.slice B b.length cb] w (fun v w'=>v=.bool (decide (a=b))∧ai w w'):=by
 refine enter (n:=26) Tryz.func92 rfl rfl rfl (ak (ag (asb rfl (aj (af (ak (ak (ag (mvs rfl (ab (bW cB rfl) (mvs rfl (ab (bW cB rfl) (ab (dG rfl rfl) ?_)))))))))))));refine aj (af (aU rfl (fun Q1=>?_) (fun Q1=>?_)))
 ·replace Q1:=dw Q1;replace Q1:=ee Q1;refine ak (ag (asb rfl (aj (af (aC (az (bo (v:=.bool _) rfl rfl ?_)))))));exact ⟨by rw [decide_eq_false];rintro rfl;omega,ai.rfl_⟩
 replace Q1:=dy Q1;replace Q1:=ed Q1;refine aM (af (ak (ak (ag (asi rfl (aj (af (bg (dd (G:=Nat) [4,11,12,13,14,15,16,17,18,19,20,21,22,23,24,25] (fun k=>[(5,.int .i64 (k:Nat))]) (fun k w'=>k≤a.length∧a.take k=b.take k∧ai w w') (fun k=>a.length-k) (0) ⟨rfl,trivial⟩ ?_ ?_)))))))))
 ·exact ⟨Nat.zero_le _,rfl,ai.rfl_⟩
 rintro k ρ2 w2 ⟨hk,ht,hB⟩;refine ak (ak (ag (mvi rfl (mvs rfl (ab (bW cB rfl) (ab (b_ rfl rfl) (aj (af (Ab rfl (fun Q3=>?_) (fun Q3=>?_))))))))))
 ·obtain ⟨ba,oa,rfl,ca⟩:=ha (by omega);obtain ⟨bb,ob,rfl,cb⟩:=hb (by omega);refine aM (af (ak (bg (ak ?_))));apply kL 9 [(17,eqp _),(18,eqp _),(19,eqp _),(20,eqp _),(21,eqp _),(22,eqp _),(23,eqp _),(24,eqp _),(25,eqp _)] (by kernel_rfl) (by kernel_rfl) ⟨ah _,ah _,ah _,ah _,ah _,ah _,ah _,ah _,ah _,trivial⟩
  case hop=>
   constructor
   ·intro w5 D5;exact ar (aH (v:=.slice _ _ _) rfl) rfl
   constructor
   ·intro w6 D6;exact ar (aH (v:=.int _ _) rfl) rfl
   constructor
   ·intro w7 D7;rintro _ rfl _ rfl;exact ar (dh db rfl rfl (by omega)) rfl
   constructor
   ·intro w8 D8;rintro _ rfl;exact ar (aq an rfl (by first | (exact fq (hB.next D8) (ca k (by omega))) | (exact fq (hB.next D8) (cb k (by omega))))) rfl
   constructor
   ·intro w9 D9;exact ar (aH (v:=.slice _ _ _) rfl) rfl
   constructor
   ·intro w10 D10;exact ar (aH (v:=.int _ _) rfl) rfl
   constructor
   ·intro w11 D11;rintro _ rfl _ rfl;exact ar (dh db rfl rfl (by omega)) rfl
   constructor
   ·intro w12 D12;rintro _ rfl;exact ar (aq an rfl (by first | (exact fq (hB.next D12) (ca k (by omega))) | (exact fq (hB.next D12) (cb k (by omega))))) rfl
   constructor
   ·intro w13 D13;rintro _ rfl _ rfl;exact ar (dG rfl rfl) rfl
   exact trivial
  case hend=>
   intro w14 D14;rintro _ rfl _ rfl _ rfl _ rfl _ rfl _ rfl _ rfl _ rfl _ rfl;show St ..;refine aj (af (aU rfl (fun Q15=>?_) (fun Q15=>?_)))
   ·replace Q15:=dw Q15;replace Q15:=ee Q15;refine ak (ag (asb rfl (aj (af (aC (aZ (az (az (aZ (az (bo (v:=.bool _) rfl rfl ?_)))))))))));exact ⟨by rw [decide_eq_false];rintro rfl;exact absurd rfl (by assumption),(hB.next D14)⟩
   replace Q15:=dy Q15;replace Q15:=ed Q15;refine aM (bE (af (ag (mvi rfl (ab (cq rfl rfl (by omega)) (asi rfl (aj ?_)))))));refine cu (k+1) ⟨(by first | rfl | (refine bT ?_;omega)),trivial⟩ (by (iterate 33 refine bI rfl ?_);exact bU) ⟨?_,?_⟩
   ·exact ⟨by omega,tF (by omega) (by omega) ht (by omega),(hB.next D14)⟩
   ·omega
 refine cI (bD (bD (cr (af (ak (ag (asb rfl (aj (af (aC (bo (v:=.bool _) rfl rfl (⟨by rw [decide_eq_true (yG (by omega) (by omega) ht)],hB⟩))))))))))))
theorem oE (A B:Option Addr) (ca cb:Nat) (l:List Int) (w:World) (ha:eu iV w A l) (hb:eu iV w B l) (hl:l.length≤1000000):Rt prog 92 [.slice A l.length ca,.slice B l.length cb] w fun v w'=>v=.bool true∧ai w w':=
 (zT A B ca cb l l w ha hb (by omega)).mono fun v w' h=>⟨by rw [h.1,decide_eq_true rfl],h.2⟩
theorem zd (B T:Int) (A A':Option Addr) (n n' c c':Nat) (xs:List Ent) (w:World) (h1:cF w (.slice A n c) xs) (h2:cF w (.slice A' n' c') xs) (hl:xs.length≤1000000):Rt prog 91 [.agg #[.int .i64 B,.int .i64 T,.slice A n c],.agg #[.int .i64 B,.int .i64 T,.slice A' n' c']] w fun v w'=>v=.bool true∧ai w w':=Rt.of (sR B T _ _ xs w h1 h2 (by omega))
theorem uW (q:Rd) (A B:Option Addr) (ca cb:Nat) (w:World) (ha:eu iV w A q.acks) (hb:eu iV w B q.acks) (hl:q.acks.length≤1000000) :
 Rt prog 87 [.agg (rdV (q,A,ca)).toArray,.agg (rdV (q,B,cb)).toArray] w (fun v w'=>v=.bool true∧ai w w'):=by
 refine enter (n:=31) Tryz.func87 rfl rfl rfl (ak (ag (bZ (v:=.agg _) rfl ?_)));intro b2 w1 E2 hb2 hk2;refine bZ (v:=.agg _) rfl ?_;intro b3 w2 E3 hb3 hk3;replace hk2:=hk2.from_ E3;refine asb rfl (aj (af (ak (ag (ab (aa fa rfl) (ab (aq an rfl (by exact (show _=some (Value.int .i64 q.id) from (hk2.from_ ai.rfl_).rd 0 rfl))) ?_))))));refine ab (aa fa rfl) (ab (aq an rfl (by exact (show _=some (Value.int .i64 q.id) from (hk3.from_ ai.rfl_).rd 0 rfl))) ?_);refine ab (cQ (bj rfl rfl) (beq_self_eq_true _)) (mvb rfl (ae rfl (ab (aa e_ rfl) (ae rfl (ab (aq an rfl (by exact (show _=some (Value.int .i64 q.ix) from (hk2.from_ ai.rfl_).rd 1 rfl))) ?_)))));refine ae rfl (ab (aa e_ rfl) (ae rfl (ab (aq an rfl (by exact (show _=some (Value.int .i64 q.ix) from (hk3.from_ ai.rfl_).rd 1 rfl))) ?_)));refine ae rfl (ab (cQ (bj rfl rfl) (beq_self_eq_true _)) (ab (aJ (v:=.bool _) rfl rfl) (mvb rfl (ae rfl (ab (aa eZ rfl) (ae rfl (ab (aq an rfl (by exact (show _=some (Value.int .i64 q.rn) from (hk2.from_ ai.rfl_).rd 2 rfl))) ?_)))))));refine ae rfl (ab (aa eZ rfl) (ae rfl (ab (aq an rfl (by exact (show _=some (Value.int .i64 q.rn) from (hk3.from_ ai.rfl_).rd 2 rfl))) ?_)));refine ae rfl (ab (cQ (bj rfl rfl) (beq_self_eq_true _)) (ab (aJ (v:=.bool _) rfl rfl) (mvb rfl (ae rfl (ab (aa ep rfl) (ae rfl (ab (aq bn rfl (by exact (show _=some (Value.slice A q.acks.length ca) from (hk2.from_ ai.rfl_).rd 3 rfl))) ?_)))))));refine ae rfl (ab (aa ep rfl) (ae rfl (ab (aq bn rfl (by exact (show _=some (Value.slice B q.acks.length cb) from (hk3.from_ ai.rfl_).rd 3 rfl))) ?_)));refine ae rfl (aB kT (oE A B ca cb q.acks _ (ha.from_ ((ai.rfl_.next E2).next E3)) (hb.from_ ((ai.rfl_.next E2).next E3)) hl) ?_);rintro v29 w3 ⟨rfl,E29⟩;refine ab (aJ (v:=.bool _) rfl rfl) (asb rfl (aj (af (aC (bo (v:=.bool _) rfl rfl (⟨rfl,(((ai.rfl_.next E2).next E3).next E29)⟩))))))
theorem sQ (x y:Rd×Option Addr×Nat) (w:World) (h:x.1=y.1) (ha:eu iV w x.2.1 x.1.acks) (hb:eu iV w y.2.1 y.1.acks) (hl:x.1.acks.length≤1000000):Rt prog 87 [.agg (rdV x).toArray,.agg (rdV y).toArray] w fun v w'=>v=.bool true∧ai w w':=by
 obtain ⟨q,A,ca⟩:=x;obtain ⟨q2,B,cb⟩:=y;obtain rfl:q=q2:=h;exact uW q A B ca cb w ha hb hl
theorem sP (A B:Option Addr) (ca cb n:Nat) (X Y:List (Rd×Option Addr×Nat)) (w:World) (hr:im 4 rdV w A X) (hr2:im 4 rdV w B Y) (hX:X.length=n) (hY:Y.length=n) (hp:X.map (fun q=>q.1)=Y.map (fun q=>q.1)) (hE:∀ x∈X,IR w x.2.1 x.2.2 x.1.acks) (hE2:∀ x∈Y,IR w x.2.1 x.2.2 x.1.acks) (hle:∀ x∈X,x.1.acks.length≤1000000) (hn:n≤1000000) :
 Rt prog 42 [.slice A n ca,.slice B n cb] w (fun v w'=>v=.bool true∧ai w w'):=by
 refine enter (n:=27) Tryz.func42 rfl rfl rfl (ak (ag (asb rfl (aj (af (ak (ak (ag (mvs rfl (ab (bW dR rfl) (mvs rfl (ab (bW dR rfl) (ab (cJ (dG rfl rfl) (bne_self_eq_false _)) ?_)))))))))))));refine aj (af (br rfl (aM (af (ak (ak (ag (asi rfl (aj (af (bg (dd (G:=Nat) [4,11,12,13,14,15,16,17,18,19,20,21,22,23,24,25,26] (fun k=>[(5,.int .i64 (k:Nat))]) (fun k w'=>k≤n∧ai w w') (fun k=>n-k) (0) ⟨rfl,trivial⟩ ?_ ?_))))))))))))
 ·exact ⟨Nat.zero_le _,ai.rfl_⟩
 rintro k ρ1 w1 ⟨hk,hB⟩;refine ak (ak (ag (mvi rfl (mvs rfl (ab (bW dR rfl) (ab (b_ rfl rfl) (aj (af (Ab rfl (fun Q2=>?_) (fun Q2=>?_))))))))))
 ·have hkX:k<X.length:=by omega
  have hkY:k<Y.length:=by omega
  obtain ⟨ba,oa,rfl,hca⟩:=hr (by omega);obtain ⟨bb,ob,rfl,hcb⟩:=hr2 (by omega);have hxk:=hE _ (List.getElem_mem hkX);have hyk:=hE2 _ (List.getElem_mem hkY);have hlk:=hle _ (List.getElem_mem hkX)
  have hpk:X[k].1=Y[k].1:=by
   have h9:(X.map (fun q=>q.1))[k]? =(Y.map (fun q=>q.1))[k]? :=by rw [hp]
   rw [List.getElem?_map,List.getElem?_map,List.getElem?_eq_getElem hkX,List.getElem?_eq_getElem hkY] at h9;exact Option.some.inj h9
  refine aM (af (ak (bg (ak ?_))));apply bK 10 [(17,eqp _),(18,eqp _),(19,eqp _),(20,eqp (.agg (rdV X[k]).toArray)),(21,eqp _),(22,eqp _),(23,eqp _),(24,eqp (.agg (rdV Y[k]).toArray)),(25,eqp _),(26,eqp _)] (by repeat first | exact cj | refine ch ?_ | refine bQ ?_) (by kernel_rfl) (by kernel_rfl) ⟨ah _,ah _,ah _,ah _,ah _,ah _,ah _,ah _,ah _,ah _,trivial⟩
  case hop=>
   constructor
   ·rintro-w4 D4;exact ar (aH (v:=.slice _ _ _) rfl) rfl
   constructor
   ·rintro-w5 D5;exact ar (aH (v:=.int _ _) rfl) rfl
   constructor
   ·rintro-w6 D6;rintro _ rfl _ rfl;exact ar (cn fx rfl rfl (by omega)) rfl
   constructor
   ·rintro-w7 D7;rintro _ rfl;exact ar (aG (cs:=rdV X[k]) fV ef rfl (eB (hB.next D7) (hca k hkX))) rfl
   constructor
   ·rintro-w8 D8;exact ar (aH (v:=.slice _ _ _) rfl) rfl
   constructor
   ·rintro-w9 D9;exact ar (aH (v:=.int _ _) rfl) rfl
   constructor
   ·rintro-w10 D10;rintro _ rfl _ rfl;exact ar (cn fx rfl rfl (by omega)) rfl
   constructor
   ·rintro-w11 D11;rintro _ rfl;exact ar (aG (cs:=rdV Y[k]) fV ef rfl (eB (hB.next D11) (hcb k hkY))) rfl
   constructor
   ·rintro-w12 D12;rintro v12_20 rfl v12_24 rfl;refine gd xg ((sQ X[k] Y[k] _ hpk (hxk.1.from_ (hB.next D12)) (hyk.1.from_ (hB.next D12)) hlk).mono ?_);rintro v _ ⟨rfl,E12'⟩;exact ⟨E12',rfl⟩
   constructor
   ·rintro-w13 D13;rintro _ rfl;exact ar (cl rfl) rfl
   exact trivial
  case hend=>
   intro w14 D14;rintro _ rfl _ rfl _ rfl v20 rfl _ rfl _ rfl _ rfl v24 rfl _ rfl _ rfl;show St ..;refine aj (af (z_ rfl (fun Q15=>?_) (fun Q15=>?_)))
   ·exfalso;contradiction
   refine aM (bE (af (ag (mvi rfl (ab (dI (b:=1) rfl rfl (by omega)) (asi rfl (aj ?_)))))));refine cu (k+1) ⟨(by first | rfl | (refine bT ?_;omega)),trivial⟩ (by (iterate 35 refine bI rfl ?_);exact bU) ⟨?_,?_⟩
   ·exact ⟨by omega,(hB.next D14)⟩
   ·omega
 refine cI (bD (bD (cr (af (ak (ag (asb rfl (aj (af (aC (bo (v:=.bool _) rfl rfl (⟨rfl,hB⟩))))))))))))
theorem tM {s:Rf} {a:Ra} {w:World} {b T:Nat} (hb:Blk w b T (rfV s a).toArray):w.rangeAt b 6 [.int .i64 s.b,.int .i64 s.t,.slice a.E s.es.length a.Ec]:=hb.range 6 _ (fun j v hj=>by
 match j,hj with
 |0,hj=>exact hj
 |1,hj=>exact hj
 |2,hj=>exact hj
 |j+3,hj=>simp at hj)
theorem gh (s:Rf) (a b:Ra) (w:World) (ha:eX w s a) (hb:eX w s b) (hl:s.es.length≤1000000∧s.votes.length≤1000000∧s.next.length≤1000000∧s.mtch.length≤1000000∧s.sent.length≤1000000∧s.reads.length≤1000000∧∀ q∈s.reads,q.acks.length≤1000000) :
 Rt prog 49 [.agg (rfV s a).toArray,.agg (rfV s b).toArray] w (fun v w'=>v=.bool true∧ai w w'):=by
 obtain ⟨hl0,hl1,hl2,hl3,hl4,hl5,hl6⟩:=hl;have hla:a.L.length=s.reads.length:=by rw [←ha.r,List.length_map]
 have hlb:a.L.length=b.L.length:=by rw [hla,←hb.r,List.length_map]
 refine enter (n:=143) Tryz.func49 rfl rfl rfl (ak (ag (bZ (v:=.agg _) rfl ?_)));intro b2 w1 E2 hb2 hk2;refine bZ (v:=.agg _) rfl ?_;intro b3 w2 E3 hb3 hk3;replace hk2:=hk2.from_ E3;refine asb rfl (aj (af (ak (ag (ab (aa cM rfl) (ab (aq an rfl (by exact (show _=some (Value.int .i64 s.id) from (hk2.from_ ai.rfl_).rd 0 rfl))) ?_))))));refine ab (aa cM rfl) (ab (aq an rfl (by exact (show _=some (Value.int .i64 s.id) from (hk3.from_ ai.rfl_).rd 0 rfl))) ?_);refine ab (cQ (bj rfl rfl) (beq_self_eq_true _)) (mvb rfl (ae rfl (ab (aa bX rfl) (ae rfl (ab (aq an rfl (by exact (show _=some (Value.int .i64 s.nodes) from (hk2.from_ ai.rfl_).rd 1 rfl))) ?_)))));refine ae rfl (ab (aa bX rfl) (ae rfl (ab (aq an rfl (by exact (show _=some (Value.int .i64 s.nodes) from (hk3.from_ ai.rfl_).rd 1 rfl))) ?_)));refine ae rfl (ab (cQ (bj rfl rfl) (beq_self_eq_true _)) (ab (aJ (v:=.bool _) rfl rfl) (mvb rfl (ae rfl (ab (aa du rfl) (ae rfl (ab (aq an rfl (by exact (show _=some (Value.int .i64 s.role) from (hk2.from_ ai.rfl_).rd 2 rfl))) ?_)))))));refine ae rfl (ab (aa du rfl) (ae rfl (ab (aq an rfl (by exact (show _=some (Value.int .i64 s.role) from (hk3.from_ ai.rfl_).rd 2 rfl))) ?_)));refine ae rfl (ab (cQ (bj rfl rfl) (beq_self_eq_true _)) (ab (aJ (v:=.bool _) rfl rfl) (mvb rfl (ae rfl (ab (aa bt rfl) (ae rfl (ab (aq an rfl (by exact (show _=some (Value.int .i64 s.term) from (hk2.from_ ai.rfl_).rd 3 rfl))) ?_)))))));refine ae rfl (ab (aa bt rfl) (ae rfl (ab (aq an rfl (by exact (show _=some (Value.int .i64 s.term) from (hk3.from_ ai.rfl_).rd 3 rfl))) ?_)));refine ae rfl (ab (cQ (bj rfl rfl) (beq_self_eq_true _)) (ab (aJ (v:=.bool _) rfl rfl) (mvb rfl (ae rfl (ab (aa bY rfl) (ae rfl (ab (aq an rfl (by exact (show _=some (Value.int .i64 s.vote) from (hk2.from_ ai.rfl_).rd 4 rfl))) ?_)))))));refine ae rfl (ab (aa bY rfl) (ae rfl (ab (aq an rfl (by exact (show _=some (Value.int .i64 s.vote) from (hk3.from_ ai.rfl_).rd 4 rfl))) ?_)));refine ae rfl (ab (cQ (bj rfl rfl) (beq_self_eq_true _)) (ab (aJ (v:=.bool _) rfl rfl) (mvb rfl (ae rfl (ab (aa eQ rfl) (ae rfl (ab (aq an rfl (by exact (show _=some (Value.int .i64 s.leader) from (hk2.from_ ai.rfl_).rd 5 rfl))) ?_)))))));refine ae rfl (ab (aa eQ rfl) (ae rfl (ab (aq an rfl (by exact (show _=some (Value.int .i64 s.leader) from (hk3.from_ ai.rfl_).rd 5 rfl))) ?_)));refine ae rfl (ab (cQ (bj rfl rfl) (beq_self_eq_true _)) (ab (aJ (v:=.bool _) rfl rfl) (mvb rfl (ae rfl (ab (aa bq rfl) (ae rfl (ab (aG (cs:=[.int .i64 s.b,.int .i64 s.t,.slice a.E s.es.length a.Ec]) bB bd rfl (tM (hk2.from_ ai.rfl_))) (ae rfl ?_))))))));refine ab (aa bq rfl) (ae rfl (ab (aG (cs:=[.int .i64 s.b,.int .i64 s.t,.slice b.E s.es.length b.Ec]) bB bd rfl (tM (hk3.from_ ai.rfl_))) (ae rfl (aB xc (zd s.b s.t a.E b.E s.es.length s.es.length a.Ec b.Ec s.es _ (ha.e.from_ ((ai.rfl_.next E2).next E3)) (hb.e.from_ ((ai.rfl_.next E2).next E3)) hl0) ?_))));rintro v50 w3 ⟨rfl,E50⟩;refine ab (aJ (v:=.bool _) rfl rfl) (mvb rfl (ae rfl (ab (aa dF rfl) (ae rfl (ab (aq cK rfl (by exact (show _=some (Value.string s.snap) from (hk2.from_ (ai.rfl_.next E50)).rd 9 rfl))) ?_)))));refine ae rfl (ab (aa dF rfl) (ae rfl (ab (aq cK rfl (by exact (show _=some (Value.string s.snap) from (hk3.from_ (ai.rfl_.next E50)).rd 9 rfl))) ?_)));refine ae rfl (ab (cQ (k7 rfl rfl) (beq_self_eq_true _)) (ab (aJ (v:=.bool _) rfl rfl) (mvb rfl (ae rfl (ab (aa dr rfl) (ae rfl (ab (aq an rfl (by exact (show _=some (Value.int .i64 s.commit) from (hk2.from_ (ai.rfl_.next E50)).rd 10 rfl))) ?_)))))));refine ae rfl (ab (aa dr rfl) (ae rfl (ab (aq an rfl (by exact (show _=some (Value.int .i64 s.commit) from (hk3.from_ (ai.rfl_.next E50)).rd 10 rfl))) ?_)));refine ae rfl (ab (cQ (bj rfl rfl) (beq_self_eq_true _)) (ab (aJ (v:=.bool _) rfl rfl) (mvb rfl (ae rfl (ab (aa c_ rfl) (ae rfl (ab (aq an rfl (by exact (show _=some (Value.int .i64 s.elapsed) from (hk2.from_ (ai.rfl_.next E50)).rd 11 rfl))) ?_)))))));refine ae rfl (ab (aa c_ rfl) (ae rfl (ab (aq an rfl (by exact (show _=some (Value.int .i64 s.elapsed) from (hk3.from_ (ai.rfl_.next E50)).rd 11 rfl))) ?_)));refine ae rfl (ab (cQ (bj rfl rfl) (beq_self_eq_true _)) (ab (aJ (v:=.bool _) rfl rfl) (mvb rfl (ae rfl (ab (aa eY rfl) (ae rfl (ab (aq an rfl (by exact (show _=some (Value.int .i64 s.timeout) from (hk2.from_ (ai.rfl_.next E50)).rd 12 rfl))) ?_)))))));refine ae rfl (ab (aa eY rfl) (ae rfl (ab (aq an rfl (by exact (show _=some (Value.int .i64 s.timeout) from (hk3.from_ (ai.rfl_.next E50)).rd 12 rfl))) ?_)));refine ae rfl (ab (cQ (bj rfl rfl) (beq_self_eq_true _)) (ab (aJ (v:=.bool _) rfl rfl) (mvb rfl (ae rfl (ab (aa gL rfl) (ae rfl (ab (aq kS rfl (by exact (show _=some (Value.int .u64 s.seed) from (hk2.from_ (ai.rfl_.next E50)).rd 13 rfl))) ?_)))))));refine ae rfl (ab (aa gL rfl) (ae rfl (ab (aq kS rfl (by exact (show _=some (Value.int .u64 s.seed) from (hk3.from_ (ai.rfl_.next E50)).rd 13 rfl))) ?_)));refine ae rfl (ab (cQ (bj rfl rfl) (beq_self_eq_true _)) (ab (aJ (v:=.bool _) rfl rfl) (mvb rfl (ae rfl (ab (aa di rfl) (ae rfl (ab (aq bn rfl (by exact (show _=some (Value.slice a.V s.votes.length a.Vc) from (hk2.from_ (ai.rfl_.next E50)).rd 14 rfl))) ?_)))))));refine ae rfl (ab (aa di rfl) (ae rfl (ab (aq bn rfl (by exact (show _=some (Value.slice b.V s.votes.length b.Vc) from (hk3.from_ (ai.rfl_.next E50)).rd 14 rfl))) ?_)));refine ae rfl (aB kT (oE a.V b.V a.Vc b.Vc s.votes _ (ha.v.1.from_ (((ai.rfl_.next E2).next E3).next E50)) (hb.v.1.from_ (((ai.rfl_.next E2).next E3).next E50)) hl1) ?_);rintro v92 w4 ⟨rfl,E92⟩;refine ab (aJ (v:=.bool _) rfl rfl) (mvb rfl (ae rfl (ab (aa cL rfl) (ae rfl (ab (aq bn rfl (by exact (show _=some (Value.slice a.X s.next.length a.Xc) from (hk2.from_ ((ai.rfl_.next E50).next E92)).rd 15 rfl))) ?_)))));refine ae rfl (ab (aa cL rfl) (ae rfl (ab (aq bn rfl (by exact (show _=some (Value.slice b.X s.next.length b.Xc) from (hk3.from_ ((ai.rfl_.next E50).next E92)).rd 15 rfl))) ?_)));refine ae rfl (aB kT (oE a.X b.X a.Xc b.Xc s.next _ (ha.x.1.from_ ((((ai.rfl_.next E2).next E3).next E50).next E92)) (hb.x.1.from_ ((((ai.rfl_.next E2).next E3).next E50).next E92)) hl2) ?_);rintro v99 w5 ⟨rfl,E99⟩;refine ab (aJ (v:=.bool _) rfl rfl) (mvb rfl (ae rfl (ab (aa cO rfl) (ae rfl (ab (aq bn rfl (by exact (show _=some (Value.slice a.M s.mtch.length a.Mc) from (hk2.from_ (((ai.rfl_.next E50).next E92).next E99)).rd 16 rfl))) ?_)))));refine ae rfl (ab (aa cO rfl) (ae rfl (ab (aq bn rfl (by exact (show _=some (Value.slice b.M s.mtch.length b.Mc) from (hk3.from_ (((ai.rfl_.next E50).next E92).next E99)).rd 16 rfl))) ?_)));refine ae rfl (aB kT (oE a.M b.M a.Mc b.Mc s.mtch _ (ha.m.1.from_ (((((ai.rfl_.next E2).next E3).next E50).next E92).next E99)) (hb.m.1.from_ (((((ai.rfl_.next E2).next E3).next E50).next E92).next E99)) hl3) ?_);rintro v106 w6 ⟨rfl,E106⟩;refine ab (aJ (v:=.bool _) rfl rfl) (mvb rfl (ae rfl (ab (aa cT rfl) (ae rfl (ab (aq bn rfl (by exact (show _=some (Value.slice a.S s.sent.length a.Sc) from (hk2.from_ ((((ai.rfl_.next E50).next E92).next E99).next E106)).rd 17 rfl))) ?_)))));refine ae rfl (ab (aa cT rfl) (ae rfl (ab (aq bn rfl (by exact (show _=some (Value.slice b.S s.sent.length b.Sc) from (hk3.from_ ((((ai.rfl_.next E50).next E92).next E99).next E106)).rd 17 rfl))) ?_)));refine ae rfl (aB kT (oE a.S b.S a.Sc b.Sc s.sent _ (ha.n.1.from_ ((((((ai.rfl_.next E2).next E3).next E50).next E92).next E99).next E106)) (hb.n.1.from_ ((((((ai.rfl_.next E2).next E3).next E50).next E92).next E99).next E106)) hl4) ?_);rintro v113 w7 ⟨rfl,E113⟩;refine ab (aJ (v:=.bool _) rfl rfl) (mvb rfl (ae rfl (ab (aa dA rfl) (ae rfl (ab (aq an rfl (by exact (show _=some (Value.int .i64 s.round) from (hk2.from_ (((((ai.rfl_.next E50).next E92).next E99).next E106).next E113)).rd 18 rfl))) ?_)))));refine ae rfl (ab (aa dA rfl) (ae rfl (ab (aq an rfl (by exact (show _=some (Value.int .i64 s.round) from (hk3.from_ (((((ai.rfl_.next E50).next E92).next E99).next E106).next E113)).rd 18 rfl))) ?_)));refine ae rfl (ab (cQ (bj rfl rfl) (beq_self_eq_true _)) (ab (aJ (v:=.bool _) rfl rfl) (mvb rfl (ae rfl (ab (aa bL rfl) (ae rfl (ab (aq dc rfl (by exact (show _=some (Value.slice a.Q a.L.length a.Qc) from (hk2.from_ (((((ai.rfl_.next E50).next E92).next E99).next E106).next E113)).rd 19 rfl))) ?_)))))));refine ae rfl (ab (aa bL rfl) (ae rfl ?_));refine ab (aq dc rfl (by have h9:=(hk3.from_ (((((ai.rfl_.next E50).next E92).next E99).next E106).next E113)).rd 19 rfl;exact (show _=some (Value.slice b.Q a.L.length b.Qc) from by rw [hlb];exact h9))) ?_;refine ae rfl (aB xh (sP a.Q b.Q a.Qc b.Qc a.L.length a.L b.L _ (ha.q.from_ (((((((ai.rfl_.next E2).next E3).next E50).next E92).next E99).next E106).next E113)) (hb.q.from_ (((((((ai.rfl_.next E2).next E3).next E50).next E92).next E99).next E106).next E113)) rfl hlb.symm (ha.r.trans hb.r.symm) (fun x hx=>(ha.k x hx).from_ (((((((ai.rfl_.next E2).next E3).next E50).next E92).next E99).next E106).next E113)) (fun x hx=>(hb.k x hx).from_ (((((((ai.rfl_.next E2).next E3).next E50).next E92).next E99).next E106).next E113)) (fun x hx=>hl6 _ (by rw [←ha.r];exact List.mem_map_of_mem hx)) (by omega)) ?_);rintro v127 w8 ⟨rfl,E127⟩;refine ab (aJ (v:=.bool _) rfl rfl) (mvb rfl (ae rfl (ab (aa dS rfl) (ae rfl (ab (aq cK rfl (by exact (show _=some (Value.string s.part) from (hk2.from_ ((((((ai.rfl_.next E50).next E92).next E99).next E106).next E113).next E127)).rd 20 rfl))) ?_)))));refine ae rfl (ab (aa dS rfl) (ae rfl (ab (aq cK rfl (by exact (show _=some (Value.string s.part) from (hk3.from_ ((((((ai.rfl_.next E50).next E92).next E99).next E106).next E113).next E127)).rd 20 rfl))) ?_)));refine ae rfl (ab (cQ (k7 rfl rfl) (beq_self_eq_true _)) (ab (aJ (v:=.bool _) rfl rfl) (mvb rfl (ae rfl (ab (aa dJ rfl) (ae rfl (ab (aq an rfl (by exact (show _=some (Value.int .i64 s.partOf) from (hk2.from_ ((((((ai.rfl_.next E50).next E92).next E99).next E106).next E113).next E127)).rd 21 rfl))) ?_)))))));refine ae rfl (ab (aa dJ rfl) (ae rfl (ab (aq an rfl (by exact (show _=some (Value.int .i64 s.partOf) from (hk3.from_ ((((((ai.rfl_.next E50).next E92).next E99).next E106).next E113).next E127)).rd 21 rfl))) ?_)));refine ae rfl (ab (cQ (bj rfl rfl) (beq_self_eq_true _)) (ab (aJ (v:=.bool _) rfl rfl) (asb rfl (aj (af (aC (bo (v:=.bool _) rfl rfl (⟨rfl,((((((((ai.rfl_.next E2).next E3).next E50).next E92).next E99).next E106).next E113).next E127)⟩))))))))
theorem jX:jn prog 99=some true:=by kernel_rfl
theorem gG:eg prog 99=some 3:=by kernel_rfl
theorem u7:aR prog 90=true:=by kernel_rfl
theorem ll:(gT prog 48).isSome=true:=by kernel_rfl
theorem ln:gT prog 48=some (39,13):=by kernel_rfl
theorem jW:aR prog 48=true:=by kernel_rfl
theorem nN {a b:ByteArray}:a.toList=b.toList↔a=b:=by
 refine ⟨fun hh=>?_,fun h=>by rw [h]⟩;rw [ByteArray.toList_eq,ByteArray.toList_eq] at hh;obtain ⟨⟨x⟩⟩:=a;obtain ⟨⟨y⟩⟩:=b
 simp_all
instance:DecidableEq Ent:=fun x y=>decidable_of_iff (x.i=y.i∧x.t=y.t∧x.d=y.d) ⟨fun h=>by cases x;cases y;simp_all,fun h=>by rw [h];exact ⟨rfl,rfl,rfl⟩⟩
theorem zU (a b:Ent) (w:World):(Op.equalIn 10000 99 (.agg #[.int .i64 a.i,.int .i64 a.t,.string a.d]) (.agg #[.int .i64 b.i,.int .i64 b.t,.string b.d])).run prog w=.ok (decide (a=b)) w:=by
 have u3:=Tryz.underlying3;have a3:=Tryz.isAgg3;have z3:=Tryz.sizeOf3;have u9:=Tryz.underlying9;have a9:=Tryz.isAgg9;have z9:=Tryz.sizeOf9;have hS:prog.underlying 99=some (.struct (prog.fieldsOf 99)):=by kernel_rfl
 have hp:prog.stoodInHeld 99=false:=by kernel_rfl
 obtain ⟨i1,t1,d1⟩:=a;obtain ⟨i2,t2,d2⟩:=b;rw [show (10000:Nat)=9999+1 from rfl,run_equalIn_agg w 9999 99 _ _ hS hp];simp only [Program.fieldsOf,Tryz.underlying99 ]
 go_simp
 simp only [nN];by_cases h1:i1=i2 <;> by_cases h2:t1=t2 <;> by_cases h3:d1=d2 <;> simp [h1,h2,h3]
theorem uI {ρ:Operand→Value} {w:World} {yt:TypeId} {x y:Operand} {a b:Ent} (hx:ρ x=.agg #[.int .i64 a.i,.int .i64 a.t,.string a.d]) (hy:ρ y=.agg #[.int .i64 b.i,.int .i64 b.t,.string b.d]):RO prog ρ (.binOp .neq 99 x y yt) w (.bool (!decide (a=b))) w:=by
 refine mw hx hy (run_eqGuard_agg w _ _ _ _ _ _ (by kernel_rfl)) ?_;rw [run_neq_struct,zU];rfl
theorem lf {w:World} {A:Option Addr} {n c:Nat} {es:List Ent} (h:cF w (.slice A n c) es) (hn:0<es.length):∃ b o,A=some ⟨b,o,none⟩∧∀ i (hi:i<es.length),w.rangeAt b (o+i*3) [.int .i64 es[i].i,.int .i64 es[i].t,.string es[i].d]:=by
 obtain ⟨A',c',hv,_,_,_,hp⟩:=h;simp only [Value.slice.injEq] at hv;obtain ⟨rfl,_,_⟩:=hv;obtain ⟨b,o,hA,_,hc⟩:=hp hn;exact ⟨b,o,hA,fun i hi=>vK (hc i hi).1 (hc i hi).2.1 (hc i hi).2.2⟩
theorem Aq (a b:ByteArray):(a.toList==b.toList)=decide (a=b):=by
 rw [Bool.eq_iff_iff,beq_iff_eq,decide_eq_true_eq,nN]
theorem Ad (a b:Bool):(a==b)=decide (a=b):=by cases a <;> cases b <;> rfl
theorem la {es:List Ent}:[]=es↔es.length=0:=by cases es <;> simp
theorem mO {b:Bool}:false=b↔b.toNat=0:=by cases b <;> simp
theorem wF (A B:Option Addr) (ca cb n m:Nat) (xs ys:List Ent) (w:World) (hn:n=xs.length) (hm:m=ys.length) (h1:cF w (.slice A n ca) xs) (h2:cF w (.slice B m cb) ys) (hl:xs.length≤400000000000) :
 Rt prog 90 [.slice A n ca,.slice B m cb] w (fun v w'=>v=.bool (decide (xs=ys))∧ai w w'):=by
 subst hn hm;refine enter (n:=26) Tryz.func90 rfl rfl rfl (ak (ag (asb rfl (aj (af (ak (ak (ag (mvs rfl (ab (bW cC rfl) (mvs rfl (ab (bW cC rfl) (ab (dG rfl rfl) ?_)))))))))))));refine aj (af (aU rfl (fun Q1=>?_) (fun Q1=>?_)))
 ·replace Q1:=dw Q1;replace Q1:=ee Q1;refine ak (ag (asb rfl (aj (af (aC (az (bo (v:=.bool _) rfl rfl (⟨congrArg Value.bool (decide_eq_false (fun e=>absurd (congrArg List.length e) (by omega))).symm,ai.rfl_⟩))))))))
 replace Q1:=dy Q1;replace Q1:=ed Q1;have hlen:xs.length=ys.length:=by omega
 refine aM (af (ak (ak (ag (asi rfl (aj (af (bg (dd (G:=Nat) [4,11,12,13,14,15,16,17,18,19,20,21,22,23,24,25] (fun k=>[(5,.int .i64 (k:Nat))]) (fun k w'=>k≤xs.length∧xs.take k=ys.take k∧ai w w') (fun k=>xs.length-k) (0) ⟨rfl,trivial⟩ ?_ ?_)))))))))
 ·exact ⟨Nat.zero_le _,rfl,ai.rfl_⟩
 rintro k ρ2 w2 ⟨hk,ht,hB⟩;refine ak (ak (ag (mvi rfl (mvs rfl (ab (bW cC rfl) (ab (b_ rfl rfl) (aj (af (Ab rfl (fun Q3=>?_) (fun Q3=>?_))))))))))
 ·have hkx:k<xs.length:=by omega
  have hky:k<ys.length:=by omega
  obtain ⟨ba,oa,rfl,hca⟩:=lf h1 (by omega);obtain ⟨bb,ob,rfl,hcb⟩:=lf h2 (by omega);refine aM (af (ak (bg (ak ?_))));apply bK 9 [(17,eqp _),(18,eqp _),(19,eqp _),(20,eqp (.agg #[.int .i64 (xs[k]'hkx).i,.int .i64 (xs[k]'hkx).t,.string (xs[k]'hkx).d])),(21,eqp _),(22,eqp _),(23,eqp _),(24,eqp (.agg #[.int .i64 (ys[k]'hky).i,.int .i64 (ys[k]'hky).t,.string (ys[k]'hky).d])),(25,eqp (.bool (!decide (xs[k]'hkx=ys[k]'hky))))] (by repeat first | exact cj | refine ch ?_ | refine bQ ?_) (by kernel_rfl) (by kernel_rfl) ⟨ah _,ah _,ah _,ah _,ah _,ah _,ah _,ah _,ah _,trivial⟩
  case hop=>
   constructor
   ·rintro-w5 D5;exact ar (aH (v:=.slice _ _ _) rfl) rfl
   constructor
   ·rintro-w6 D6;exact ar (aH (v:=.int _ _) rfl) rfl
   constructor
   ·rintro-w7 D7;rintro _ rfl _ rfl;exact ar (cn dN rfl rfl (by omega)) rfl
   constructor
   ·rintro-w8 D8;rintro _ rfl;exact ar (aG (cs:=[.int .i64 xs[k].i,.int .i64 xs[k].t,.string xs[k].d]) jX gG rfl (eB (hB.next D8) (hca k hkx))) rfl
   constructor
   ·rintro-w9 D9;exact ar (aH (v:=.slice _ _ _) rfl) rfl
   constructor
   ·rintro-w10 D10;exact ar (aH (v:=.int _ _) rfl) rfl
   constructor
   ·rintro-w11 D11;rintro _ rfl _ rfl;exact ar (cn dN rfl rfl (by omega)) rfl
   constructor
   ·rintro-w12 D12;rintro _ rfl;exact ar (aG (cs:=[.int .i64 ys[k].i,.int .i64 ys[k].t,.string ys[k].d]) jX gG rfl (eB (hB.next D12) (hcb k hky))) rfl
   constructor
   ·rintro-w13 D13;rintro v13_20 rfl v13_24 rfl;exact ar (uI (a:=xs[k]) (b:=ys[k]) rfl rfl) rfl
   exact trivial
  case hend=>
   intro w14 D14;rintro _ rfl _ rfl _ rfl v20 rfl _ rfl _ rfl _ rfl v24 rfl v25 rfl;show St ..;refine aj (af (aU rfl (fun Q15=>?_) (fun Q15=>?_)))
   ·replace Q15:=dw Q15;replace Q15:=dF_ Q15;have hne:¬ xs[k]=ys[k]:=by simpa using Q15
    refine ak (ag (asb rfl (aj (af (aC (aZ (az (az (aZ (az (bo (v:=.bool _) rfl rfl (⟨congrArg Value.bool (decide_eq_false (fun e=>by subst e;exact hne rfl)).symm,(hB.next D14)⟩))))))))))))
   replace Q15:=dy Q15;replace Q15:=dT_ Q15;have heq:xs[k]=ys[k]:=by simpa using Q15
   refine aM (bE (af (ag (mvi rfl (ab (dI (b:=1) rfl rfl (by omega)) (asi rfl (aj ?_)))))));refine cu (k+1) ⟨(by first | rfl | (refine bT ?_;omega)),trivial⟩ (by (iterate 33 refine bI rfl ?_);exact bU) ⟨?_,?_⟩
   ·exact ⟨by omega,tF hkx hky ht heq,(hB.next D14)⟩
   ·omega
 refine cI (bD (bD (cr (af (ak (ag (asb rfl (aj (af (aC (bo (v:=.bool _) rfl rfl (⟨congrArg Value.bool (decide_eq_true (yG hlen (by omega) ht)).symm,hB⟩))))))))))))
theorem tW (k f t tm ix lt cm rd:Int) (ok:Bool) (E:Option Addr) (n c:Nat) (a:Int) (d:ByteArray) (dn:Bool) (k2 f2 t2 tm2 ix2 lt2 cm2 rd2:Int) (ok2:Bool) (Eb:Option Addr) (n2 c2:Nat) (a2:Int) (d2:ByteArray) (dn2:Bool) (w:World) (es es2:List Ent) (hn:n=es.length) (hn2:n2=es2.length) (he:cF w (.slice E n c) es) (he2:cF w (.slice Eb n2 c2) es2) (hl:es.length≤400000000000) :
 Rt prog 48 [.agg #[.int .i64 k,.int .i64 f,.int .i64 t,.int .i64 tm,.int .i64 ix,.int .i64 lt,.int .i64 cm,.int .i64 rd,.bool ok,.slice E n c,.int .i64 a,.string d,.bool dn],.agg #[.int .i64 k2,.int .i64 f2,.int .i64 t2,.int .i64 tm2,.int .i64 ix2,.int .i64 lt2,.int .i64 cm2,.int .i64 rd2,.bool ok2,.slice Eb n2 c2,.int .i64 a2,.string d2,.bool dn2]] w (fun v w'=>v=.bool (decide (k=k2∧f=f2∧t=t2∧tm=tm2∧ix=ix2∧lt=lt2∧cm=cm2∧rd=rd2∧ok=ok2∧es=es2∧a=a2∧d=d2∧dn=dn2))∧ai w w'):=by
 refine enter (n:=94) Tryz.func48 rfl rfl rfl (ak (ag (bZ (v:=.agg _) rfl ?_)));intro b2 w1 E2 hb2 hk2;refine bZ (v:=.agg _) rfl ?_;intro b3 w2 E3 hb3 hk3;replace hk2:=hk2.from_ E3;refine asb rfl (aj (af (ak (ag (ab (aa cw rfl) (ab (aq an rfl (by exact (hk2.from_ ai.rfl_).rd 0 rfl)) ?_))))));refine ab (aa cw rfl) (ab (aq an rfl (by exact (hk3.from_ ai.rfl_).rd 0 rfl)) ?_);refine ab (bj rfl rfl) (mvb rfl (zr (t:=10) rfl (fun Q3=>?_) (fun Q3=>?_)))
 ·have q0:=Q3;refine ae rfl (ab (aa bA rfl) (ae rfl (ab (aq an rfl (by exact (hk2.from_ ai.rfl_).rd 1 rfl)) ?_)));refine ae rfl (ab (aa bA rfl) (ae rfl (ab (aq an rfl (by exact (hk3.from_ ai.rfl_).rd 1 rfl)) ?_)));refine ae rfl (ab (bj rfl rfl) (ab (aJ (v:=.bool _) rfl rfl) (mvb rfl (zr (t:=17) rfl (fun Q4=>?_) (fun Q4=>?_)))))
  ·have q1:=Q4;refine ae rfl (ab (aa ez rfl) (ae rfl (ab (aq an rfl (by exact (hk2.from_ ai.rfl_).rd 2 rfl)) ?_)));refine ae rfl (ab (aa ez rfl) (ae rfl (ab (aq an rfl (by exact (hk3.from_ ai.rfl_).rd 2 rfl)) ?_)));refine ae rfl (ab (bj rfl rfl) (ab (aJ (v:=.bool _) rfl rfl) (mvb rfl (zr (t:=24) rfl (fun Q5=>?_) (fun Q5=>?_)))))
   ·have q2:=Q5;refine ae rfl (ab (aa bu rfl) (ae rfl (ab (aq an rfl (by exact (hk2.from_ ai.rfl_).rd 3 rfl)) ?_)));refine ae rfl (ab (aa bu rfl) (ae rfl (ab (aq an rfl (by exact (hk3.from_ ai.rfl_).rd 3 rfl)) ?_)));refine ae rfl (ab (bj rfl rfl) (ab (aJ (v:=.bool _) rfl rfl) (mvb rfl (zr (t:=31) rfl (fun Q6=>?_) (fun Q6=>?_)))))
    ·have q3:=Q6;refine ae rfl (ab (aa bR rfl) (ae rfl (ab (aq an rfl (by exact (hk2.from_ ai.rfl_).rd 4 rfl)) ?_)));refine ae rfl (ab (aa bR rfl) (ae rfl (ab (aq an rfl (by exact (hk3.from_ ai.rfl_).rd 4 rfl)) ?_)));refine ae rfl (ab (bj rfl rfl) (ab (aJ (v:=.bool _) rfl rfl) (mvb rfl (zr (t:=38) rfl (fun Q7=>?_) (fun Q7=>?_)))))
     ·have q4:=Q7;refine ae rfl (ab (aa ck rfl) (ae rfl (ab (aq an rfl (by exact (hk2.from_ ai.rfl_).rd 5 rfl)) ?_)));refine ae rfl (ab (aa ck rfl) (ae rfl (ab (aq an rfl (by exact (hk3.from_ ai.rfl_).rd 5 rfl)) ?_)));refine ae rfl (ab (bj rfl rfl) (ab (aJ (v:=.bool _) rfl rfl) (mvb rfl (zr (t:=45) rfl (fun Q8=>?_) (fun Q8=>?_)))))
      ·have q5:=Q8;refine ae rfl (ab (aa fz rfl) (ae rfl (ab (aq an rfl (by exact (hk2.from_ ai.rfl_).rd 6 rfl)) ?_)));refine ae rfl (ab (aa fz rfl) (ae rfl (ab (aq an rfl (by exact (hk3.from_ ai.rfl_).rd 6 rfl)) ?_)));refine ae rfl (ab (bj rfl rfl) (ab (aJ (v:=.bool _) rfl rfl) (mvb rfl (zr (t:=52) rfl (fun Q9=>?_) (fun Q9=>?_)))))
       ·have q6:=Q9;refine ae rfl (ab (aa dg rfl) (ae rfl (ab (aq an rfl (by exact (hk2.from_ ai.rfl_).rd 7 rfl)) ?_)));refine ae rfl (ab (aa dg rfl) (ae rfl (ab (aq an rfl (by exact (hk3.from_ ai.rfl_).rd 7 rfl)) ?_)));refine ae rfl (ab (bj rfl rfl) (ab (aJ (v:=.bool _) rfl rfl) (mvb rfl (zr (t:=59) rfl (fun Q10=>?_) (fun Q10=>?_)))))
        ·have q7:=Q10;refine ae rfl (ab (aa fk rfl) (ae rfl (ab (aq fm rfl (by exact (hk2.from_ ai.rfl_).rd 8 rfl)) ?_)));refine ae rfl (ab (aa fk rfl) (ae rfl (ab (aq fm rfl (by exact (hk3.from_ ai.rfl_).rd 8 rfl)) ?_)));refine ae rfl (ab (iD (tK (by kernel_rfl) rfl rfl) (congrArg Value.bool (Ad ok ok2))) (ab (aJ (v:=.bool _) rfl rfl) (mvb rfl (zt (t:=66) rfl (fun Q11=>?_) (fun Q11=>?_)))))
         ·have q8:=Q11;refine ae rfl (ab (aa dC rfl) (ae rfl (ab (aq cY rfl (by exact (hk2.from_ ai.rfl_).rd 9 rfl)) ?_)));refine ae rfl (ab (aa dC rfl) (ae rfl (ab (aq cY rfl (by exact (hk3.from_ ai.rfl_).rd 9 rfl)) ?_)));refine ae rfl (aB u7 (wF E Eb c c2 n n2 es es2 _ hn hn2 (he.from_ ((ai.rfl_.next E2).next E3)) (he2.from_ ((ai.rfl_.next E2).next E3)) hl) ?_);rintro v71 w12 ⟨rfl,E71⟩;refine ab (aJ (v:=.bool _) rfl rfl) (mvb rfl (zt (t:=73) rfl (fun Q13=>?_) (fun Q13=>?_)))
          ·have q9:=Q13;refine ae rfl (ab (aa dU rfl) (ae rfl (ab (aq an rfl (by exact (hk2.from_ (ai.rfl_.next E71)).rd 10 rfl)) ?_)));refine ae rfl (ab (aa dU rfl) (ae rfl (ab (aq an rfl (by exact (hk3.from_ (ai.rfl_.next E71)).rd 10 rfl)) ?_)));refine ae rfl (ab (bj rfl rfl) (ab (aJ (v:=.bool _) rfl rfl) (mvb rfl (zr (t:=80) rfl (fun Q14=>?_) (fun Q14=>?_)))))
           ·have q10:=Q14;refine ae rfl (ab (aa eR rfl) (ae rfl (ab (aq cK rfl (by exact (hk2.from_ (ai.rfl_.next E71)).rd 11 rfl)) ?_)));refine ae rfl (ab (aa eR rfl) (ae rfl (ab (aq cK rfl (by exact (hk3.from_ (ai.rfl_.next E71)).rd 11 rfl)) ?_)));refine ae rfl (ab (iD (k7 rfl rfl) (congrArg Value.bool (Aq d d2))) (ab (aJ (v:=.bool _) rfl rfl) (mvb rfl (zt (t:=87) rfl (fun Q15=>?_) (fun Q15=>?_)))))
            ·have q11:=Q15;refine ae rfl (ab (aa gk rfl) (ae rfl (ab (aq fm rfl (by exact (hk2.from_ (ai.rfl_.next E71)).rd 12 rfl)) ?_)));refine ae rfl (ab (aa gk rfl) (ae rfl (ab (aq fm rfl (by exact (hk3.from_ (ai.rfl_.next E71)).rd 12 rfl)) ?_)));refine ae rfl (ab (iD (tK (by kernel_rfl) rfl rfl) (congrArg Value.bool (Ad dn dn2))) (ab (aJ (v:=.bool _) rfl rfl) (asb rfl (aj (af (aC (bo (v:=.bool _) rfl rfl (⟨congrArg Value.bool ?_,(((ai.rfl_.next E2).next E3).next E71)⟩))))))))
             first
              |exact (decide_eq_false hno).symm
              |(rw [decide_eq_decide];exact ⟨fun h=>⟨q0,q1,q2,q3,q4,q5,q6,q7,q8,q9,q10,q11,h⟩,fun h=>h.2.2.2.2.2.2.2.2.2.2.2.2⟩)
            have hno:¬ (k=k2∧f=f2∧t=t2∧tm=tm2∧ix=ix2∧lt=lt2∧cm=cm2∧rd=rd2∧ok=ok2∧es=es2∧a=a2∧d=d2∧dn=dn2):=fun e=>Q15 e.2.2.2.2.2.2.2.2.2.2.2.1
            refine ao rfl rfl (ao rfl rfl (ao rfl rfl (ao rfl rfl (ao rfl rfl (ab (aw (v:=.bool _) rfl rfl) (asb rfl (aj (af (aC (bo (v:=.bool _) rfl rfl ?_))))))))));refine ⟨congrArg Value.bool ?_,(((ai.rfl_.next E2).next E3).next E71)⟩
            first
             |exact (decide_eq_false hno).symm
             |(rw [decide_eq_decide];exact ⟨fun h=>⟨q0,q1,q2,q3,q4,q5,q6,q7,q8,q9,q10,q11,h⟩,fun h=>h.2.2.2.2.2.2.2.2.2.2.2.2⟩)
           have hno:¬ (k=k2∧f=f2∧t=t2∧tm=tm2∧ix=ix2∧lt=lt2∧cm=cm2∧rd=rd2∧ok=ok2∧es=es2∧a=a2∧d=d2∧dn=dn2):=fun e=>Q14 e.2.2.2.2.2.2.2.2.2.2.1
           refine ao rfl rfl (ao rfl rfl (ao rfl rfl (ao rfl rfl (ao rfl rfl (ab (aw (v:=.bool _) rfl rfl) (mvb rfl (ao rfl rfl (ao rfl rfl ?_))))))));refine ao rfl rfl (ao rfl rfl (ao rfl rfl (ab (aw (v:=.bool _) rfl rfl) (asb rfl (aj (af (aC (bo (v:=.bool _) rfl rfl (⟨congrArg Value.bool ?_,(((ai.rfl_.next E2).next E3).next E71)⟩)))))))))
           first
            |exact (decide_eq_false hno).symm
            |(rw [decide_eq_decide];exact ⟨fun h=>⟨q0,q1,q2,q3,q4,q5,q6,q7,q8,q9,q10,q11,h⟩,fun h=>h.2.2.2.2.2.2.2.2.2.2.2.2⟩)
          have hno:¬ (k=k2∧f=f2∧t=t2∧tm=tm2∧ix=ix2∧lt=lt2∧cm=cm2∧rd=rd2∧ok=ok2∧es=es2∧a=a2∧d=d2∧dn=dn2):=fun e=>Q13 e.2.2.2.2.2.2.2.2.2.1
          refine ao rfl rfl (ao rfl rfl (ao rfl rfl (ao rfl rfl (ao rfl rfl (ab (aw (v:=.bool _) rfl rfl) (mvb rfl (ao rfl rfl (ao rfl rfl ?_))))))));refine ao rfl rfl (ao rfl rfl (ao rfl rfl (ab (aw (v:=.bool _) rfl rfl) (mvb rfl (ao rfl rfl (ao rfl rfl (ao rfl rfl (ao rfl rfl ?_))))))));refine ao rfl rfl (ab (aw (v:=.bool _) rfl rfl) (asb rfl (aj (af (aC (bo (v:=.bool _) rfl rfl (⟨congrArg Value.bool ?_,(((ai.rfl_.next E2).next E3).next E71)⟩)))))))
          first
           |exact (decide_eq_false hno).symm
           |(rw [decide_eq_decide];exact ⟨fun h=>⟨q0,q1,q2,q3,q4,q5,q6,q7,q8,q9,q10,q11,h⟩,fun h=>h.2.2.2.2.2.2.2.2.2.2.2.2⟩)
         have hno:¬ (k=k2∧f=f2∧t=t2∧tm=tm2∧ix=ix2∧lt=lt2∧cm=cm2∧rd=rd2∧ok=ok2∧es=es2∧a=a2∧d=d2∧dn=dn2):=fun e=>Q11 e.2.2.2.2.2.2.2.2.1
         refine ao rfl rfl (ao rfl rfl (ao rfl rfl (ao rfl rfl (ao rfl rfl (ab (aw (v:=.bool _) rfl rfl) (mvb rfl (ao rfl rfl (ao rfl rfl ?_))))))));refine ao rfl rfl (ao rfl rfl (ao rfl rfl (ab (aw (v:=.bool _) rfl rfl) (mvb rfl (ao rfl rfl (ao rfl rfl (ao rfl rfl (ao rfl rfl ?_))))))));refine ao rfl rfl (ab (aw (v:=.bool _) rfl rfl) (mvb rfl (ao rfl rfl (ao rfl rfl (ao rfl rfl (ao rfl rfl (ao rfl rfl (ab (aw (v:=.bool _) rfl rfl) ?_))))))));refine asb rfl (aj (af (aC (bo (v:=.bool _) rfl rfl (⟨congrArg Value.bool ?_,((ai.rfl_.next E2).next E3)⟩)))))
         first
          |exact (decide_eq_false hno).symm
          |(rw [decide_eq_decide];exact ⟨fun h=>⟨q0,q1,q2,q3,q4,q5,q6,q7,q8,q9,q10,q11,h⟩,fun h=>h.2.2.2.2.2.2.2.2.2.2.2.2⟩)
        have hno:¬ (k=k2∧f=f2∧t=t2∧tm=tm2∧ix=ix2∧lt=lt2∧cm=cm2∧rd=rd2∧ok=ok2∧es=es2∧a=a2∧d=d2∧dn=dn2):=fun e=>Q10 e.2.2.2.2.2.2.2.1
        refine ao rfl rfl (ao rfl rfl (ao rfl rfl (ao rfl rfl (ao rfl rfl (ab (aw (v:=.bool _) rfl rfl) (mvb rfl (ao rfl rfl (ao rfl rfl ?_))))))));refine ao rfl rfl (ao rfl rfl (ao rfl rfl (ab (aw (v:=.bool _) rfl rfl) (mvb rfl (ao rfl rfl (ao rfl rfl (ao rfl rfl (ao rfl rfl ?_))))))));refine ao rfl rfl (ab (aw (v:=.bool _) rfl rfl) (mvb rfl (ao rfl rfl (ao rfl rfl (ao rfl rfl (ao rfl rfl (ao rfl rfl (ab (aw (v:=.bool _) rfl rfl) ?_))))))));refine mvb rfl (ao rfl rfl (ao rfl rfl (ao rfl rfl (ao rfl rfl (ao rfl rfl (ab (aw (v:=.bool _) rfl rfl) (asb rfl (aj (af (aC ?_))))))))));refine bo (v:=.bool _) rfl rfl (⟨congrArg Value.bool ?_,((ai.rfl_.next E2).next E3)⟩)
        first
         |exact (decide_eq_false hno).symm
         |(rw [decide_eq_decide];exact ⟨fun h=>⟨q0,q1,q2,q3,q4,q5,q6,q7,q8,q9,q10,q11,h⟩,fun h=>h.2.2.2.2.2.2.2.2.2.2.2.2⟩)
       have hno:¬ (k=k2∧f=f2∧t=t2∧tm=tm2∧ix=ix2∧lt=lt2∧cm=cm2∧rd=rd2∧ok=ok2∧es=es2∧a=a2∧d=d2∧dn=dn2):=fun e=>Q9 e.2.2.2.2.2.2.1
       refine ao rfl rfl (ao rfl rfl (ao rfl rfl (ao rfl rfl (ao rfl rfl (ab (aw (v:=.bool _) rfl rfl) (mvb rfl (ao rfl rfl (ao rfl rfl ?_))))))));refine ao rfl rfl (ao rfl rfl (ao rfl rfl (ab (aw (v:=.bool _) rfl rfl) (mvb rfl (ao rfl rfl (ao rfl rfl (ao rfl rfl (ao rfl rfl ?_))))))));refine ao rfl rfl (ab (aw (v:=.bool _) rfl rfl) (mvb rfl (ao rfl rfl (ao rfl rfl (ao rfl rfl (ao rfl rfl (ao rfl rfl (ab (aw (v:=.bool _) rfl rfl) ?_))))))));refine mvb rfl (ao rfl rfl (ao rfl rfl (ao rfl rfl (ao rfl rfl (ao rfl rfl (ab (aw (v:=.bool _) rfl rfl) (mvb rfl (ao rfl rfl ?_))))))));refine ao rfl rfl (ao rfl rfl (ao rfl rfl (ao rfl rfl (ab (aw (v:=.bool _) rfl rfl) (asb rfl (aj (af (aC (bo (v:=.bool _) rfl rfl (⟨congrArg Value.bool ?_,((ai.rfl_.next E2).next E3)⟩))))))))))
       first
        |exact (decide_eq_false hno).symm
        |(rw [decide_eq_decide];exact ⟨fun h=>⟨q0,q1,q2,q3,q4,q5,q6,q7,q8,q9,q10,q11,h⟩,fun h=>h.2.2.2.2.2.2.2.2.2.2.2.2⟩)
      have hno:¬ (k=k2∧f=f2∧t=t2∧tm=tm2∧ix=ix2∧lt=lt2∧cm=cm2∧rd=rd2∧ok=ok2∧es=es2∧a=a2∧d=d2∧dn=dn2):=fun e=>Q8 e.2.2.2.2.2.1
      refine ao rfl rfl (ao rfl rfl (ao rfl rfl (ao rfl rfl (ao rfl rfl (ab (aw (v:=.bool _) rfl rfl) (mvb rfl (ao rfl rfl (ao rfl rfl ?_))))))));refine ao rfl rfl (ao rfl rfl (ao rfl rfl (ab (aw (v:=.bool _) rfl rfl) (mvb rfl (ao rfl rfl (ao rfl rfl (ao rfl rfl (ao rfl rfl ?_))))))));refine ao rfl rfl (ab (aw (v:=.bool _) rfl rfl) (mvb rfl (ao rfl rfl (ao rfl rfl (ao rfl rfl (ao rfl rfl (ao rfl rfl (ab (aw (v:=.bool _) rfl rfl) ?_))))))));refine mvb rfl (ao rfl rfl (ao rfl rfl (ao rfl rfl (ao rfl rfl (ao rfl rfl (ab (aw (v:=.bool _) rfl rfl) (mvb rfl (ao rfl rfl ?_))))))));refine ao rfl rfl (ao rfl rfl (ao rfl rfl (ao rfl rfl (ab (aw (v:=.bool _) rfl rfl) (mvb rfl (ao rfl rfl (ao rfl rfl (ao rfl rfl ?_))))))));refine ao rfl rfl (ao rfl rfl (ab (aw (v:=.bool _) rfl rfl) (asb rfl (aj (af (aC (bo (v:=.bool _) rfl rfl (⟨congrArg Value.bool ?_,((ai.rfl_.next E2).next E3)⟩))))))))
      first
       |exact (decide_eq_false hno).symm
       |(rw [decide_eq_decide];exact ⟨fun h=>⟨q0,q1,q2,q3,q4,q5,q6,q7,q8,q9,q10,q11,h⟩,fun h=>h.2.2.2.2.2.2.2.2.2.2.2.2⟩)
     have hno:¬ (k=k2∧f=f2∧t=t2∧tm=tm2∧ix=ix2∧lt=lt2∧cm=cm2∧rd=rd2∧ok=ok2∧es=es2∧a=a2∧d=d2∧dn=dn2):=fun e=>Q7 e.2.2.2.2.1
     refine ao rfl rfl (ao rfl rfl (ao rfl rfl (ao rfl rfl (ao rfl rfl (ab (aw (v:=.bool _) rfl rfl) (mvb rfl (ao rfl rfl (ao rfl rfl ?_))))))));refine ao rfl rfl (ao rfl rfl (ao rfl rfl (ab (aw (v:=.bool _) rfl rfl) (mvb rfl (ao rfl rfl (ao rfl rfl (ao rfl rfl (ao rfl rfl ?_))))))));refine ao rfl rfl (ab (aw (v:=.bool _) rfl rfl) (mvb rfl (ao rfl rfl (ao rfl rfl (ao rfl rfl (ao rfl rfl (ao rfl rfl (ab (aw (v:=.bool _) rfl rfl) ?_))))))));refine mvb rfl (ao rfl rfl (ao rfl rfl (ao rfl rfl (ao rfl rfl (ao rfl rfl (ab (aw (v:=.bool _) rfl rfl) (mvb rfl (ao rfl rfl ?_))))))));refine ao rfl rfl (ao rfl rfl (ao rfl rfl (ao rfl rfl (ab (aw (v:=.bool _) rfl rfl) (mvb rfl (ao rfl rfl (ao rfl rfl (ao rfl rfl ?_))))))));refine ao rfl rfl (ao rfl rfl (ab (aw (v:=.bool _) rfl rfl) (mvb rfl (ao rfl rfl (ao rfl rfl (ao rfl rfl (ao rfl rfl (ao rfl rfl ?_))))))));refine ab (aw (v:=.bool _) rfl rfl) (asb rfl (aj (af (aC (bo (v:=.bool _) rfl rfl (⟨congrArg Value.bool ?_,((ai.rfl_.next E2).next E3)⟩))))))
     first
      |exact (decide_eq_false hno).symm
      |(rw [decide_eq_decide];exact ⟨fun h=>⟨q0,q1,q2,q3,q4,q5,q6,q7,q8,q9,q10,q11,h⟩,fun h=>h.2.2.2.2.2.2.2.2.2.2.2.2⟩)
    have hno:¬ (k=k2∧f=f2∧t=t2∧tm=tm2∧ix=ix2∧lt=lt2∧cm=cm2∧rd=rd2∧ok=ok2∧es=es2∧a=a2∧d=d2∧dn=dn2):=fun e=>Q6 e.2.2.2.1
    refine ao rfl rfl (ao rfl rfl (ao rfl rfl (ao rfl rfl (ao rfl rfl (ab (aw (v:=.bool _) rfl rfl) (mvb rfl (ao rfl rfl (ao rfl rfl ?_))))))));refine ao rfl rfl (ao rfl rfl (ao rfl rfl (ab (aw (v:=.bool _) rfl rfl) (mvb rfl (ao rfl rfl (ao rfl rfl (ao rfl rfl (ao rfl rfl ?_))))))));refine ao rfl rfl (ab (aw (v:=.bool _) rfl rfl) (mvb rfl (ao rfl rfl (ao rfl rfl (ao rfl rfl (ao rfl rfl (ao rfl rfl (ab (aw (v:=.bool _) rfl rfl) ?_))))))));refine mvb rfl (ao rfl rfl (ao rfl rfl (ao rfl rfl (ao rfl rfl (ao rfl rfl (ab (aw (v:=.bool _) rfl rfl) (mvb rfl (ao rfl rfl ?_))))))));refine ao rfl rfl (ao rfl rfl (ao rfl rfl (ao rfl rfl (ab (aw (v:=.bool _) rfl rfl) (mvb rfl (ao rfl rfl (ao rfl rfl (ao rfl rfl ?_))))))));refine ao rfl rfl (ao rfl rfl (ab (aw (v:=.bool _) rfl rfl) (mvb rfl (ao rfl rfl (ao rfl rfl (ao rfl rfl (ao rfl rfl (ao rfl rfl ?_))))))));refine ab (aw (v:=.bool _) rfl rfl) (mvb rfl (ao rfl rfl (ao rfl rfl (ao rfl rfl (ao rfl rfl (ao rfl rfl (ab (aw (v:=.bool _) rfl rfl) (asb rfl ?_))))))));refine aj (af (aC (bo (v:=.bool _) rfl rfl (⟨congrArg Value.bool ?_,((ai.rfl_.next E2).next E3)⟩))))
    first
     |exact (decide_eq_false hno).symm
     |(rw [decide_eq_decide];exact ⟨fun h=>⟨q0,q1,q2,q3,q4,q5,q6,q7,q8,q9,q10,q11,h⟩,fun h=>h.2.2.2.2.2.2.2.2.2.2.2.2⟩)
   have hno:¬ (k=k2∧f=f2∧t=t2∧tm=tm2∧ix=ix2∧lt=lt2∧cm=cm2∧rd=rd2∧ok=ok2∧es=es2∧a=a2∧d=d2∧dn=dn2):=fun e=>Q5 e.2.2.1
   refine ao rfl rfl (ao rfl rfl (ao rfl rfl (ao rfl rfl (ao rfl rfl (ab (aw (v:=.bool _) rfl rfl) (mvb rfl (ao rfl rfl (ao rfl rfl ?_))))))));refine ao rfl rfl (ao rfl rfl (ao rfl rfl (ab (aw (v:=.bool _) rfl rfl) (mvb rfl (ao rfl rfl (ao rfl rfl (ao rfl rfl (ao rfl rfl ?_))))))));refine ao rfl rfl (ab (aw (v:=.bool _) rfl rfl) (mvb rfl (ao rfl rfl (ao rfl rfl (ao rfl rfl (ao rfl rfl (ao rfl rfl (ab (aw (v:=.bool _) rfl rfl) ?_))))))));refine mvb rfl (ao rfl rfl (ao rfl rfl (ao rfl rfl (ao rfl rfl (ao rfl rfl (ab (aw (v:=.bool _) rfl rfl) (mvb rfl (ao rfl rfl ?_))))))));refine ao rfl rfl (ao rfl rfl (ao rfl rfl (ao rfl rfl (ab (aw (v:=.bool _) rfl rfl) (mvb rfl (ao rfl rfl (ao rfl rfl (ao rfl rfl ?_))))))));refine ao rfl rfl (ao rfl rfl (ab (aw (v:=.bool _) rfl rfl) (mvb rfl (ao rfl rfl (ao rfl rfl (ao rfl rfl (ao rfl rfl (ao rfl rfl ?_))))))));refine ab (aw (v:=.bool _) rfl rfl) (mvb rfl (ao rfl rfl (ao rfl rfl (ao rfl rfl (ao rfl rfl (ao rfl rfl (ab (aw (v:=.bool _) rfl rfl) (mvb rfl ?_))))))));refine ao rfl rfl (ao rfl rfl (ao rfl rfl (ao rfl rfl (ao rfl rfl (ab (aw (v:=.bool _) rfl rfl) (asb rfl (aj (af (aC (bo (v:=.bool _) rfl rfl ?_))))))))));refine ⟨congrArg Value.bool ?_,((ai.rfl_.next E2).next E3)⟩
   first
    |exact (decide_eq_false hno).symm
    |(rw [decide_eq_decide];exact ⟨fun h=>⟨q0,q1,q2,q3,q4,q5,q6,q7,q8,q9,q10,q11,h⟩,fun h=>h.2.2.2.2.2.2.2.2.2.2.2.2⟩)
  have hno:¬ (k=k2∧f=f2∧t=t2∧tm=tm2∧ix=ix2∧lt=lt2∧cm=cm2∧rd=rd2∧ok=ok2∧es=es2∧a=a2∧d=d2∧dn=dn2):=fun e=>Q4 e.2.1
  refine ao rfl rfl (ao rfl rfl (ao rfl rfl (ao rfl rfl (ao rfl rfl (ab (aw (v:=.bool _) rfl rfl) (mvb rfl (ao rfl rfl (ao rfl rfl ?_))))))));refine ao rfl rfl (ao rfl rfl (ao rfl rfl (ab (aw (v:=.bool _) rfl rfl) (mvb rfl (ao rfl rfl (ao rfl rfl (ao rfl rfl (ao rfl rfl ?_))))))));refine ao rfl rfl (ab (aw (v:=.bool _) rfl rfl) (mvb rfl (ao rfl rfl (ao rfl rfl (ao rfl rfl (ao rfl rfl (ao rfl rfl (ab (aw (v:=.bool _) rfl rfl) ?_))))))));refine mvb rfl (ao rfl rfl (ao rfl rfl (ao rfl rfl (ao rfl rfl (ao rfl rfl (ab (aw (v:=.bool _) rfl rfl) (mvb rfl (ao rfl rfl ?_))))))));refine ao rfl rfl (ao rfl rfl (ao rfl rfl (ao rfl rfl (ab (aw (v:=.bool _) rfl rfl) (mvb rfl (ao rfl rfl (ao rfl rfl (ao rfl rfl ?_))))))));refine ao rfl rfl (ao rfl rfl (ab (aw (v:=.bool _) rfl rfl) (mvb rfl (ao rfl rfl (ao rfl rfl (ao rfl rfl (ao rfl rfl (ao rfl rfl ?_))))))));refine ab (aw (v:=.bool _) rfl rfl) (mvb rfl (ao rfl rfl (ao rfl rfl (ao rfl rfl (ao rfl rfl (ao rfl rfl (ab (aw (v:=.bool _) rfl rfl) (mvb rfl ?_))))))));refine ao rfl rfl (ao rfl rfl (ao rfl rfl (ao rfl rfl (ao rfl rfl (ab (aw (v:=.bool _) rfl rfl) (mvb rfl (ao rfl rfl (ao rfl rfl ?_))))))));refine ao rfl rfl (ao rfl rfl (ao rfl rfl (ab (aw (v:=.bool _) rfl rfl) (asb rfl (aj (af (aC (bo (v:=.bool _) rfl rfl (⟨congrArg Value.bool ?_,((ai.rfl_.next E2).next E3)⟩)))))))))
  first
   |exact (decide_eq_false hno).symm
   |(rw [decide_eq_decide];exact ⟨fun h=>⟨q0,q1,q2,q3,q4,q5,q6,q7,q8,q9,q10,q11,h⟩,fun h=>h.2.2.2.2.2.2.2.2.2.2.2.2⟩)
 have hno:¬ (k=k2∧f=f2∧t=t2∧tm=tm2∧ix=ix2∧lt=lt2∧cm=cm2∧rd=rd2∧ok=ok2∧es=es2∧a=a2∧d=d2∧dn=dn2):=fun e=>Q3 e.1
 refine ao rfl rfl (ao rfl rfl (ao rfl rfl (ao rfl rfl (ao rfl rfl (ab (aw (v:=.bool _) rfl rfl) (mvb rfl (ao rfl rfl (ao rfl rfl ?_))))))));refine ao rfl rfl (ao rfl rfl (ao rfl rfl (ab (aw (v:=.bool _) rfl rfl) (mvb rfl (ao rfl rfl (ao rfl rfl (ao rfl rfl (ao rfl rfl ?_))))))));refine ao rfl rfl (ab (aw (v:=.bool _) rfl rfl) (mvb rfl (ao rfl rfl (ao rfl rfl (ao rfl rfl (ao rfl rfl (ao rfl rfl (ab (aw (v:=.bool _) rfl rfl) ?_))))))));refine mvb rfl (ao rfl rfl (ao rfl rfl (ao rfl rfl (ao rfl rfl (ao rfl rfl (ab (aw (v:=.bool _) rfl rfl) (mvb rfl (ao rfl rfl ?_))))))));refine ao rfl rfl (ao rfl rfl (ao rfl rfl (ao rfl rfl (ab (aw (v:=.bool _) rfl rfl) (mvb rfl (ao rfl rfl (ao rfl rfl (ao rfl rfl ?_))))))));refine ao rfl rfl (ao rfl rfl (ab (aw (v:=.bool _) rfl rfl) (mvb rfl (ao rfl rfl (ao rfl rfl (ao rfl rfl (ao rfl rfl (ao rfl rfl ?_))))))));refine ab (aw (v:=.bool _) rfl rfl) (mvb rfl (ao rfl rfl (ao rfl rfl (ao rfl rfl (ao rfl rfl (ao rfl rfl (ab (aw (v:=.bool _) rfl rfl) (mvb rfl ?_))))))));refine ao rfl rfl (ao rfl rfl (ao rfl rfl (ao rfl rfl (ao rfl rfl (ab (aw (v:=.bool _) rfl rfl) (mvb rfl (ao rfl rfl (ao rfl rfl ?_))))))));refine ao rfl rfl (ao rfl rfl (ao rfl rfl (ab (aw (v:=.bool _) rfl rfl) (mvb rfl (ao rfl rfl (ao rfl rfl (ao rfl rfl (ao rfl rfl ?_))))))));refine ao rfl rfl (ab (aw (v:=.bool _) rfl rfl) (asb rfl (aj (af (aC (bo (v:=.bool _) rfl rfl (⟨congrArg Value.bool ?_,((ai.rfl_.next E2).next E3)⟩)))))))
 first
  |exact (decide_eq_false hno).symm
  |(rw [decide_eq_decide];exact ⟨fun h=>⟨q0,q1,q2,q3,q4,q5,q6,q7,q8,q9,q10,q11,h⟩,fun h=>h.2.2.2.2.2.2.2.2.2.2.2.2⟩)
theorem nI (x y:Msg) (w:World) (h:pl x=pl y) (hx:cF w (.slice x.E x.es.length x.c) x.es) (hy:cF w (.slice y.E y.es.length y.c) y.es) (hl:x.es.length≤1000000) :
 Rt prog 48 [.agg (bM x).toArray,.agg (bM y).toArray] w fun v w'=>v=.bool true∧ai w w':=
 (tW x.k x.f x.t x.tm x.ix x.lt x.cm x.rd x.ok x.E x.es.length x.c x.a x.d x.dn y.k y.f y.t y.tm y.ix y.lt y.cm y.rd y.ok y.E y.es.length y.c y.a y.d y.dn w x.es y.es rfl rfl hx hy (by omega)).mono fun v w' hv=>⟨by
  rw [hv.1];exact congrArg Value.bool (decide_eq_true ⟨(show (pl x).k=(pl y).k from congrArg Msg.k h),(show (pl x).f=(pl y).f from congrArg Msg.f h),(show (pl x).t=(pl y).t from congrArg Msg.t h),(show (pl x).tm=(pl y).tm from congrArg Msg.tm h),(show (pl x).ix=(pl y).ix from congrArg Msg.ix h),(show (pl x).lt=(pl y).lt from congrArg Msg.lt h),(show (pl x).cm=(pl y).cm from congrArg Msg.cm h),(show (pl x).rd=(pl y).rd from congrArg Msg.rd h),(show (pl x).ok=(pl y).ok from congrArg Msg.ok h),(show (pl x).es=(pl y).es from congrArg Msg.es h),(show (pl x).a=(pl y).a from congrArg Msg.a h),(show (pl x).d=(pl y).d from congrArg Msg.d h),(show (pl x).dn=(pl y).dn from congrArg Msg.dn h)⟩),hv.2⟩
theorem zD {X Y:List Msg} (h:X.map pl=Y.map pl) {k:Nat} (hx:k<X.length) (hy:k<Y.length):pl X[k]=pl Y[k]:=by
 have:(X.map pl)[k]'(by simpa using hx)=(Y.map pl)[k]'(by simpa using hy):=by simp only [h]
 simpa using this
theorem rJ (A B:Option Addr) (c c2 n:Nat) (X Y:List Msg) (w:World) (hr:im 13 bM w A X) (hr2:im 13 bM w B Y) (hX:X.length=n) (hY:Y.length=n) (hp:X.map pl=Y.map pl) (hE:∀ x∈X,cF w (.slice x.E x.es.length x.c) x.es) (hE2:∀ x∈Y,cF w (.slice x.E x.es.length x.c) x.es) (hle:∀ x∈X,x.es.length≤1000000) (hn:n≤100000) :
 Rt prog 50 [.slice A n c,.slice B n c2] w (fun v w'=>v=.bool true∧ai w w'):=by
 refine enter (n:=27) Tryz.func50 rfl rfl rfl (ak (ag (asb rfl (aj (af (ak (ak (ag (mvs rfl (ab (bW ll rfl) (mvs rfl (ab (bW ll rfl) (ab (cJ (dG rfl rfl) (bne_self_eq_false _)) ?_)))))))))))));refine aj (af (br rfl (aM (af (ak (ak (ag (asi rfl (aj (af (bg (dd (G:=Nat) [4,11,12,13,14,15,16,17,18,19,20,21,22,23,24,25,26] (fun k=>[(5,.int .i64 (k:Nat))]) (fun k w'=>k≤n∧ai w w') (fun k=>n-k) (0) ⟨rfl,trivial⟩ ?_ ?_))))))))))))
 ·exact ⟨Nat.zero_le _,ai.rfl_⟩
 rintro k ρ1 w1 ⟨hk,hB⟩;refine ak (ak (ag (mvi rfl (mvs rfl (ab (bW ll rfl) (ab (b_ rfl rfl) (aj (af (Ab rfl (fun Q2=>?_) (fun Q2=>?_))))))))))
 ·have hkX:k<X.length:=by omega
  have hkY:k<Y.length:=by omega
  obtain ⟨ba,oa,rfl,hca⟩:=hr (by omega);obtain ⟨bb,ob,rfl,hcb⟩:=hr2 (by omega);have hxk:=hE _ (List.getElem_mem hkX);have hyk:=hE2 _ (List.getElem_mem hkY);have hlk:=hle _ (List.getElem_mem hkX);refine aM (af (ak (bg (ak ?_))));apply bK 10 [(17,eqp _),(18,eqp _),(19,eqp _),(20,eqp (.agg (bM (X[k]'hkX)).toArray)),(21,eqp _),(22,eqp _),(23,eqp _),(24,eqp (.agg (bM (Y[k]'hkY)).toArray)),(25,eqp _),(26,eqp _)] (by repeat first | exact cj | refine ch ?_ | refine bQ ?_) (by kernel_rfl) (by kernel_rfl) ⟨ah _,ah _,ah _,ah _,ah _,ah _,ah _,ah _,ah _,ah _,trivial⟩
  case hop=>
   constructor
   ·rintro-w4 D4;exact ar (aH (v:=.slice _ _ _) rfl) rfl
   constructor
   ·rintro-w5 D5;exact ar (aH (v:=.int _ _) rfl) rfl
   constructor
   ·rintro-w6 D6;rintro _ rfl _ rfl;exact ar (cn ln rfl rfl (by omega)) rfl
   constructor
   ·rintro-w7 D7;rintro _ rfl;exact ar (aG (cs:=bM (X[k]'hkX)) bk aP rfl (eB (hB.next D7) (hca k hkX))) rfl
   constructor
   ·rintro-w8 D8;exact ar (aH (v:=.slice _ _ _) rfl) rfl
   constructor
   ·rintro-w9 D9;exact ar (aH (v:=.int _ _) rfl) rfl
   constructor
   ·rintro-w10 D10;rintro _ rfl _ rfl;exact ar (cn ln rfl rfl (by omega)) rfl
   constructor
   ·rintro-w11 D11;rintro _ rfl;exact ar (aG (cs:=bM (Y[k]'hkY)) bk aP rfl (eB (hB.next D11) (hcb k hkY))) rfl
   constructor
   ·rintro-w12 D12;rintro v12_20 rfl v12_24 rfl;refine gd jW ((nI (X[k]'hkX) (Y[k]'hkY) _ (zD hp hkX hkY) (hxk.from_ (hB.next D12)) (hyk.from_ (hB.next D12)) hlk).mono ?_);rintro v _ ⟨rfl,E12'⟩;exact ⟨E12',rfl⟩
   constructor
   ·rintro-w13 D13;rintro _ rfl;exact ar (cl rfl) rfl
   exact trivial
  case hend=>
   intro w14 D14;rintro _ rfl _ rfl _ rfl v20 rfl _ rfl _ rfl _ rfl v24 rfl _ rfl _ rfl;show St ..;refine aj (af (z_ rfl (fun Q15=>?_) (fun Q15=>?_)))
   ·exfalso;contradiction
   refine aM (bE (af (ag (mvi rfl (ab (dI (b:=1) rfl rfl (by omega)) (asi rfl (aj ?_)))))));refine cu (k+1) ⟨(by first | rfl | (refine bT ?_;omega)),trivial⟩ (by (iterate 35 refine bI rfl ?_);exact bU) ⟨?_,?_⟩
   ·exact ⟨by omega,(hB.next D14)⟩
   ·omega
 refine cI (bD (bD (cr (af (ak (ag (asb rfl (aj (af (aC (bo (v:=.bool _) rfl rfl (⟨rfl,hB⟩))))))))))))
end Go.Proofs.YtkpooenofjdpmaaGreat
