/- texts that the claim stands on. -/
import Derived.Test.YtkpooenofjdpmaaGreatSlRfLawV33

set_option maxRecDepth 100000
set_option maxHeartbeats 4000000
namespace Go.Proofs.YtkpooenofjdpmaaGreat
open Go.Proofs.Tryz (prog)
open Go.RowKit
open Go.ChangeShapes Go.WideShapes Go.ChangeAt
theorem mf:xL prog 26=some (3,8,.int .i64 0):=by kernel_rfl
theorem mg:aN prog 99=true:=by kernel_rfl
theorem uv:aN prog 75=true:=by kernel_rfl
theorem uu:aN prog 76=true:=by kernel_rfl
theorem pN:aN prog 84=true:=by kernel_rfl
theorem ur:aN prog 79=true:=by kernel_rfl
theorem tv {P:Program} {ρ:Operand→Value} {w:World} {t:TypeId} {x y:Operand} {e by_ m:Nat} {z:Value} {kl kc:IntKind} (ht:xL P t=some (e,by_,z)) (hz:z.cells=#[z]) (hx:ρ x=.int kl (m:Nat)) (hy:ρ y=.int kc (m:Nat)) (hm:m≤9223372036854775807) (hb:by_*m≤281474976710656) :
 RO P ρ (.makeSlice t x y) w (.slice (some ⟨w.heap.size,0,none⟩) m m) (w.alloc (.cells (List.replicate m z).toArray e)):=by
 unfold xL at ht;split at ht
 ·rename_i e' hu;cases hi:P.info? e' with
  |none=>simp [hi] at ht
  |some i=>
   rw [hi] at ht;simp only [Option.bind_some] at ht;split at ht
   ·rename_i hs;cases hzz:i.zero with
    |none=>simp [hzz] at ht
    |some z'=>
     simp only [hzz,Option.map_some,Option.some.injEq,Prod.mk.injEq] at ht;obtain ⟨rfl,rfl,rfl⟩:=ht
     have hr:=run_make (P:=P) w t e' i z' hu hi hzz kl kc (m:Int) (m:Int) (by omega) (Int.le_refl _) (by
      have:((i.bytes*m:Nat):Int)≤281474976710656:=by omega
      rwa [Int.natCast_mul] at this) (by omega)
     have hcells:madeCells z'.cells ((m:Int).toNat*i.size)=(List.replicate m z').toArray:=by
      rw [hs,Int.toNat_natCast,Nat.mul_one,hz];apply Array.ext_getElem?;intro j;simp only [madeCells,Array.getElem?_map];by_cases hj:j<m
      ·simp [hj,Nat.mod_one]
      ·simp [hj]
     rw [hcells,Int.toNat_natCast] at hr;exact fun _ _ _ _ _=>by simp [execOp,hx,hy,hr]
   ·cases ht
 ·cases ht
structure G3 where
 x:Nat
 m:Nat
 s:Nat
def lv (s:Rf) (a:Ra) (p q r:Value):List Value:=[.int .i64 s.id,.int .i64 s.nodes,.int .i64 s.role,.int .i64 s.term,.int .i64 s.vote,.int .i64 s.leader,.int .i64 s.b,.int .i64 s.t,.slice a.E s.es.length a.Ec,.string s.snap,.int .i64 s.commit,.int .i64 s.elapsed,.int .i64 s.timeout,.int .u64 s.seed,.slice a.V s.votes.length a.Vc,p,q,r,.int .i64 s.round,.slice a.Q a.L.length a.Qc,.string s.part,.int .i64 s.partOf]
def lvX (s:Rf) (a:Ra) (n:Nat) (x:G3) (S:Nat→Bool):List Value:=lv s a (bif S 28 then .slice (some ⟨x.x,0,none⟩) n n else .slice a.X s.next.length a.Xc) (bif S 33 then .slice (some ⟨x.m,0,none⟩) n n else .slice a.M s.mtch.length a.Mc) (bif S 38 then .slice (some ⟨x.s,0,none⟩) n n else .slice a.S s.sent.length a.Sc)
def MK (w0 w:World) (n k:Nat):Prop:=w0.heap.size≤k∧Blk w k 3 (List.replicate n (Value.int .i64 0)).toArray
structure LI (w0:World) (T g n:Nat) (s:Rf) (a:Ra) (R:Value) (x:G3) (S:Nat→Bool) (w:World):Prop where
 c:Chg (fun k=>k=g) w0 w
 b:Blk w g T (lvX s a n x S++[R]).toArray
 h9:S 9=true→MK w0 w n x.x
 h16:S 16=true→MK w0 w n x.m
 h23:S 23=true→MK w0 w n x.s
 a1:S 9=true→S 16=true→x.x≠x.m
 a2:S 9=true→S 23=true→x.x≠x.s
 a3:S 16=true→S 23=true→x.m≠x.s
 lt:g<w0.heap.size
section
variable {w0 w1 w2:World} {T g n i:Nat} {s:Rf} {a:Ra} {R:Value} {x:G3} {S:Nat→Bool}
theorem MK.from_ {k:Nat} (h:MK w0 w1 n k) (hF:ah w1 w2):MK w0 w2 n k:=⟨h.1,h.2.from_ hF⟩
theorem oE {i:Nat} (h28:i≠28) (h33:i≠33) (h38:i≠38):lvX s a n x (dJ S i)=lvX s a n x S:=by
 unfold lvX;rw [fM h28.symm,fM h33.symm,fM h38.symm]
theorem LI.rd (h:LI w0 T g n s a R x S w1) (hq:[9,16,23,28,33,38].elem i=false) (hF:ah w1 w2):LI w0 T g n s a R x (dJ S i) w2:=by
 have hm:i≠9∧i≠16∧i≠23∧i≠28∧i≠33∧i≠38:=by
  refine ⟨?_,?_,?_,?_,?_,?_⟩ <;> rintro rfl <;> exact absurd hq (by decide)
 obtain ⟨m1,m2,m3,m4,m5,m6⟩:=hm;refine ⟨h.c.next hF.toChg,by rw [oE m4 m5 m6];exact h.b.from_ hF,fun e=>?_,fun e=>?_,fun e=>?_,fun e f=>?_,fun e f=>?_,fun e f=>?_,h.lt⟩
 ·rw [fM m1.symm] at e;exact (h.h9 e).from_ hF
 ·rw [fM m2.symm] at e;exact (h.h16 e).from_ hF
 ·rw [fM m3.symm] at e;exact (h.h23 e).from_ hF
 ·rw [fM m1.symm] at e;rw [fM m2.symm] at f;exact h.a1 e f
 ·rw [fM m1.symm] at e;rw [fM m3.symm] at f;exact h.a2 e f
 ·rw [fM m2.symm] at e;rw [fM m3.symm] at f;exact h.a3 e f
theorem MK.fresh {k:Nat} (h:MK w0 w1 n k):k≠w1.heap.size:=by have:=h.2.lt;omega
theorem LI.mk9 (h:LI w0 T g n s a R x S w1) (h28:S 28=false) (hk:MK w0 w2 n w1.heap.size) (hF:ah w1 w2):LI w0 T g n s a R ⟨w1.heap.size,x.m,x.s⟩ (dJ S 9) w2:=by
 refine ⟨h.c.next hF.toChg,?_,fun _=>hk,fun e=>?_,fun e=>?_,fun _ f=>?_,fun _ f=>?_,fun e f=>?_,h.lt⟩
 ·rw [oE (by decide) (by decide) (by decide)];have:=h.b.from_ hF;unfold lvX at this ⊢;rw [h28] at this ⊢;exact this
 ·rw [fM (by decide)] at e;exact (h.h16 e).from_ hF
 ·rw [fM (by decide)] at e;exact (h.h23 e).from_ hF
 ·rw [fM (by decide)] at f;exact (h.h16 f).fresh.symm
 ·rw [fM (by decide)] at f;exact (h.h23 f).fresh.symm
 ·rw [fM (by decide)] at e f;exact h.a3 e f
theorem LI.mk16 (h:LI w0 T g n s a R x S w1) (h33:S 33=false) (hk:MK w0 w2 n w1.heap.size) (hF:ah w1 w2):LI w0 T g n s a R ⟨x.x,w1.heap.size,x.s⟩ (dJ S 16) w2:=by
 refine ⟨h.c.next hF.toChg,?_,fun e=>?_,fun _=>hk,fun e=>?_,fun e _=>?_,fun e f=>?_,fun _ f=>?_,h.lt⟩
 ·rw [oE (by decide) (by decide) (by decide)];have:=h.b.from_ hF;unfold lvX at this ⊢;rw [h33] at this ⊢;exact this
 ·rw [fM (by decide)] at e;exact (h.h9 e).from_ hF
 ·rw [fM (by decide)] at e;exact (h.h23 e).from_ hF
 ·rw [fM (by decide)] at e;exact (h.h9 e).fresh
 ·rw [fM (by decide)] at e f;exact h.a2 e f
 ·rw [fM (by decide)] at f;exact (h.h23 f).fresh.symm
theorem LI.mk23 (h:LI w0 T g n s a R x S w1) (h38:S 38=false) (hk:MK w0 w2 n w1.heap.size) (hF:ah w1 w2):LI w0 T g n s a R ⟨x.x,x.m,w1.heap.size⟩ (dJ S 23) w2:=by
 refine ⟨h.c.next hF.toChg,?_,fun e=>?_,fun e=>?_,fun _=>hk,fun e f=>?_,fun e _=>?_,fun e _=>?_,h.lt⟩
 ·rw [oE (by decide) (by decide) (by decide)];have:=h.b.from_ hF;unfold lvX at this ⊢;rw [h38] at this ⊢;exact this
 ·rw [fM (by decide)] at e;exact (h.h9 e).from_ hF
 ·rw [fM (by decide)] at e;exact (h.h16 e).from_ hF
 ·rw [fM (by decide)] at e f;exact h.a1 e f
 ·rw [fM (by decide)] at e;exact (h.h9 e).fresh
 ·rw [fM (by decide)] at e;exact (h.h16 e).fresh
theorem MK.only {k:Nat} (h:MK w0 w1 n k) (hO:e_ g w1 w2) (hg:g<w0.heap.size):MK w0 w2 n k:=⟨h.1,h.2.only hO (by have:=h.1;omega)⟩
theorem LI.st (h:LI w0 T g n s a R x S w1) (hi:i=28∨i=33∨i=38) (hO:e_ g w1 w2) (hb:Blk w2 g T (lvX s a n x (dJ S i)++[R]).toArray):LI w0 T g n s a R x (dJ S i) w2:=by
 refine ⟨h.c.next (hO.toChg rfl),hb,fun e=>?_,fun e=>?_,fun e=>?_,fun e f=>?_,fun e f=>?_,fun e f=>?_,h.lt⟩
 ·rw [fM (by omega)] at e;exact (h.h9 e).only hO h.lt
 ·rw [fM (by omega)] at e;exact (h.h16 e).only hO h.lt
 ·rw [fM (by omega)] at e;exact (h.h23 e).only hO h.lt
 ·rw [fM (by omega)] at e f;exact h.a1 e f
 ·rw [fM (by omega)] at e f;exact h.a2 e f
 ·rw [fM (by omega)] at e f;exact h.a3 e f
theorem A_ {S:Nat→Bool}:(lvX s a n x S++[R]).toArray.setIfInBounds 15 (.slice (some ⟨x.x,0,none⟩) n n)=(lvX s a n x (dJ S 28)++[R]).toArray:=by
 unfold lvX;rw [mr,fM (by decide),fM (by decide)];rfl
theorem A9 {S:Nat→Bool}:(lvX s a n x S++[R]).toArray.setIfInBounds 16 (.slice (some ⟨x.m,0,none⟩) n n)=(lvX s a n x (dJ S 33)++[R]).toArray:=by
 unfold lvX;rw [mr,fM (by decide),fM (by decide)];rfl
theorem A8 {S:Nat→Bool}:(lvX s a n x S++[R]).toArray.setIfInBounds 17 (.slice (some ⟨x.s,0,none⟩) n n)=(lvX s a n x (dJ S 38)++[R]).toArray:=by
 unfold lvX;rw [mr,fM (by decide),fM (by decide)];rfl
end
theorem qU {w0 w:World} {n k:Nat} (h:MK w0 w n k) (hn:n≤1000):w.ownsRow 0 3 1 (.slice (some ⟨k,0,none⟩) n n) n ((List.replicate n (0:Int)).map iV):=by
 refine tw (Nat.zero_le _) h.2 (Nat.le_refl _) (by unfold maxLen;omega) (by simp) ?_;simp
theorem bm.three {w0 w:World} {g n:Nat} {tag:Nat→Nat} {s:Rf} {a:Ra} {x:G3} (h:bm w0 tag s a) (hC:Chg (fun k=>k=g) w0 w) (hg:tag g=7) (hn:n≤1000) (h1:MK w0 w n x.x) (h2:MK w0 w n x.m) (h3:MK w0 w n x.s) (a1:x.x≠x.m) (a2:x.x≠x.s) (a3:x.m≠x.s) :
 bm w (fun k=>if k<w0.heap.size then tag k else if k=x.x then 2 else if k=x.m then 3 else 4) { s with next:=List.replicate n 0,mtch:=List.replicate n 0,sent:=List.replicate n 0 } { a with X:=some ⟨x.x,0,none⟩,Xc:=n,M:=some ⟨x.m,0,none⟩,Mc:=n,S:=some ⟨x.s,0,none⟩,Sc:=n }:=by
 have hh:=h.chgG hC hg
 have re:∀ {c:Nat} {A:Option Addr},Col tag c A→(∀ k,A.map (·.block)=some k→k<w0.heap.size)→Col (fun k=>if k<w0.heap.size then tag k else if k=x.x then 2 else if k=x.m then 3 else 4) c A:=fun hc hl k hk=>by
  show (if k<w0.heap.size then tag k else _)=_;rw [if_pos (hl k hk)];exact hc k hk
 have l:(List.replicate n (0:Int)).length=n:=List.length_replicate;refine ⟨fun hx=>⟨(hh.e hx).1,re (h.e hx).2 (ej (h.e hx).1)⟩,fun hx=>⟨(hh.v hx).1,re (h.v hx).2 (ej (h.v hx).1)⟩,fun _=>⟨by show World.ownsRow _ _ _ _ (.slice _ (List.replicate n (0:Int)).length _) (List.replicate n (0:Int)).length _;rw [l];exact qU h1 hn,fun k hk=>?_⟩,fun _=>⟨by show World.ownsRow _ _ _ _ (.slice _ (List.replicate n (0:Int)).length _) (List.replicate n (0:Int)).length _;rw [l];exact qU h2 hn,fun k hk=>?_⟩,fun _=>⟨by show World.ownsRow _ _ _ _ (.slice _ (List.replicate n (0:Int)).length _) (List.replicate n (0:Int)).length _;rw [l];exact qU h3 hn,fun k hk=>?_⟩,hh.r,fun hx=>⟨(hh.q hx).1,re (h.q hx).2 (ej (h.q hx).1)⟩,fun i hi hx=>⟨(hh.k i hi hx).1,re (h.k i hi hx).2 (ej (h.k i hi hx).1)⟩⟩
 ·cases hk;have:=h1.1;show (if x.x<w0.heap.size then _ else _)=2;rw [if_neg (by omega),if_pos rfl]
 ·cases hk;have:=h2.1;show (if x.m<w0.heap.size then _ else _)=3;rw [if_neg (by omega),if_neg (Ne.symm a1),if_pos rfl]
 ·cases hk;have:=h3.1;show (if x.s<w0.heap.size then _ else _)=4;rw [if_neg (by omega),if_neg (Ne.symm a2),if_neg (Ne.symm a3)]
theorem aZ.three {wa w0 w:World} {Z:Nat→Prop} {T g n oc:Nat} {tag:Nat→Nat} {s:Rf} {out:List Msg} {O:Option Addr} {L:List Msg} {a:Ra} {x:G3} (h:aZ wa Z w0 T g ⟨s,out⟩) (hs:gZ w0 Z T g tag ⟨s,out⟩ a O oc L) (hC:Chg (fun k=>k=g) w0 w) (hn:n≤1000) (h1:MK w0 w n x.x) (h2:MK w0 w n x.m) (h3:MK w0 w n x.s) (a1:x.x≠x.m) (a2:x.x≠x.s) (a3:x.m≠x.s)
 (hb:Blk w g T (rfV { s with next:=List.replicate n 0,mtch:=List.replicate n 0,sent:=List.replicate n 0 } { a with X:=some ⟨x.x,0,none⟩,Xc:=n,M:=some ⟨x.m,0,none⟩,Mc:=n,S:=some ⟨x.s,0,none⟩,Sc:=n }++[Value.slice O L.length oc]).toArray) :
 aZ wa Z w T g ⟨{ s with next:=List.replicate n 0,mtch:=List.replicate n 0,sent:=List.replicate n 0 },out⟩∧∃ tag',gZ w Z T g tag' ⟨{ s with next:=List.replicate n 0,mtch:=List.replicate n 0,sent:=List.replicate n 0 },out⟩ { a with X:=some ⟨x.x,0,none⟩,Xc:=n,M:=some ⟨x.m,0,none⟩,Mc:=n,S:=some ⟨x.s,0,none⟩,Sc:=n } O oc L:=by
 have hm:=hs.m.chgG hC hs.gc;have hz:=h.zw
 have re:∀ {c:Nat} {A:Option Addr},Col tag c A→(∀ k,A.map (·.block)=some k→k<w0.heap.size)→Col (fun k=>if k<w0.heap.size then tag k else if k=x.x then 2 else if k=x.m then 3 else 4) c A:=fun hc hl k hk=>by
  show (if k<w0.heap.size then tag k else _)=_;rw [if_pos (hl k hk)];exact hc k hk
 have h9:gZ w Z T g (fun k=>if k<w0.heap.size then tag k else if k=x.x then 2 else if k=x.m then 3 else 4) ⟨{ s with next:=List.replicate n 0,mtch:=List.replicate n 0,sent:=List.replicate n 0 },out⟩ { a with X:=some ⟨x.x,0,none⟩,Xc:=n,M:=some ⟨x.m,0,none⟩,Mc:=n,S:=some ⟨x.s,0,none⟩,Sc:=n } O oc L:=
  ⟨hb,hs.f.three hC hs.gc hn h1 h2 h3 a1 a2 a3,⟨hm.o,hm.l,fun j hj=>⟨(hm.e j hj).1,re (hm.e j hj).2 (ej (hs.m.e j hj).1)⟩,re hm.c (ej hs.m.o)⟩,(if_pos hs.b.lt).trans hs.gc,fun k hk=>(if_pos (hz k hk)).trans (hs.z k hk)⟩
 refine ⟨⟨⟨_,_,_,_,_,h9⟩,h.zl,h.fr.next (hC.wide fun k hk=>.inl fun hz1=>?_)⟩,_,h9⟩;have:=hs.z k hz1;rw [show k=g from hk,hs.gc] at this;cases this
theorem bm.novotes {w:World} {tag:Nat→Nat} {s:Rf} {a:Ra} (h:bm w tag s a):bm w tag { s with votes:=[] } { a with V:=none,Vc:=0 }:=
 ⟨fun _=>h.e (by decide),fun _=>⟨dS,Col.none⟩,fun _=>h.x (by decide),fun _=>h.m (by decide),fun _=>h.n (by decide),fun _=>h.r (by decide),fun _=>h.q (by decide),fun i hi _=>h.k i hi (by omega)⟩
theorem bm.noreads {w:World} {tag:Nat→Nat} {s:Rf} {a:Ra} (h:bm w tag s a):bm w tag { s with reads:=[] } { a with Q:=none,Qc:=0,L:=[] }:=
 ⟨fun _=>h.e (by decide),fun _=>h.v (by decide),fun _=>h.x (by decide),fun _=>h.m (by decide),fun _=>h.n (by decide),fun _=>rfl,fun _=>⟨dS,Col.none⟩,fun i hi _=>absurd hi (Nat.not_lt_zero _)⟩
def iR (n i:Nat) (v:Int):List Int:=List.replicate i v++List.replicate (n-i) 0
theorem r7 {n i:Nat} {v:Int} (h:i≤n):(iR n i v).length=n:=by unfold iR;rw [List.length_append,List.length_replicate,List.length_replicate];omega
theorem wY {n i:Nat} {v:Int} (h:i<n):(iR n i v).set i v=iR n (i+1) v:=by
 unfold iR;rw [List.set_append_right _ _ (by rw [List.length_replicate];exact Nat.le_refl _),List.length_replicate,Nat.sub_self,show n-i=(n-(i+1))+1 by omega,List.replicate_succ,List.set_cons_zero,List.replicate_succ',List.append_assoc];rfl
theorem wZ {n:Nat} {v:Int}:iR n 0 v=List.replicate n 0:=by unfold iR;rw [Nat.sub_zero];rfl
theorem Aj {n:Nat} {v:Int}:iR n n v=List.replicate n v:=by unfold iR;rw [Nat.sub_self];simp
theorem zb (w0:World) (Z:Nat→Prop) (T g:Nat) (p:Sp) (w:World) (h:aZ w0 Z w T g p) (hF:RfF p.s) (hl:p.out.length≤700) :
 Rt prog 161 [.pointer (some ⟨g,0,none⟩)] w (fun v w'=>v=.tuple #[]∧aZ w0 Z w' T g (mI p)):=by
 obtain ⟨s,out⟩:=p;obtain ⟨tag,a,O,oc,L,hs⟩:=h.ex;obtain ⟨E,Ec,V,Vc,X,Xc,M,Mc,Sn,Sc,Q,Qc,LL⟩:=a;have hb:Blk w g T (rfV s (⟨E,Ec,V,Vc,X,Xc,M,Mc,Sn,Sc,Q,Qc,LL⟩:Ra)++[Value.slice O L.length oc]).toArray:=hs.b
 have hll:L.length=out.length:=by
  have h9:=congrArg List.length hs.m.l;rw [List.length_map] at h9;exact h9
 have hF:RfF s:=hF;have hl:out.length≤700:=hl;have hB0:ah w w:=ah.rfl_;have hbl:=hF.last;have hlb:dy s.b s.es=bn s:=rfl;have he:bX w (.slice E s.es.length Ec) s.es:=hs.f.rd.e;have hnn:=hF.n;have hid:=hF.i;have hzw:=h.zw;obtain ⟨n,hn0⟩:∃ n,n=s.nodes.toNat:=⟨_,rfl⟩;have hn:s.nodes=((n:Nat):Int):=by omega
 refine enter (n:=124) Tryz.func161 rfl rfl rfl (ak (ak (af (mvp rfl (aa (aw rfl) (aa (ab aH rfl) (az uv (zg T g s _ _ _ (hb.from_ ah.rfl_) (he.from_ ah.rfl_) hF.lg) ?_)))))));rintro v8 w1 ⟨rfl,E8⟩;refine ai (ag (aQ rfl (fun Q2=>?_) (fun Q2=>?_)))
 ·have h8t:ia s=true:=Q2;refine ak ?_;apply mM [(0,9,fun _ v _=>v=_),(1,10,fun _ v _=>v=_),(2,11,fun _ v _=>v=_),(3,12,fun _ v _=>v=_),(4,13,fun _ v _=>v=_),(5,14,fun _ v _=>v=_),(6,15,fun _ v _=>v=_),(7,16,fun _ v _=>v=_),(8,17,fun _ v _=>v=_),(9,18,fun _ v _=>v=_)] [9] (fun S w'=>(S 9=false→ah w1 w')∧(S 9=true→aZ w0 Z w' T g ⟨cH s s.term,out⟩)) (by kernel_rfl) (by kernel_rfl) rfl rfl ⟨fun _ _ _ _ _ _ _ h=>h,fun _ _ _ _ _ _ _ h=>h,fun _ _ _ _ _ _ _ h=>h,fun _ _ _ _ _ _ _ h=>h,fun _ _ _ _ _ _ _ h=>h,fun _ _ _ _ _ _ _ h=>h,fun _ _ _ _ _ _ _ h=>h,fun _ _ _ _ _ _ _ h=>h,fun _ _ _ _ _ _ _ h=>h,fun _ _ _ _ _ _ _ h=>h,trivial⟩ (fun S i w1 w2 hq hF h=>⟨fun h0=>(h.1 (oo h0)).next hF,fun h1=>(fun h=>h.from_ hF) (h.2 (oW (show 9≠i by rintro rfl;exact absurd hq (by decide)) h1))⟩) ⟨fun _=>ah.rfl_.d1,fun h=>by cases h⟩
  case hstep=>
   constructor
   ·rintro S L' w3 hU hmo hme hI hM hC hS ⟨-⟩;have hS0:S 9=false:=(aq hC (j:=9) rfl (by kernel_rfl) (aq hC (j:=2) rfl (by kernel_rfl) (aq hC (j:=1) rfl (by kernel_rfl) hS)));have hM3:=hM.1 hS0;have e0:=hI.1 0 (fH rfl);exact aS [(0,_)] hU hmo hme hI hM (.head _) rfl rfl (by kernel_rfl) ⟨e0,trivial⟩ (aK (v:=.pointer _) rfl) ah.rfl_ (rfl)
   constructor
   ·rintro S L' w4 hU hmo hme hI hM hC hS ⟨d0,-⟩;have hS0:S 9=false:=(aq hC (j:=9) rfl (by kernel_rfl) (aq hC (j:=2) rfl (by kernel_rfl) hS));have hM4:=hM.1 hS0;obtain ⟨v4_9,e9,h9⟩:=hI.get (i:=0) (.head _) d0;obtain rfl:=h9;exact aS [(9,_)] hU hmo hme hI hM (.tail _ (.head _)) rfl rfl (by kernel_rfl) ⟨e9,trivial⟩ (aw rfl) ah.rfl_ (rfl)
   constructor
   ·rintro S L' w5 hU hmo hme hI hM hC hS ⟨d1,-⟩;have hS0:S 9=false:=(aq hC (j:=9) rfl (by kernel_rfl) hS);have hM5:=hM.1 hS0;obtain ⟨v5_10,e10,h10⟩:=hI.get (i:=1) (.tail _ (.head _)) d1;obtain rfl:=h10;exact aS [(10,_)] hU hmo hme hI hM (gM 2 rfl) rfl rfl (by kernel_rfl) ⟨e10,trivial⟩ (ab aH rfl) ah.rfl_ (rfl)
   constructor
   ·rintro S L' w6 hU hmo hme hI hM hC hS ⟨-⟩;have hS0:S 9=false:=(aq hC (j:=9) rfl (by kernel_rfl) (aq hC (j:=8) rfl (by kernel_rfl) (aq hC (j:=7) rfl (by kernel_rfl) (aq hC (j:=6) rfl (by kernel_rfl) (aq hC (j:=5) rfl (by kernel_rfl) (aq hC (j:=4) rfl (by kernel_rfl) hS))))));have hM6:=hM.1 hS0;have e0:=hI.1 0 (fH rfl);exact aS [(0,_)] hU hmo hme hI hM (gM 3 rfl) rfl rfl (by kernel_rfl) ⟨e0,trivial⟩ (aK (v:=.pointer _) rfl) ah.rfl_ (rfl)
   constructor
   ·rintro S L' w7 hU hmo hme hI hM hC hS ⟨d3,-⟩;have hS0:S 9=false:=(aq hC (j:=9) rfl (by kernel_rfl) (aq hC (j:=8) rfl (by kernel_rfl) (aq hC (j:=7) rfl (by kernel_rfl) (aq hC (j:=6) rfl (by kernel_rfl) (aq hC (j:=5) rfl (by kernel_rfl) hS)))));have hM7:=hM.1 hS0;obtain ⟨v7_12,e12,h12⟩:=hI.get (i:=3) (gM 3 rfl) d3;obtain rfl:=h12;exact aS [(12,_)] hU hmo hme hI hM (gM 4 rfl) rfl rfl (by kernel_rfl) ⟨e12,trivial⟩ (aw rfl) ah.rfl_ (rfl)
   constructor
   ·rintro S L' w8 hU hmo hme hI hM hC hS ⟨d4,-⟩;have hS0:S 9=false:=(aq hC (j:=9) rfl (by kernel_rfl) (aq hC (j:=8) rfl (by kernel_rfl) (aq hC (j:=7) rfl (by kernel_rfl) (aq hC (j:=6) rfl (by kernel_rfl) hS))));have hM8:=hM.1 hS0;obtain ⟨v8_13,e13,h13⟩:=hI.get (i:=4) (gM 4 rfl) d4;obtain rfl:=h13;exact aS [(13,_)] hU hmo hme hI hM (gM 5 rfl) rfl rfl (by kernel_rfl) ⟨e13,trivial⟩ (ab aH rfl) ah.rfl_ (rfl)
   constructor
   ·rintro S L' w9 hU hmo hme hI hM hC hS ⟨d5,-⟩;have hS0:S 9=false:=(aq hC (j:=9) rfl (by kernel_rfl) (aq hC (j:=8) rfl (by kernel_rfl) (aq hC (j:=7) rfl (by kernel_rfl) hS)));have hM9:=hM.1 hS0;obtain ⟨v9_14,e14,h14⟩:=hI.get (i:=5) (gM 5 rfl) d5;obtain rfl:=h14;exact aS [(14,_)] hU hmo hme hI hM (gM 6 rfl) rfl rfl (by kernel_rfl) ⟨e14,trivial⟩ (ab aB rfl) ah.rfl_ (rfl)
   constructor
   ·rintro S L' w10 hU hmo hme hI hM hC hS ⟨d6,-⟩;have hS0:S 9=false:=(aq hC (j:=9) rfl (by kernel_rfl) (aq hC (j:=8) rfl (by kernel_rfl) hS));have hM10:=hM.1 hS0;obtain ⟨v10_15,e15,h15⟩:=hI.get (i:=6) (gM 6 rfl) d6;obtain rfl:=h15;exact aS [(15,_)] hU hmo hme hI hM (gM 7 rfl) rfl rfl (by kernel_rfl) ⟨e15,trivial⟩ (ab bL rfl) ah.rfl_ (rfl)
   constructor
   ·rintro S L' w11 hU hmo hme hI hM hC hS ⟨d7,-⟩;have hS0:S 9=false:=(aq hC (j:=9) rfl (by kernel_rfl) hS);have hM11:=hM.1 hS0;obtain ⟨v11_16,e16,h16⟩:=hI.get (i:=7) (gM 7 rfl) d7;obtain rfl:=h16;exact aS [(16,_)] hU hmo hme hI hM (gM 8 rfl) rfl rfl (by kernel_rfl) ⟨e16,trivial⟩ (ar ao rfl (by exact (show _=some (Value.int .i64 s.term) from dK (hb.from_ ((ah.rfl_.next E8).next hM11)) 3 rfl))) ah.rfl_ (rfl)
   constructor
   ·rintro S L' w12 hU hmo hme hI hM hC hS ⟨d2,d8,-⟩;have hS0:S 9=false:=hS;have hM12:=hM.1 hS0;obtain ⟨v12_11,e11,h11⟩:=hI.get (i:=2) (gM 2 rfl) d2;obtain rfl:=h11;obtain ⟨v12_17,e17,h17⟩:=hI.get (i:=8) (gM 8 rfl) d8;obtain rfl:=h17;refine jg (al:=[.tmp 11,.tmp 17]) [(11,_),(17,_)] hU hI (gM 9 rfl) (by kernel_rfl) ⟨e11,e17,trivial⟩ mg ((ns w0 Z T g ⟨s,out⟩ _ (h.from_ ((ah.rfl_.next E8).next hM12)) s.term).mono ?_);rintro v9 w2 ⟨rfl,hS2⟩;exact ⟨⟨fun h0=>(by rw [mr] at h0;cases h0),fun _=>hS2⟩,rfl,⟨fun _ _ _ h=>h,fun _ _ _ h=>h,fun _ _ _ h=>h,fun _ _ _ h=>h,fun _ _ _ h=>h,fun _ _ _ h=>h,fun _ _ _ h=>h,fun _ _ _ h=>h,fun _ _ _ h=>h,fun _ _ _ h=>h,trivial⟩⟩
   exact trivial
  case hend=>
   intro w13 hM;obtain hS9:=hM.2 rfl;rintro v13_9 rfl v13_10 rfl v13_11 rfl v13_12 rfl v13_13 rfl v13_14 rfl v13_15 rfl v13_16 rfl v13_17 rfl v13_18 rfl;refine iD (ag (aC (aE (eB rfl ?_))));unfold mI
   first
    |(rw [if_pos h8t];exact ⟨rfl,hS9.from_ ah.rfl_⟩)
    |(rw [if_neg (by show ¬ ia s=true;rw [h8];decide)]
      refine ⟨rfl,?_⟩;show aZ w0 Z _ T g ⟨dB (Sp.all ⟨fI (eH s) ⟨#[]⟩,out⟩).s,(Sp.all ⟨fI (eH s) ⟨#[]⟩,out⟩).out⟩;rw [show (Sp.all ⟨fI (eH s) ⟨#[]⟩,out⟩).s=fI (eH s) ⟨#[]⟩ by rw [nw]];exact h12.from_ (ah.rfl_ (a:=w1)))
 have h8:ia s=false:=by simpa using Q2
 refine aM (ag (ak (af (mvp rfl (aa (aw rfl) (aa (ab aH rfl) (az gx (j9 T g s _ _ _ (hb.from_ (ah.rfl_.next E8)) (he.from_ (ah.rfl_.next E8)) hF.lg) ?_)))))));rintro v23 w14 ⟨rfl,E23⟩;refine mvt rfl (aa (aO rfl rfl) (aa (aO rfl rfl) (asi rfl (asi rfl (ai (ag (ak (af (mvp rfl (mvp rfl (mvp rfl ?_)))))))))));refine mvp rfl (mvp rfl (aa (aw rfl) (aa (ab aH rfl) (aa (ab aB rfl) (aa (ab cw rfl) (aa (ar ao rfl (by exact (show _=some (Value.int .i64 s.id) from dK (hb.from_ ((ah.rfl_.next E8).next E23)) 0 rfl))) ?_))))));refine aa (aw rfl) (aa (ab aH rfl) (aa (ab aB rfl) (aa (ab cZ rfl) ?_)));have hB0:ah w w14:=((ah.rfl_.next E8).next E23);refine cK (s':=({ s with role:=2 }:Rf)) (a':=(⟨E,Ec,V,Vc,X,Xc,M,Mc,Sn,Sc,Q,Qc,LL⟩:Ra)) (v:=.int _ _) bd rfl rfl rfl ((hb.from_ ((ah.rfl_.next E8).next E23))) (by exact ⟨by decide,rfl⟩) ?_;intro w15 O3_0 P3_0;have hC1:Chg (fun k=>k=g) w w15:=(ah.toChg hB0).only O3_0 rfl;refine aa (aw rfl) (aa (ab aH rfl) (aa (ab aB rfl) (aa (ab dX rfl) (cK (s':=({ s with role:=2,leader:=s.id }:Rf)) (a':=(⟨E,Ec,V,Vc,X,Xc,M,Mc,Sn,Sc,Q,Qc,LL⟩:Ra)) (v:=.int _ _) bd rfl rfl rfl (P3_0) (by exact ⟨by decide,rfl⟩) ?_))));intro w16 O3_1 P3_1;replace hC1:=hC1.only O3_1 rfl;refine aa (aw rfl) (aa (ab aH rfl) (aa (ab aB rfl) (aa (ab de rfl) (cK (s':=({ s with role:=2,leader:=s.id,votes:=[] }:Rf)) (a':=(⟨E,Ec,none,0,X,Xc,M,Mc,Sn,Sc,Q,Qc,LL⟩:Ra)) (v:=.slice _ _ _) db rfl rfl rfl (P3_1) (by exact ⟨by decide,rfl⟩) ?_))));intro w17 O3_2 P3_2;replace hC1:=hC1.only O3_2 rfl;refine aa (aw rfl) (aa (ab aH rfl) (aa (ab aB rfl) (aa (ab dq rfl) (cK (s':=({ s with role:=2,leader:=s.id,votes:=[],elapsed:=0 }:Rf)) (a':=(⟨E,Ec,none,0,X,Xc,M,Mc,Sn,Sc,Q,Qc,LL⟩:Ra)) (v:=.int _ _) bd rfl rfl rfl (P3_2) (by exact ⟨by decide,rfl⟩) ?_))));intro w18 O3_3 P3_3;replace hC1:=hC1.only O3_3 rfl;obtain ⟨hs3,h3⟩:=h.set (s':=({ s with role:=2,leader:=s.id,votes:=[],elapsed:=0 }:Rf)) (a':=(⟨E,Ec,none,0,X,Xc,M,Mc,Sn,Sc,Q,Qc,LL⟩:Ra)) hs hC1 (bm.same hs.f.novotes rfl rfl rfl rfl rfl rfl) P3_3;refine ai (ag (ak (yd (X:=G3) [(0,52,fun x=>.pointer (some ⟨g,0,none⟩)),(1,53,fun x=>.pointer (some ⟨g,0,none⟩)),(2,54,fun x=>.pointer (some ⟨g,0,none⟩)),(3,55,fun x=>.pointer (some ⟨g,0,none⟩)),(4,56,fun x=>.pointer (some ⟨g,0,none⟩)),(5,57,fun x=>.pointer (some ⟨g,0+0,none⟩)),(6,58,fun x=>.pointer (some ⟨g,0+0+0,none⟩)),(7,59,fun x=>.pointer (some ⟨g,0+0+0+1,none⟩)),(8,60,fun x=>.int .i64 (n:Nat)),(9,61,fun x=>.slice (some ⟨x.x,0,none⟩) n n),(10,62,fun x=>.pointer (some ⟨g,0,none⟩)),(11,63,fun x=>.pointer (some ⟨g,0,none⟩)),(12,64,fun x=>.pointer (some ⟨g,0+0,none⟩)),(13,65,fun x=>.pointer (some ⟨g,0+0+0,none⟩)),(14,66,fun x=>.pointer (some ⟨g,0+0+0+1,none⟩)),(15,67,fun x=>.int .i64 (n:Nat)),(16,68,fun x=>.slice (some ⟨x.m,0,none⟩) n n),(17,69,fun x=>.pointer (some ⟨g,0,none⟩)),(18,70,fun x=>.pointer (some ⟨g,0,none⟩)),(19,71,fun x=>.pointer (some ⟨g,0+0,none⟩)),(20,72,fun x=>.pointer (some ⟨g,0+0+0,none⟩)),(21,73,fun x=>.pointer (some ⟨g,0+0+0+1,none⟩)),(22,74,fun x=>.int .i64 (n:Nat)),(23,75,fun x=>.slice (some ⟨x.s,0,none⟩) n n),(24,76,fun x=>.pointer (some ⟨g,0,none⟩)),(25,77,fun x=>.pointer (some ⟨g,0+0,none⟩)),(26,78,fun x=>.pointer (some ⟨g,0+0+0,none⟩)),(27,79,fun x=>.pointer (some ⟨g,0+0+0+15,none⟩)),(29,80,fun x=>.pointer (some ⟨g,0,none⟩)),(30,81,fun x=>.pointer (some ⟨g,0+0,none⟩)),(31,82,fun x=>.pointer (some ⟨g,0+0+0,none⟩)),(32,83,fun x=>.pointer (some ⟨g,0+0+0+16,none⟩)),(34,84,fun x=>.pointer (some ⟨g,0,none⟩)),(35,85,fun x=>.pointer (some ⟨g,0+0,none⟩)),(36,86,fun x=>.pointer (some ⟨g,0+0+0,none⟩)),(37,87,fun x=>.pointer (some ⟨g,0+0+0+17,none⟩))] [9,16,23,28,33,38] (fun x S w'=>LI w18 T g n ({ s with role:=2,leader:=s.id,votes:=[],elapsed:=0 }:Rf) (⟨E,Ec,none,0,X,Xc,M,Mc,Sn,Sc,Q,Qc,LL⟩:Ra) (Value.slice O L.length oc) x S w') (by kernel_rfl) (by kernel_rfl) rfl rfl (fun x S i w1 w2 hq hF h=>LI.rd h hq hF) (⟨⟨0,0,0⟩,⟨ah.rfl_.d1.toChg,(hs3.b.from_ ((ah.rfl_).d1)),fun h=>(by cases h),fun h=>(by cases h),fun h=>(by cases h),fun h=>(by cases h),fun h=>(by cases h),fun h=>(by cases h),(hs3.b.from_ ah.rfl_).lt⟩⟩) ?_ ?_)))
 ·constructor
  ·rintro S L' w19 x hU hme hI hM hC hS ⟨-⟩;have hM':=hM;obtain ⟨hc19,hb19,u919,u1619,u2319,q119,q219,q319,lt19⟩:=hM';have e0:=InvX.out hI (t:=0) rfl;exact cI [(0,_)] x hU hI (.head _) rfl (by kernel_rfl) ⟨e0,trivial⟩ (aK (v:=.pointer _) rfl) cP (hme _ _ _ _ _ rfl ah.rfl_ hM)
  constructor
  ·rintro S L' w20 x hU hme hI hM hC hS ⟨-,-⟩;have hM':=hM;obtain ⟨hc20,hb20,u920,u1620,u2320,q120,q220,q320,lt20⟩:=hM';have e0:=InvX.out hI (t:=0) rfl;exact cI [(0,_)] x hU hI (.tail _ (.head _)) rfl (by kernel_rfl) ⟨e0,trivial⟩ (aK (v:=.pointer _) rfl) cP (hme _ _ _ _ _ rfl ah.rfl_ hM)
  constructor
  ·rintro S L' w21 x hU hme hI hM hC hS ⟨-,-⟩;have hM':=hM;obtain ⟨hc21,hb21,u921,u1621,u2321,q121,q221,q321,lt21⟩:=hM';have e0:=InvX.out hI (t:=0) rfl;exact cI [(0,_)] x hU hI (gM 2 rfl) rfl (by kernel_rfl) ⟨e0,trivial⟩ (aK (v:=.pointer _) rfl) cP (hme _ _ _ _ _ rfl ah.rfl_ hM)
  constructor
  ·rintro S L' w22 x hU hme hI hM hC hS ⟨-⟩;have hM':=hM;obtain ⟨hc22,hb22,u922,u1622,u2322,q122,q222,q322,lt22⟩:=hM';have e0:=InvX.out hI (t:=0) rfl;exact cI [(0,_)] x hU hI (gM 3 rfl) rfl (by kernel_rfl) ⟨e0,trivial⟩ (aK (v:=.pointer _) rfl) cP (hme _ _ _ _ _ rfl ah.rfl_ hM)
  constructor
  ·rintro S L' w23 x hU hme hI hM hC hS ⟨d3,-⟩;have hM':=hM;obtain ⟨hc23,hb23,u923,u1623,u2323,q123,q223,q323,lt23⟩:=hM';have e55:=InvX.get hI (i:=3) (gM 3 rfl) d3;exact cI [(55,_)] x hU hI (gM 4 rfl) rfl (by kernel_rfl) ⟨e55,trivial⟩ (aw rfl) cP (hme _ _ _ _ _ rfl ah.rfl_ hM)
  constructor
  ·rintro S L' w24 x hU hme hI hM hC hS ⟨d4,-⟩;have hM':=hM;obtain ⟨hc24,hb24,u924,u1624,u2324,q124,q224,q324,lt24⟩:=hM';have e56:=InvX.get hI (i:=4) (gM 4 rfl) d4;exact cI [(56,_)] x hU hI (gM 5 rfl) rfl (by kernel_rfl) ⟨e56,trivial⟩ (ab aH rfl) cP (hme _ _ _ _ _ rfl ah.rfl_ hM)
  constructor
  ·rintro S L' w25 x hU hme hI hM hC hS ⟨d5,-⟩;have hM':=hM;obtain ⟨hc25,hb25,u925,u1625,u2325,q125,q225,q325,lt25⟩:=hM';have e57:=InvX.get hI (i:=5) (gM 5 rfl) d5;exact cI [(57,_)] x hU hI (gM 6 rfl) rfl (by kernel_rfl) ⟨e57,trivial⟩ (ab aB rfl) cP (hme _ _ _ _ _ rfl ah.rfl_ hM)
  constructor
  ·rintro S L' w26 x hU hme hI hM hC hS ⟨d6,-⟩;have hM':=hM;obtain ⟨hc26,hb26,u926,u1626,u2326,q126,q226,q326,lt26⟩:=hM';have e58:=InvX.get hI (i:=6) (gM 6 rfl) d6;exact cI [(58,_)] x hU hI (gM 7 rfl) rfl (by kernel_rfl) ⟨e58,trivial⟩ (ab cf rfl) cP (hme _ _ _ _ _ rfl ah.rfl_ hM)
  constructor
  ·rintro S L' w27 x hU hme hI hM hC hS ⟨d7,-⟩;have hM':=hM;obtain ⟨hc27,hb27,u927,u1627,u2327,q127,q227,q327,lt27⟩:=hM';have e59:=InvX.get hI (i:=7) (gM 7 rfl) d7;exact cI [(59,_)] x hU hI (gM 8 rfl) rfl (by kernel_rfl) ⟨e59,trivial⟩ (jk (ar ao rfl (show _=some (Value.int .i64 s.nodes) from hM.b.rd 1 rfl)) (bM hn)) cP (hme _ _ _ _ _ rfl ah.rfl_ hM)
  constructor
  ·rintro S L' w28 x hU hme hI hM hC hS ⟨d8,d8,-⟩;have hM':=hM;obtain ⟨hc28,hb28,u928,u1628,u2328,q128,q228,q328,lt28⟩:=hM';have e60:=InvX.get hI (i:=8) (gM 8 rfl) d8;have h28:S 28=false:=aq hC (j:=28) rfl (by kernel_rfl) hS;exact cI [(60,_)] ⟨w28.heap.size,x.m,x.s⟩ hU hI (gM 9 rfl) rfl (by kernel_rfl) ⟨e60,trivial⟩ (tv mf rfl rfl rfl (by omega) (by omega)) ⟨fun _=>rfl,fun _=>rfl,fun _=>rfl,fun _=>rfl,fun _=>rfl,fun _=>rfl,fun _=>rfl,fun _=>rfl,fun _=>rfl,fun h=>(by rw [hS] at h;cases h),fun _=>rfl,fun _=>rfl,fun _=>rfl,fun _=>rfl,fun _=>rfl,fun _=>rfl,fun _=>rfl,fun _=>rfl,fun _=>rfl,fun _=>rfl,fun _=>rfl,fun _=>rfl,fun _=>rfl,fun _=>rfl,fun _=>rfl,fun _=>rfl,fun _=>rfl,fun _=>rfl,fun _=>rfl,fun _=>rfl,fun _=>rfl,fun _=>rfl,fun _=>rfl,fun _=>rfl,fun _=>rfl,fun _=>rfl,trivial⟩ (LI.mk9 hM h28 ⟨hM.c.size,Blk.new _ _ _⟩ (ah.rfl_.new _))
  constructor
  ·rintro S L' w29 x hU hme hI hM hC hS ⟨-⟩;have hM':=hM;obtain ⟨hc29,hb29,u929,u1629,u2329,q129,q229,q329,lt29⟩:=hM';have e0:=InvX.out hI (t:=0) rfl;exact cI [(0,_)] x hU hI (gM 10 rfl) rfl (by kernel_rfl) ⟨e0,trivial⟩ (aK (v:=.pointer _) rfl) cP (hme _ _ _ _ _ rfl ah.rfl_ hM)
  constructor
  ·rintro S L' w30 x hU hme hI hM hC hS ⟨d10,-⟩;have hM':=hM;obtain ⟨hc30,hb30,u930,u1630,u2330,q130,q230,q330,lt30⟩:=hM';have e62:=InvX.get hI (i:=10) (gM 10 rfl) d10;exact cI [(62,_)] x hU hI (gM 11 rfl) rfl (by kernel_rfl) ⟨e62,trivial⟩ (aw rfl) cP (hme _ _ _ _ _ rfl ah.rfl_ hM)
  constructor
  ·rintro S L' w31 x hU hme hI hM hC hS ⟨d11,-⟩;have hM':=hM;obtain ⟨hc31,hb31,u931,u1631,u2331,q131,q231,q331,lt31⟩:=hM';have e63:=InvX.get hI (i:=11) (gM 11 rfl) d11;exact cI [(63,_)] x hU hI (gM 12 rfl) rfl (by kernel_rfl) ⟨e63,trivial⟩ (ab aH rfl) cP (hme _ _ _ _ _ rfl ah.rfl_ hM)
  constructor
  ·rintro S L' w32 x hU hme hI hM hC hS ⟨d12,-⟩;have hM':=hM;obtain ⟨hc32,hb32,u932,u1632,u2332,q132,q232,q332,lt32⟩:=hM';have e64:=InvX.get hI (i:=12) (gM 12 rfl) d12;exact cI [(64,_)] x hU hI (gM 13 rfl) rfl (by kernel_rfl) ⟨e64,trivial⟩ (ab aB rfl) cP (hme _ _ _ _ _ rfl ah.rfl_ hM)
  constructor
  ·rintro S L' w33 x hU hme hI hM hC hS ⟨d13,-⟩;have hM':=hM;obtain ⟨hc33,hb33,u933,u1633,u2333,q133,q233,q333,lt33⟩:=hM';have e65:=InvX.get hI (i:=13) (gM 13 rfl) d13;exact cI [(65,_)] x hU hI (gM 14 rfl) rfl (by kernel_rfl) ⟨e65,trivial⟩ (ab cf rfl) cP (hme _ _ _ _ _ rfl ah.rfl_ hM)
  constructor
  ·rintro S L' w34 x hU hme hI hM hC hS ⟨d14,-⟩;have hM':=hM;obtain ⟨hc34,hb34,u934,u1634,u2334,q134,q234,q334,lt34⟩:=hM';have e66:=InvX.get hI (i:=14) (gM 14 rfl) d14;exact cI [(66,_)] x hU hI (gM 15 rfl) rfl (by kernel_rfl) ⟨e66,trivial⟩ (jk (ar ao rfl (show _=some (Value.int .i64 s.nodes) from hM.b.rd 1 rfl)) (bM hn)) cP (hme _ _ _ _ _ rfl ah.rfl_ hM)
  constructor
  ·rintro S L' w35 x hU hme hI hM hC hS ⟨d15,d15,-⟩;have hM':=hM;obtain ⟨hc35,hb35,u935,u1635,u2335,q135,q235,q335,lt35⟩:=hM';have e67:=InvX.get hI (i:=15) (gM 15 rfl) d15;have h28:S 33=false:=aq hC (j:=33) rfl (by kernel_rfl) hS;exact cI [(67,_)] ⟨x.x,w35.heap.size,x.s⟩ hU hI (gM 16 rfl) rfl (by kernel_rfl) ⟨e67,trivial⟩ (tv mf rfl rfl rfl (by omega) (by omega)) ⟨fun _=>rfl,fun _=>rfl,fun _=>rfl,fun _=>rfl,fun _=>rfl,fun _=>rfl,fun _=>rfl,fun _=>rfl,fun _=>rfl,fun _=>rfl,fun _=>rfl,fun _=>rfl,fun _=>rfl,fun _=>rfl,fun _=>rfl,fun _=>rfl,fun h=>(by rw [hS] at h;cases h),fun _=>rfl,fun _=>rfl,fun _=>rfl,fun _=>rfl,fun _=>rfl,fun _=>rfl,fun _=>rfl,fun _=>rfl,fun _=>rfl,fun _=>rfl,fun _=>rfl,fun _=>rfl,fun _=>rfl,fun _=>rfl,fun _=>rfl,fun _=>rfl,fun _=>rfl,fun _=>rfl,fun _=>rfl,trivial⟩ (LI.mk16 hM h28 ⟨hM.c.size,Blk.new _ _ _⟩ (ah.rfl_.new _))
  constructor
  ·rintro S L' w36 x hU hme hI hM hC hS ⟨-⟩;have hM':=hM;obtain ⟨hc36,hb36,u936,u1636,u2336,q136,q236,q336,lt36⟩:=hM';have e0:=InvX.out hI (t:=0) rfl;exact cI [(0,_)] x hU hI (gM 17 rfl) rfl (by kernel_rfl) ⟨e0,trivial⟩ (aK (v:=.pointer _) rfl) cP (hme _ _ _ _ _ rfl ah.rfl_ hM)
  constructor
  ·rintro S L' w37 x hU hme hI hM hC hS ⟨d17,-⟩;have hM':=hM;obtain ⟨hc37,hb37,u937,u1637,u2337,q137,q237,q337,lt37⟩:=hM';have e69:=InvX.get hI (i:=17) (gM 17 rfl) d17;exact cI [(69,_)] x hU hI (gM 18 rfl) rfl (by kernel_rfl) ⟨e69,trivial⟩ (aw rfl) cP (hme _ _ _ _ _ rfl ah.rfl_ hM)
  constructor
  ·rintro S L' w38 x hU hme hI hM hC hS ⟨d18,-⟩;have hM':=hM;obtain ⟨hc38,hb38,u938,u1638,u2338,q138,q238,q338,lt38⟩:=hM';have e70:=InvX.get hI (i:=18) (gM 18 rfl) d18;exact cI [(70,_)] x hU hI (gM 19 rfl) rfl (by kernel_rfl) ⟨e70,trivial⟩ (ab aH rfl) cP (hme _ _ _ _ _ rfl ah.rfl_ hM)
  constructor
  ·rintro S L' w39 x hU hme hI hM hC hS ⟨d19,-⟩;have hM':=hM;obtain ⟨hc39,hb39,u939,u1639,u2339,q139,q239,q339,lt39⟩:=hM';have e71:=InvX.get hI (i:=19) (gM 19 rfl) d19;exact cI [(71,_)] x hU hI (gM 20 rfl) rfl (by kernel_rfl) ⟨e71,trivial⟩ (ab aB rfl) cP (hme _ _ _ _ _ rfl ah.rfl_ hM)
  constructor
  ·rintro S L' w40 x hU hme hI hM hC hS ⟨d20,-⟩;have hM':=hM;obtain ⟨hc40,hb40,u940,u1640,u2340,q140,q240,q340,lt40⟩:=hM';have e72:=InvX.get hI (i:=20) (gM 20 rfl) d20;exact cI [(72,_)] x hU hI (gM 21 rfl) rfl (by kernel_rfl) ⟨e72,trivial⟩ (ab cf rfl) cP (hme _ _ _ _ _ rfl ah.rfl_ hM)
  constructor
  ·rintro S L' w41 x hU hme hI hM hC hS ⟨d21,-⟩;have hM':=hM;obtain ⟨hc41,hb41,u941,u1641,u2341,q141,q241,q341,lt41⟩:=hM';have e73:=InvX.get hI (i:=21) (gM 21 rfl) d21;exact cI [(73,_)] x hU hI (gM 22 rfl) rfl (by kernel_rfl) ⟨e73,trivial⟩ (jk (ar ao rfl (show _=some (Value.int .i64 s.nodes) from hM.b.rd 1 rfl)) (bM hn)) cP (hme _ _ _ _ _ rfl ah.rfl_ hM)
  constructor
  ·rintro S L' w42 x hU hme hI hM hC hS ⟨d22,d22,-⟩;have hM':=hM;obtain ⟨hc42,hb42,u942,u1642,u2342,q142,q242,q342,lt42⟩:=hM';have e74:=InvX.get hI (i:=22) (gM 22 rfl) d22;have h28:S 38=false:=aq hC (j:=38) rfl (by kernel_rfl) hS;exact cI [(74,_)] ⟨x.x,x.m,w42.heap.size⟩ hU hI (gM 23 rfl) rfl (by kernel_rfl) ⟨e74,trivial⟩ (tv mf rfl rfl rfl (by omega) (by omega)) ⟨fun _=>rfl,fun _=>rfl,fun _=>rfl,fun _=>rfl,fun _=>rfl,fun _=>rfl,fun _=>rfl,fun _=>rfl,fun _=>rfl,fun _=>rfl,fun _=>rfl,fun _=>rfl,fun _=>rfl,fun _=>rfl,fun _=>rfl,fun _=>rfl,fun _=>rfl,fun _=>rfl,fun _=>rfl,fun _=>rfl,fun _=>rfl,fun _=>rfl,fun _=>rfl,fun h=>(by rw [hS] at h;cases h),fun _=>rfl,fun _=>rfl,fun _=>rfl,fun _=>rfl,fun _=>rfl,fun _=>rfl,fun _=>rfl,fun _=>rfl,fun _=>rfl,fun _=>rfl,fun _=>rfl,fun _=>rfl,trivial⟩ (LI.mk23 hM h28 ⟨hM.c.size,Blk.new _ _ _⟩ (ah.rfl_.new _))
  constructor
  ·rintro S L' w43 x hU hme hI hM hC hS ⟨d0,d0,-,-,d3,d4,d5,d6,d7,d8,d9,-,-,-,-,-,d15,-,-,-,-,-,-,d22,-,-⟩;have hM':=hM;obtain ⟨hc43,hb43,u943,u1643,u2343,q143,q243,q343,lt43⟩:=hM';have e52:=InvX.get hI (i:=0) (.head _) d0;exact cI [(52,_)] x hU hI (gM 24 rfl) rfl (by kernel_rfl) ⟨e52,trivial⟩ (aw rfl) cP (hme _ _ _ _ _ rfl ah.rfl_ hM)
  constructor
  ·rintro S L' w44 x hU hme hI hM hC hS ⟨d24,d0,-,-,d3,d4,d5,d6,d7,d8,d9,-,-,-,-,-,d15,-,-,-,-,-,-,d22,-,-⟩;have hM':=hM;obtain ⟨hc44,hb44,u944,u1644,u2344,q144,q244,q344,lt44⟩:=hM';have e76:=InvX.get hI (i:=24) (gM 24 rfl) d24;exact cI [(76,_)] x hU hI (gM 25 rfl) rfl (by kernel_rfl) ⟨e76,trivial⟩ (ab aH rfl) cP (hme _ _ _ _ _ rfl ah.rfl_ hM)
  constructor
  ·rintro S L' w45 x hU hme hI hM hC hS ⟨d25,d0,-,-,d3,d4,d5,d6,d7,d8,d9,-,-,-,-,-,d15,-,-,-,-,-,-,d22,-,-⟩;have hM':=hM;obtain ⟨hc45,hb45,u945,u1645,u2345,q145,q245,q345,lt45⟩:=hM';have e77:=InvX.get hI (i:=25) (gM 25 rfl) d25;exact cI [(77,_)] x hU hI (gM 26 rfl) rfl (by kernel_rfl) ⟨e77,trivial⟩ (ab aB rfl) cP (hme _ _ _ _ _ rfl ah.rfl_ hM)
  constructor
  ·rintro S L' w46 x hU hme hI hM hC hS ⟨d26,d0,-,-,d3,d4,d5,d6,d7,d8,d9,-,-,-,-,-,d15,-,-,-,-,-,-,d22,-,-⟩;have hM':=hM;obtain ⟨hc46,hb46,u946,u1646,u2346,q146,q246,q346,lt46⟩:=hM';have e78:=InvX.get hI (i:=26) (gM 26 rfl) d26;exact cI [(78,_)] x hU hI (gM 27 rfl) rfl (by kernel_rfl) ⟨e78,trivial⟩ (ab cS rfl) cP (hme _ _ _ _ _ rfl ah.rfl_ hM)
  constructor
  ·rintro S L' w47 x hU hme hI hM hC hS ⟨d27,d9,d0,-,-,d3,d4,d5,d6,d7,d8,d9,-,-,-,-,-,d15,-,-,-,-,-,-,d22,-,-⟩;have hM':=hM;obtain ⟨hc47,hb47,u947,u1647,u2347,q147,q247,q347,lt47⟩:=hM';have e61:=InvX.get hI (i:=9) (gM 9 rfl) d9;have e79:=InvX.get hI (i:=27) (gM 27 rfl) d27;obtain ⟨w2,hR,hO,hb2⟩:=ji (n:=124) (L:=[(61,_),(79,_)]) (x:=.tmp 79) (y:=.tmp 61) (v:=.slice (some ⟨x.x,0,none⟩) n n) db rfl rfl rfl hM.b (show 15<23 by decide)
   have hb3:Blk w2 g T (lvX ({ s with role:=2,leader:=s.id,votes:=[],elapsed:=0 }:Rf) (⟨E,Ec,none,0,X,Xc,M,Mc,Sn,Sc,Q,Qc,LL⟩:Ra) n x (dJ S 28)++[Value.slice O L.length oc]).toArray:=by
    rw [←A_];exact hb2
   exact oP [(61,_),(79,_)] hI (Au rfl) rfl (by kernel_rfl) ⟨e61,e79,trivial⟩ hR (LI.st hM (.inl rfl) hO hb3)
  constructor
  ·rintro S L' w48 x hU hme hI hM hC hS ⟨d1,d0,d1,-,d3,d4,d5,d6,d7,d8,d9,d10,d11,d12,d13,d14,d15,d16,-,-,-,-,-,d22,-,d24,d25,d26,d27,d28,-⟩;have hM':=hM;obtain ⟨hc48,hb48,u948,u1648,u2348,q148,q248,q348,lt48⟩:=hM';have e53:=InvX.get hI (i:=1) (.tail _ (.head _)) d1;exact cI [(53,_)] x hU hI (gM 28 rfl) rfl (by kernel_rfl) ⟨e53,trivial⟩ (aw rfl) cP (hme _ _ _ _ _ rfl ah.rfl_ hM)
  constructor
  ·rintro S L' w49 x hU hme hI hM hC hS ⟨d29,d0,d1,-,d3,d4,d5,d6,d7,d8,d9,d10,d11,d12,d13,d14,d15,d16,-,-,-,-,-,d22,-,d24,d25,d26,d27,d28,-⟩;have hM':=hM;obtain ⟨hc49,hb49,u949,u1649,u2349,q149,q249,q349,lt49⟩:=hM';have e80:=InvX.get hI (i:=29) (gM 28 rfl) d29;exact cI [(80,_)] x hU hI (gM 29 rfl) rfl (by kernel_rfl) ⟨e80,trivial⟩ (ab aH rfl) cP (hme _ _ _ _ _ rfl ah.rfl_ hM)
  constructor
  ·rintro S L' w50 x hU hme hI hM hC hS ⟨d30,d0,d1,-,d3,d4,d5,d6,d7,d8,d9,d10,d11,d12,d13,d14,d15,d16,-,-,-,-,-,d22,-,d24,d25,d26,d27,d28,-⟩;have hM':=hM;obtain ⟨hc50,hb50,u950,u1650,u2350,q150,q250,q350,lt50⟩:=hM';have e81:=InvX.get hI (i:=30) (gM 29 rfl) d30;exact cI [(81,_)] x hU hI (gM 30 rfl) rfl (by kernel_rfl) ⟨e81,trivial⟩ (ab aB rfl) cP (hme _ _ _ _ _ rfl ah.rfl_ hM)
  constructor
  ·rintro S L' w51 x hU hme hI hM hC hS ⟨d31,d0,d1,-,d3,d4,d5,d6,d7,d8,d9,d10,d11,d12,d13,d14,d15,d16,-,-,-,-,-,d22,-,d24,d25,d26,d27,d28,-⟩;have hM':=hM;obtain ⟨hc51,hb51,u951,u1651,u2351,q151,q251,q351,lt51⟩:=hM';have e82:=InvX.get hI (i:=31) (gM 30 rfl) d31;exact cI [(82,_)] x hU hI (gM 31 rfl) rfl (by kernel_rfl) ⟨e82,trivial⟩ (ab c_ rfl) cP (hme _ _ _ _ _ rfl ah.rfl_ hM)
  constructor
  ·rintro S L' w52 x hU hme hI hM hC hS ⟨d32,d16,d28,d0,d1,-,d3,d4,d5,d6,d7,d8,d9,d10,d11,d12,d13,d14,d15,d16,-,-,-,-,-,d22,-,d24,d25,d26,d27,d28,-⟩;have hM':=hM;obtain ⟨hc52,hb52,u952,u1652,u2352,q152,q252,q352,lt52⟩:=hM';have e68:=InvX.get hI (i:=16) (gM 16 rfl) d16;have e83:=InvX.get hI (i:=32) (gM 31 rfl) d32;obtain ⟨w2,hR,hO,hb2⟩:=ji (n:=124) (L:=[(68,_),(83,_)]) (x:=.tmp 83) (y:=.tmp 68) (v:=.slice (some ⟨x.m,0,none⟩) n n) db rfl rfl rfl hM.b (show 16<23 by decide)
   have hb3:Blk w2 g T (lvX ({ s with role:=2,leader:=s.id,votes:=[],elapsed:=0 }:Rf) (⟨E,Ec,none,0,X,Xc,M,Mc,Sn,Sc,Q,Qc,LL⟩:Ra) n x (dJ S 33)++[Value.slice O L.length oc]).toArray:=by
    rw [←A9];exact hb2
   exact oP [(68,_),(83,_)] hI (Au rfl) rfl (by kernel_rfl) ⟨e68,e83,trivial⟩ hR (LI.st hM (.inr (.inl rfl)) hO hb3)
  constructor
  ·rintro S L' w53 x hU hme hI hM hC hS ⟨d2,d0,d1,d2,d3,d4,d5,d6,d7,d8,d9,d10,d11,d12,d13,d14,d15,d16,d17,d18,d19,d20,d21,d22,d23,d24,d25,d26,d27,d28,d29,d30,d31,d32,d33,-⟩;have hM':=hM;obtain ⟨hc53,hb53,u953,u1653,u2353,q153,q253,q353,lt53⟩:=hM';have e54:=InvX.get hI (i:=2) (gM 2 rfl) d2;exact cI [(54,_)] x hU hI (gM 32 rfl) rfl (by kernel_rfl) ⟨e54,trivial⟩ (aw rfl) cP (hme _ _ _ _ _ rfl ah.rfl_ hM)
  constructor
  ·rintro S L' w54 x hU hme hI hM hC hS ⟨d34,d0,d1,d2,d3,d4,d5,d6,d7,d8,d9,d10,d11,d12,d13,d14,d15,d16,d17,d18,d19,d20,d21,d22,d23,d24,d25,d26,d27,d28,d29,d30,d31,d32,d33,-⟩;have hM':=hM;obtain ⟨hc54,hb54,u954,u1654,u2354,q154,q254,q354,lt54⟩:=hM';have e84:=InvX.get hI (i:=34) (gM 32 rfl) d34;exact cI [(84,_)] x hU hI (gM 33 rfl) rfl (by kernel_rfl) ⟨e84,trivial⟩ (ab aH rfl) cP (hme _ _ _ _ _ rfl ah.rfl_ hM)
  constructor
  ·rintro S L' w55 x hU hme hI hM hC hS ⟨d35,d0,d1,d2,d3,d4,d5,d6,d7,d8,d9,d10,d11,d12,d13,d14,d15,d16,d17,d18,d19,d20,d21,d22,d23,d24,d25,d26,d27,d28,d29,d30,d31,d32,d33,-⟩;have hM':=hM;obtain ⟨hc55,hb55,u955,u1655,u2355,q155,q255,q355,lt55⟩:=hM';have e85:=InvX.get hI (i:=35) (gM 33 rfl) d35;exact cI [(85,_)] x hU hI (gM 34 rfl) rfl (by kernel_rfl) ⟨e85,trivial⟩ (ab aB rfl) cP (hme _ _ _ _ _ rfl ah.rfl_ hM)
  constructor
  ·rintro S L' w56 x hU hme hI hM hC hS ⟨d36,d0,d1,d2,d3,d4,d5,d6,d7,d8,d9,d10,d11,d12,d13,d14,d15,d16,d17,d18,d19,d20,d21,d22,d23,d24,d25,d26,d27,d28,d29,d30,d31,d32,d33,-⟩;have hM':=hM;obtain ⟨hc56,hb56,u956,u1656,u2356,q156,q256,q356,lt56⟩:=hM';have e86:=InvX.get hI (i:=36) (gM 34 rfl) d36;exact cI [(86,_)] x hU hI (gM 35 rfl) rfl (by kernel_rfl) ⟨e86,trivial⟩ (ab df rfl) cP (hme _ _ _ _ _ rfl ah.rfl_ hM)
  constructor
  ·rintro S L' w57 x hU hme hI hM hC hS ⟨d37,d23,d33,d0,d1,d2,d3,d4,d5,d6,d7,d8,d9,d10,d11,d12,d13,d14,d15,d16,d17,d18,d19,d20,d21,d22,d23,d24,d25,d26,d27,d28,d29,d30,d31,d32,d33,-⟩;have hM':=hM;obtain ⟨hc57,hb57,u957,u1657,u2357,q157,q257,q357,lt57⟩:=hM';have e75:=InvX.get hI (i:=23) (gM 23 rfl) d23;have e87:=InvX.get hI (i:=37) (gM 35 rfl) d37;obtain ⟨w2,hR,hO,hb2⟩:=ji (n:=124) (L:=[(75,_),(87,_)]) (x:=.tmp 87) (y:=.tmp 75) (v:=.slice (some ⟨x.s,0,none⟩) n n) db rfl rfl rfl hM.b (show 17<23 by decide)
   have hb3:Blk w2 g T (lvX ({ s with role:=2,leader:=s.id,votes:=[],elapsed:=0 }:Rf) (⟨E,Ec,none,0,X,Xc,M,Mc,Sn,Sc,Q,Qc,LL⟩:Ra) n x (dJ S 38)++[Value.slice O L.length oc]).toArray:=by
    rw [←A8];exact hb2
   exact oP [(75,_),(87,_)] hI (Au rfl) rfl (by kernel_rfl) ⟨e75,e87,trivial⟩ hR (LI.st hM (.inr (.inr rfl)) hO hb3)
  exact trivial
 ·intro x58 w58 hM;obtain ⟨hc58,hb58,u958,u1658,u2358,q158,q258,q358,lt58⟩:=hM;obtain ⟨xx,xm,xs⟩:=x58;have hbr:=hb58
  have hb4:Blk w58 g T (rfV ({ s with role:=2,leader:=s.id,votes:=[],elapsed:=0,next:=List.replicate n 0,mtch:=List.replicate n 0,sent:=List.replicate n 0 }:Rf) (⟨E,Ec,none,0,some ⟨xx,0,none⟩,n,some ⟨xm,0,none⟩,n,some ⟨xs,0,none⟩,n,Q,Qc,LL⟩:Ra)++[Value.slice O L.length oc]).toArray:=by
   unfold rfV;simp only [List.length_replicate];exact hb58
  obtain ⟨h4,tag4,hs4⟩:=h3.three hs3 hc58 (by omega) (u958 rfl) (u1658 rfl) (u2358 rfl) (q158 rfl rfl) (q258 rfl rfl) (q358 rfl rfl) hb4;refine ag (ak (ak (af (mvp rfl (aa (aw rfl) (aa (ab aH rfl) (aa (ab aB rfl) (aa (ab cS rfl) (aa (ar bo rfl (by exact (show _=some (Value.slice (some ⟨xx,0,none⟩) n n) from (hbr.from_ ah.rfl_).rd 15 rfl))) ?_)))))))));refine aa (bF cp rfl) (mvi rfl (ai (ag (a_ (cY (G:=Nat×(Nat→Nat)) [4,96,97,98,99,100,101,102,103,104,105,106,107,108] (fun (i,_)=>[(95,.int .i64 (i:Nat))]) (fun (i,tg) w'=>i≤n∧aZ w0 Z w' T g ⟨({ s with role:=2,leader:=s.id,votes:=[],elapsed:=0,next:=iR n i (bn s+1),mtch:=List.replicate n 0,sent:=List.replicate n 0 }:Rf),out⟩∧gZ w' Z T g tg ⟨({ s with role:=2,leader:=s.id,votes:=[],elapsed:=0,next:=iR n i (bn s+1),mtch:=List.replicate n 0,sent:=List.replicate n 0 }:Rf),out⟩ (⟨E,Ec,none,0,some ⟨xx,0,none⟩,n,some ⟨xm,0,none⟩,n,some ⟨xs,0,none⟩,n,Q,Qc,LL⟩:Ra) O oc L) (fun (i,_)=>n-i) ((0,tag4)) ⟨rfl,trivial⟩ ?_ ?_)))))
  ·exact ⟨Nat.zero_le _,(by rw [wZ];exact h4.from_ (ah.rfl_ (a:=w58))),(by rw [wZ];exact hs4.from_ (ah.rfl_ (a:=w58)))⟩
  rintro ⟨i,tg⟩ ρ59 w59 ⟨hi,h5,hs5⟩;refine ak (af (aa (cg rfl rfl) (ai (ag (ak (Bn rfl (fun Q60=>?_) (fun Q60=>?_)))))))
  ·have hb5:=hs5.b;have hil:(iR n i (bn s+1)).length=n:=r7 hi
   have hr15:∀ w9,ah w59 w9→w9.cell? ⟨g,15,none⟩=some (.slice (some ⟨xx,0,none⟩) n n):=fun w9 hF9=>by
    have h9:=dK (hb5.from_ hF9) 15 rfl;rw [show ({ s with role:=2,leader:=s.id,votes:=[],elapsed:=0,next:=iR n i (bn s+1),mtch:=List.replicate n 0,sent:=List.replicate n 0 }:Rf).next.length=n from hil] at h9;exact h9
   have hxo:(w59).ownsRow 0 3 1 (.slice (some ⟨xx,0,none⟩) n n) n ((iR n i (bn s+1)).map iV):=by
    have h9:=(hs5.f.x (by decide)).1;rw [show (Sp.s ⟨({ s with role:=2,leader:=s.id,votes:=[],elapsed:=0,next:=iR n i (bn s+1),mtch:=List.replicate n 0,sent:=List.replicate n 0 }:Rf),out⟩).next.length=n from hil] at h9;exact h9
   refine aM (ag (ak (a_ (ak (af (mvi rfl (asi rfl (ai (ag (af (mvp rfl (aa (aw rfl) (aa (ab aH rfl) (aa (ab aB rfl) (aa (ab cS rfl) ?_)))))))))))))));refine aa (ar bo rfl (by exact hr15 _ (ah.rfl_ (a:=w59)))) ?_;refine mvi rfl (mvi rfl (aa (bW rfl rfl (by omega)) (aa (eA c6 rfl rfl (by omega)) ?_)));have hB8:ah _ w59:=(ah.rfl_ (a:=w59));refine mY (xs:=(iR n i (bn s+1)).map iV) bd rfl rfl rfl (hxo.kept_from (ah.rfl_ (a:=w59))) (by omega) ?_;intro w61 O8 P8;have hgx:tg xx=2:=(hs5.f.x (by decide)).2 xx rfl;have hC8:Chg (fun k=>tg k=2) _ w61:=(ah.toChg hB8).only O8 hgx;have hil2:(iR n (i+1) (bn s+1)).length=n:=r7 (by omega)
   have hxo8:(w61).ownsRow 0 3 1 (.slice (some ⟨xx,0,none⟩) n n) n ((iR n (i+1) (bn s+1)).map iV):=by
    rw [←wY (by omega),←wM];exact P8
   have hb8:Blk w61 g T (rfV ({ s with role:=2,leader:=s.id,votes:=[],elapsed:=0,next:=iR n (i+1) (bn s+1),mtch:=List.replicate n 0,sent:=List.replicate n 0 }:Rf) (⟨E,Ec,none,0,some ⟨xx,0,none⟩,n,some ⟨xm,0,none⟩,n,some ⟨xs,0,none⟩,n,Q,Qc,LL⟩:Ra)++[Value.slice O L.length oc]).toArray:=by
    have h9:=(hb5.from_ hB8).only O8 (fun e=>by have:=hs5.gc;rw [e,hgx] at this;cases this)
    have e9:rfV ({ s with role:=2,leader:=s.id,votes:=[],elapsed:=0,next:=iR n (i+1) (bn s+1),mtch:=List.replicate n 0,sent:=List.replicate n 0 }:Rf) (⟨E,Ec,none,0,some ⟨xx,0,none⟩,n,some ⟨xm,0,none⟩,n,some ⟨xs,0,none⟩,n,Q,Qc,LL⟩:Ra)=rfV ({ s with role:=2,leader:=s.id,votes:=[],elapsed:=0,next:=iR n i (bn s+1),mtch:=List.replicate n 0,sent:=List.replicate n 0 }:Rf) (⟨E,Ec,none,0,some ⟨xx,0,none⟩,n,some ⟨xm,0,none⟩,n,some ⟨xs,0,none⟩,n,Q,Qc,LL⟩:Ra):=by
     unfold rfV;simp only [hil,hil2]
    rw [e9];exact h9
   have hf8:=(hs5.f.but hC8).next (l:=iR n (i+1) (bn s+1)) hil2.symm hxo8 (fun q hq=>by cases hq;rw [cW (ej hxo _ rfl)];exact hgx);obtain ⟨hs6a,h6⟩:=h5.put (s':=({ s with role:=2,leader:=s.id,votes:=[],elapsed:=0,next:=iR n (i+1) (bn s+1),mtch:=List.replicate n 0,sent:=List.replicate n 0 }:Rf)) (a':=(⟨E,Ec,none,0,some ⟨xx,0,none⟩,n,some ⟨xm,0,none⟩,n,some ⟨xs,0,none⟩,n,Q,Qc,LL⟩:Ra)) hs5 hC8 (.inl (by decide)) hf8 (Chg.rfl_ (U:=fun k=>k=g)) hb8;obtain ⟨tg6,hs6⟩:∃ t,gZ w61 Z T g t ⟨({ s with role:=2,leader:=s.id,votes:=[],elapsed:=0,next:=iR n (i+1) (bn s+1),mtch:=List.replicate n 0,sent:=List.replicate n 0 }:Rf),out⟩ (⟨E,Ec,none,0,some ⟨xx,0,none⟩,n,some ⟨xm,0,none⟩,n,some ⟨xs,0,none⟩,n,Q,Qc,LL⟩:Ra) O oc L:=⟨_,hs6a⟩;refine ai (bN (ag (af (aa (bW rfl rfl (by omega)) (mvi rfl (ai ?_))))));refine bT ((i+1,tg6)) ⟨(by first | rfl | (refine bM ?_;omega)),trivial⟩ (by (iterate 30 refine bf rfl ?_);exact bB) ⟨?_,?_⟩
   ·exact ⟨by omega,h6.from_ (ah.rfl_ (a:=w61)),hs6.from_ (ah.rfl_ (a:=w61))⟩
   ·show n-(i+1)<n-i;omega
  have hin:i=n:=by omega
  rw [hin,Aj] at h5 hs5;have hb7:=hs5.b;refine cq (bg (bg (b_ (ag (ak (af (mvp rfl (aa (aw rfl) (aa (ab aH rfl) (aa (ab aB rfl) (aa (ab cl rfl) ?_)))))))))));have hB7:ah _ w59:=(ah.rfl_ (a:=w59));refine cK (s':=({ s with role:=2,leader:=s.id,votes:=[],elapsed:=0,next:=List.replicate n (bn s+1),mtch:=List.replicate n 0,reads:=[],sent:=List.replicate n 0 }:Rf)) (a':=(⟨E,Ec,none,0,some ⟨xx,0,none⟩,n,some ⟨xm,0,none⟩,n,some ⟨xs,0,none⟩,n,none,0,[]⟩:Ra)) (v:=.slice _ _ _) jy rfl rfl rfl ((hb7.from_ (ah.rfl_ (a:=w59)))) (by exact ⟨by decide,rfl⟩) ?_;intro w62 O10_0 P10_0;obtain ⟨hs7,h7a⟩:=h5.set (s':=({ s with role:=2,leader:=s.id,votes:=[],elapsed:=0,next:=List.replicate n (bn s+1),mtch:=List.replicate n 0,reads:=[],sent:=List.replicate n 0 }:Rf)) (a':=(⟨E,Ec,none,0,some ⟨xx,0,none⟩,n,some ⟨xm,0,none⟩,n,some ⟨xs,0,none⟩,n,none,0,[]⟩:Ra)) hs5 ((ah.toChg hB7).only O10_0 rfl) (bm.same hs5.f.noreads rfl rfl rfl rfl rfl rfl) P10_0;rw [hn0] at h7a;have h7:aZ w0 Z w62 T g ⟨eH s,out⟩:=h7a;refine ai (ag (ak (af (mvp rfl (aa (aw rfl) (aa (ab aH rfl) (az uu (AI w0 Z T g ⟨(eH s),out⟩ _ (h7.from_ (ah.rfl_ (a:=w62))) hF.chief h8 ⟨#[]⟩ (by decide)) ?_)))))));rintro v117 w63 ⟨rfl,h9⟩;refine ai (ag (ak (af (mvp rfl (az pN (oX w0 Z T g ⟨fI (eH s) ⟨#[]⟩,out⟩ _ (h9.from_ (ah.rfl_ (a:=w63))) (hF.lead h8) rfl (show out.length≤800 by omega)) ?_)))));rintro v119 w64 ⟨rfl,h10⟩;refine ai (ag (af (mvp rfl (aa (aw rfl) (aa (ab aH rfl) ?_)))))
  have h11:aZ w0 Z w64 T g ⟨fI (eH s) ⟨#[]⟩,((⟨fI (eH s) ⟨#[]⟩,out⟩:Sp).all).out⟩:=by
   have e9:(⟨fI (eH s) ⟨#[]⟩,out⟩:Sp).all=⟨fI (eH s) ⟨#[]⟩,((⟨fI (eH s) ⟨#[]⟩,out⟩:Sp).all).out⟩:=by rw [nw]
   rw [←e9];exact h10.from_ (ah.rfl_ (a:=w64))
  obtain ⟨tag11,a11,O11,oc11,L11,hs11⟩:=h11.ex;refine az ur (vk w0 Z T g (fI (eH s) ⟨#[]⟩) ((⟨fI (eH s) ⟨#[]⟩,out⟩:Sp).all).out _ (h11.from_ (ah.rfl_ (a:=w64))) _ _ _ _ _ (hs11.from_ (ah.rfl_ (a:=w64))) (hF.lead h8) rfl) ?_;rintro v123 w65 ⟨rfl,h12,_⟩;refine ai (du (eB rfl ?_));unfold mI
  first
   |(rw [if_pos h8t];exact ⟨rfl,hS9.from_ ah.rfl_⟩)
   |(rw [if_neg (by show ¬ ia s=true;rw [h8];decide)]
     refine ⟨rfl,?_⟩;show aZ w0 Z _ T g ⟨dB (Sp.all ⟨fI (eH s) ⟨#[]⟩,out⟩).s,(Sp.all ⟨fI (eH s) ⟨#[]⟩,out⟩).out⟩;rw [show (Sp.all ⟨fI (eH s) ⟨#[]⟩,out⟩).s=fI (eH s) ⟨#[]⟩ by rw [nw]];exact h12.from_ (ah.rfl_ (a:=w65)))
end Go.Proofs.YtkpooenofjdpmaaGreat
namespace Go.Proofs.YtkpooenofjdpmaaGreat
open Go.Proofs.Tryz (prog)
open Go.RowKit
open Go.ChangeShapes Go.WideShapes Go.ChangeAt
theorem s5:aN prog 86=true:=by kernel_rfl
theorem rA:aN prog 161=true:=by kernel_rfl
theorem lp:aN prog 54=true:=by kernel_rfl
theorem jH:∀ (a0:Int) (a1:Int),prog.built 39 [(0,.int .i64 1),(4,.int .i64 a0),(5,.int .i64 a1)]=some #[.int .i64 1,.int .i64 0,.int .i64 0,.int .i64 0,.int .i64 a0,.int .i64 a1,.int .i64 0,.int .i64 0,.bool false,.slice none 0 0,.int .i64 0,.string ⟨#[]⟩,.bool false]:=by intros;kernel_rfl
theorem rB:aN prog 138=true:=by kernel_rfl
theorem s4:aN prog 97=true:=by kernel_rfl
def pZ (s:Rf) (k:Int):Msg:={ zM with k:=1,t:=k,ix:=bn s,lt:=di s.t s.es }
theorem yh (s:Rf):∀ (l:List Int) (p:Sp),(l.foldl (fun (p:Sp) k=>p.tell (pZ s k)) p).s=p.s
 |[],_=>rfl
 |_::l,p=>yh s l (p.tell _)
theorem pE (s:Rf):∀ (l:List Int) (p:Sp),(l.foldl (fun (p:Sp) k=>p.tell (pZ s k)) p).out.length=p.out.length+l.length
 |[],_=>rfl
 |x::l,p=>by
  show (l.foldl _ (p.tell (pZ s x))).out.length=_;rw [pE s l (p.tell _)];show (p.out++[_]).length+l.length=p.out.length+(l.length+1);rw [List.length_append,List.length_singleton];omega
theorem yi {s:Rf} {l:List Int} {i:Nat} (h:i<l.length) (p:Sp):(l.take (i+1)).foldl (fun (p:Sp) k=>p.tell (pZ s k)) p=((l.take i).foldl (fun (p:Sp) k=>p.tell (pZ s k)) p).tell (pZ s l[i]):=by
 rw [List.take_succ_eq_append_getElem h,List.foldl_append];rfl
theorem sD {s:Rf} (h:s.term≠eT):jt s=kC ((dE (eh s)).foldl (fun (p:Sp) k=>p.tell (pZ (eh s) k)) (⟨eh s,[]⟩:Sp)):=by
 unfold jt;rw [if_neg h];rfl
theorem zx {s:Rf} (h:RfF s) (hr:s.role≠2):iN { s with term:=s.term+1,vote:=s.id,role:=1,leader:=0,votes:=[s.id],part:=⟨#[]⟩,partOf:=0 }=eh s:=by
 obtain ⟨h1,h2,h3,h4⟩:=h.free hr;unfold eh iN fF;simp only [h1,h2,h3,h4]
theorem x9 (w0:World) (Z:Nat→Prop) (T g:Nat) (p:Sp) (w:World) (h:aZ w0 Z w T g p) (hF:RfF p.s) (hl:p.out.length≤700) :
 Rt prog 138 [.pointer (some ⟨g,0,none⟩)] w (fun v w'=>v=.tuple #[]∧aZ w0 Z w' T g (kC p)):=by
 obtain ⟨s,out⟩:=p;obtain ⟨tag,a,O,oc,L,hs⟩:=h.ex;obtain ⟨E,Ec,V,Vc,X,Xc,M,Mc,Sn,Sc,Q,Qc,LL⟩:=a;have hb:Blk w g T (rfV s (⟨E,Ec,V,Vc,X,Xc,M,Mc,Sn,Sc,Q,Qc,LL⟩:Ra)++[Value.slice O L.length oc]).toArray:=hs.b
 have hll:L.length=out.length:=by
  have h9:=congrArg List.length hs.m.l;rw [List.length_map] at h9;exact h9
 have hF:RfF s:=hF;have hl:out.length≤700:=hl;have hvr:IR w V Vc s.votes:=nh (hs.f.v (by decide)).1;have hvl:=hF.vl;have hnn:=hF.n;refine enter (n:=14) Tryz.func138 rfl rfl rfl (ak ?_);apply bY 10 [(2,eqp _),(3,eqp _),(4,eqp _),(5,eqp _),(6,eqp _),(7,eqp _),(8,eqp _),(9,eqp _),(10,eqp (.slice V s.votes.length Vc)),(11,eqp _)] (by repeat first | exact cB | refine cz ?_ | refine ck ?_) (by kernel_rfl) (by kernel_rfl) ⟨aj _,aj _,aj _,aj _,aj _,aj _,aj _,aj _,aj _,aj _,trivial⟩
 case hop=>
  constructor
  ·rintro-w2 D2;exact au (aK (v:=.pointer _) rfl) rfl
  constructor
  ·rintro-w3 D3;rintro _ rfl;exact au (aw rfl) rfl
  constructor
  ·rintro-w4 D4;rintro _ rfl;exact au (ab aH rfl) rfl
  constructor
  ·rintro-w5 D5;exact au (aK (v:=.pointer _) rfl) rfl
  constructor
  ·rintro-w6 D6;rintro _ rfl;exact au (aw rfl) rfl
  constructor
  ·rintro-w7 D7;rintro _ rfl;exact au (ab aH rfl) rfl
  constructor
  ·rintro-w8 D8;rintro _ rfl;exact au (ab aB rfl) rfl
  constructor
  ·rintro-w9 D9;rintro _ rfl;exact au (ab de rfl) rfl
  constructor
  ·rintro-w10 D10;rintro _ rfl;exact au (ar bo rfl (by exact (show _=some (Value.slice V s.votes.length Vc) from dK (hb.from_ (ah.rfl_.next D10)) 14 rfl))) rfl
  constructor
  ·rintro-w11 D11;rintro _ rfl v11_10 rfl;refine fD s5 ((tS T g s _ _ _ (hb.from_ (ah.rfl_.next D11)) V Vc s.votes (hvr.1.from_ (ah.rfl_.next D11)) (by omega) hnn).mono ?_);rintro v _ ⟨rfl,E11'⟩;exact ⟨E11',rfl⟩
  exact trivial
 case hend=>
  intro w12 D12;rintro _ rfl _ rfl _ rfl _ rfl _ rfl _ rfl _ rfl _ rfl v10 rfl _ rfl;show St ..;refine ai (ag (Bn rfl (fun Q13=>?_) (fun Q13=>?_)))
  ·have h11t:fv s.nodes s.votes=true:=by
    unfold fv;exact decide_eq_true Q13
   refine af (mvp rfl (az rA (zb w0 Z T g ⟨s,out⟩ _ (h.from_ (ah.rfl_.next D12)) hF hl) ?_));rintro v13 w14 ⟨rfl,h13⟩;refine ai (du (eB rfl ?_));unfold kC
   first
    |(rw [if_pos h11t];exact ⟨rfl,h13.from_ (ah.rfl_ (a:=w14))⟩)
    |(rw [if_neg (by show ¬ fv s.nodes s.votes=true;rw [h11f];decide)];exact ⟨rfl,h.from_ (ah.rfl_ (a:=w14))⟩)
  have h11f:fv s.nodes s.votes=false:=by
   unfold fv;exact decide_eq_false (by omega)
  refine aM (du (eB rfl ?_));unfold kC
  first
   |(rw [if_pos h11t];exact ⟨rfl,h13.from_ (ah.rfl_.next D12)⟩)
   |(rw [if_neg (by show ¬ fv s.nodes s.votes=true;rw [h11f];decide)];exact ⟨rfl,h.from_ (ah.rfl_.next D12)⟩)
theorem xZ (w0:World) (Z:Nat→Prop) (T g:Nat) (s:Rf) (w:World) (h:aZ w0 Z w T g ⟨s,[]⟩) (hF:RfF s) (hr:s.role≠2) :
 Rt prog 97 [.pointer (some ⟨g,0,none⟩)] w (fun v w'=>v=.tuple #[]∧aZ w0 Z w' T g (jt s)):=by
 obtain ⟨tag,a,O,oc,L,hs⟩:=h.ex;obtain ⟨E,Ec,V,Vc,X,Xc,M,Mc,Sn,Sc,Q,Qc,LL⟩:=a;have hb:Blk w g T (rfV s (⟨E,Ec,V,Vc,X,Xc,M,Mc,Sn,Sc,Q,Qc,LL⟩:Ra)++[Value.slice O L.length oc]).toArray:=hs.b
 have hll:L.length=0:=by
  have h9:=congrArg List.length hs.m.l;rw [List.length_map] at h9;exact h9
 have hB0:ah w w:=ah.rfl_;have hte:=hF.te;refine enter (n:=100) Tryz.func97 rfl rfl rfl (ak (ak (af (mvp rfl (aa (aw rfl) (aa (ab aH rfl) (aa (ab aB rfl) (aa (ab bL rfl) (aa (ar ao rfl (by exact (show _=some (Value.int .i64 s.term) from dK (hb.from_ ah.rfl_) 3 rfl))) ?_)))))))));refine aa (bt rfl rfl) (ai (ag (Bn rfl (fun Q1=>?_) (fun Q1=>?_))))
 ·have hte8:s.term=eT:=Q1;refine ak (af (mvp rfl (aa (aw rfl) (aa (ab aH rfl) ?_))));have hB16:ah w w:=ah.rfl_;refine az lp (rf T g s _ _ _ (hb.from_ ah.rfl_)) ?_;rintro v16 w2 ⟨rfl,hb16,hC16⟩;refine ai (ag (aC (aE (eB rfl ?_))));unfold jt;rw [if_pos hte8];exact ⟨rfl,((h.set (s':=iN s) hs ((ah.toChg hB16).next hC16) (bm.same hs.f rfl rfl rfl rfl rfl rfl) hb16).2).from_ (ah.rfl_ (a:=w2))⟩
 have hte9:s.term≠eT:=Q1;have hFc:RfF (eh s):=hF.cand hte9;refine aM (ag (ak (af (mvp rfl (aa (aw rfl) (aa (ab aH rfl) (aa (ab aB rfl) (aa (ab bL rfl) (aa (ar ao rfl (by exact (show _=some (Value.int .i64 s.term) from dK (hb.from_ ah.rfl_) 3 rfl))) ?_)))))))));refine aa (bW rfl rfl (by omega)) (aa (aw rfl) (aa (ab aH rfl) (aa (ab aB rfl) ?_)));have hB0:ah w w:=ah.rfl_;refine aa (ab bL rfl) (cK (s':=({ s with term:=s.term+1 }:Rf)) (a':=(⟨E,Ec,V,Vc,X,Xc,M,Mc,Sn,Sc,Q,Qc,LL⟩:Ra)) (v:=.int _ _) bd rfl rfl rfl ((hb.from_ ah.rfl_)) (by exact ⟨by decide,rfl⟩) ?_);intro w3 O2_0 P2_0;have hC1:Chg (fun k=>k=g) w w3:=(ah.toChg hB0).only O2_0 rfl;refine ai (ag (ak (af (mvp rfl (mvp rfl (mvp rfl (mvp rfl (aa (aw rfl) (aa (ab aH rfl) (aa (ab aB rfl) (aa (ab cw rfl) ?_)))))))))));refine aa (ar ao rfl (by exact (show _=some (Value.int .i64 s.id) from dK (P2_0.from_ (ah.rfl_ (a:=w3))) 0 rfl))) ?_;refine aa (aw rfl) (aa (ab aH rfl) (aa (ab aB rfl) ?_));have hM0:ah _ w3:=ah.rfl_;refine aa (ab fw rfl) (cK (s':=({ s with term:=s.term+1,vote:=s.id }:Rf)) (a':=(⟨E,Ec,V,Vc,X,Xc,M,Mc,Sn,Sc,Q,Qc,LL⟩:Ra)) (v:=.int _ _) bd rfl rfl rfl ((P2_0.from_ ah.rfl_)) (by exact ⟨by decide,rfl⟩) ?_);intro w4 O3_0 P3_0;replace hC1:=(hC1.next (ah.toChg hM0)).only O3_0 rfl;refine aa (aw rfl) (aa (ab aH rfl) (aa (ab aB rfl) (aa (ab cZ rfl) (cK (s':=({ s with term:=s.term+1,vote:=s.id,role:=1 }:Rf)) (a':=(⟨E,Ec,V,Vc,X,Xc,M,Mc,Sn,Sc,Q,Qc,LL⟩:Ra)) (v:=.int _ _) bd rfl rfl rfl (P3_0) (by exact ⟨by decide,rfl⟩) ?_))));intro w5 O3_1 P3_1;replace hC1:=hC1.only O3_1 rfl;refine aa (aw rfl) (aa (ab aH rfl) (aa (ab aB rfl) (aa (ab dX rfl) (cK (s':=({ s with term:=s.term+1,vote:=s.id,role:=1,leader:=0 }:Rf)) (a':=(⟨E,Ec,V,Vc,X,Xc,M,Mc,Sn,Sc,Q,Qc,LL⟩:Ra)) (v:=.int _ _) bd rfl rfl rfl (P3_1) (by exact ⟨by decide,rfl⟩) ?_))));intro w6 O3_2 P3_2;replace hC1:=hC1.only O3_2 rfl;obtain ⟨hs3,h3⟩:=h.set (s':=({ s with term:=s.term+1,vote:=s.id,role:=1,leader:=0 }:Rf)) (a':=(⟨E,Ec,V,Vc,X,Xc,M,Mc,Sn,Sc,Q,Qc,LL⟩:Ra)) hs hC1 (bm.same hs.f rfl rfl rfl rfl rfl rfl) P3_2;have hb3:=P3_2;refine ai (ag (ak (af (mvp rfl (mvp rfl (aa (aw rfl) (aa (ab aH rfl) (aa (ab aB rfl) (aa (ab cw rfl) (aa (ar ao rfl (by exact (show _=some (Value.int .i64 s.id) from dK (hb3.from_ (ah.rfl_ (a:=w6))) 0 rfl))) ?_))))))))));have hz55:=((ah.rfl_ (a:=w6))).size;refine fq (v:=.int _ _) cj rfl rfl rfl ?_;intro b56 w7 E56 hb56 hk56;refine aa (aw rfl) (aa (ab aH rfl) (aa (ab aB rfl) (aa (ab de rfl) ?_)));have hB56:ah _ w7:=((ah.rfl_ (a:=w6)).next E56);refine cK (s':=({ s with term:=s.term+1,vote:=s.id,role:=1,leader:=0,votes:=[s.id] }:Rf)) (a':=(⟨E,Ec,some ⟨b56,0,none⟩,1,X,Xc,M,Mc,Sn,Sc,Q,Qc,LL⟩:Ra)) (v:=.slice _ _ _) db rfl rfl rfl ((hb3.from_ ((ah.rfl_ (a:=w6)).next E56))) (by exact ⟨by decide,rfl⟩) ?_;intro w8 O4_0 P4_0;have hC4:Chg (fun k=>k=g) _ w8:=Chg.rfl_.only O4_0 rfl;refine ai (ag (ak (af (mvp rfl (mvp rfl (aa (aw rfl) (aa (ab aH rfl) (aa (ab aB rfl) ?_))))))));have hM0:ah _ w8:=ah.rfl_;refine aa (ab ee rfl) (cK (s':=({ s with term:=s.term+1,vote:=s.id,role:=1,leader:=0,votes:=[s.id],part:=⟨#[]⟩ }:Rf)) (a':=(⟨E,Ec,some ⟨b56,0,none⟩,1,X,Xc,M,Mc,Sn,Sc,Q,Qc,LL⟩:Ra)) (v:=.string _) nA rfl rfl rfl ((P4_0.from_ ah.rfl_)) (by exact ⟨by decide,rfl⟩) ?_);intro w9 O5_0 P5_0;replace hC4:=(hC4.next (ah.toChg hM0)).only O5_0 rfl;refine aa (aw rfl) (aa (ab aH rfl) (aa (ab aB rfl) (aa (ab ed rfl) (cK (s':=({ s with term:=s.term+1,vote:=s.id,role:=1,leader:=0,votes:=[s.id],part:=⟨#[]⟩,partOf:=0 }:Rf)) (a':=(⟨E,Ec,some ⟨b56,0,none⟩,1,X,Xc,M,Mc,Sn,Sc,Q,Qc,LL⟩:Ra)) (v:=.int _ _) bd rfl rfl rfl (P5_0) (by exact ⟨by decide,rfl⟩) ?_))));intro w10 O5_1 P5_1;replace hC4:=hC4.only O5_1 rfl;refine ai (ag (ak (af (mvp rfl (aa (aw rfl) (aa (ab aH rfl) ?_))))));have hM74:ah _ w10:=(ah.rfl_ (a:=w10));refine az lp (rf T g ({ s with term:=s.term+1,vote:=s.id,role:=1,leader:=0,votes:=[s.id],part:=⟨#[]⟩,partOf:=0 }:Rf) (⟨E,Ec,some ⟨b56,0,none⟩,1,X,Xc,M,Mc,Sn,Sc,Q,Qc,LL⟩:Ra) _ _ (P5_1.from_ (ah.rfl_ (a:=w10)))) ?_;rintro v74 w11 ⟨rfl,hb74,hC74⟩;have hf4:=(hs3.f.but (c:=1) (ah.toChg hB56)).votes (l:=[s.id]) rfl (tw (Nat.zero_le _) hk56 (Nat.le_refl _) (by show 1≤maxLen;unfold maxLen;omega) rfl rfl) (fun q hq=>by cases hq;exact dQ (by rw [hb56];exact hz55));obtain ⟨hs7,h7⟩:=h3.put (s':=iN ({ s with term:=s.term+1,vote:=s.id,role:=1,leader:=0,votes:=[s.id],part:=⟨#[]⟩,partOf:=0 }:Rf)) (a':=(⟨E,Ec,some ⟨b56,0,none⟩,1,X,Xc,M,Mc,Sn,Sc,Q,Qc,LL⟩:Ra)) hs3 (ah.toChg hB56) (.inl (by decide)) (bm.same hf4 rfl rfl rfl rfl rfl rfl) ((hC4.next (ah.toChg hM74)).next hC74) hb74;rw [zx hF hr] at hs7 h7;refine ai (ag (ak (af (mvp rfl (aa (aw rfl) (aa (ab aH rfl) (az gx (j9 T g (eh s) _ _ _ (hs7.b.from_ (ah.rfl_ (a:=w11))) (hs7.f.rd.e.from_ (ah.rfl_ (a:=w11))) hFc.lg) ?_)))))));rintro v79 w12 ⟨rfl,E79⟩;refine mvt rfl (aa (aO rfl rfl) (aa (aO rfl rfl) (asi rfl (asi rfl (ai (ag (ak (ak (af (mvp rfl (aa (aw rfl) (aa (ab aH rfl) ?_))))))))))));have hz84:=(((ah.rfl_ (a:=w11)).next E79)).size;refine az pJ (qq T g (eh s) _ _ _ (hs7.b.from_ ((ah.rfl_ (a:=w11)).next E79)) (by have:=hFc.n;omega)) ?_;rintro v85 w13 ⟨⟨A85,c85,rfl,ho85⟩,E85⟩
 have h8:=h7.at_ (Z':=fun k=>Z k∨A85.map (·.block)=some k) (((ah.rfl_ (a:=w11)).next E79).next E85) (fun k hk=>by
  have hz7:=((((ah.rfl_ (a:=w11)).next E79).next E85)).size;rcases hk with e | e
  ·exact ⟨Nat.lt_of_lt_of_le (h7.zw k e) hz7,.inl e⟩
  ·have:=eN ho85 k e;exact ⟨this.2,.inr (by omega)⟩)
 have hB7:ah _ w13:=(((ah.rfl_ (a:=w11)).next E79).next E85);have ho7:=ho85;obtain ⟨Z7,hZ7⟩:∃ Z7,Z7=fun k=>Z k∨A85.map (·.block)=some k:=⟨_,rfl⟩
 rw [←hZ7] at h8;have hzi:∀ k,Z k→Z7 k:=fun k hk=>by rw [hZ7];exact .inl hk
 have hzr:∀ k,A85.map (·.block)=some k→Z7 k:=fun k hk=>by rw [hZ7];exact .inr hk
 have hol:=lZ (eh s);have hnn:=hFc.n;refine aa (bF cp rfl) (mvi rfl (ai (ag (a_ (cY (G:=Nat) [5,88,89,90,91,92,93,94,95,96,97] (fun i=>[(87,.int .i64 (i:Nat))]) (fun i w'=>i≤(dE (eh s)).length∧aZ w13 Z7 w' T g (((dE (eh s)).take i).foldl (fun (p:Sp) k=>p.tell (pZ (eh s) k)) (⟨eh s,[]⟩:Sp))) (fun i=>(dE (eh s)).length-i) (0) ⟨rfl,trivial⟩ ?_ ?_)))))
 ·exact ⟨Nat.zero_le _,h8⟩
 rintro i ρ14 w14 ⟨hi,h15⟩;refine ak (af (aa (cg rfl rfl) (ai (ag (ak (Bn rfl (fun Q15=>?_) (fun Q15=>?_)))))))
 ·have hi9:i<(dE (eh s)).length:=by omega
  obtain ⟨g7,rfl⟩:=ft ho7 (by omega);have ho8:=eJ ho7 h15.fr (fun q hq e=>e (hzr q hq));have hc8:=j5 (l:=(dE (eh s))) ho8 i hi9;obtain ⟨tg9,a9,O9,oc9,L9,hs9⟩:=h15.ex
  have hl9:L9.length≤7:=by
   have h1:=congrArg List.length hs9.m.l;rw [List.length_map,pE,List.length_take] at h1;have h2:((⟨eh s,[]⟩:Sp).out).length=0:=rfl;omega
  refine aM (ag (ak (a_ (ak (af (aa (eA c6 rfl rfl (by omega)) (aa (ar ao rfl (by exact fC (ah.rfl_ (a:=w14)) hc8)) ?_)))))));refine asi rfl (ai (ag (af (mvp rfl (mvi rfl (mvi rfl (mvi rfl (aa (cy (l:=[(0,.const (.int .i64 1)),(4,.tmp 93),(5,.tmp 94)]) (jH _ _)) (az iI (o8 _ Z7 T g (((dE (eh s)).take i).foldl (fun (p:Sp) k=>p.tell (pZ (eh s) k)) (⟨eh s,[]⟩:Sp)) _ (h15.from_ (ah.rfl_ (a:=w14))) tg9 a9 O9 oc9 L9 (hs9.from_ (ah.rfl_ (a:=w14))) (by omega) { zM with k:=1,ix:=bn (eh s),lt:=di (eh s).t (eh s).es } (dE (eh s))[i] ⟨dS,Col.none⟩) ?_)))))))));rintro v96 w16 ⟨rfl,h16⟩;refine ai (bN (ag (af (aa (bW rfl rfl (by omega)) (mvi rfl (ai ?_))))));refine bT (i+1) ⟨(by first | rfl | (refine bM ?_;omega)),trivial⟩ (by (iterate 24 refine bf rfl ?_);exact bB) ⟨?_,?_⟩
  ·exact ⟨by omega,by rw [yi hi9];exact h16.from_ (ah.rfl_ (a:=w16))⟩
  ·omega
 obtain rfl:i=(dE (eh s)).length:=by omega
 rw [List.take_length] at h15;have h9:=h7.back hB7 h15 hzi;refine cq (bg (bg (b_ (ag (af (mvp rfl (az rB (x9 w0 Z T g ((dE (eh s)).foldl (fun (p:Sp) k=>p.tell (pZ (eh s) k)) (⟨eh s,[]⟩:Sp)) _ (h9.from_ (ah.rfl_ (a:=w14))) (by rw [yh];exact hFc) (by rw [pE];show 0+_≤700;have:=hFc.n;omega)) ?_)))))));rintro v99 w17 ⟨rfl,h17⟩;refine ai (du (eB rfl ?_));rw [sD hte9];exact ⟨rfl,h17.from_ (ah.rfl_ (a:=w17))⟩
theorem yG (w0:World) (Z:Nat→Prop) (T g:Nat) (s:Rf) (w:World) (h:aZ w0 Z w T g ⟨s,[]⟩) (hF:RfF s) :
 Rt prog 56 [.pointer (some ⟨g,0,none⟩)] w (fun v w'=>v=.tuple #[]∧aZ w0 Z w' T g (iP s)):=by
 obtain ⟨tag,a,O,oc,L,hs⟩:=h.ex;obtain ⟨E,Ec,V,Vc,X,Xc,M,Mc,Sn,Sc,Q,Qc,LL⟩:=a;have hb:Blk w g T (rfV s (⟨E,Ec,V,Vc,X,Xc,M,Mc,Sn,Sc,Q,Qc,LL⟩:Ra)++[Value.slice O L.length oc]).toArray:=hs.b
 have hll:L.length=0:=by
  have h9:=congrArg List.length hs.m.l;rw [List.length_map] at h9;exact h9
 have hB0:ah w w:=ah.rfl_;have hel:=hF.el;have hrn:=hF.rn;have hti:=hF.ti;have hFe:RfF ({ s with elapsed:=min (s.elapsed+1) 1099511627775 }:Rf):=hF.elapse (by omega);refine enter (n:=64) Tryz.func56 rfl rfl rfl (ak (af (mvp rfl (mvp rfl (aa (aw rfl) (aa (ab aH rfl) (aa (ab aB rfl) (aa (ab dq rfl) (aa (ar ao rfl (by exact (show _=some (Value.int .i64 s.elapsed) from dK (hb.from_ ah.rfl_) 11 rfl))) ?_)))))))));refine aa (bW rfl rfl (by omega)) (aa (gA rfl rfl) (dP (t:=10) (v:=.int _ _) (v':=.int .i64 (min (s.elapsed+1) 1099511627775)) rfl (by exact bM (by omega)) ?_));refine aa (aw rfl) (aa (ab aH rfl) (aa (ab aB rfl) (aa (ab dq rfl) ?_)));have hB0:ah w w:=ah.rfl_;refine cK (s':=({ s with elapsed:=(min (s.elapsed+1) 1099511627775) }:Rf)) (a':=(⟨E,Ec,V,Vc,X,Xc,M,Mc,Sn,Sc,Q,Qc,LL⟩:Ra)) (v:=.int _ _) bd rfl rfl rfl ((hb.from_ ah.rfl_)) (by exact ⟨by decide,rfl⟩) ?_;intro w1 O0_0 P0_0;have hC1:Chg (fun k=>k=g) w w1:=(ah.toChg hB0).only O0_0 rfl;obtain ⟨hs3,h3⟩:=h.set (s':=({ s with elapsed:=(min (s.elapsed+1) 1099511627775) }:Rf)) (a':=(⟨E,Ec,V,Vc,X,Xc,M,Mc,Sn,Sc,Q,Qc,LL⟩:Ra)) hs hC1 (bm.same hs.f rfl rfl rfl rfl rfl rfl) P0_0;have hb3:=P0_0;refine ai (ag (ak (ak (af (mvp rfl (aa (aw rfl) (aa (ab aH rfl) (aa (ab aB rfl) (aa (ab cZ rfl) (aa (ar ao rfl (by exact (show _=some (Value.int .i64 s.role) from dK (hb3.from_ (ah.rfl_ (a:=w1))) 2 rfl))) ?_))))))))));refine aa (dp rfl rfl) (ai (ag (Bk rfl (fun Q2=>?_) (fun Q2=>?_))))
 ·refine ak (ak ?_);apply bY 13 [(22,eqp _),(23,eqp _),(24,eqp _),(25,eqp _),(26,eqp _),(27,eqp _),(28,eqp _),(29,eqp _),(30,eqp _),(31,eqp _),(32,eqp _),(33,eqp _),(34,eqp _)] (by repeat first | exact cB | refine cz ?_ | refine ck ?_) (by kernel_rfl) (by kernel_rfl) ⟨aj _,aj _,aj _,aj _,aj _,aj _,aj _,aj _,aj _,aj _,aj _,aj _,aj _,trivial⟩
  case hop=>
   constructor
   ·rintro-w4 D4;exact au (aK (v:=.pointer _) rfl) rfl
   constructor
   ·rintro-w5 D5;rintro _ rfl;exact au (aw rfl) rfl
   constructor
   ·rintro-w6 D6;rintro _ rfl;exact au (ab aH rfl) rfl
   constructor
   ·rintro-w7 D7;rintro _ rfl;exact au (ab aB rfl) rfl
   constructor
   ·rintro-w8 D8;rintro _ rfl;exact au (ab dq rfl) rfl
   constructor
   ·rintro-w9 D9;rintro _ rfl;exact au (ar ao rfl (by exact (show _=some (Value.int .i64 (min (s.elapsed+1) 1099511627775)) from dK (hb3.from_ ((ah.rfl_ (a:=w1)).next D9)) 11 rfl))) rfl
   constructor
   ·rintro-w10 D10;exact au (aK (v:=.pointer _) rfl) rfl
   constructor
   ·rintro-w11 D11;rintro _ rfl;exact au (aw rfl) rfl
   constructor
   ·rintro-w12 D12;rintro _ rfl;exact au (ab aH rfl) rfl
   constructor
   ·rintro-w13 D13;rintro _ rfl;exact au (ab aB rfl) rfl
   constructor
   ·rintro-w14 D14;rintro _ rfl;exact au (ab fp rfl) rfl
   constructor
   ·rintro-w15 D15;rintro _ rfl;exact au (ar ao rfl (by exact (show _=some (Value.int .i64 s.timeout) from dK (hb3.from_ ((ah.rfl_ (a:=w1)).next D15)) 12 rfl))) rfl
   constructor
   ·rintro-w16 D16;rintro _ rfl _ rfl;exact au (lW rfl rfl) rfl
   exact trivial
  case hend=>
   intro w17 D17;rintro _ rfl _ rfl _ rfl _ rfl _ rfl _ rfl _ rfl _ rfl _ rfl _ rfl _ rfl _ rfl _ rfl;show St ..;refine ai (ag (Bn rfl (fun Q18=>?_) (fun Q18=>?_)))
   ·refine af (mvp rfl (az s4 (xZ w0 Z T g ({ s with elapsed:=min (s.elapsed+1) 1099511627775 }:Rf) _ (h3.from_ ((ah.rfl_ (a:=w1)).next D17)) hFe (show s.role≠2 by omega)) ?_));rintro v36 w19 ⟨rfl,h7⟩;refine ai (ag (aC (aE (eB rfl (⟨rfl,?_⟩)))));show aZ w0 Z _ T g (if s.role=2 then (if 2≤min (s.elapsed+1) 1099511627775 then Sp.all ⟨({ s with elapsed:=0,round:=min (s.round+1) 1099511627775 }:Rf),[]⟩ else ⟨({ s with elapsed:=min (s.elapsed+1) 1099511627775 }:Rf),[]⟩) else if s.timeout≤min (s.elapsed+1) 1099511627775 then jt ({ s with elapsed:=min (s.elapsed+1) 1099511627775 }:Rf) else ⟨({ s with elapsed:=min (s.elapsed+1) 1099511627775 }:Rf),[]⟩)
    first
     |(rw [if_neg (show ¬ s.role=2 by omega),if_pos (by omega)];exact h7.from_ (ah.rfl_ (a:=w19)))
     |(rw [if_neg (show ¬ s.role=2 by omega),if_neg (by omega)];exact h3.from_ (ah.rfl_ (a:=w19)))
     |(rw [if_pos (show s.role=2 by omega),if_pos (by omega)];exact h8.from_ (ah.rfl_ (a:=w19)))
     |(rw [if_pos (show s.role=2 by omega),if_neg (by omega)];exact h3.from_ (ah.rfl_ (a:=w19)))
   refine aM (ag (aC (aE (eB rfl (⟨rfl,?_⟩)))));show aZ w0 Z _ T g (if s.role=2 then (if 2≤min (s.elapsed+1) 1099511627775 then Sp.all ⟨({ s with elapsed:=0,round:=min (s.round+1) 1099511627775 }:Rf),[]⟩ else ⟨({ s with elapsed:=min (s.elapsed+1) 1099511627775 }:Rf),[]⟩) else if s.timeout≤min (s.elapsed+1) 1099511627775 then jt ({ s with elapsed:=min (s.elapsed+1) 1099511627775 }:Rf) else ⟨({ s with elapsed:=min (s.elapsed+1) 1099511627775 }:Rf),[]⟩)
   first
    |(rw [if_neg (show ¬ s.role=2 by omega),if_pos (by omega)];exact h7.from_ ((ah.rfl_ (a:=w1)).next D17))
    |(rw [if_neg (show ¬ s.role=2 by omega),if_neg (by omega)];exact h3.from_ ((ah.rfl_ (a:=w1)).next D17))
    |(rw [if_pos (show s.role=2 by omega),if_pos (by omega)];exact h8.from_ ((ah.rfl_ (a:=w1)).next D17))
    |(rw [if_pos (show s.role=2 by omega),if_neg (by omega)];exact h3.from_ ((ah.rfl_ (a:=w1)).next D17))
 refine aM (ag (ak (af (mvp rfl (aa (aw rfl) (aa (ab aH rfl) (aa (ab aB rfl) (aa (ab dq rfl) (aa (ar ao rfl (by exact (show _=some (Value.int .i64 (min (s.elapsed+1) 1099511627775)) from dK (hb3.from_ (ah.rfl_ (a:=w1))) 11 rfl))) ?_)))))))));refine aa (lW rfl rfl) (ai (ag (Bn rfl (fun Q20=>?_) (fun Q20=>?_))))
 ·refine ak (af (mvp rfl (aa (aw rfl) (aa (ab aH rfl) (aa (ab aB rfl) (aa (ab dq rfl) ?_))))));have hB5:ah _ w1:=(ah.rfl_ (a:=w1));refine cK (s':=({ s with elapsed:=0 }:Rf)) (a':=(⟨E,Ec,V,Vc,X,Xc,M,Mc,Sn,Sc,Q,Qc,LL⟩:Ra)) (v:=.int _ _) bd rfl rfl rfl ((hb3.from_ (ah.rfl_ (a:=w1)))) (by exact ⟨by decide,rfl⟩) ?_;intro w21 O5_0 P5_0;have hC5:Chg (fun k=>k=g) _ w21:=(ah.toChg hB5).only O5_0 rfl;refine ai (ag (ak (af (mvp rfl (mvp rfl (aa (aw rfl) (aa (ab aH rfl) (aa (ab aB rfl) (aa (ab dW rfl) (aa (ar ao rfl (by exact (show _=some (Value.int .i64 s.round) from dK (P5_0.from_ (ah.rfl_ (a:=w21))) 18 rfl))) ?_))))))))));refine aa (bW rfl rfl (by omega)) (aa (gA rfl rfl) (dP (t:=57) (v:=.int _ _) (v':=.int .i64 (min (s.round+1) 1099511627775)) rfl (by exact bM (by omega)) ?_));refine aa (aw rfl) (aa (ab aH rfl) (aa (ab aB rfl) (aa (ab dW rfl) ?_)));have hB6:ah _ w21:=(ah.rfl_ (a:=w21));refine cK (s':=({ s with elapsed:=0,round:=min (s.round+1) 1099511627775 }:Rf)) (a':=(⟨E,Ec,V,Vc,X,Xc,M,Mc,Sn,Sc,Q,Qc,LL⟩:Ra)) (v:=.int _ _) bd rfl rfl rfl ((P5_0.from_ (ah.rfl_ (a:=w21)))) (by exact ⟨by decide,rfl⟩) ?_;intro w22 O6_0 P6_0;obtain ⟨hs6,h6⟩:=h3.set (s':=({ s with elapsed:=0,round:=min (s.round+1) 1099511627775 }:Rf)) (a':=(⟨E,Ec,V,Vc,X,Xc,M,Mc,Sn,Sc,Q,Qc,LL⟩:Ra)) hs3 ((hC5.next (ah.toChg hB6)).only O6_0 rfl) (bm.same hs3.f rfl rfl rfl rfl rfl rfl) P6_0;refine ai (ag (af (mvp rfl (az pN (oX w0 Z T g ⟨({ s with elapsed:=0,round:=min (s.round+1) 1099511627775 }:Rf),[]⟩ _ (h6.from_ (ah.rfl_ (a:=w22))) (hF.beat (by omega) (by omega)) (show s.role=2 by omega) (by show 0≤800;omega)) ?_))));rintro v63 w23 ⟨rfl,h8⟩;refine ai (du (eB rfl (⟨rfl,?_⟩)));show aZ w0 Z _ T g (if s.role=2 then (if 2≤min (s.elapsed+1) 1099511627775 then Sp.all ⟨({ s with elapsed:=0,round:=min (s.round+1) 1099511627775 }:Rf),[]⟩ else ⟨({ s with elapsed:=min (s.elapsed+1) 1099511627775 }:Rf),[]⟩) else if s.timeout≤min (s.elapsed+1) 1099511627775 then jt ({ s with elapsed:=min (s.elapsed+1) 1099511627775 }:Rf) else ⟨({ s with elapsed:=min (s.elapsed+1) 1099511627775 }:Rf),[]⟩)
  first
   |(rw [if_neg (show ¬ s.role=2 by omega),if_pos (by omega)];exact h7.from_ (ah.rfl_ (a:=w23)))
   |(rw [if_neg (show ¬ s.role=2 by omega),if_neg (by omega)];exact h3.from_ (ah.rfl_ (a:=w23)))
   |(rw [if_pos (show s.role=2 by omega),if_pos (by omega)];exact h8.from_ (ah.rfl_ (a:=w23)))
   |(rw [if_pos (show s.role=2 by omega),if_neg (by omega)];exact h3.from_ (ah.rfl_ (a:=w23)))
 refine aM (du (eB rfl (⟨rfl,?_⟩)));show aZ w0 Z _ T g (if s.role=2 then (if 2≤min (s.elapsed+1) 1099511627775 then Sp.all ⟨({ s with elapsed:=0,round:=min (s.round+1) 1099511627775 }:Rf),[]⟩ else ⟨({ s with elapsed:=min (s.elapsed+1) 1099511627775 }:Rf),[]⟩) else if s.timeout≤min (s.elapsed+1) 1099511627775 then jt ({ s with elapsed:=min (s.elapsed+1) 1099511627775 }:Rf) else ⟨({ s with elapsed:=min (s.elapsed+1) 1099511627775 }:Rf),[]⟩)
 first
  |(rw [if_neg (show ¬ s.role=2 by omega),if_pos (by omega)];exact h7.from_ (ah.rfl_ (a:=w1)))
  |(rw [if_neg (show ¬ s.role=2 by omega),if_neg (by omega)];exact h3.from_ (ah.rfl_ (a:=w1)))
  |(rw [if_pos (show s.role=2 by omega),if_pos (by omega)];exact h8.from_ (ah.rfl_ (a:=w1)))
  |(rw [if_pos (show s.role=2 by omega),if_neg (by omega)];exact h3.from_ (ah.rfl_ (a:=w1)))
end Go.Proofs.YtkpooenofjdpmaaGreat
namespace Go.Proofs.YtkpooenofjdpmaaGreat
open Go.Proofs.Tryz (prog)
open Go.RowKit
def wK (ops:Array Oper) (n:Fr) (L:List (Nat×Value)) (o:Oper):Option (Nat×Value):=
 match o.dst with
 |none=>none
 |some d=>match o.guard with
  |some (j,b)=>match jJ ops n L j with
   | .bool b'=>bif b'==b then none else some (d,undef)
   | .tuple ⟨[]⟩=>some (d,undef)
   |_=>none
  |none=>match o.op with
   | .pick c x y=>match ev n L c with
    | .bool true=>match ev n L x with
     | .bool v=>some (d,.bool v)
     |_=>none
    | .bool false=>match ev n L y with
     | .bool v=>some (d,.bool v)
     |_=>none
    |_=>none
   | .move x=>match ev n L x with
    | .bool v=>some (d,.bool v)
    |_=>none
   |_=>none
def wI (ops:Array Oper) (n:Fr):List Oper→List (Nat×Value)→Option (List (Nat×Value))
 |[],L=>some L
 |o::r,L=>match wK ops n L o with
  |some p=>wI ops n r (p::L)
  |none=>none
section
variable {P:Program} {Q:Exit→Act→World→Prop} {n:Fr} {L:List (Nat×Value)} {w:World} {ops:Array Oper} {rest:List Oper}
theorem wJ {o:Oper} {p:Nat×Value} (h:wK ops n L o=some p) (k:St P ops Q rest n (p::L) w):St P ops Q (o::rest) n L w:=by
 obtain ⟨dst,op,ty,pos,after,g⟩:=o;unfold wK at h;cases dst with
 |none=>cases h
 |some d=>
  cases g with
  |some gb=>
   obtain ⟨j,b⟩:=gb;simp only at h;split at h
   ·rename_i b' hw;cases hb:b'==b with
    |true=>rw [hb] at h;cases h
    |false=>rw [hb] at h;cases h;exact an hw hb k
   ·rename_i hw;cases h;exact dv hw k
   ·cases h
  |none=>
   simp only at h;split at h
   ·split at h
    ·rename_i hc;split at h
     ·rename_i v hx;cases h;exact aa (aG hc hx) k
     ·cases h
    ·rename_i hc;split at h
     ·rename_i v hx;cases h;exact aa (av hc hx) k
     ·cases h
    ·cases h
   ·split at h
    ·rename_i v hx;cases h;exact aa (aK hx) k
    ·cases h
   ·cases h
theorem bE:∀ {rest:List Oper} {L L':List (Nat×Value)} (_:wI ops n rest L=some L') (_:St P ops Q [] n L' w),St P ops Q rest n L w:=by
 intro rest
 induction rest with
 |nil=>intro L L' h k;cases h;exact k
 |cons o r ih=>
  intro L L' h k;unfold wI at h;split at h
  ·rename_i p hp;exact wJ hp (ih h k)
  ·cases h
end
end Go.Proofs.YtkpooenofjdpmaaGreat
namespace Go.Proofs.YtkpooenofjdpmaaGreat
open Go.Proofs.Tryz (prog)
open Go.RowKit
open Go.ChangeShapes Go.WideShapes Go.ChangeAt
theorem cF:cD prog 39 4=some 4:=by kernel_rfl
theorem cV:cD prog 39 5=some 5:=by kernel_rfl
theorem dU:cD prog 39 6=some 6:=by kernel_rfl
theorem d_:cD prog 39 7=some 7:=by kernel_rfl
theorem gR:cD prog 39 10=some 10:=by kernel_rfl
theorem kx:aN prog 139=true:=by kernel_rfl
theorem lk:cD prog 39 8=some 8:=by kernel_rfl
theorem ky:cD prog 39 12=some 12:=by kernel_rfl
theorem iW:cD prog 39 11=some 11:=by kernel_rfl
theorem bS:cD prog 39 9=some 9:=by kernel_rfl
def eQ (lo hi:Int) (xs:List Int):Prop:=∀ x∈xs,lo≤x∧x≤hi
instance (lo hi:Int) (xs:List Int):Decidable (eQ lo hi xs):=by unfold eQ;exact inferInstance
theorem bG {lo hi:Int}:eQ lo hi []↔True:=by simp [eQ]
theorem bp {lo hi x:Int} {l:List Int}:eQ lo hi (x::l)↔(lo≤x∧x≤hi)∧eQ lo hi l:=by simp [eQ]
theorem pG {lo hi x:Int} {l:List Int}:eQ lo hi (l++[x])↔eQ lo hi l∧(lo≤x∧x≤hi):=by
 simp only [eQ,List.mem_append,List.mem_singleton];exact ⟨fun h=>⟨fun y hy=>h y (.inl hy),h x (.inr rfl)⟩,fun h y hy=>hy.elim (h.1 y) (fun e=>e ▸ h.2)⟩
theorem zz (d:ByteArray):(d.toList==(⟨#[]⟩:ByteArray).toList)=decide (d.size=0):=by
 obtain ⟨⟨l⟩⟩:=d;rw [ByteArray.toList_eq,ByteArray.toList_eq];cases l with
 |nil=>rfl
 |cons a r=>rfl
theorem bz:(⟨#[]⟩:ByteArray).size=0:=rfl
def ExR (k ix lt cm rd:Int) (ok:Bool) (n:Nat) (a:Int) (d:ByteArray) (dn:Bool):Prop:=
 if k=1 then cm=0∧rd=0∧ok.toNat=0∧n=0∧a=0∧d.size=0∧dn.toNat=0
 else if k=2 then ix=0∧lt=0∧cm=0∧rd=0∧n=0∧a=0∧d.size=0∧dn.toNat=0
 else if k=3 then ok.toNat=0∧a=0∧d.size=0∧dn.toNat=0
 else if k=4 then lt=0∧cm=0∧n=0∧a=0∧d.size=0∧dn.toNat=0
 else if k=5 then cm=0∧ok.toNat=0∧n=0
 else if k=6 then lt=0∧cm=0∧ok.toNat=0∧n=0∧d.size=0∧dn.toNat=0
 else ix=0∧lt=0∧cm=0∧rd=0∧ok.toNat=0∧n=0∧a=0∧d.size=0∧dn.toNat=0
instance (k ix lt cm rd:Int) (ok:Bool) (n:Nat) (a:Int) (d:ByteArray) (dn:Bool):Decidable (ExR k ix lt cm rd ok n a d dn):=by unfold ExR;exact inferInstance
def jF (k f t tm ix lt cm rd a:Int):Prop:=(1≤k∧k≤6)∧(1≤f∧f≤7)∧(1≤t∧t≤7)∧(0≤tm∧tm≤1099511627775)∧(0≤ix∧ix≤1099511627775)∧(0≤lt∧lt≤1099511627775)∧(0≤cm∧cm≤1099511627775)∧(0≤rd∧rd≤1099511627775)∧(0≤a∧a≤1099511627775)
instance (k f t tm ix lt cm rd a:Int):Decidable (jF k f t tm ix lt cm rd a):=by unfold jF;exact inferInstance
def oy (k ix lt:Int) (es:List Ent):Prop:=k=3→es.length≤16∧dm es ix lt=true
instance (k ix lt:Int) (es:List Ent):Decidable (oy k ix lt es):=by unfold oy;exact inferInstance
def pI (k ix a:Int) (d:ByteArray):Prop:=k=5→(1≤ix∧ix≤1099511625728)∧a≤524288∧d.size≤1024
instance (k ix a:Int) (d:ByteArray):Decidable (pI k ix a d):=by unfold pI;exact inferInstance
def OkR (k f t tm ix lt cm rd:Int) (ok:Bool) (es:List Ent) (a:Int) (d:ByteArray) (dn:Bool):Prop:=
 jF k f t tm ix lt cm rd a∧ExR k ix lt cm rd ok es.length a d dn∧oy k ix lt es∧pI k ix a d
instance (k f t tm ix lt cm rd:Int) (ok:Bool) (es:List Ent) (a:Int) (d:ByteArray) (dn:Bool):Decidable (OkR k f t tm ix lt cm rd ok es a d dn):=by unfold OkR;exact inferInstance
theorem A6 {xs:List Int} {k:Nat} (h:k<xs.length):(xs.map iV).toArray[k]? =some (iV xs[k]):=by simp [h]
theorem mi (lo hi:Int) (g m c:Nat) (xs:List Int) (w:World) (hm:m=xs.length) (hb:Blk w g 3 (xs.map iV).toArray) (hl:xs.length≤1000) :
 Rt prog 139 [.int .i64 lo,.int .i64 hi,.slice (some ⟨g,0,none⟩) m c] w (fun v w'=>v=.bool (decide (eQ lo hi xs))∧w=w'):=by
 refine enter (n:=24) Tryz.func139 rfl rfl rfl (ak (af (asb rfl (ai (ag (ak (ak (af (mvs rfl (aa (bF cp rfl) (mvi rfl (ai (ag (a_ (cY (G:=Nat) [6,8,12,13,14,15,16,17,18,19,20,21,22,23] (fun k=>[(11,.int .i64 (k:Nat))]) (fun k w'=>k≤xs.length∧eQ lo hi (xs.take k)∧w=w') (fun k=>xs.length-k) (0) ⟨rfl,trivial⟩ ?_ ?_)))))))))))))))
 ·exact ⟨Nat.zero_le _,bG.2 trivial,rfl⟩
 rintro k ρ1 w1 ⟨hk,ha,rfl⟩;refine ak (af (aa (cg rfl rfl) (ai (ag (ak (Bn rfl (fun Q2=>?_) (fun Q2=>?_)))))))
 ·have hkx:k<xs.length:=by omega
  refine aM (ag (ak (a_ (ak (af (aa (eA c6 rfl rfl (by omega)) (aa (ar ao rfl (by exact hb.rd k (A6 hkx))) ?_)))))));refine asi rfl (ai (ag (ak (af (mvi rfl (mvi rfl (aa (cg rfl rfl) (mvb rfl (AP (t:=18) rfl (fun Q3=>?_) (fun Q3=>?_))))))))))
  ·refine bE rfl (ai (ag (aR rfl (ak (af (asb rfl (ai (ag (aC (bD (aE (aE (bD (aE (bw (v:=.bool _) rfl rfl (⟨congrArg Value.bool ?_,rfl⟩))))))))))))))));rw [eq_comm,decide_eq_false_iff_not];intro h;have:=h _ (List.getElem_mem hkx);omega
  refine ae rfl (mvi rfl (ae rfl (mvi rfl (ae rfl (aa (ch rfl rfl) (aa (av (v:=.bool _) rfl rfl) (ai (ag (Bn rfl (fun Q4=>?_) (fun Q4=>?_))))))))))
  ·refine ak (af (asb rfl (ai (ag (aC (bD (aE (aE (bD (aE (bw (v:=.bool _) rfl rfl (⟨congrArg Value.bool ?_,rfl⟩))))))))))));rw [eq_comm,decide_eq_false_iff_not];intro h;have:=h _ (List.getElem_mem hkx);omega
  refine aM (bN (ag (af (aa (dD (b:=1) rfl rfl (by omega)) (mvi rfl (ai ?_))))));refine bT (k+1) ⟨(by first | rfl | (refine bM ?_;omega)),trivial⟩ (by (iterate 30 refine bf rfl ?_);exact bB) ⟨?_,?_⟩
  ·exact ⟨by omega,by rw [List.take_succ_eq_append_getElem hkx];exact pG.2 ⟨ha,by omega⟩,rfl⟩
  ·omega
 obtain rfl:k=xs.length:=by omega
 rw [List.take_length] at ha;refine cq (bg (bg (b_ (ag (ak (af (asb rfl (ai (ag (aC (bw (v:=.bool _) rfl rfl (⟨congrArg Value.bool (decide_eq_true ha).symm,rfl⟩))))))))))))
theorem zq (k f t tm ix lt cm rd:Int) (ok:Bool) (E:Option Addr) (n c:Nat) (a:Int) (d:ByteArray) (dn:Bool) (w:World) :
 Rt prog 140 [.agg #[.int .i64 k,.int .i64 f,.int .i64 t,.int .i64 tm,.int .i64 ix,.int .i64 lt,.int .i64 cm,.int .i64 rd,.bool ok,.slice E n c,.int .i64 a,.string d,.bool dn]] w (fun v w'=>v=.bool (decide (ix=0∧lt=0∧cm=0∧rd=0∧a=0∧ok.toNat=0∧dn.toNat=0∧d.size=0∧n=0))∧ah w w'):=by
 refine enter (n:=36) Tryz.func140 rfl rfl rfl (ak (af (bZ (v:=.agg _) rfl ?_)));intro b1 w1 E1 hb1 hk1;refine asb rfl (ai (ag (ak (af (aa (ab cF rfl) (aa (ar ao rfl (by exact (hk1.from_ ah.rfl_).rd 4 rfl)) ?_))))));refine aa (ab cV rfl) (aa (ar ao rfl (by exact (hk1.from_ ah.rfl_).rd 5 rfl)) ?_);refine aa (ab dU rfl) (aa (ar ao rfl (by exact (hk1.from_ ah.rfl_).rd 6 rfl)) ?_);refine aa (ab d_ rfl) (aa (ar ao rfl (by exact (hk1.from_ ah.rfl_).rd 7 rfl)) ?_);refine aa (ab gR rfl) (aa (ar ao rfl (by exact (hk1.from_ ah.rfl_).rd 10 rfl)) ?_);refine mo [.tmp 4,.tmp 6,.tmp 8,.tmp 10,.tmp 12] [.int _ _,.int _ _,.int _ _,.int _ _,.int _ _] cj rfl rfl rfl rfl (by simp [Value.cells]) ?_;intro b13 w2 E13 hb13 hk13;refine az kx (mi 0 0 b13 5 5 [ix,lt,cm,rd,a] _ rfl hk13 (by simp)) ?_;rintro v14 w3 ⟨rfl,rfl⟩;refine mvb rfl (AP (t:=15) rfl (fun Q4=>?_) (fun Q4=>?_))
 ·simp only [bp,bG,and_true] at Q4;refine ae rfl (aa (ab lk rfl) (ae rfl (aa (ar gm rfl (by exact (hk1.from_ (ah.rfl_.next E13)).rd 8 rfl)) ?_)));refine ae rfl (aa (cn rfl) (aa (aG (v:=.bool _) rfl rfl) (mvb rfl (AN (t:=20) rfl (fun Q5=>?_) (fun Q5=>?_)))))
  ·have ho:ok.toNat=0:=by cases ok <;> simp_all
   refine ae rfl (aa (ab ky rfl) (ae rfl (aa (ar gm rfl (by exact (hk1.from_ (ah.rfl_.next E13)).rd 12 rfl)) ?_)));refine ae rfl (aa (cn rfl) (aa (aG (v:=.bool _) rfl rfl) (mvb rfl (AN (t:=25) rfl (fun Q6=>?_) (fun Q6=>?_)))))
   ·have hd:dn.toNat=0:=by cases dn <;> simp_all
    refine ae rfl (aa (ab iW rfl) (ae rfl (aa (ar dc rfl (by exact (hk1.from_ (ah.rfl_.next E13)).rd 11 rfl)) ?_)));refine ae rfl (aa (jk (lz rfl rfl) (congrArg Value.bool (zz d))) (aa (aG (v:=.bool _) rfl rfl) (mvb rfl (AP (t:=30) rfl (fun Q7=>?_) (fun Q7=>?_)))))
    ·refine ae rfl (aa (ab bS rfl) (ae rfl (aa (ar bk rfl (by exact (hk1.from_ (ah.rfl_.next E13)).rd 9 rfl)) ?_)));refine ae rfl (aa (bF bC rfl) (ae rfl ?_));refine aa (jk (bt rfl rfl) (congrArg Value.bool (show (((n:Nat):Int)==0)=decide (n=0) by rw [Bool.eq_iff_iff,beq_iff_eq,decide_eq_true_eq];omega))) ?_;refine aa (aG (v:=.bool _) rfl rfl) (asb rfl (ai (ag (aC (bw (v:=.bool _) rfl rfl (⟨congrArg Value.bool ?_,((ah.rfl_.next E1).next E13)⟩))))))
     first
      |(rw [eq_comm,decide_eq_false_iff_not];omega)
      |(rw [decide_eq_decide];omega)
      |(rw [eq_comm,decide_eq_true_eq];omega)
    refine an rfl rfl (an rfl rfl (an rfl rfl (an rfl rfl (aa (av (v:=.bool _) rfl rfl) (asb rfl (ai (ag (aC (bw (v:=.bool _) rfl rfl (⟨congrArg Value.bool ?_,((ah.rfl_.next E1).next E13)⟩))))))))))
    first
     |(rw [eq_comm,decide_eq_false_iff_not];omega)
     |(rw [decide_eq_decide];omega)
     |(rw [eq_comm,decide_eq_true_eq];omega)
   have hd:dn.toNat=1:=by cases dn <;> simp_all
   refine an rfl rfl (an rfl rfl (an rfl rfl (aa (av (v:=.bool _) rfl rfl) (mvb rfl (an rfl rfl (an rfl rfl (an rfl rfl (an rfl rfl ?_))))))));refine aa (av (v:=.bool _) rfl rfl) (asb rfl (ai (ag (aC (bw (v:=.bool _) rfl rfl (⟨congrArg Value.bool ?_,((ah.rfl_.next E1).next E13)⟩))))))
   first
    |(rw [eq_comm,decide_eq_false_iff_not];omega)
    |(rw [decide_eq_decide];omega)
    |(rw [eq_comm,decide_eq_true_eq];omega)
  have ho:ok.toNat=1:=by cases ok <;> simp_all
  refine an rfl rfl (an rfl rfl (an rfl rfl (aa (av (v:=.bool _) rfl rfl) (mvb rfl (an rfl rfl (an rfl rfl (an rfl rfl (aa (av (v:=.bool _) rfl rfl) ?_))))))));refine mvb rfl (an rfl rfl (an rfl rfl (an rfl rfl (an rfl rfl (aa (av (v:=.bool _) rfl rfl) (asb rfl (ai (ag (aC (bw (v:=.bool _) rfl rfl ?_))))))))));refine ⟨congrArg Value.bool ?_,((ah.rfl_.next E1).next E13)⟩
  first
   |(rw [eq_comm,decide_eq_false_iff_not];omega)
   |(rw [decide_eq_decide];omega)
   |(rw [eq_comm,decide_eq_true_eq];omega)
 simp only [bp,bG,and_true] at Q4;refine an rfl rfl (an rfl rfl (an rfl rfl (aa (av (v:=.bool _) rfl rfl) (mvb rfl (an rfl rfl (an rfl rfl (an rfl rfl (aa (av (v:=.bool _) rfl rfl) ?_))))))));refine mvb rfl (an rfl rfl (an rfl rfl (an rfl rfl (aa (av (v:=.bool _) rfl rfl) (mvb rfl (an rfl rfl (an rfl rfl (an rfl rfl ?_))))))));refine an rfl rfl (aa (av (v:=.bool _) rfl rfl) (asb rfl (ai (ag (aC (bw (v:=.bool _) rfl rfl (⟨congrArg Value.bool ?_,((ah.rfl_.next E1).next E13)⟩)))))))
 first
  |(rw [eq_comm,decide_eq_false_iff_not];omega)
  |(rw [decide_eq_decide];omega)
  |(rw [eq_comm,decide_eq_true_eq];omega)
theorem AZ {es:List Ent} (hl:es.length≤512) (h:dm es 0 0=true):bR 0 0 es=true:=by
 simp only [bR,Bool.and_eq_true,decide_eq_true_eq];exact ⟨⟨⟨by decide,by decide⟩,hl⟩,h⟩
theorem xH {p q:Int} {es:List Ent} (hp:0≤p∧p≤1099511627775) (hq:0≤q∧q≤1099511627775) (hl:es.length≤16):(dL 0 0 p q [] es).1=0↔dm es p q=true:=by
 by_cases h:dm es p q=true
 ·refine ⟨fun _=>h,fun _=>?_⟩;unfold dL;rw [if_pos ⟨AZ (by simp) rfl,eu (by omega),eu hq,h⟩];split
  ·rfl
  ·rename_i hn;have hP:mgP 0 p=p:=by unfold mgP;rw [if_neg (by omega)]
   have hQ:mgQ 0 0 p q=q:=by unfold mgQ;rw [if_neg (by omega)]
   have hC:er 0 p es=es:=by unfold er;rw [if_neg (by omega)]
   rw [hP,hQ] at hn
   have h0:p=0:=by
    simp only [List.length_nil] at hn;omega
   subst h0;have hT:dw 0 0 [] 0=0:=rfl;rw [hT] at hn;have h1:q=0:=by omega
   subst h1;rw [hC]
   have hS:dz 0 0 [] es=es:=by
    cases es with
    |nil=>rfl
    |cons e r=>
     refine gj fun h0=>?_
     have:=(et h).1;simp only [List.length_nil] at h0;omega
   have hI:nP 0 [] es=0:=by
    cases es with
    |nil=>rfl
    |cons e r=>
     have:=(et h).1;show (e.i-1-0).toNat=0;omega
   rw [hS];unfold mg2;rw [hI,if_neg (by omega),if_pos (by simpa using AZ (by omega) h)]
 ·refine ⟨fun h0=>?_,fun h0=>absurd h0 h⟩;unfold dL at h0;rw [if_neg (fun a=>h a.2.2.2)] at h0;cases h0
theorem iK:jG prog 54=some true:=by kernel_rfl
theorem fG:ef prog 54=some 4:=by kernel_rfl
theorem jD:cD prog 54 0=some 0:=by kernel_rfl
theorem jC:cD prog 54 1=some 1:=by kernel_rfl
theorem jB:cD prog 54 2=some 2:=by kernel_rfl
theorem fB:cD prog 54 3=some 3:=by kernel_rfl
theorem ln:aN prog 92=true:=by kernel_rfl
theorem fy:(ib prog 27).isSome=true:=by kernel_rfl
theorem gD:ib prog 27=some (54,4):=by kernel_rfl
theorem yp:aN prog 87=true:=by kernel_rfl
theorem yo:aN prog 91=true:=by kernel_rfl
theorem ea:jG prog 27=some false:=by kernel_rfl
theorem yq:aN prog 42=true:=by kernel_rfl
theorem Bf (A B:Option Addr) (ca cb:Nat) (a b:List Int) (w:World) (ha:ey iV w A a) (hb:ey iV w B b) (hla:a.length*8≤140737488351232) :
 Rt prog 92 [.slice A a.length ca,.slice B b.length cb] w (fun v w'=>v=.bool (decide (a=b))∧ah w w'):=by
 refine enter (n:=26) Tryz.func92 rfl rfl rfl (ak (af (asb rfl (ai (ag (ak (ak (af (mvs rfl (aa (bF cp rfl) (mvs rfl (aa (bF cp rfl) (aa (dp rfl rfl) ?_)))))))))))));refine ai (ag (aQ rfl (fun Q1=>?_) (fun Q1=>?_)))
 ·replace Q1:=dF Q1;replace Q1:=en Q1;refine ak (af (asb rfl (ai (ag (aC (aE (bw (v:=.bool _) rfl rfl ?_)))))));exact ⟨by rw [decide_eq_false];rintro rfl;omega,ah.rfl_⟩
 replace Q1:=dG Q1;replace Q1:=ek Q1;refine aM (ag (ak (ak (af (asi rfl (ai (ag (a_ (cY (G:=Nat) [4,11,12,13,14,15,16,17,18,19,20,21,22,23,24,25] (fun k=>[(5,.int .i64 (k:Nat))]) (fun k w'=>k≤a.length∧a.take k=b.take k∧ah w w') (fun k=>a.length-k) (0) ⟨rfl,trivial⟩ ?_ ?_)))))))))
 ·exact ⟨Nat.zero_le _,rfl,ah.rfl_⟩
 rintro k ρ2 w2 ⟨hk,ht,hB⟩;refine ak (ak (af (mvi rfl (mvs rfl (aa (bF cp rfl) (aa (cg rfl rfl) (ai (ag (Bn rfl (fun Q3=>?_) (fun Q3=>?_))))))))))
 ·obtain ⟨ba,oa,rfl,ca⟩:=ha (by omega);obtain ⟨bb,ob,rfl,cb⟩:=hb (by omega);refine aM (ag (ak (a_ (ak ?_))));apply k7 9 [(17,eqp _),(18,eqp _),(19,eqp _),(20,eqp _),(21,eqp _),(22,eqp _),(23,eqp _),(24,eqp _),(25,eqp _)] (by kernel_rfl) (by kernel_rfl) ⟨aj _,aj _,aj _,aj _,aj _,aj _,aj _,aj _,aj _,trivial⟩
  case hop=>
   constructor
   ·intro w5 D5;exact au (aK (v:=.slice _ _ _) rfl) rfl
   constructor
   ·intro w6 D6;exact au (aK (v:=.int _ _) rfl) rfl
   constructor
   ·intro w7 D7;rintro _ rfl _ rfl;exact au (dd c6 rfl rfl (by omega)) rfl
   constructor
   ·intro w8 D8;rintro _ rfl;exact au (ar ao rfl (by first | (exact fC (hB.next D8) (ca k (by omega))) | (exact fC (hB.next D8) (cb k (by omega))))) rfl
   constructor
   ·intro w9 D9;exact au (aK (v:=.slice _ _ _) rfl) rfl
   constructor
   ·intro w10 D10;exact au (aK (v:=.int _ _) rfl) rfl
   constructor
   ·intro w11 D11;rintro _ rfl _ rfl;exact au (dd c6 rfl rfl (by omega)) rfl
   constructor
   ·intro w12 D12;rintro _ rfl;exact au (ar ao rfl (by first | (exact fC (hB.next D12) (ca k (by omega))) | (exact fC (hB.next D12) (cb k (by omega))))) rfl
   constructor
   ·intro w13 D13;rintro _ rfl _ rfl;exact au (dp rfl rfl) rfl
   exact trivial
  case hend=>
   intro w14 D14;rintro _ rfl _ rfl _ rfl _ rfl _ rfl _ rfl _ rfl _ rfl _ rfl;show St ..;refine ai (ag (aQ rfl (fun Q15=>?_) (fun Q15=>?_)))
   ·replace Q15:=dF Q15;replace Q15:=en Q15;refine ak (af (asb rfl (ai (ag (aC (bD (aE (aE (bD (aE (bw (v:=.bool _) rfl rfl ?_)))))))))));exact ⟨by rw [decide_eq_false];rintro rfl;exact absurd rfl (by assumption),(hB.next D14)⟩
   replace Q15:=dG Q15;replace Q15:=ek Q15;refine aM (bN (ag (af (mvi rfl (aa (bW rfl rfl (by omega)) (asi rfl (ai ?_)))))));refine bT (k+1) ⟨(by first | rfl | (refine bM ?_;omega)),trivial⟩ (by (iterate 33 refine bf rfl ?_);exact bB) ⟨?_,?_⟩
   ·exact ⟨by omega,uC (by omega) (by omega) ht (by omega),(hB.next D14)⟩
   ·omega
 refine cq (bg (bg (b_ (ag (ak (af (asb rfl (ai (ag (aC (bw (v:=.bool _) rfl rfl (⟨by rw [decide_eq_true (zP (by omega) (by omega) ht)],hB⟩))))))))))))
theorem pt (A B:Option Addr) (ca cb:Nat) (l:List Int) (w:World) (ha:ey iV w A l) (hb:ey iV w B l) (hl:l.length≤1000000):Rt prog 92 [.slice A l.length ca,.slice B l.length cb] w fun v w'=>v=.bool true∧ah w w':=
 (Bf A B ca cb l l w ha hb (by omega)).mono fun v w' h=>⟨by rw [h.1,decide_eq_true rfl],h.2⟩
theorem AA (B T:Int) (A A':Option Addr) (n n' c c':Nat) (xs:List Ent) (w:World) (h1:bX w (.slice A n c) xs) (h2:bX w (.slice A' n' c') xs) (hl:xs.length≤1000000):Rt prog 91 [.agg #[.int .i64 B,.int .i64 T,.slice A n c],.agg #[.int .i64 B,.int .i64 T,.slice A' n' c']] w fun v w'=>v=.bool true∧ah w w':=Rt.of (tQ B T _ _ xs w h1 h2 (by omega))
theorem vM (q:Rd) (A B:Option Addr) (ca cb:Nat) (w:World) (ha:ey iV w A q.acks) (hb:ey iV w B q.acks) (hl:q.acks.length≤1000000) :
 Rt prog 87 [.agg (rdV (q,A,ca)).toArray,.agg (rdV (q,B,cb)).toArray] w (fun v w'=>v=.bool true∧ah w w'):=by
 refine enter (n:=31) Tryz.func87 rfl rfl rfl (ak (af (bZ (v:=.agg _) rfl ?_)));intro b2 w1 E2 hb2 hk2;refine bZ (v:=.agg _) rfl ?_;intro b3 w2 E3 hb3 hk3;replace hk2:=hk2.from_ E3;refine asb rfl (ai (ag (ak (af (aa (ab jD rfl) (aa (ar ao rfl (by exact (show _=some (Value.int .i64 q.id) from (hk2.from_ ah.rfl_).rd 0 rfl))) ?_))))));refine aa (ab jD rfl) (aa (ar ao rfl (by exact (show _=some (Value.int .i64 q.id) from (hk3.from_ ah.rfl_).rd 0 rfl))) ?_);refine aa (dh (bt rfl rfl) (beq_self_eq_true _)) (mvb rfl (ae rfl (aa (ab jC rfl) (ae rfl (aa (ar ao rfl (by exact (show _=some (Value.int .i64 q.ix) from (hk2.from_ ah.rfl_).rd 1 rfl))) ?_)))));refine ae rfl (aa (ab jC rfl) (ae rfl (aa (ar ao rfl (by exact (show _=some (Value.int .i64 q.ix) from (hk3.from_ ah.rfl_).rd 1 rfl))) ?_)));refine ae rfl (aa (dh (bt rfl rfl) (beq_self_eq_true _)) (aa (aG (v:=.bool _) rfl rfl) (mvb rfl (ae rfl (aa (ab jB rfl) (ae rfl (aa (ar ao rfl (by exact (show _=some (Value.int .i64 q.rn) from (hk2.from_ ah.rfl_).rd 2 rfl))) ?_)))))));refine ae rfl (aa (ab jB rfl) (ae rfl (aa (ar ao rfl (by exact (show _=some (Value.int .i64 q.rn) from (hk3.from_ ah.rfl_).rd 2 rfl))) ?_)));refine ae rfl (aa (dh (bt rfl rfl) (beq_self_eq_true _)) (aa (aG (v:=.bool _) rfl rfl) (mvb rfl (ae rfl (aa (ab fB rfl) (ae rfl (aa (ar bo rfl (by exact (show _=some (Value.slice A q.acks.length ca) from (hk2.from_ ah.rfl_).rd 3 rfl))) ?_)))))));refine ae rfl (aa (ab fB rfl) (ae rfl (aa (ar bo rfl (by exact (show _=some (Value.slice B q.acks.length cb) from (hk3.from_ ah.rfl_).rd 3 rfl))) ?_)));refine ae rfl (az ln (pt A B ca cb q.acks _ (ha.from_ ((ah.rfl_.next E2).next E3)) (hb.from_ ((ah.rfl_.next E2).next E3)) hl) ?_);rintro v29 w3 ⟨rfl,E29⟩;refine aa (aG (v:=.bool _) rfl rfl) (asb rfl (ai (ag (aC (bw (v:=.bool _) rfl rfl (⟨rfl,(((ah.rfl_.next E2).next E3).next E29)⟩))))))
theorem tP (x y:Rd×Option Addr×Nat) (w:World) (h:x.1=y.1) (ha:ey iV w x.2.1 x.1.acks) (hb:ey iV w y.2.1 y.1.acks) (hl:x.1.acks.length≤1000000):Rt prog 87 [.agg (rdV x).toArray,.agg (rdV y).toArray] w fun v w'=>v=.bool true∧ah w w':=by
 obtain ⟨q,A,ca⟩:=x;obtain ⟨q2,B,cb⟩:=y;obtain rfl:q=q2:=h;exact vM q A B ca cb w ha hb hl
theorem tO (A B:Option Addr) (ca cb n:Nat) (X Y:List (Rd×Option Addr×Nat)) (w:World) (hr:iE 4 rdV w A X) (hr2:iE 4 rdV w B Y) (hX:X.length=n) (hY:Y.length=n) (hp:X.map (fun q=>q.1)=Y.map (fun q=>q.1)) (hE:∀ x∈X,IR w x.2.1 x.2.2 x.1.acks) (hE2:∀ x∈Y,IR w x.2.1 x.2.2 x.1.acks) (hle:∀ x∈X,x.1.acks.length≤1000000) (hn:n≤1000000) :
 Rt prog 42 [.slice A n ca,.slice B n cb] w (fun v w'=>v=.bool true∧ah w w'):=by
 refine enter (n:=27) Tryz.func42 rfl rfl rfl (ak (af (asb rfl (ai (ag (ak (ak (af (mvs rfl (aa (bF fy rfl) (mvs rfl (aa (bF fy rfl) (aa (c8 (dp rfl rfl) (bne_self_eq_false _)) ?_)))))))))))));refine ai (ag (bA rfl (aM (ag (ak (ak (af (asi rfl (ai (ag (a_ (cY (G:=Nat) [4,11,12,13,14,15,16,17,18,19,20,21,22,23,24,25,26] (fun k=>[(5,.int .i64 (k:Nat))]) (fun k w'=>k≤n∧ah w w') (fun k=>n-k) (0) ⟨rfl,trivial⟩ ?_ ?_))))))))))))
 ·exact ⟨Nat.zero_le _,ah.rfl_⟩
 rintro k ρ1 w1 ⟨hk,hB⟩;refine ak (ak (af (mvi rfl (mvs rfl (aa (bF fy rfl) (aa (cg rfl rfl) (ai (ag (Bn rfl (fun Q2=>?_) (fun Q2=>?_))))))))))
 ·have hkX:k<X.length:=by omega
  have hkY:k<Y.length:=by omega
  obtain ⟨ba,oa,rfl,hca⟩:=hr (by omega);obtain ⟨bb,ob,rfl,hcb⟩:=hr2 (by omega);have hxk:=hE _ (List.getElem_mem hkX);have hyk:=hE2 _ (List.getElem_mem hkY);have hlk:=hle _ (List.getElem_mem hkX)
  have hpk:X[k].1=Y[k].1:=by
   have h9:(X.map (fun q=>q.1))[k]? =(Y.map (fun q=>q.1))[k]? :=by rw [hp]
   rw [List.getElem?_map,List.getElem?_map,List.getElem?_eq_getElem hkX,List.getElem?_eq_getElem hkY] at h9;exact Option.some.inj h9
  refine aM (ag (ak (a_ (ak ?_))));apply bY 10 [(17,eqp _),(18,eqp _),(19,eqp _),(20,eqp (.agg (rdV X[k]).toArray)),(21,eqp _),(22,eqp _),(23,eqp _),(24,eqp (.agg (rdV Y[k]).toArray)),(25,eqp _),(26,eqp _)] (by repeat first | exact cB | refine cz ?_ | refine ck ?_) (by kernel_rfl) (by kernel_rfl) ⟨aj _,aj _,aj _,aj _,aj _,aj _,aj _,aj _,aj _,aj _,trivial⟩
  case hop=>
   constructor
   ·rintro-w4 D4;exact au (aK (v:=.slice _ _ _) rfl) rfl
   constructor
   ·rintro-w5 D5;exact au (aK (v:=.int _ _) rfl) rfl
   constructor
   ·rintro-w6 D6;rintro _ rfl _ rfl;exact au (bq gD rfl rfl (by omega)) rfl
   constructor
   ·rintro-w7 D7;rintro _ rfl;exact au (aD (cs:=rdV X[k]) iK fG rfl (dT (hB.next D7) (hca k hkX))) rfl
   constructor
   ·rintro-w8 D8;exact au (aK (v:=.slice _ _ _) rfl) rfl
   constructor
   ·rintro-w9 D9;exact au (aK (v:=.int _ _) rfl) rfl
   constructor
   ·rintro-w10 D10;rintro _ rfl _ rfl;exact au (bq gD rfl rfl (by omega)) rfl
   constructor
   ·rintro-w11 D11;rintro _ rfl;exact au (aD (cs:=rdV Y[k]) iK fG rfl (dT (hB.next D11) (hcb k hkY))) rfl
   constructor
   ·rintro-w12 D12;rintro v12_20 rfl v12_24 rfl;refine fD yp ((tP X[k] Y[k] _ hpk (hxk.1.from_ (hB.next D12)) (hyk.1.from_ (hB.next D12)) hlk).mono ?_);rintro v _ ⟨rfl,E12'⟩;exact ⟨E12',rfl⟩
   constructor
   ·rintro-w13 D13;rintro _ rfl;exact au (cn rfl) rfl
   exact trivial
  case hend=>
   intro w14 D14;rintro _ rfl _ rfl _ rfl v20 rfl _ rfl _ rfl _ rfl v24 rfl _ rfl _ rfl;show St ..;refine ai (ag (Bl rfl (fun Q15=>?_) (fun Q15=>?_)))
   ·exfalso;contradiction
   refine aM (bN (ag (af (mvi rfl (aa (dD (b:=1) rfl rfl (by omega)) (asi rfl (ai ?_)))))));refine bT (k+1) ⟨(by first | rfl | (refine bM ?_;omega)),trivial⟩ (by (iterate 35 refine bf rfl ?_);exact bB) ⟨?_,?_⟩
   ·exact ⟨by omega,(hB.next D14)⟩
   ·omega
 refine cq (bg (bg (b_ (ag (ak (af (asb rfl (ai (ag (aC (bw (v:=.bool _) rfl rfl (⟨rfl,hB⟩))))))))))))
theorem uK {s:Rf} {a:Ra} {w:World} {b T:Nat} (hb:Blk w b T (rfV s a).toArray):w.rangeAt b 6 [.int .i64 s.b,.int .i64 s.t,.slice a.E s.es.length a.Ec]:=hb.range 6 _ (fun j v hj=>by
 match j,hj with
 |0,hj=>exact hj
 |1,hj=>exact hj
 |2,hj=>exact hj
 |j+3,hj=>simp at hj)
theorem gu (s:Rf) (a b:Ra) (w:World) (ha:fo w s a) (hb:fo w s b) (hl:s.es.length≤1000000∧s.votes.length≤1000000∧s.next.length≤1000000∧s.mtch.length≤1000000∧s.sent.length≤1000000∧s.reads.length≤1000000∧∀ q∈s.reads,q.acks.length≤1000000) :
 Rt prog 49 [.agg (rfV s a).toArray,.agg (rfV s b).toArray] w (fun v w'=>v=.bool true∧ah w w'):=by
 obtain ⟨hl0,hl1,hl2,hl3,hl4,hl5,hl6⟩:=hl;have hla:a.L.length=s.reads.length:=by rw [←ha.r,List.length_map]
 have hlb:a.L.length=b.L.length:=by rw [hla,←hb.r,List.length_map]
 refine enter (n:=143) Tryz.func49 rfl rfl rfl (ak (af (bZ (v:=.agg _) rfl ?_)));intro b2 w1 E2 hb2 hk2;refine bZ (v:=.agg _) rfl ?_;intro b3 w2 E3 hb3 hk3;replace hk2:=hk2.from_ E3;refine asb rfl (ai (ag (ak (af (aa (ab cw rfl) (aa (ar ao rfl (by exact (show _=some (Value.int .i64 s.id) from (hk2.from_ ah.rfl_).rd 0 rfl))) ?_))))));refine aa (ab cw rfl) (aa (ar ao rfl (by exact (show _=some (Value.int .i64 s.id) from (hk3.from_ ah.rfl_).rd 0 rfl))) ?_);refine aa (dh (bt rfl rfl) (beq_self_eq_true _)) (mvb rfl (ae rfl (aa (ab cf rfl) (ae rfl (aa (ar ao rfl (by exact (show _=some (Value.int .i64 s.nodes) from (hk2.from_ ah.rfl_).rd 1 rfl))) ?_)))));refine ae rfl (aa (ab cf rfl) (ae rfl (aa (ar ao rfl (by exact (show _=some (Value.int .i64 s.nodes) from (hk3.from_ ah.rfl_).rd 1 rfl))) ?_)));refine ae rfl (aa (dh (bt rfl rfl) (beq_self_eq_true _)) (aa (aG (v:=.bool _) rfl rfl) (mvb rfl (ae rfl (aa (ab cZ rfl) (ae rfl (aa (ar ao rfl (by exact (show _=some (Value.int .i64 s.role) from (hk2.from_ ah.rfl_).rd 2 rfl))) ?_)))))));refine ae rfl (aa (ab cZ rfl) (ae rfl (aa (ar ao rfl (by exact (show _=some (Value.int .i64 s.role) from (hk3.from_ ah.rfl_).rd 2 rfl))) ?_)));refine ae rfl (aa (dh (bt rfl rfl) (beq_self_eq_true _)) (aa (aG (v:=.bool _) rfl rfl) (mvb rfl (ae rfl (aa (ab bL rfl) (ae rfl (aa (ar ao rfl (by exact (show _=some (Value.int .i64 s.term) from (hk2.from_ ah.rfl_).rd 3 rfl))) ?_)))))));refine ae rfl (aa (ab bL rfl) (ae rfl (aa (ar ao rfl (by exact (show _=some (Value.int .i64 s.term) from (hk3.from_ ah.rfl_).rd 3 rfl))) ?_)));refine ae rfl (aa (dh (bt rfl rfl) (beq_self_eq_true _)) (aa (aG (v:=.bool _) rfl rfl) (mvb rfl (ae rfl (aa (ab fw rfl) (ae rfl (aa (ar ao rfl (by exact (show _=some (Value.int .i64 s.vote) from (hk2.from_ ah.rfl_).rd 4 rfl))) ?_)))))));refine ae rfl (aa (ab fw rfl) (ae rfl (aa (ar ao rfl (by exact (show _=some (Value.int .i64 s.vote) from (hk3.from_ ah.rfl_).rd 4 rfl))) ?_)));refine ae rfl (aa (dh (bt rfl rfl) (beq_self_eq_true _)) (aa (aG (v:=.bool _) rfl rfl) (mvb rfl (ae rfl (aa (ab dX rfl) (ae rfl (aa (ar ao rfl (by exact (show _=some (Value.int .i64 s.leader) from (hk2.from_ ah.rfl_).rd 5 rfl))) ?_)))))));refine ae rfl (aa (ab dX rfl) (ae rfl (aa (ar ao rfl (by exact (show _=some (Value.int .i64 s.leader) from (hk3.from_ ah.rfl_).rd 5 rfl))) ?_)));refine ae rfl (aa (dh (bt rfl rfl) (beq_self_eq_true _)) (aa (aG (v:=.bool _) rfl rfl) (mvb rfl (ae rfl (aa (ab bj rfl) (ae rfl (aa (aD (cs:=[.int .i64 s.b,.int .i64 s.t,.slice a.E s.es.length a.Ec]) aY aL rfl (uK (hk2.from_ ah.rfl_))) (ae rfl ?_))))))));refine aa (ab bj rfl) (ae rfl (aa (aD (cs:=[.int .i64 s.b,.int .i64 s.t,.slice b.E s.es.length b.Ec]) aY aL rfl (uK (hk3.from_ ah.rfl_))) (ae rfl (az yo (AA s.b s.t a.E b.E s.es.length s.es.length a.Ec b.Ec s.es _ (ha.e.from_ ((ah.rfl_.next E2).next E3)) (hb.e.from_ ((ah.rfl_.next E2).next E3)) hl0) ?_))));rintro v50 w3 ⟨rfl,E50⟩;refine aa (aG (v:=.bool _) rfl rfl) (mvb rfl (ae rfl (aa (ab dY rfl) (ae rfl (aa (ar dc rfl (by exact (show _=some (Value.string s.snap) from (hk2.from_ (ah.rfl_.next E50)).rd 9 rfl))) ?_)))));refine ae rfl (aa (ab dY rfl) (ae rfl (aa (ar dc rfl (by exact (show _=some (Value.string s.snap) from (hk3.from_ (ah.rfl_.next E50)).rd 9 rfl))) ?_)));refine ae rfl (aa (dh (lz rfl rfl) (beq_self_eq_true _)) (aa (aG (v:=.bool _) rfl rfl) (mvb rfl (ae rfl (aa (ab cQ rfl) (ae rfl (aa (ar ao rfl (by exact (show _=some (Value.int .i64 s.commit) from (hk2.from_ (ah.rfl_.next E50)).rd 10 rfl))) ?_)))))));refine ae rfl (aa (ab cQ rfl) (ae rfl (aa (ar ao rfl (by exact (show _=some (Value.int .i64 s.commit) from (hk3.from_ (ah.rfl_.next E50)).rd 10 rfl))) ?_)));refine ae rfl (aa (dh (bt rfl rfl) (beq_self_eq_true _)) (aa (aG (v:=.bool _) rfl rfl) (mvb rfl (ae rfl (aa (ab dq rfl) (ae rfl (aa (ar ao rfl (by exact (show _=some (Value.int .i64 s.elapsed) from (hk2.from_ (ah.rfl_.next E50)).rd 11 rfl))) ?_)))))));refine ae rfl (aa (ab dq rfl) (ae rfl (aa (ar ao rfl (by exact (show _=some (Value.int .i64 s.elapsed) from (hk3.from_ (ah.rfl_.next E50)).rd 11 rfl))) ?_)));refine ae rfl (aa (dh (bt rfl rfl) (beq_self_eq_true _)) (aa (aG (v:=.bool _) rfl rfl) (mvb rfl (ae rfl (aa (ab fp rfl) (ae rfl (aa (ar ao rfl (by exact (show _=some (Value.int .i64 s.timeout) from (hk2.from_ (ah.rfl_.next E50)).rd 12 rfl))) ?_)))))));refine ae rfl (aa (ab fp rfl) (ae rfl (aa (ar ao rfl (by exact (show _=some (Value.int .i64 s.timeout) from (hk3.from_ (ah.rfl_.next E50)).rd 12 rfl))) ?_)));refine ae rfl (aa (dh (bt rfl rfl) (beq_self_eq_true _)) (aa (aG (v:=.bool _) rfl rfl) (mvb rfl (ae rfl (aa (ab gU rfl) (ae rfl (aa (ar ll rfl (by exact (show _=some (Value.int .u64 s.seed) from (hk2.from_ (ah.rfl_.next E50)).rd 13 rfl))) ?_)))))));refine ae rfl (aa (ab gU rfl) (ae rfl (aa (ar ll rfl (by exact (show _=some (Value.int .u64 s.seed) from (hk3.from_ (ah.rfl_.next E50)).rd 13 rfl))) ?_)));refine ae rfl (aa (dh (bt rfl rfl) (beq_self_eq_true _)) (aa (aG (v:=.bool _) rfl rfl) (mvb rfl (ae rfl (aa (ab de rfl) (ae rfl (aa (ar bo rfl (by exact (show _=some (Value.slice a.V s.votes.length a.Vc) from (hk2.from_ (ah.rfl_.next E50)).rd 14 rfl))) ?_)))))));refine ae rfl (aa (ab de rfl) (ae rfl (aa (ar bo rfl (by exact (show _=some (Value.slice b.V s.votes.length b.Vc) from (hk3.from_ (ah.rfl_.next E50)).rd 14 rfl))) ?_)));refine ae rfl (az ln (pt a.V b.V a.Vc b.Vc s.votes _ (ha.v.1.from_ (((ah.rfl_.next E2).next E3).next E50)) (hb.v.1.from_ (((ah.rfl_.next E2).next E3).next E50)) hl1) ?_);rintro v92 w4 ⟨rfl,E92⟩;refine aa (aG (v:=.bool _) rfl rfl) (mvb rfl (ae rfl (aa (ab cS rfl) (ae rfl (aa (ar bo rfl (by exact (show _=some (Value.slice a.X s.next.length a.Xc) from (hk2.from_ ((ah.rfl_.next E50).next E92)).rd 15 rfl))) ?_)))));refine ae rfl (aa (ab cS rfl) (ae rfl (aa (ar bo rfl (by exact (show _=some (Value.slice b.X s.next.length b.Xc) from (hk3.from_ ((ah.rfl_.next E50).next E92)).rd 15 rfl))) ?_)));refine ae rfl (az ln (pt a.X b.X a.Xc b.Xc s.next _ (ha.x.1.from_ ((((ah.rfl_.next E2).next E3).next E50).next E92)) (hb.x.1.from_ ((((ah.rfl_.next E2).next E3).next E50).next E92)) hl2) ?_);rintro v99 w5 ⟨rfl,E99⟩;refine aa (aG (v:=.bool _) rfl rfl) (mvb rfl (ae rfl (aa (ab c_ rfl) (ae rfl (aa (ar bo rfl (by exact (show _=some (Value.slice a.M s.mtch.length a.Mc) from (hk2.from_ (((ah.rfl_.next E50).next E92).next E99)).rd 16 rfl))) ?_)))));refine ae rfl (aa (ab c_ rfl) (ae rfl (aa (ar bo rfl (by exact (show _=some (Value.slice b.M s.mtch.length b.Mc) from (hk3.from_ (((ah.rfl_.next E50).next E92).next E99)).rd 16 rfl))) ?_)));refine ae rfl (az ln (pt a.M b.M a.Mc b.Mc s.mtch _ (ha.m.1.from_ (((((ah.rfl_.next E2).next E3).next E50).next E92).next E99)) (hb.m.1.from_ (((((ah.rfl_.next E2).next E3).next E50).next E92).next E99)) hl3) ?_);rintro v106 w6 ⟨rfl,E106⟩;refine aa (aG (v:=.bool _) rfl rfl) (mvb rfl (ae rfl (aa (ab df rfl) (ae rfl (aa (ar bo rfl (by exact (show _=some (Value.slice a.S s.sent.length a.Sc) from (hk2.from_ ((((ah.rfl_.next E50).next E92).next E99).next E106)).rd 17 rfl))) ?_)))));refine ae rfl (aa (ab df rfl) (ae rfl (aa (ar bo rfl (by exact (show _=some (Value.slice b.S s.sent.length b.Sc) from (hk3.from_ ((((ah.rfl_.next E50).next E92).next E99).next E106)).rd 17 rfl))) ?_)));refine ae rfl (az ln (pt a.S b.S a.Sc b.Sc s.sent _ (ha.n.1.from_ ((((((ah.rfl_.next E2).next E3).next E50).next E92).next E99).next E106)) (hb.n.1.from_ ((((((ah.rfl_.next E2).next E3).next E50).next E92).next E99).next E106)) hl4) ?_);rintro v113 w7 ⟨rfl,E113⟩;refine aa (aG (v:=.bool _) rfl rfl) (mvb rfl (ae rfl (aa (ab dW rfl) (ae rfl (aa (ar ao rfl (by exact (show _=some (Value.int .i64 s.round) from (hk2.from_ (((((ah.rfl_.next E50).next E92).next E99).next E106).next E113)).rd 18 rfl))) ?_)))));refine ae rfl (aa (ab dW rfl) (ae rfl (aa (ar ao rfl (by exact (show _=some (Value.int .i64 s.round) from (hk3.from_ (((((ah.rfl_.next E50).next E92).next E99).next E106).next E113)).rd 18 rfl))) ?_)));refine ae rfl (aa (dh (bt rfl rfl) (beq_self_eq_true _)) (aa (aG (v:=.bool _) rfl rfl) (mvb rfl (ae rfl (aa (ab cl rfl) (ae rfl (aa (ar ea rfl (by exact (show _=some (Value.slice a.Q a.L.length a.Qc) from (hk2.from_ (((((ah.rfl_.next E50).next E92).next E99).next E106).next E113)).rd 19 rfl))) ?_)))))));refine ae rfl (aa (ab cl rfl) (ae rfl ?_));refine aa (ar ea rfl (by have h9:=(hk3.from_ (((((ah.rfl_.next E50).next E92).next E99).next E106).next E113)).rd 19 rfl;exact (show _=some (Value.slice b.Q a.L.length b.Qc) from by rw [hlb];exact h9))) ?_;refine ae rfl (az yq (tO a.Q b.Q a.Qc b.Qc a.L.length a.L b.L _ (ha.q.from_ (((((((ah.rfl_.next E2).next E3).next E50).next E92).next E99).next E106).next E113)) (hb.q.from_ (((((((ah.rfl_.next E2).next E3).next E50).next E92).next E99).next E106).next E113)) rfl hlb.symm (ha.r.trans hb.r.symm) (fun x hx=>(ha.k x hx).from_ (((((((ah.rfl_.next E2).next E3).next E50).next E92).next E99).next E106).next E113)) (fun x hx=>(hb.k x hx).from_ (((((((ah.rfl_.next E2).next E3).next E50).next E92).next E99).next E106).next E113)) (fun x hx=>hl6 _ (by rw [←ha.r];exact List.mem_map_of_mem hx)) (by omega)) ?_);rintro v127 w8 ⟨rfl,E127⟩;refine aa (aG (v:=.bool _) rfl rfl) (mvb rfl (ae rfl (aa (ab ee rfl) (ae rfl (aa (ar dc rfl (by exact (show _=some (Value.string s.part) from (hk2.from_ ((((((ah.rfl_.next E50).next E92).next E99).next E106).next E113).next E127)).rd 20 rfl))) ?_)))));refine ae rfl (aa (ab ee rfl) (ae rfl (aa (ar dc rfl (by exact (show _=some (Value.string s.part) from (hk3.from_ ((((((ah.rfl_.next E50).next E92).next E99).next E106).next E113).next E127)).rd 20 rfl))) ?_)));refine ae rfl (aa (dh (lz rfl rfl) (beq_self_eq_true _)) (aa (aG (v:=.bool _) rfl rfl) (mvb rfl (ae rfl (aa (ab ed rfl) (ae rfl (aa (ar ao rfl (by exact (show _=some (Value.int .i64 s.partOf) from (hk2.from_ ((((((ah.rfl_.next E50).next E92).next E99).next E106).next E113).next E127)).rd 21 rfl))) ?_)))))));refine ae rfl (aa (ab ed rfl) (ae rfl (aa (ar ao rfl (by exact (show _=some (Value.int .i64 s.partOf) from (hk3.from_ ((((((ah.rfl_.next E50).next E92).next E99).next E106).next E113).next E127)).rd 21 rfl))) ?_)));refine ae rfl (aa (dh (bt rfl rfl) (beq_self_eq_true _)) (aa (aG (v:=.bool _) rfl rfl) (asb rfl (ai (ag (aC (bw (v:=.bool _) rfl rfl (⟨rfl,((((((((ah.rfl_.next E2).next E3).next E50).next E92).next E99).next E106).next E113).next E127)⟩))))))))
theorem jd:jG prog 99=some true:=by kernel_rfl
theorem fW:ef prog 99=some 3:=by kernel_rfl
theorem cM:cD prog 39 0=some 0:=by kernel_rfl
theorem v_:aN prog 90=true:=by kernel_rfl
theorem lG:(ib prog 48).isSome=true:=by kernel_rfl
theorem lH:ib prog 48=some (39,13):=by kernel_rfl
theorem kh:aN prog 48=true:=by kernel_rfl
theorem oL {a b:ByteArray}:a.toList=b.toList↔a=b:=by
 refine ⟨fun hh=>?_,fun h=>by rw [h]⟩;rw [ByteArray.toList_eq,ByteArray.toList_eq] at hh;obtain ⟨⟨x⟩⟩:=a;obtain ⟨⟨y⟩⟩:=b
 simp_all
instance:DecidableEq Ent:=fun x y=>decidable_of_iff (x.i=y.i∧x.t=y.t∧x.d=y.d) ⟨fun h=>by cases x;cases y;simp_all,fun h=>by rw [h];exact ⟨rfl,rfl,rfl⟩⟩
theorem Bg (a b:Ent) (w:World):(Op.equalIn 10000 99 (.agg #[.int .i64 a.i,.int .i64 a.t,.string a.d]) (.agg #[.int .i64 b.i,.int .i64 b.t,.string b.d])).run prog w=.ok (decide (a=b)) w:=by
 have u3:=Tryz.underlying3;have a3:=Tryz.isAgg3;have z3:=Tryz.sizeOf3;have u9:=Tryz.underlying9;have a9:=Tryz.isAgg9;have z9:=Tryz.sizeOf9;have hS:prog.underlying 99=some (.struct (prog.fieldsOf 99)):=by kernel_rfl
 have hp:prog.stoodInHeld 99=false:=by kernel_rfl
 obtain ⟨i1,t1,d1⟩:=a;obtain ⟨i2,t2,d2⟩:=b;rw [show (10000:Nat)=9999+1 from rfl,run_equalIn_agg w 9999 99 _ _ hS hp];simp only [Program.fieldsOf,Tryz.underlying99 ]
 go_simp
 simp only [oL];by_cases h1:i1=i2 <;> by_cases h2:t1=t2 <;> by_cases h3:d1=d2 <;> simp [h1,h2,h3]
theorem vq {ρ:Operand→Value} {w:World} {yt:TypeId} {x y:Operand} {a b:Ent} (hx:ρ x=.agg #[.int .i64 a.i,.int .i64 a.t,.string a.d]) (hy:ρ y=.agg #[.int .i64 b.i,.int .i64 b.t,.string b.d]):RO prog ρ (.binOp .neq 99 x y yt) w (.bool (!decide (a=b))) w:=by
 refine nd hx hy (run_eqGuard_agg w _ _ _ _ _ _ (by kernel_rfl)) ?_;rw [run_neq_struct,Bg];rfl
theorem lD {w:World} {A:Option Addr} {n c:Nat} {es:List Ent} (h:bX w (.slice A n c) es) (hn:0<es.length):∃ b o,A=some ⟨b,o,none⟩∧∀ i (hi:i<es.length),w.rangeAt b (o+i*3) [.int .i64 es[i].i,.int .i64 es[i].t,.string es[i].d]:=by
 obtain ⟨A',c',hv,_,_,_,hp⟩:=h;simp only [Value.slice.injEq] at hv;obtain ⟨rfl,_,_⟩:=hv;obtain ⟨b,o,hA,_,hc⟩:=hp hn;exact ⟨b,o,hA,fun i hi=>xc (hc i hi).1 (hc i hi).2.1 (hc i hi).2.2⟩
theorem BG (a b:ByteArray):(a.toList==b.toList)=decide (a=b):=by
 rw [Bool.eq_iff_iff,beq_iff_eq,decide_eq_true_eq,oL]
theorem Bp (a b:Bool):(a==b)=decide (a=b):=by cases a <;> cases b <;> rfl
theorem y6 {es:List Ent}:[]=es↔es.length=0:=by cases es <;> simp
theorem AE {b:Bool}:false=b↔b.toNat=0:=by cases b <;> simp
theorem xW (A B:Option Addr) (ca cb n m:Nat) (xs ys:List Ent) (w:World) (hn:n=xs.length) (hm:m=ys.length) (h1:bX w (.slice A n ca) xs) (h2:bX w (.slice B m cb) ys) (hl:xs.length≤400000000000) :
 Rt prog 90 [.slice A n ca,.slice B m cb] w (fun v w'=>v=.bool (decide (xs=ys))∧ah w w'):=by
 subst hn hm;refine enter (n:=26) Tryz.func90 rfl rfl rfl (ak (af (asb rfl (ai (ag (ak (ak (af (mvs rfl (aa (bF bC rfl) (mvs rfl (aa (bF bC rfl) (aa (dp rfl rfl) ?_)))))))))))));refine ai (ag (aQ rfl (fun Q1=>?_) (fun Q1=>?_)))
 ·replace Q1:=dF Q1;replace Q1:=en Q1;refine ak (af (asb rfl (ai (ag (aC (aE (bw (v:=.bool _) rfl rfl (⟨congrArg Value.bool (decide_eq_false (fun e=>absurd (congrArg List.length e) (by omega))).symm,ah.rfl_⟩))))))))
 replace Q1:=dG Q1;replace Q1:=ek Q1;have hlen:xs.length=ys.length:=by omega
 refine aM (ag (ak (ak (af (asi rfl (ai (ag (a_ (cY (G:=Nat) [4,11,12,13,14,15,16,17,18,19,20,21,22,23,24,25] (fun k=>[(5,.int .i64 (k:Nat))]) (fun k w'=>k≤xs.length∧xs.take k=ys.take k∧ah w w') (fun k=>xs.length-k) (0) ⟨rfl,trivial⟩ ?_ ?_)))))))))
 ·exact ⟨Nat.zero_le _,rfl,ah.rfl_⟩
 rintro k ρ2 w2 ⟨hk,ht,hB⟩;refine ak (ak (af (mvi rfl (mvs rfl (aa (bF bC rfl) (aa (cg rfl rfl) (ai (ag (Bn rfl (fun Q3=>?_) (fun Q3=>?_))))))))))
 ·have hkx:k<xs.length:=by omega
  have hky:k<ys.length:=by omega
  obtain ⟨ba,oa,rfl,hca⟩:=lD h1 (by omega);obtain ⟨bb,ob,rfl,hcb⟩:=lD h2 (by omega);refine aM (ag (ak (a_ (ak ?_))));apply bY 9 [(17,eqp _),(18,eqp _),(19,eqp _),(20,eqp (.agg #[.int .i64 (xs[k]'hkx).i,.int .i64 (xs[k]'hkx).t,.string (xs[k]'hkx).d])),(21,eqp _),(22,eqp _),(23,eqp _),(24,eqp (.agg #[.int .i64 (ys[k]'hky).i,.int .i64 (ys[k]'hky).t,.string (ys[k]'hky).d])),(25,eqp (.bool (!decide (xs[k]'hkx=ys[k]'hky))))] (by repeat first | exact cB | refine cz ?_ | refine ck ?_) (by kernel_rfl) (by kernel_rfl) ⟨aj _,aj _,aj _,aj _,aj _,aj _,aj _,aj _,aj _,trivial⟩
  case hop=>
   constructor
   ·rintro-w5 D5;exact au (aK (v:=.slice _ _ _) rfl) rfl
   constructor
   ·rintro-w6 D6;exact au (aK (v:=.int _ _) rfl) rfl
   constructor
   ·rintro-w7 D7;rintro _ rfl _ rfl;exact au (bq bU rfl rfl (by omega)) rfl
   constructor
   ·rintro-w8 D8;rintro _ rfl;exact au (aD (cs:=[.int .i64 xs[k].i,.int .i64 xs[k].t,.string xs[k].d]) jd fW rfl (dT (hB.next D8) (hca k hkx))) rfl
   constructor
   ·rintro-w9 D9;exact au (aK (v:=.slice _ _ _) rfl) rfl
   constructor
   ·rintro-w10 D10;exact au (aK (v:=.int _ _) rfl) rfl
   constructor
   ·rintro-w11 D11;rintro _ rfl _ rfl;exact au (bq bU rfl rfl (by omega)) rfl
   constructor
   ·rintro-w12 D12;rintro _ rfl;exact au (aD (cs:=[.int .i64 ys[k].i,.int .i64 ys[k].t,.string ys[k].d]) jd fW rfl (dT (hB.next D12) (hcb k hky))) rfl
   constructor
   ·rintro-w13 D13;rintro v13_20 rfl v13_24 rfl;exact au (vq (a:=xs[k]) (b:=ys[k]) rfl rfl) rfl
   exact trivial
  case hend=>
   intro w14 D14;rintro _ rfl _ rfl _ rfl v20 rfl _ rfl _ rfl _ rfl v24 rfl v25 rfl;show St ..;refine ai (ag (aQ rfl (fun Q15=>?_) (fun Q15=>?_)))
   ·replace Q15:=dF Q15;replace Q15:=dF_ Q15;have hne:¬ xs[k]=ys[k]:=by simpa using Q15
    refine ak (af (asb rfl (ai (ag (aC (bD (aE (aE (bD (aE (bw (v:=.bool _) rfl rfl (⟨congrArg Value.bool (decide_eq_false (fun e=>by subst e;exact hne rfl)).symm,(hB.next D14)⟩))))))))))))
   replace Q15:=dG Q15;replace Q15:=dT_ Q15;have heq:xs[k]=ys[k]:=by simpa using Q15
   refine aM (bN (ag (af (mvi rfl (aa (dD (b:=1) rfl rfl (by omega)) (asi rfl (ai ?_)))))));refine bT (k+1) ⟨(by first | rfl | (refine bM ?_;omega)),trivial⟩ (by (iterate 33 refine bf rfl ?_);exact bB) ⟨?_,?_⟩
   ·exact ⟨by omega,uC hkx hky ht heq,(hB.next D14)⟩
   ·omega
 refine cq (bg (bg (b_ (ag (ak (af (asb rfl (ai (ag (aC (bw (v:=.bool _) rfl rfl (⟨congrArg Value.bool (decide_eq_true (zP hlen (by omega) ht)).symm,hB⟩))))))))))))
theorem uY (k f t tm ix lt cm rd:Int) (ok:Bool) (E:Option Addr) (n c:Nat) (a:Int) (d:ByteArray) (dn:Bool) (k2 f2 t2 tm2 ix2 lt2 cm2 rd2:Int) (ok2:Bool) (Eb:Option Addr) (n2 c2:Nat) (a2:Int) (d2:ByteArray) (dn2:Bool) (w:World) (es es2:List Ent) (hn:n=es.length) (hn2:n2=es2.length) (he:bX w (.slice E n c) es) (he2:bX w (.slice Eb n2 c2) es2) (hl:es.length≤400000000000) :
 Rt prog 48 [.agg #[.int .i64 k,.int .i64 f,.int .i64 t,.int .i64 tm,.int .i64 ix,.int .i64 lt,.int .i64 cm,.int .i64 rd,.bool ok,.slice E n c,.int .i64 a,.string d,.bool dn],.agg #[.int .i64 k2,.int .i64 f2,.int .i64 t2,.int .i64 tm2,.int .i64 ix2,.int .i64 lt2,.int .i64 cm2,.int .i64 rd2,.bool ok2,.slice Eb n2 c2,.int .i64 a2,.string d2,.bool dn2]] w (fun v w'=>v=.bool (decide (k=k2∧f=f2∧t=t2∧tm=tm2∧ix=ix2∧lt=lt2∧cm=cm2∧rd=rd2∧ok=ok2∧es=es2∧a=a2∧d=d2∧dn=dn2))∧ah w w'):=by
 refine enter (n:=94) Tryz.func48 rfl rfl rfl (ak (af (bZ (v:=.agg _) rfl ?_)));intro b2 w1 E2 hb2 hk2;refine bZ (v:=.agg _) rfl ?_;intro b3 w2 E3 hb3 hk3;replace hk2:=hk2.from_ E3;refine asb rfl (ai (ag (ak (af (aa (ab cM rfl) (aa (ar ao rfl (by exact (hk2.from_ ah.rfl_).rd 0 rfl)) ?_))))));refine aa (ab cM rfl) (aa (ar ao rfl (by exact (hk3.from_ ah.rfl_).rd 0 rfl)) ?_);refine aa (bt rfl rfl) (mvb rfl (AO (t:=10) rfl (fun Q3=>?_) (fun Q3=>?_)))
 ·have q0:=Q3;refine ae rfl (aa (ab cu rfl) (ae rfl (aa (ar ao rfl (by exact (hk2.from_ ah.rfl_).rd 1 rfl)) ?_)));refine ae rfl (aa (ab cu rfl) (ae rfl (aa (ar ao rfl (by exact (hk3.from_ ah.rfl_).rd 1 rfl)) ?_)));refine ae rfl (aa (bt rfl rfl) (aa (aG (v:=.bool _) rfl rfl) (mvb rfl (AO (t:=17) rfl (fun Q4=>?_) (fun Q4=>?_)))))
  ·have q1:=Q4;refine ae rfl (aa (ab eC rfl) (ae rfl (aa (ar ao rfl (by exact (hk2.from_ ah.rfl_).rd 2 rfl)) ?_)));refine ae rfl (aa (ab eC rfl) (ae rfl (aa (ar ao rfl (by exact (hk3.from_ ah.rfl_).rd 2 rfl)) ?_)));refine ae rfl (aa (bt rfl rfl) (aa (aG (v:=.bool _) rfl rfl) (mvb rfl (AO (t:=24) rfl (fun Q5=>?_) (fun Q5=>?_)))))
   ·have q2:=Q5;refine ae rfl (aa (ab bJ rfl) (ae rfl (aa (ar ao rfl (by exact (hk2.from_ ah.rfl_).rd 3 rfl)) ?_)));refine ae rfl (aa (ab bJ rfl) (ae rfl (aa (ar ao rfl (by exact (hk3.from_ ah.rfl_).rd 3 rfl)) ?_)));refine ae rfl (aa (bt rfl rfl) (aa (aG (v:=.bool _) rfl rfl) (mvb rfl (AO (t:=31) rfl (fun Q6=>?_) (fun Q6=>?_)))))
    ·have q3:=Q6;refine ae rfl (aa (ab cF rfl) (ae rfl (aa (ar ao rfl (by exact (hk2.from_ ah.rfl_).rd 4 rfl)) ?_)));refine ae rfl (aa (ab cF rfl) (ae rfl (aa (ar ao rfl (by exact (hk3.from_ ah.rfl_).rd 4 rfl)) ?_)));refine ae rfl (aa (bt rfl rfl) (aa (aG (v:=.bool _) rfl rfl) (mvb rfl (AO (t:=38) rfl (fun Q7=>?_) (fun Q7=>?_)))))
     ·have q4:=Q7;refine ae rfl (aa (ab cV rfl) (ae rfl (aa (ar ao rfl (by exact (hk2.from_ ah.rfl_).rd 5 rfl)) ?_)));refine ae rfl (aa (ab cV rfl) (ae rfl (aa (ar ao rfl (by exact (hk3.from_ ah.rfl_).rd 5 rfl)) ?_)));refine ae rfl (aa (bt rfl rfl) (aa (aG (v:=.bool _) rfl rfl) (mvb rfl (AO (t:=45) rfl (fun Q8=>?_) (fun Q8=>?_)))))
      ·have q5:=Q8;refine ae rfl (aa (ab dU rfl) (ae rfl (aa (ar ao rfl (by exact (hk2.from_ ah.rfl_).rd 6 rfl)) ?_)));refine ae rfl (aa (ab dU rfl) (ae rfl (aa (ar ao rfl (by exact (hk3.from_ ah.rfl_).rd 6 rfl)) ?_)));refine ae rfl (aa (bt rfl rfl) (aa (aG (v:=.bool _) rfl rfl) (mvb rfl (AO (t:=52) rfl (fun Q9=>?_) (fun Q9=>?_)))))
       ·have q6:=Q9;refine ae rfl (aa (ab d_ rfl) (ae rfl (aa (ar ao rfl (by exact (hk2.from_ ah.rfl_).rd 7 rfl)) ?_)));refine ae rfl (aa (ab d_ rfl) (ae rfl (aa (ar ao rfl (by exact (hk3.from_ ah.rfl_).rd 7 rfl)) ?_)));refine ae rfl (aa (bt rfl rfl) (aa (aG (v:=.bool _) rfl rfl) (mvb rfl (AO (t:=59) rfl (fun Q10=>?_) (fun Q10=>?_)))))
        ·have q7:=Q10;refine ae rfl (aa (ab lk rfl) (ae rfl (aa (ar gm rfl (by exact (hk2.from_ ah.rfl_).rd 8 rfl)) ?_)));refine ae rfl (aa (ab lk rfl) (ae rfl (aa (ar gm rfl (by exact (hk3.from_ ah.rfl_).rd 8 rfl)) ?_)));refine ae rfl (aa (jk (uI (by kernel_rfl) rfl rfl) (congrArg Value.bool (Bp ok ok2))) (aa (aG (v:=.bool _) rfl rfl) (mvb rfl (AP (t:=66) rfl (fun Q11=>?_) (fun Q11=>?_)))))
         ·have q8:=Q11;refine ae rfl (aa (ab bS rfl) (ae rfl (aa (ar bk rfl (by exact (hk2.from_ ah.rfl_).rd 9 rfl)) ?_)));refine ae rfl (aa (ab bS rfl) (ae rfl (aa (ar bk rfl (by exact (hk3.from_ ah.rfl_).rd 9 rfl)) ?_)));refine ae rfl (az v_ (xW E Eb c c2 n n2 es es2 _ hn hn2 (he.from_ ((ah.rfl_.next E2).next E3)) (he2.from_ ((ah.rfl_.next E2).next E3)) hl) ?_);rintro v71 w12 ⟨rfl,E71⟩;refine aa (aG (v:=.bool _) rfl rfl) (mvb rfl (AP (t:=73) rfl (fun Q13=>?_) (fun Q13=>?_)))
          ·have q9:=Q13;refine ae rfl (aa (ab gR rfl) (ae rfl (aa (ar ao rfl (by exact (hk2.from_ (ah.rfl_.next E71)).rd 10 rfl)) ?_)));refine ae rfl (aa (ab gR rfl) (ae rfl (aa (ar ao rfl (by exact (hk3.from_ (ah.rfl_.next E71)).rd 10 rfl)) ?_)));refine ae rfl (aa (bt rfl rfl) (aa (aG (v:=.bool _) rfl rfl) (mvb rfl (AO (t:=80) rfl (fun Q14=>?_) (fun Q14=>?_)))))
           ·have q10:=Q14;refine ae rfl (aa (ab iW rfl) (ae rfl (aa (ar dc rfl (by exact (hk2.from_ (ah.rfl_.next E71)).rd 11 rfl)) ?_)));refine ae rfl (aa (ab iW rfl) (ae rfl (aa (ar dc rfl (by exact (hk3.from_ (ah.rfl_.next E71)).rd 11 rfl)) ?_)));refine ae rfl (aa (jk (lz rfl rfl) (congrArg Value.bool (BG d d2))) (aa (aG (v:=.bool _) rfl rfl) (mvb rfl (AP (t:=87) rfl (fun Q15=>?_) (fun Q15=>?_)))))
            ·have q11:=Q15;refine ae rfl (aa (ab ky rfl) (ae rfl (aa (ar gm rfl (by exact (hk2.from_ (ah.rfl_.next E71)).rd 12 rfl)) ?_)));refine ae rfl (aa (ab ky rfl) (ae rfl (aa (ar gm rfl (by exact (hk3.from_ (ah.rfl_.next E71)).rd 12 rfl)) ?_)));refine ae rfl (aa (jk (uI (by kernel_rfl) rfl rfl) (congrArg Value.bool (Bp dn dn2))) (aa (aG (v:=.bool _) rfl rfl) (asb rfl (ai (ag (aC (bw (v:=.bool _) rfl rfl (⟨congrArg Value.bool ?_,(((ah.rfl_.next E2).next E3).next E71)⟩))))))))
             first
              |exact (decide_eq_false hno).symm
              |(rw [decide_eq_decide];exact ⟨fun h=>⟨q0,q1,q2,q3,q4,q5,q6,q7,q8,q9,q10,q11,h⟩,fun h=>h.2.2.2.2.2.2.2.2.2.2.2.2⟩)
            have hno:¬ (k=k2∧f=f2∧t=t2∧tm=tm2∧ix=ix2∧lt=lt2∧cm=cm2∧rd=rd2∧ok=ok2∧es=es2∧a=a2∧d=d2∧dn=dn2):=fun e=>Q15 e.2.2.2.2.2.2.2.2.2.2.2.1
            refine an rfl rfl (an rfl rfl (an rfl rfl (an rfl rfl (an rfl rfl (aa (av (v:=.bool _) rfl rfl) (asb rfl (ai (ag (aC (bw (v:=.bool _) rfl rfl ?_))))))))));refine ⟨congrArg Value.bool ?_,(((ah.rfl_.next E2).next E3).next E71)⟩
            first
             |exact (decide_eq_false hno).symm
             |(rw [decide_eq_decide];exact ⟨fun h=>⟨q0,q1,q2,q3,q4,q5,q6,q7,q8,q9,q10,q11,h⟩,fun h=>h.2.2.2.2.2.2.2.2.2.2.2.2⟩)
           have hno:¬ (k=k2∧f=f2∧t=t2∧tm=tm2∧ix=ix2∧lt=lt2∧cm=cm2∧rd=rd2∧ok=ok2∧es=es2∧a=a2∧d=d2∧dn=dn2):=fun e=>Q14 e.2.2.2.2.2.2.2.2.2.2.1
           refine an rfl rfl (an rfl rfl (an rfl rfl (an rfl rfl (an rfl rfl (aa (av (v:=.bool _) rfl rfl) (mvb rfl (an rfl rfl (an rfl rfl ?_))))))));refine an rfl rfl (an rfl rfl (an rfl rfl (aa (av (v:=.bool _) rfl rfl) (asb rfl (ai (ag (aC (bw (v:=.bool _) rfl rfl (⟨congrArg Value.bool ?_,(((ah.rfl_.next E2).next E3).next E71)⟩)))))))))
           first
            |exact (decide_eq_false hno).symm
            |(rw [decide_eq_decide];exact ⟨fun h=>⟨q0,q1,q2,q3,q4,q5,q6,q7,q8,q9,q10,q11,h⟩,fun h=>h.2.2.2.2.2.2.2.2.2.2.2.2⟩)
          have hno:¬ (k=k2∧f=f2∧t=t2∧tm=tm2∧ix=ix2∧lt=lt2∧cm=cm2∧rd=rd2∧ok=ok2∧es=es2∧a=a2∧d=d2∧dn=dn2):=fun e=>Q13 e.2.2.2.2.2.2.2.2.2.1
          refine an rfl rfl (an rfl rfl (an rfl rfl (an rfl rfl (an rfl rfl (aa (av (v:=.bool _) rfl rfl) (mvb rfl (an rfl rfl (an rfl rfl ?_))))))));refine an rfl rfl (an rfl rfl (an rfl rfl (aa (av (v:=.bool _) rfl rfl) (mvb rfl (an rfl rfl (an rfl rfl (an rfl rfl (an rfl rfl ?_))))))));refine an rfl rfl (aa (av (v:=.bool _) rfl rfl) (asb rfl (ai (ag (aC (bw (v:=.bool _) rfl rfl (⟨congrArg Value.bool ?_,(((ah.rfl_.next E2).next E3).next E71)⟩)))))))
          first
           |exact (decide_eq_false hno).symm
           |(rw [decide_eq_decide];exact ⟨fun h=>⟨q0,q1,q2,q3,q4,q5,q6,q7,q8,q9,q10,q11,h⟩,fun h=>h.2.2.2.2.2.2.2.2.2.2.2.2⟩)
         have hno:¬ (k=k2∧f=f2∧t=t2∧tm=tm2∧ix=ix2∧lt=lt2∧cm=cm2∧rd=rd2∧ok=ok2∧es=es2∧a=a2∧d=d2∧dn=dn2):=fun e=>Q11 e.2.2.2.2.2.2.2.2.1
         refine an rfl rfl (an rfl rfl (an rfl rfl (an rfl rfl (an rfl rfl (aa (av (v:=.bool _) rfl rfl) (mvb rfl (an rfl rfl (an rfl rfl ?_))))))));refine an rfl rfl (an rfl rfl (an rfl rfl (aa (av (v:=.bool _) rfl rfl) (mvb rfl (an rfl rfl (an rfl rfl (an rfl rfl (an rfl rfl ?_))))))));refine an rfl rfl (aa (av (v:=.bool _) rfl rfl) (mvb rfl (an rfl rfl (an rfl rfl (an rfl rfl (an rfl rfl (an rfl rfl (aa (av (v:=.bool _) rfl rfl) ?_))))))));refine asb rfl (ai (ag (aC (bw (v:=.bool _) rfl rfl (⟨congrArg Value.bool ?_,((ah.rfl_.next E2).next E3)⟩)))))
         first
          |exact (decide_eq_false hno).symm
          |(rw [decide_eq_decide];exact ⟨fun h=>⟨q0,q1,q2,q3,q4,q5,q6,q7,q8,q9,q10,q11,h⟩,fun h=>h.2.2.2.2.2.2.2.2.2.2.2.2⟩)
        have hno:¬ (k=k2∧f=f2∧t=t2∧tm=tm2∧ix=ix2∧lt=lt2∧cm=cm2∧rd=rd2∧ok=ok2∧es=es2∧a=a2∧d=d2∧dn=dn2):=fun e=>Q10 e.2.2.2.2.2.2.2.1
        refine an rfl rfl (an rfl rfl (an rfl rfl (an rfl rfl (an rfl rfl (aa (av (v:=.bool _) rfl rfl) (mvb rfl (an rfl rfl (an rfl rfl ?_))))))));refine an rfl rfl (an rfl rfl (an rfl rfl (aa (av (v:=.bool _) rfl rfl) (mvb rfl (an rfl rfl (an rfl rfl (an rfl rfl (an rfl rfl ?_))))))));refine an rfl rfl (aa (av (v:=.bool _) rfl rfl) (mvb rfl (an rfl rfl (an rfl rfl (an rfl rfl (an rfl rfl (an rfl rfl (aa (av (v:=.bool _) rfl rfl) ?_))))))));refine mvb rfl (an rfl rfl (an rfl rfl (an rfl rfl (an rfl rfl (an rfl rfl (aa (av (v:=.bool _) rfl rfl) (asb rfl (ai (ag (aC ?_))))))))));refine bw (v:=.bool _) rfl rfl (⟨congrArg Value.bool ?_,((ah.rfl_.next E2).next E3)⟩)
        first
         |exact (decide_eq_false hno).symm
         |(rw [decide_eq_decide];exact ⟨fun h=>⟨q0,q1,q2,q3,q4,q5,q6,q7,q8,q9,q10,q11,h⟩,fun h=>h.2.2.2.2.2.2.2.2.2.2.2.2⟩)
       have hno:¬ (k=k2∧f=f2∧t=t2∧tm=tm2∧ix=ix2∧lt=lt2∧cm=cm2∧rd=rd2∧ok=ok2∧es=es2∧a=a2∧d=d2∧dn=dn2):=fun e=>Q9 e.2.2.2.2.2.2.1
       refine an rfl rfl (an rfl rfl (an rfl rfl (an rfl rfl (an rfl rfl (aa (av (v:=.bool _) rfl rfl) (mvb rfl (an rfl rfl (an rfl rfl ?_))))))));refine an rfl rfl (an rfl rfl (an rfl rfl (aa (av (v:=.bool _) rfl rfl) (mvb rfl (an rfl rfl (an rfl rfl (an rfl rfl (an rfl rfl ?_))))))));refine an rfl rfl (aa (av (v:=.bool _) rfl rfl) (mvb rfl (an rfl rfl (an rfl rfl (an rfl rfl (an rfl rfl (an rfl rfl (aa (av (v:=.bool _) rfl rfl) ?_))))))));refine mvb rfl (an rfl rfl (an rfl rfl (an rfl rfl (an rfl rfl (an rfl rfl (aa (av (v:=.bool _) rfl rfl) (mvb rfl (an rfl rfl ?_))))))));refine an rfl rfl (an rfl rfl (an rfl rfl (an rfl rfl (aa (av (v:=.bool _) rfl rfl) (asb rfl (ai (ag (aC (bw (v:=.bool _) rfl rfl (⟨congrArg Value.bool ?_,((ah.rfl_.next E2).next E3)⟩))))))))))
       first
        |exact (decide_eq_false hno).symm
        |(rw [decide_eq_decide];exact ⟨fun h=>⟨q0,q1,q2,q3,q4,q5,q6,q7,q8,q9,q10,q11,h⟩,fun h=>h.2.2.2.2.2.2.2.2.2.2.2.2⟩)
      have hno:¬ (k=k2∧f=f2∧t=t2∧tm=tm2∧ix=ix2∧lt=lt2∧cm=cm2∧rd=rd2∧ok=ok2∧es=es2∧a=a2∧d=d2∧dn=dn2):=fun e=>Q8 e.2.2.2.2.2.1
      refine an rfl rfl (an rfl rfl (an rfl rfl (an rfl rfl (an rfl rfl (aa (av (v:=.bool _) rfl rfl) (mvb rfl (an rfl rfl (an rfl rfl ?_))))))));refine an rfl rfl (an rfl rfl (an rfl rfl (aa (av (v:=.bool _) rfl rfl) (mvb rfl (an rfl rfl (an rfl rfl (an rfl rfl (an rfl rfl ?_))))))));refine an rfl rfl (aa (av (v:=.bool _) rfl rfl) (mvb rfl (an rfl rfl (an rfl rfl (an rfl rfl (an rfl rfl (an rfl rfl (aa (av (v:=.bool _) rfl rfl) ?_))))))));refine mvb rfl (an rfl rfl (an rfl rfl (an rfl rfl (an rfl rfl (an rfl rfl (aa (av (v:=.bool _) rfl rfl) (mvb rfl (an rfl rfl ?_))))))));refine an rfl rfl (an rfl rfl (an rfl rfl (an rfl rfl (aa (av (v:=.bool _) rfl rfl) (mvb rfl (an rfl rfl (an rfl rfl (an rfl rfl ?_))))))));refine an rfl rfl (an rfl rfl (aa (av (v:=.bool _) rfl rfl) (asb rfl (ai (ag (aC (bw (v:=.bool _) rfl rfl (⟨congrArg Value.bool ?_,((ah.rfl_.next E2).next E3)⟩))))))))
      first
       |exact (decide_eq_false hno).symm
       |(rw [decide_eq_decide];exact ⟨fun h=>⟨q0,q1,q2,q3,q4,q5,q6,q7,q8,q9,q10,q11,h⟩,fun h=>h.2.2.2.2.2.2.2.2.2.2.2.2⟩)
     have hno:¬ (k=k2∧f=f2∧t=t2∧tm=tm2∧ix=ix2∧lt=lt2∧cm=cm2∧rd=rd2∧ok=ok2∧es=es2∧a=a2∧d=d2∧dn=dn2):=fun e=>Q7 e.2.2.2.2.1
     refine an rfl rfl (an rfl rfl (an rfl rfl (an rfl rfl (an rfl rfl (aa (av (v:=.bool _) rfl rfl) (mvb rfl (an rfl rfl (an rfl rfl ?_))))))));refine an rfl rfl (an rfl rfl (an rfl rfl (aa (av (v:=.bool _) rfl rfl) (mvb rfl (an rfl rfl (an rfl rfl (an rfl rfl (an rfl rfl ?_))))))));refine an rfl rfl (aa (av (v:=.bool _) rfl rfl) (mvb rfl (an rfl rfl (an rfl rfl (an rfl rfl (an rfl rfl (an rfl rfl (aa (av (v:=.bool _) rfl rfl) ?_))))))));refine mvb rfl (an rfl rfl (an rfl rfl (an rfl rfl (an rfl rfl (an rfl rfl (aa (av (v:=.bool _) rfl rfl) (mvb rfl (an rfl rfl ?_))))))));refine an rfl rfl (an rfl rfl (an rfl rfl (an rfl rfl (aa (av (v:=.bool _) rfl rfl) (mvb rfl (an rfl rfl (an rfl rfl (an rfl rfl ?_))))))));refine an rfl rfl (an rfl rfl (aa (av (v:=.bool _) rfl rfl) (mvb rfl (an rfl rfl (an rfl rfl (an rfl rfl (an rfl rfl (an rfl rfl ?_))))))));refine aa (av (v:=.bool _) rfl rfl) (asb rfl (ai (ag (aC (bw (v:=.bool _) rfl rfl (⟨congrArg Value.bool ?_,((ah.rfl_.next E2).next E3)⟩))))))
     first
      |exact (decide_eq_false hno).symm
      |(rw [decide_eq_decide];exact ⟨fun h=>⟨q0,q1,q2,q3,q4,q5,q6,q7,q8,q9,q10,q11,h⟩,fun h=>h.2.2.2.2.2.2.2.2.2.2.2.2⟩)
    have hno:¬ (k=k2∧f=f2∧t=t2∧tm=tm2∧ix=ix2∧lt=lt2∧cm=cm2∧rd=rd2∧ok=ok2∧es=es2∧a=a2∧d=d2∧dn=dn2):=fun e=>Q6 e.2.2.2.1
    refine an rfl rfl (an rfl rfl (an rfl rfl (an rfl rfl (an rfl rfl (aa (av (v:=.bool _) rfl rfl) (mvb rfl (an rfl rfl (an rfl rfl ?_))))))));refine an rfl rfl (an rfl rfl (an rfl rfl (aa (av (v:=.bool _) rfl rfl) (mvb rfl (an rfl rfl (an rfl rfl (an rfl rfl (an rfl rfl ?_))))))));refine an rfl rfl (aa (av (v:=.bool _) rfl rfl) (mvb rfl (an rfl rfl (an rfl rfl (an rfl rfl (an rfl rfl (an rfl rfl (aa (av (v:=.bool _) rfl rfl) ?_))))))));refine mvb rfl (an rfl rfl (an rfl rfl (an rfl rfl (an rfl rfl (an rfl rfl (aa (av (v:=.bool _) rfl rfl) (mvb rfl (an rfl rfl ?_))))))));refine an rfl rfl (an rfl rfl (an rfl rfl (an rfl rfl (aa (av (v:=.bool _) rfl rfl) (mvb rfl (an rfl rfl (an rfl rfl (an rfl rfl ?_))))))));refine an rfl rfl (an rfl rfl (aa (av (v:=.bool _) rfl rfl) (mvb rfl (an rfl rfl (an rfl rfl (an rfl rfl (an rfl rfl (an rfl rfl ?_))))))));refine aa (av (v:=.bool _) rfl rfl) (mvb rfl (an rfl rfl (an rfl rfl (an rfl rfl (an rfl rfl (an rfl rfl (aa (av (v:=.bool _) rfl rfl) (asb rfl ?_))))))));refine ai (ag (aC (bw (v:=.bool _) rfl rfl (⟨congrArg Value.bool ?_,((ah.rfl_.next E2).next E3)⟩))))
    first
     |exact (decide_eq_false hno).symm
     |(rw [decide_eq_decide];exact ⟨fun h=>⟨q0,q1,q2,q3,q4,q5,q6,q7,q8,q9,q10,q11,h⟩,fun h=>h.2.2.2.2.2.2.2.2.2.2.2.2⟩)
   have hno:¬ (k=k2∧f=f2∧t=t2∧tm=tm2∧ix=ix2∧lt=lt2∧cm=cm2∧rd=rd2∧ok=ok2∧es=es2∧a=a2∧d=d2∧dn=dn2):=fun e=>Q5 e.2.2.1
   refine an rfl rfl (an rfl rfl (an rfl rfl (an rfl rfl (an rfl rfl (aa (av (v:=.bool _) rfl rfl) (mvb rfl (an rfl rfl (an rfl rfl ?_))))))));refine an rfl rfl (an rfl rfl (an rfl rfl (aa (av (v:=.bool _) rfl rfl) (mvb rfl (an rfl rfl (an rfl rfl (an rfl rfl (an rfl rfl ?_))))))));refine an rfl rfl (aa (av (v:=.bool _) rfl rfl) (mvb rfl (an rfl rfl (an rfl rfl (an rfl rfl (an rfl rfl (an rfl rfl (aa (av (v:=.bool _) rfl rfl) ?_))))))));refine mvb rfl (an rfl rfl (an rfl rfl (an rfl rfl (an rfl rfl (an rfl rfl (aa (av (v:=.bool _) rfl rfl) (mvb rfl (an rfl rfl ?_))))))));refine an rfl rfl (an rfl rfl (an rfl rfl (an rfl rfl (aa (av (v:=.bool _) rfl rfl) (mvb rfl (an rfl rfl (an rfl rfl (an rfl rfl ?_))))))));refine an rfl rfl (an rfl rfl (aa (av (v:=.bool _) rfl rfl) (mvb rfl (an rfl rfl (an rfl rfl (an rfl rfl (an rfl rfl (an rfl rfl ?_))))))));refine aa (av (v:=.bool _) rfl rfl) (mvb rfl (an rfl rfl (an rfl rfl (an rfl rfl (an rfl rfl (an rfl rfl (aa (av (v:=.bool _) rfl rfl) (mvb rfl ?_))))))));refine an rfl rfl (an rfl rfl (an rfl rfl (an rfl rfl (an rfl rfl (aa (av (v:=.bool _) rfl rfl) (asb rfl (ai (ag (aC (bw (v:=.bool _) rfl rfl ?_))))))))));refine ⟨congrArg Value.bool ?_,((ah.rfl_.next E2).next E3)⟩
   first
    |exact (decide_eq_false hno).symm
    |(rw [decide_eq_decide];exact ⟨fun h=>⟨q0,q1,q2,q3,q4,q5,q6,q7,q8,q9,q10,q11,h⟩,fun h=>h.2.2.2.2.2.2.2.2.2.2.2.2⟩)
  have hno:¬ (k=k2∧f=f2∧t=t2∧tm=tm2∧ix=ix2∧lt=lt2∧cm=cm2∧rd=rd2∧ok=ok2∧es=es2∧a=a2∧d=d2∧dn=dn2):=fun e=>Q4 e.2.1
  refine an rfl rfl (an rfl rfl (an rfl rfl (an rfl rfl (an rfl rfl (aa (av (v:=.bool _) rfl rfl) (mvb rfl (an rfl rfl (an rfl rfl ?_))))))));refine an rfl rfl (an rfl rfl (an rfl rfl (aa (av (v:=.bool _) rfl rfl) (mvb rfl (an rfl rfl (an rfl rfl (an rfl rfl (an rfl rfl ?_))))))));refine an rfl rfl (aa (av (v:=.bool _) rfl rfl) (mvb rfl (an rfl rfl (an rfl rfl (an rfl rfl (an rfl rfl (an rfl rfl (aa (av (v:=.bool _) rfl rfl) ?_))))))));refine mvb rfl (an rfl rfl (an rfl rfl (an rfl rfl (an rfl rfl (an rfl rfl (aa (av (v:=.bool _) rfl rfl) (mvb rfl (an rfl rfl ?_))))))));refine an rfl rfl (an rfl rfl (an rfl rfl (an rfl rfl (aa (av (v:=.bool _) rfl rfl) (mvb rfl (an rfl rfl (an rfl rfl (an rfl rfl ?_))))))));refine an rfl rfl (an rfl rfl (aa (av (v:=.bool _) rfl rfl) (mvb rfl (an rfl rfl (an rfl rfl (an rfl rfl (an rfl rfl (an rfl rfl ?_))))))));refine aa (av (v:=.bool _) rfl rfl) (mvb rfl (an rfl rfl (an rfl rfl (an rfl rfl (an rfl rfl (an rfl rfl (aa (av (v:=.bool _) rfl rfl) (mvb rfl ?_))))))));refine an rfl rfl (an rfl rfl (an rfl rfl (an rfl rfl (an rfl rfl (aa (av (v:=.bool _) rfl rfl) (mvb rfl (an rfl rfl (an rfl rfl ?_))))))));refine an rfl rfl (an rfl rfl (an rfl rfl (aa (av (v:=.bool _) rfl rfl) (asb rfl (ai (ag (aC (bw (v:=.bool _) rfl rfl (⟨congrArg Value.bool ?_,((ah.rfl_.next E2).next E3)⟩)))))))))
  first
   |exact (decide_eq_false hno).symm
   |(rw [decide_eq_decide];exact ⟨fun h=>⟨q0,q1,q2,q3,q4,q5,q6,q7,q8,q9,q10,q11,h⟩,fun h=>h.2.2.2.2.2.2.2.2.2.2.2.2⟩)
 have hno:¬ (k=k2∧f=f2∧t=t2∧tm=tm2∧ix=ix2∧lt=lt2∧cm=cm2∧rd=rd2∧ok=ok2∧es=es2∧a=a2∧d=d2∧dn=dn2):=fun e=>Q3 e.1
 refine an rfl rfl (an rfl rfl (an rfl rfl (an rfl rfl (an rfl rfl (aa (av (v:=.bool _) rfl rfl) (mvb rfl (an rfl rfl (an rfl rfl ?_))))))));refine an rfl rfl (an rfl rfl (an rfl rfl (aa (av (v:=.bool _) rfl rfl) (mvb rfl (an rfl rfl (an rfl rfl (an rfl rfl (an rfl rfl ?_))))))));refine an rfl rfl (aa (av (v:=.bool _) rfl rfl) (mvb rfl (an rfl rfl (an rfl rfl (an rfl rfl (an rfl rfl (an rfl rfl (aa (av (v:=.bool _) rfl rfl) ?_))))))));refine mvb rfl (an rfl rfl (an rfl rfl (an rfl rfl (an rfl rfl (an rfl rfl (aa (av (v:=.bool _) rfl rfl) (mvb rfl (an rfl rfl ?_))))))));refine an rfl rfl (an rfl rfl (an rfl rfl (an rfl rfl (aa (av (v:=.bool _) rfl rfl) (mvb rfl (an rfl rfl (an rfl rfl (an rfl rfl ?_))))))));refine an rfl rfl (an rfl rfl (aa (av (v:=.bool _) rfl rfl) (mvb rfl (an rfl rfl (an rfl rfl (an rfl rfl (an rfl rfl (an rfl rfl ?_))))))));refine aa (av (v:=.bool _) rfl rfl) (mvb rfl (an rfl rfl (an rfl rfl (an rfl rfl (an rfl rfl (an rfl rfl (aa (av (v:=.bool _) rfl rfl) (mvb rfl ?_))))))));refine an rfl rfl (an rfl rfl (an rfl rfl (an rfl rfl (an rfl rfl (aa (av (v:=.bool _) rfl rfl) (mvb rfl (an rfl rfl (an rfl rfl ?_))))))));refine an rfl rfl (an rfl rfl (an rfl rfl (aa (av (v:=.bool _) rfl rfl) (mvb rfl (an rfl rfl (an rfl rfl (an rfl rfl (an rfl rfl ?_))))))));refine an rfl rfl (aa (av (v:=.bool _) rfl rfl) (asb rfl (ai (ag (aC (bw (v:=.bool _) rfl rfl (⟨congrArg Value.bool ?_,((ah.rfl_.next E2).next E3)⟩)))))))
 first
  |exact (decide_eq_false hno).symm
  |(rw [decide_eq_decide];exact ⟨fun h=>⟨q0,q1,q2,q3,q4,q5,q6,q7,q8,q9,q10,q11,h⟩,fun h=>h.2.2.2.2.2.2.2.2.2.2.2.2⟩)
theorem oG (x y:Msg) (w:World) (h:pl x=pl y) (hx:bX w (.slice x.E x.es.length x.c) x.es) (hy:bX w (.slice y.E y.es.length y.c) y.es) (hl:x.es.length≤1000000) :
 Rt prog 48 [.agg (bH x).toArray,.agg (bH y).toArray] w fun v w'=>v=.bool true∧ah w w':=
 (uY x.k x.f x.t x.tm x.ix x.lt x.cm x.rd x.ok x.E x.es.length x.c x.a x.d x.dn y.k y.f y.t y.tm y.ix y.lt y.cm y.rd y.ok y.E y.es.length y.c y.a y.d y.dn w x.es y.es rfl rfl hx hy (by omega)).mono fun v w' hv=>⟨by
  rw [hv.1];exact congrArg Value.bool (decide_eq_true ⟨(show (pl x).k=(pl y).k from congrArg Msg.k h),(show (pl x).f=(pl y).f from congrArg Msg.f h),(show (pl x).t=(pl y).t from congrArg Msg.t h),(show (pl x).tm=(pl y).tm from congrArg Msg.tm h),(show (pl x).ix=(pl y).ix from congrArg Msg.ix h),(show (pl x).lt=(pl y).lt from congrArg Msg.lt h),(show (pl x).cm=(pl y).cm from congrArg Msg.cm h),(show (pl x).rd=(pl y).rd from congrArg Msg.rd h),(show (pl x).ok=(pl y).ok from congrArg Msg.ok h),(show (pl x).es=(pl y).es from congrArg Msg.es h),(show (pl x).a=(pl y).a from congrArg Msg.a h),(show (pl x).d=(pl y).d from congrArg Msg.d h),(show (pl x).dn=(pl y).dn from congrArg Msg.dn h)⟩),hv.2⟩
theorem AV {X Y:List Msg} (h:X.map pl=Y.map pl) {k:Nat} (hx:k<X.length) (hy:k<Y.length):pl X[k]=pl Y[k]:=by
 have:(X.map pl)[k]'(by simpa using hx)=(Y.map pl)[k]'(by simpa using hy):=by simp only [h]
 simpa using this
theorem sy (A B:Option Addr) (c c2 n:Nat) (X Y:List Msg) (w:World) (hr:iE 13 bH w A X) (hr2:iE 13 bH w B Y) (hX:X.length=n) (hY:Y.length=n) (hp:X.map pl=Y.map pl) (hE:∀ x∈X,bX w (.slice x.E x.es.length x.c) x.es) (hE2:∀ x∈Y,bX w (.slice x.E x.es.length x.c) x.es) (hle:∀ x∈X,x.es.length≤1000000) (hn:n≤100000) :
 Rt prog 50 [.slice A n c,.slice B n c2] w (fun v w'=>v=.bool true∧ah w w'):=by
 refine enter (n:=27) Tryz.func50 rfl rfl rfl (ak (af (asb rfl (ai (ag (ak (ak (af (mvs rfl (aa (bF lG rfl) (mvs rfl (aa (bF lG rfl) (aa (c8 (dp rfl rfl) (bne_self_eq_false _)) ?_)))))))))))));refine ai (ag (bA rfl (aM (ag (ak (ak (af (asi rfl (ai (ag (a_ (cY (G:=Nat) [4,11,12,13,14,15,16,17,18,19,20,21,22,23,24,25,26] (fun k=>[(5,.int .i64 (k:Nat))]) (fun k w'=>k≤n∧ah w w') (fun k=>n-k) (0) ⟨rfl,trivial⟩ ?_ ?_))))))))))))
 ·exact ⟨Nat.zero_le _,ah.rfl_⟩
 rintro k ρ1 w1 ⟨hk,hB⟩;refine ak (ak (af (mvi rfl (mvs rfl (aa (bF lG rfl) (aa (cg rfl rfl) (ai (ag (Bn rfl (fun Q2=>?_) (fun Q2=>?_))))))))))
 ·have hkX:k<X.length:=by omega
  have hkY:k<Y.length:=by omega
  obtain ⟨ba,oa,rfl,hca⟩:=hr (by omega);obtain ⟨bb,ob,rfl,hcb⟩:=hr2 (by omega);have hxk:=hE _ (List.getElem_mem hkX);have hyk:=hE2 _ (List.getElem_mem hkY);have hlk:=hle _ (List.getElem_mem hkX);refine aM (ag (ak (a_ (ak ?_))));apply bY 10 [(17,eqp _),(18,eqp _),(19,eqp _),(20,eqp (.agg (bH (X[k]'hkX)).toArray)),(21,eqp _),(22,eqp _),(23,eqp _),(24,eqp (.agg (bH (Y[k]'hkY)).toArray)),(25,eqp _),(26,eqp _)] (by repeat first | exact cB | refine cz ?_ | refine ck ?_) (by kernel_rfl) (by kernel_rfl) ⟨aj _,aj _,aj _,aj _,aj _,aj _,aj _,aj _,aj _,aj _,trivial⟩
  case hop=>
   constructor
   ·rintro-w4 D4;exact au (aK (v:=.slice _ _ _) rfl) rfl
   constructor
   ·rintro-w5 D5;exact au (aK (v:=.int _ _) rfl) rfl
   constructor
   ·rintro-w6 D6;rintro _ rfl _ rfl;exact au (bq lH rfl rfl (by omega)) rfl
   constructor
   ·rintro-w7 D7;rintro _ rfl;exact au (aD (cs:=bH (X[k]'hkX)) bh aU rfl (dT (hB.next D7) (hca k hkX))) rfl
   constructor
   ·rintro-w8 D8;exact au (aK (v:=.slice _ _ _) rfl) rfl
   constructor
   ·rintro-w9 D9;exact au (aK (v:=.int _ _) rfl) rfl
   constructor
   ·rintro-w10 D10;rintro _ rfl _ rfl;exact au (bq lH rfl rfl (by omega)) rfl
   constructor
   ·rintro-w11 D11;rintro _ rfl;exact au (aD (cs:=bH (Y[k]'hkY)) bh aU rfl (dT (hB.next D11) (hcb k hkY))) rfl
   constructor
   ·rintro-w12 D12;rintro v12_20 rfl v12_24 rfl;refine fD kh ((oG (X[k]'hkX) (Y[k]'hkY) _ (AV hp hkX hkY) (hxk.from_ (hB.next D12)) (hyk.from_ (hB.next D12)) hlk).mono ?_);rintro v _ ⟨rfl,E12'⟩;exact ⟨E12',rfl⟩
   constructor
   ·rintro-w13 D13;rintro _ rfl;exact au (cn rfl) rfl
   exact trivial
  case hend=>
   intro w14 D14;rintro _ rfl _ rfl _ rfl v20 rfl _ rfl _ rfl _ rfl v24 rfl _ rfl _ rfl;show St ..;refine ai (ag (Bl rfl (fun Q15=>?_) (fun Q15=>?_)))
   ·exfalso;contradiction
   refine aM (bN (ag (af (mvi rfl (aa (dD (b:=1) rfl rfl (by omega)) (asi rfl (ai ?_)))))));refine bT (k+1) ⟨(by first | rfl | (refine bM ?_;omega)),trivial⟩ (by (iterate 35 refine bf rfl ?_);exact bB) ⟨?_,?_⟩
   ·exact ⟨by omega,(hB.next D14)⟩
   ·omega
 refine cq (bg (bg (b_ (ag (ak (af (asb rfl (ai (ag (aC (bw (v:=.bool _) rfl rfl (⟨rfl,hB⟩))))))))))))
theorem dH:aN prog 53=true:=by kernel_rfl
theorem jR:kB prog 54=some (.agg #[.int .i64 0,.int .i64 0,.int .i64 0,.slice none 0 0]):=by kernel_rfl
theorem mQ:aN prog 133=true:=by kernel_rfl
theorem aP:jG prog 29=some true:=by kernel_rfl
theorem aF:ef prog 29=some 22:=by kernel_rfl
theorem rF:aN prog 131=true:=by kernel_rfl
theorem rE:aN prog 132=true:=by kernel_rfl
theorem rD:aN prog 134=true:=by kernel_rfl
theorem rC:aN prog 135=true:=by kernel_rfl
def iX (s:Rf):Prop:=(1≤s.nodes∧s.nodes≤7)∧(1≤s.id∧s.id≤s.nodes)∧(0≤s.role∧s.role≤2)∧((0≤s.vote∧s.vote≤s.nodes)∧(0≤s.leader∧s.leader≤s.nodes))∧(0≤s.term∧s.term≤1099511627775)∧(0≤s.elapsed∧s.elapsed≤1099511627775)∧(0≤s.timeout∧s.timeout≤1099511627775)∧(0≤s.round∧s.round≤1099511627775)
instance (s:Rf):Decidable (iX s):=by unfold iX;exact inferInstance
def gI (s:Rf):Prop:=bR s.b s.t s.es=true∧di s.t s.es≤s.term∧(s.b≤s.commit∧s.commit≤bn s)∧s.snap.size≤524288∧(0<s.b∨s.snap.size=0)
instance (s:Rf):Decidable (gI s):=by unfold gI;exact inferInstance
def ic (s:Rf):Prop:=s.part.size≤524288∧(0≤s.partOf∧s.partOf≤1099511625728)∧(0<s.partOf∨s.part.size=0)
instance (s:Rf):Decidable (ic s):=by unfold ic;exact inferInstance
def lP (s:Rf):Prop:=if s.role=2 then ((s.next.length:Int)=s.nodes∧(s.mtch.length:Int)=s.nodes∧(s.sent.length:Int)=s.nodes∧s.reads.length≤32)∧(eQ 1 (bn s+1) s.next∧eQ 0 (bn s) s.mtch∧eQ 0 s.snap.size s.sent)∧(∀ q∈s.reads,g_ s q=true) else s.next.length+s.mtch.length+s.sent.length+s.reads.length=0
instance (s:Rf):Decidable (lP s):=by unfold lP;exact inferInstance
theorem Bb (s:Rf) (E:Option Addr) (n c:Nat) (w:World) (h:bX w (.slice E n c) s.es):Rt prog 152 [.agg #[.int .i64 s.b,.int .i64 s.t,.slice E n c]] w fun v w'=>(∃ X Y Z:Int,v=.tuple #[.int .i64 X,.int .i64 Y,.int .i64 Z]∧((bR s.b s.t s.es=true∧Z=0∧X=bn s∧Y=di s.t s.es)∨(bR s.b s.t s.es=false∧Z=1)))∧ah w w':=
 (Rt.of (so s.b s.t _ s.es w h)).mono fun v w' h=>by
  refine ⟨?_,h.2⟩;rw [h.1];unfold uQ;cases hm:bR s.b s.t s.es with
  |true=>rw [if_pos rfl];exact ⟨_,_,_,rfl,.inl ⟨rfl,rfl,rfl,rfl⟩⟩
  |false=>rw [if_neg (by decide)];exact ⟨_,_,_,rfl,.inr ⟨rfl,rfl⟩⟩
theorem jl:∀ (l:List Int),gB l=true↔∀ j (h:j+1<l.length),l[j]<l[j+1]
 |[]=>⟨fun _ j h=>absurd h (by simp),fun _=>rfl⟩
 |[a]=>⟨fun _ j h=>absurd h (by simp),fun _=>rfl⟩
 |a::b::r=>by
  have ih:=jl (b::r);show (decide (a<b)&&gB (b::r))=true↔_;rw [Bool.and_eq_true,decide_eq_true_eq,ih];constructor
  ·rintro ⟨h1,h2⟩ j h;cases j with
   |zero=>exact h1
   |succ j=>exact h2 j (by simpa using h)
  ·intro h;exact ⟨h 0 (by simp),fun j hj=>h (j+1) (by simpa using hj)⟩
theorem ij {l:List Int} {n:Int}:fE l n=true↔eQ 1 n l∧∀ j (h:j+1<l.length),l[j]<l[j+1]:=by
 unfold fE eQ;rw [Bool.and_eq_true,jl,List.all_eq_true];simp only [Bool.and_eq_true,decide_eq_true_eq]
theorem eO (lo hi:Int) (A:Option Addr) (c:Nat) (xs:List Int) (w:World) (hr:ey iV w A xs) (hl:xs.length≤1000000) :
 Rt prog 53 [.int .i64 lo,.int .i64 hi,.slice A xs.length c] w (fun v w'=>v=.bool (decide (eQ lo hi xs))∧w=w'):=by
 refine enter (n:=24) Tryz.func53 rfl rfl rfl (ak (af (asb rfl (ai (ag (ak (ak (af (mvs rfl (aa (bF cp rfl) (mvi rfl (ai (ag (a_ (cY (G:=Nat) [6,8,12,13,14,15,16,17,18,19,20,21,22,23] (fun k=>[(11,.int .i64 (k:Nat))]) (fun k w'=>k≤xs.length∧eQ lo hi (xs.take k)∧w=w') (fun k=>xs.length-k) (0) ⟨rfl,trivial⟩ ?_ ?_)))))))))))))))
 ·exact ⟨Nat.zero_le _,bG.2 trivial,rfl⟩
 rintro k ρ1 w1 ⟨hk,ha,rfl⟩;refine ak (af (aa (cg rfl rfl) (ai (ag (ak (Bn rfl (fun Q2=>?_) (fun Q2=>?_)))))))
 ·have hkx:k<xs.length:=by omega
  obtain ⟨ba,oa,rfl,hca⟩:=hr (by omega);refine aM (ag (ak (a_ (ak (af (aa (dd c6 rfl rfl (by omega)) (aa (ar ao rfl (by exact hca k hkx)) ?_)))))));refine asi rfl (ai (ag (ak (af (mvi rfl (mvi rfl (aa (cg rfl rfl) (mvb rfl (AP (t:=18) rfl (fun Q3=>?_) (fun Q3=>?_))))))))))
  ·refine bE rfl (ai (ag (aR rfl (ak (af (asb rfl (ai (ag (aC (bD (aE (aE (bD (aE (bw (v:=.bool _) rfl rfl (⟨congrArg Value.bool ?_,rfl⟩))))))))))))))));rw [eq_comm,decide_eq_false_iff_not];intro h;have:=h _ (List.getElem_mem hkx);omega
  refine ae rfl (mvi rfl (ae rfl (mvi rfl (ae rfl (aa (ch rfl rfl) (aa (av (v:=.bool _) rfl rfl) (ai (ag (Bn rfl (fun Q4=>?_) (fun Q4=>?_))))))))))
  ·refine ak (af (asb rfl (ai (ag (aC (bD (aE (aE (bD (aE (bw (v:=.bool _) rfl rfl (⟨congrArg Value.bool ?_,rfl⟩))))))))))));rw [eq_comm,decide_eq_false_iff_not];intro h;have:=h _ (List.getElem_mem hkx);omega
  refine aM (bN (ag (af (aa (dD (b:=1) rfl rfl (by omega)) (mvi rfl (ai ?_))))));refine bT (k+1) ⟨(by first | rfl | (refine bM ?_;omega)),trivial⟩ (by (iterate 30 refine bf rfl ?_);exact bB) ⟨?_,?_⟩
  ·exact ⟨by omega,by rw [List.take_succ_eq_append_getElem hkx];exact pG.2 ⟨ha,by omega⟩,rfl⟩
  ·omega
 obtain rfl:k=xs.length:=by omega
 rw [List.take_length] at ha;refine cq (bg (bg (b_ (ag (ak (af (asb rfl (ai (ag (aC (bw (v:=.bool _) rfl rfl (⟨congrArg Value.bool (decide_eq_true ha).symm,rfl⟩))))))))))))
theorem gp {w:World} {b:Nat} {xs:List Int} (h:Blk w b 3 (xs.map iV).toArray):ey iV w (some ⟨b,0,none⟩) xs:=ey.blk h fun i hi=>by simp [hi]
theorem oi (s:Rf) (a:Ra) (w:World) :
 Rt prog 131 [.agg (rfV s a).toArray] w (fun v w'=>v=.bool (decide (iX s))∧ah w w'):=by
 refine enter (n:=43) Tryz.func131 rfl rfl rfl (ak (af (bZ (v:=.agg _) rfl ?_)));intro b1 w1 E1 hb1 hk1;refine asb rfl (ai (ag (ak (af (aa (ab cf rfl) (aa (ar ao rfl (by exact (hk1.from_ ah.rfl_).rd 1 rfl)) ?_))))));refine fq (v:=.int _ _) cj rfl rfl rfl ?_;intro b5 w2 E5 hb5 hk5;refine az dH (eO 1 7 (some ⟨b5,0,none⟩) 1 [s.nodes] _ (gp hk5) (by simp)) ?_;rintro v6 w3 ⟨rfl,rfl⟩;refine mvb rfl (AP (t:=7) rfl (fun Q4=>?_) (fun Q4=>?_))
 ·(try simp only [bp,bG,and_true] at Q4)
  refine ae rfl (aa (ab cf rfl) (ae rfl (aa (ar ao rfl (by exact (hk1.from_ (ah.rfl_.next E5)).rd 1 rfl)) ?_)));refine ae rfl (aa (ab cw rfl) (ae rfl (aa (ar ao rfl (by exact (hk1.from_ (ah.rfl_.next E5)).rd 0 rfl)) ?_)));refine ae rfl (fq (v:=.int _ _) cj rfl rfl rfl ?_);intro b12 w5 E12 hb12 hk12;refine ae rfl (az dH (eO 1 s.nodes (some ⟨b12,0,none⟩) 1 [s.id] _ (gp hk12) (by simp)) ?_);rintro v13 w6 ⟨rfl,rfl⟩;refine aa (aG (v:=.bool _) rfl rfl) (mvb rfl (AP (t:=15) rfl (fun Q7=>?_) (fun Q7=>?_)))
  ·(try simp only [bp,bG,and_true] at Q7)
   refine ae rfl (aa (ab cZ rfl) (ae rfl (aa (ar ao rfl (by exact (hk1.from_ ((ah.rfl_.next E5).next E12)).rd 2 rfl)) ?_)));refine ae rfl (fq (v:=.int _ _) cj rfl rfl rfl ?_);intro b18 w8 E18 hb18 hk18;refine ae rfl (az dH (eO 0 2 (some ⟨b18,0,none⟩) 1 [s.role] _ (gp hk18) (by simp)) ?_);rintro v19 w9 ⟨rfl,rfl⟩;refine aa (aG (v:=.bool _) rfl rfl) (mvb rfl (AP (t:=21) rfl (fun Q10=>?_) (fun Q10=>?_)))
   ·(try simp only [bp,bG,and_true] at Q10)
    refine ae rfl (aa (ab cf rfl) (ae rfl (aa (ar ao rfl (by exact (hk1.from_ (((ah.rfl_.next E5).next E12).next E18)).rd 1 rfl)) ?_)));refine ae rfl (aa (ab fw rfl) (ae rfl (aa (ar ao rfl (by exact (hk1.from_ (((ah.rfl_.next E5).next E12).next E18)).rd 4 rfl)) ?_)));refine ae rfl (aa (ab dX rfl) (ae rfl (aa (ar ao rfl (by exact (hk1.from_ (((ah.rfl_.next E5).next E12).next E18)).rd 5 rfl)) ?_)));refine ae rfl (mo [.tmp 25,.tmp 27] [.int _ _,.int _ _] cj rfl rfl rfl rfl (by simp [Value.cells]) ?_);intro b28 w11 E28 hb28 hk28;refine ae rfl (az dH (eO 0 s.nodes (some ⟨b28,0,none⟩) 2 [s.vote,s.leader] _ (gp hk28) (by simp)) ?_);rintro v29 w12 ⟨rfl,rfl⟩;refine aa (aG (v:=.bool _) rfl rfl) (mvb rfl (AP (t:=31) rfl (fun Q13=>?_) (fun Q13=>?_)))
    ·(try simp only [bp,bG,and_true] at Q13)
     refine ae rfl (aa (ab bL rfl) (ae rfl (aa (ar ao rfl (by exact (hk1.from_ ((((ah.rfl_.next E5).next E12).next E18).next E28)).rd 3 rfl)) ?_)));refine ae rfl (aa (ab dq rfl) (ae rfl (aa (ar ao rfl (by exact (hk1.from_ ((((ah.rfl_.next E5).next E12).next E18).next E28)).rd 11 rfl)) ?_)));refine ae rfl (aa (ab fp rfl) (ae rfl (aa (ar ao rfl (by exact (hk1.from_ ((((ah.rfl_.next E5).next E12).next E18).next E28)).rd 12 rfl)) ?_)));refine ae rfl (aa (ab dW rfl) (ae rfl (aa (ar ao rfl (by exact (hk1.from_ ((((ah.rfl_.next E5).next E12).next E18).next E28)).rd 18 rfl)) ?_)));refine ae rfl (mo [.tmp 33,.tmp 35,.tmp 37,.tmp 39] [.int _ _,.int _ _,.int _ _,.int _ _] cj rfl rfl rfl rfl (by simp [Value.cells]) ?_);intro b40 w14 E40 hb40 hk40;refine ae rfl (az dH (eO 0 1099511627775 (some ⟨b40,0,none⟩) 4 [s.term,s.elapsed,s.timeout,s.round] _ (gp hk40) (by simp)) ?_);rintro v41 w15 ⟨rfl,rfl⟩;refine aa (aG (v:=.bool _) rfl rfl) (asb rfl (ai (ag (aC (bw (v:=.bool _) rfl rfl (⟨congrArg Value.bool ?_,((((((ah.rfl_.next E1).next E5).next E12).next E18).next E28).next E40)⟩))))))
     (try simp only [bp,bG,and_true])
     first
      |(rw [eq_comm,decide_eq_false_iff_not];unfold iX;omega)
      |(rw [decide_eq_decide];unfold iX;omega)
      |(rw [eq_comm,decide_eq_true_eq];unfold iX;omega)
    (try simp only [bp,bG,and_true] at Q13)
    refine an rfl rfl (an rfl rfl (an rfl rfl (an rfl rfl (an rfl rfl (an rfl rfl (an rfl rfl (an rfl rfl (an rfl rfl ?_))))))));refine an rfl rfl (aa (av (v:=.bool _) rfl rfl) (asb rfl (ai (ag (aC (bw (v:=.bool _) rfl rfl (⟨congrArg Value.bool ?_,(((((ah.rfl_.next E1).next E5).next E12).next E18).next E28)⟩)))))))
    (try simp only [bp,bG,and_true])
    first
     |(rw [eq_comm,decide_eq_false_iff_not];unfold iX;omega)
     |(rw [decide_eq_decide];unfold iX;omega)
     |(rw [eq_comm,decide_eq_true_eq];unfold iX;omega)
   (try simp only [bp,bG,and_true] at Q10)
   refine an rfl rfl (an rfl rfl (an rfl rfl (an rfl rfl (an rfl rfl (an rfl rfl (an rfl rfl (an rfl rfl (aa (av (v:=.bool _) rfl rfl) ?_))))))));refine mvb rfl (an rfl rfl (an rfl rfl (an rfl rfl (an rfl rfl (an rfl rfl (an rfl rfl (an rfl rfl (an rfl rfl ?_))))))));refine an rfl rfl (an rfl rfl (aa (av (v:=.bool _) rfl rfl) (asb rfl (ai (ag (aC (bw (v:=.bool _) rfl rfl (⟨congrArg Value.bool ?_,((((ah.rfl_.next E1).next E5).next E12).next E18)⟩))))))))
   (try simp only [bp,bG,and_true])
   first
    |(rw [eq_comm,decide_eq_false_iff_not];unfold iX;omega)
    |(rw [decide_eq_decide];unfold iX;omega)
    |(rw [eq_comm,decide_eq_true_eq];unfold iX;omega)
  (try simp only [bp,bG,and_true] at Q7)
  refine an rfl rfl (an rfl rfl (an rfl rfl (an rfl rfl (aa (av (v:=.bool _) rfl rfl) (mvb rfl (an rfl rfl (an rfl rfl (an rfl rfl ?_))))))));refine an rfl rfl (an rfl rfl (an rfl rfl (an rfl rfl (an rfl rfl (aa (av (v:=.bool _) rfl rfl) (mvb rfl (an rfl rfl (an rfl rfl ?_))))))));refine an rfl rfl (an rfl rfl (an rfl rfl (an rfl rfl (an rfl rfl (an rfl rfl (an rfl rfl (an rfl rfl (aa (av (v:=.bool _) rfl rfl) ?_))))))));refine asb rfl (ai (ag (aC (bw (v:=.bool _) rfl rfl (⟨congrArg Value.bool ?_,(((ah.rfl_.next E1).next E5).next E12)⟩)))))
  (try simp only [bp,bG,and_true])
  first
   |(rw [eq_comm,decide_eq_false_iff_not];unfold iX;omega)
   |(rw [decide_eq_decide];unfold iX;omega)
   |(rw [eq_comm,decide_eq_true_eq];unfold iX;omega)
 (try simp only [bp,bG,and_true] at Q4)
 refine an rfl rfl (an rfl rfl (an rfl rfl (an rfl rfl (an rfl rfl (an rfl rfl (aa (av (v:=.bool _) rfl rfl) (mvb rfl (an rfl rfl ?_))))))));refine an rfl rfl (an rfl rfl (an rfl rfl (aa (av (v:=.bool _) rfl rfl) (mvb rfl (an rfl rfl (an rfl rfl (an rfl rfl (an rfl rfl ?_))))))));refine an rfl rfl (an rfl rfl (an rfl rfl (an rfl rfl (aa (av (v:=.bool _) rfl rfl) (mvb rfl (an rfl rfl (an rfl rfl (an rfl rfl ?_))))))));refine an rfl rfl (an rfl rfl (an rfl rfl (an rfl rfl (an rfl rfl (an rfl rfl (an rfl rfl (aa (av (v:=.bool _) rfl rfl) (asb rfl ?_))))))));refine ai (ag (aC (bw (v:=.bool _) rfl rfl (⟨congrArg Value.bool ?_,((ah.rfl_.next E1).next E5)⟩))))
 (try simp only [bp,bG,and_true])
 first
  |(rw [eq_comm,decide_eq_false_iff_not];unfold iX;omega)
  |(rw [decide_eq_decide];unfold iX;omega)
  |(rw [eq_comm,decide_eq_true_eq];unfold iX;omega)
theorem qT {s:Rf} {a:Ra} {w:World} {b T:Nat} (hb:Blk w b T (rfV s a).toArray):w.rangeAt b 6 [.int .i64 s.b,.int .i64 s.t,.slice a.E s.es.length a.Ec]:=hb.range 6 _ (fun j v hj=>by
 match j,hj with
 |0,hj=>exact hj
 |1,hj=>exact hj
 |2,hj=>exact hj
 |j+3,hj=>simp at hj)
theorem rO (s:Rf) (a:Ra) (w:World) (he:bX w (.slice a.E s.es.length a.Ec) s.es) :
 Rt prog 132 [.agg (rfV s a).toArray] w (fun v w'=>v=.bool (decide (gI s))∧ah w w'):=by
 refine enter (n:=48) Tryz.func132 rfl rfl rfl (ak (af (bZ (v:=.agg _) rfl ?_)));intro b1 w1 E1 hb1 hk1;refine asb rfl (ai (ag (ak (af (aa (ab bj rfl) (aa (aD (cs:=[.int .i64 s.b,.int .i64 s.t,.slice a.E s.es.length a.Ec]) aY aL rfl (qT (hk1.from_ ah.rfl_))) (az mP (Bb s a.E s.es.length a.Ec _ (he.from_ (ah.rfl_.next E1))) ?_)))))));rintro v9 w2 ⟨⟨X,Y,Z,rfl,hXYZ⟩,E9⟩;refine mvt rfl (aa (aO rfl rfl) (aa (aO rfl rfl) (aa (aO rfl rfl) (asi rfl (asi rfl (asi rfl (ai (ag (ak (af (mvi rfl ?_)))))))))));refine aa (bt rfl rfl) (mvb rfl (AO (t:=15) rfl (fun Q3=>?_) (fun Q3=>?_)))
 ·refine ae rfl (mvi rfl (ae rfl (aa (ab bL rfl) (ae rfl (aa (ar ao rfl (by exact (hk1.from_ (ah.rfl_.next E9)).rd 3 rfl)) ?_)))));refine ae rfl (aa (gH rfl rfl) (aa (aG (v:=.bool _) rfl rfl) (mvb rfl (AP (t:=21) rfl (fun Q4=>?_) (fun Q4=>?_)))))
  ·(try simp only [bp,bG,and_true] at Q4)
   refine ae rfl (aa (ab bj rfl) (ae rfl (aa (ab ct rfl) (ae rfl (aa (ar ao rfl (by exact (hk1.from_ (ah.rfl_.next E9)).rd 6 rfl)) ?_)))));refine ae rfl (mvi rfl (ae rfl (aa (ab cQ rfl) (ae rfl (aa (ar ao rfl (by exact (hk1.from_ (ah.rfl_.next E9)).rd 10 rfl)) ?_)))));refine ae rfl (fq (v:=.int _ _) cj rfl rfl rfl ?_);intro b28 w5 E28 hb28 hk28;refine ae rfl (az dH (eO s.b X (some ⟨b28,0,none⟩) 1 [s.commit] _ (gp hk28) (by simp)) ?_);rintro v29 w6 ⟨rfl,rfl⟩;refine aa (aG (v:=.bool _) rfl rfl) (mvb rfl (AP (t:=31) rfl (fun Q7=>?_) (fun Q7=>?_)))
   ·(try simp only [bp,bG,and_true] at Q7)
    refine ae rfl (aa (ab dY rfl) (ae rfl (aa (ar dc rfl (by exact (hk1.from_ ((ah.rfl_.next E9).next E28)).rd 9 rfl)) ?_)));refine ae rfl (aa (f_ (by kernel_rfl) rfl) (ae rfl (aa (gH rfl rfl) (aa (aG (v:=.bool _) rfl rfl) (mvb rfl (AP (t:=37) rfl (fun Q8=>?_) (fun Q8=>?_)))))))
    ·refine ae rfl (aa (ab bj rfl) (ae rfl (aa (ab ct rfl) (ae rfl (aa (ar ao rfl (by exact (hk1.from_ ((ah.rfl_.next E9).next E28)).rd 6 rfl)) ?_)))));refine ae rfl (aa (ch rfl rfl) (ae rfl (mvb rfl (AP (t:=42) rfl (fun Q9=>?_) (fun Q9=>?_)))))
     ·refine an rfl rfl (an rfl rfl (an rfl rfl (ae rfl (aa (aG (v:=.bool _) rfl rfl) (aa (aG (v:=.bool _) rfl rfl) (asb rfl (ai (ag (aC (bw (v:=.bool _) rfl rfl ?_))))))))));refine ⟨congrArg Value.bool ?_,(((ah.rfl_.next E1).next E9).next E28)⟩
      (try simp only [bp,bG,and_true])
      rcases hXYZ with ⟨hm,hz,hx,hy⟩ | ⟨hm,hz⟩
      ·first
        |(rw [eq_comm,decide_eq_false_iff_not];unfold gI;simp only [hm,true_and];omega)
        |(rw [decide_eq_decide];unfold gI;simp only [hm,true_and];omega)
        |(rw [eq_comm,decide_eq_true_eq];unfold gI;simp only [hm,true_and];omega)
      ·first
        |(exfalso;omega)
        |(rw [eq_comm,decide_eq_false_iff_not];unfold gI;rw [hm];exact fun h=>Bool.noConfusion h.1)
     refine ae rfl (aa (ab dY rfl) (ae rfl (aa (ar dc rfl (by exact (hk1.from_ ((ah.rfl_.next E9).next E28)).rd 9 rfl)) ?_)));refine ae rfl (aa (jk (lz rfl rfl) (congrArg Value.bool (zz s.snap))) (ae rfl (aa (av (v:=.bool _) rfl rfl) (aa (aG (v:=.bool _) rfl rfl) (asb rfl (ai (ag (aC (bw (v:=.bool _) rfl rfl (⟨congrArg Value.bool ?_,(((ah.rfl_.next E1).next E9).next E28)⟩))))))))))
     (try simp only [bp,bG,and_true])
     rcases hXYZ with ⟨hm,hz,hx,hy⟩ | ⟨hm,hz⟩
     ·first
       |(rw [eq_comm,decide_eq_false_iff_not];unfold gI;simp only [hm,true_and];omega)
       |(rw [decide_eq_decide];unfold gI;simp only [hm,true_and];omega)
       |(rw [eq_comm,decide_eq_true_eq];unfold gI;simp only [hm,true_and];omega)
     ·first
       |(exfalso;omega)
       |(rw [eq_comm,decide_eq_false_iff_not];unfold gI;rw [hm];exact fun h=>Bool.noConfusion h.1)
    refine an rfl rfl (an rfl rfl (an rfl rfl (an rfl rfl (an rfl rfl (dv rfl (dv rfl (dv rfl (an rfl rfl ?_))))))));refine aa (av (v:=.bool _) rfl rfl) (asb rfl (ai (ag (aC (bw (v:=.bool _) rfl rfl (⟨congrArg Value.bool ?_,(((ah.rfl_.next E1).next E9).next E28)⟩))))))
    (try simp only [bp,bG,and_true])
    rcases hXYZ with ⟨hm,hz,hx,hy⟩ | ⟨hm,hz⟩
    ·first
      |(rw [eq_comm,decide_eq_false_iff_not];unfold gI;simp only [hm,true_and];omega)
      |(rw [decide_eq_decide];unfold gI;simp only [hm,true_and];omega)
      |(rw [eq_comm,decide_eq_true_eq];unfold gI;simp only [hm,true_and];omega)
    ·first
      |(exfalso;omega)
      |(rw [eq_comm,decide_eq_false_iff_not];unfold gI;rw [hm];exact fun h=>Bool.noConfusion h.1)
   (try simp only [bp,bG,and_true] at Q7)
   refine an rfl rfl (an rfl rfl (an rfl rfl (an rfl rfl (aa (av (v:=.bool _) rfl rfl) (mvb rfl (an rfl rfl (an rfl rfl (an rfl rfl ?_))))))));refine an rfl rfl (an rfl rfl (dv rfl (dv rfl (dv rfl (an rfl rfl (aa (av (v:=.bool _) rfl rfl) (asb rfl (ai (ag (aC ?_))))))))));refine bw (v:=.bool _) rfl rfl (⟨congrArg Value.bool ?_,(((ah.rfl_.next E1).next E9).next E28)⟩)
   (try simp only [bp,bG,and_true])
   rcases hXYZ with ⟨hm,hz,hx,hy⟩ | ⟨hm,hz⟩
   ·first
     |(rw [eq_comm,decide_eq_false_iff_not];unfold gI;simp only [hm,true_and];omega)
     |(rw [decide_eq_decide];unfold gI;simp only [hm,true_and];omega)
     |(rw [eq_comm,decide_eq_true_eq];unfold gI;simp only [hm,true_and];omega)
   ·first
     |(exfalso;omega)
     |(rw [eq_comm,decide_eq_false_iff_not];unfold gI;rw [hm];exact fun h=>Bool.noConfusion h.1)
  (try simp only [bp,bG,and_true] at Q4)
  refine an rfl rfl (an rfl rfl (an rfl rfl (an rfl rfl (an rfl rfl (an rfl rfl (an rfl rfl (an rfl rfl (aa (av (v:=.bool _) rfl rfl) ?_))))))));refine mvb rfl (an rfl rfl (an rfl rfl (an rfl rfl (an rfl rfl (aa (av (v:=.bool _) rfl rfl) (mvb rfl (an rfl rfl (an rfl rfl ?_))))))));refine an rfl rfl (an rfl rfl (an rfl rfl (dv rfl (dv rfl (dv rfl (an rfl rfl (aa (av (v:=.bool _) rfl rfl) (asb rfl ?_))))))));refine ai (ag (aC (bw (v:=.bool _) rfl rfl (⟨congrArg Value.bool ?_,((ah.rfl_.next E1).next E9)⟩))))
  (try simp only [bp,bG,and_true])
  rcases hXYZ with ⟨hm,hz,hx,hy⟩ | ⟨hm,hz⟩
  ·first
    |(rw [eq_comm,decide_eq_false_iff_not];unfold gI;simp only [hm,true_and];omega)
    |(rw [decide_eq_decide];unfold gI;simp only [hm,true_and];omega)
    |(rw [eq_comm,decide_eq_true_eq];unfold gI;simp only [hm,true_and];omega)
  ·first
    |(exfalso;omega)
    |(rw [eq_comm,decide_eq_false_iff_not];unfold gI;rw [hm];exact fun h=>Bool.noConfusion h.1)
 refine an rfl rfl (an rfl rfl (an rfl rfl (an rfl rfl (aa (av (v:=.bool _) rfl rfl) (mvb rfl (an rfl rfl (an rfl rfl (an rfl rfl ?_))))))));refine an rfl rfl (an rfl rfl (an rfl rfl (an rfl rfl (an rfl rfl (aa (av (v:=.bool _) rfl rfl) (mvb rfl (an rfl rfl (an rfl rfl ?_))))))));refine an rfl rfl (an rfl rfl (aa (av (v:=.bool _) rfl rfl) (mvb rfl (an rfl rfl (an rfl rfl (an rfl rfl (an rfl rfl (an rfl rfl ?_))))))));refine dv rfl (dv rfl (dv rfl (an rfl rfl (aa (av (v:=.bool _) rfl rfl) (asb rfl (ai (ag (aC (bw (v:=.bool _) rfl rfl (⟨congrArg Value.bool ?_,((ah.rfl_.next E1).next E9)⟩))))))))))
 (try simp only [bp,bG,and_true])
 rcases hXYZ with ⟨hm,hz,hx,hy⟩ | ⟨hm,hz⟩
 ·first
   |(rw [eq_comm,decide_eq_false_iff_not];unfold gI;simp only [hm,true_and];omega)
   |(rw [decide_eq_decide];unfold gI;simp only [hm,true_and];omega)
   |(rw [eq_comm,decide_eq_true_eq];unfold gI;simp only [hm,true_and];omega)
 ·first
   |(exfalso;omega)
   |(rw [eq_comm,decide_eq_false_iff_not];unfold gI;rw [hm];exact fun h=>Bool.noConfusion h.1)
theorem qL (s:Rf) (a:Ra) (w:World) :
 Rt prog 135 [.agg (rfV s a).toArray] w (fun v w'=>v=.bool (decide (ic s))∧ah w w'):=by
 refine enter (n:=23) Tryz.func135 rfl rfl rfl (ak (af (bZ (v:=.agg _) rfl ?_)));intro b1 w1 E1 hb1 hk1;refine asb rfl (ai (ag (ak (af (aa (ab ee rfl) (aa (ar dc rfl (by exact (hk1.from_ ah.rfl_).rd 20 rfl)) ?_))))));refine aa (f_ (by kernel_rfl) rfl) (aa (gH rfl rfl) (mvb rfl (AP (t:=7) rfl (fun Q2=>?_) (fun Q2=>?_))))
 ·refine ae rfl (aa (ab ed rfl) (ae rfl (aa (ar ao rfl (by exact (hk1.from_ ah.rfl_).rd 21 rfl)) ?_)));refine ae rfl (fq (v:=.int _ _) cj rfl rfl rfl ?_);intro b10 w3 E10 hb10 hk10;refine ae rfl (az dH (eO 0 1099511625728 (some ⟨b10,0,none⟩) 1 [s.partOf] _ (gp hk10) (by simp)) ?_);rintro v11 w4 ⟨rfl,rfl⟩;refine aa (aG (v:=.bool _) rfl rfl) (mvb rfl (AP (t:=13) rfl (fun Q5=>?_) (fun Q5=>?_)))
  ·(try simp only [bp,bG,and_true] at Q5)
   refine ae rfl (aa (ab ed rfl) (ae rfl (aa (ar ao rfl (by exact (hk1.from_ (ah.rfl_.next E10)).rd 21 rfl)) ?_)));refine ae rfl (aa (ch rfl rfl) (ae rfl (mvb rfl (AP (t:=17) rfl (fun Q6=>?_) (fun Q6=>?_)))))
   ·refine an rfl rfl (an rfl rfl (an rfl rfl (ae rfl (aa (aG (v:=.bool _) rfl rfl) (aa (aG (v:=.bool _) rfl rfl) (asb rfl (ai (ag (aC (bw (v:=.bool _) rfl rfl ?_))))))))));refine ⟨congrArg Value.bool ?_,((ah.rfl_.next E1).next E10)⟩
    (try simp only [bp,bG,and_true])
    first
     |(rw [eq_comm,decide_eq_false_iff_not];unfold ic;omega)
     |(rw [decide_eq_decide];unfold ic;omega)
     |(rw [eq_comm,decide_eq_true_eq];unfold ic;omega)
   refine ae rfl (aa (ab ee rfl) (ae rfl (aa (ar dc rfl (by exact (hk1.from_ (ah.rfl_.next E10)).rd 20 rfl)) ?_)));refine ae rfl (aa (jk (lz rfl rfl) (congrArg Value.bool (zz s.part))) (ae rfl (aa (av (v:=.bool _) rfl rfl) (aa (aG (v:=.bool _) rfl rfl) (asb rfl (ai (ag (aC (bw (v:=.bool _) rfl rfl (⟨congrArg Value.bool ?_,((ah.rfl_.next E1).next E10)⟩))))))))))
   (try simp only [bp,bG,and_true])
   first
    |(rw [eq_comm,decide_eq_false_iff_not];unfold ic;omega)
    |(rw [decide_eq_decide];unfold ic;omega)
    |(rw [eq_comm,decide_eq_true_eq];unfold ic;omega)
  (try simp only [bp,bG,and_true] at Q5)
  refine an rfl rfl (an rfl rfl (an rfl rfl (an rfl rfl (dv rfl (dv rfl (dv rfl (an rfl rfl (aa (av (v:=.bool _) rfl rfl) ?_))))))));refine asb rfl (ai (ag (aC (bw (v:=.bool _) rfl rfl (⟨congrArg Value.bool ?_,((ah.rfl_.next E1).next E10)⟩)))))
  (try simp only [bp,bG,and_true])
  first
   |(rw [eq_comm,decide_eq_false_iff_not];unfold ic;omega)
   |(rw [decide_eq_decide];unfold ic;omega)
   |(rw [eq_comm,decide_eq_true_eq];unfold ic;omega)
 refine an rfl rfl (an rfl rfl (an rfl rfl (an rfl rfl (aa (av (v:=.bool _) rfl rfl) (mvb rfl (an rfl rfl (an rfl rfl (an rfl rfl ?_))))))));refine an rfl rfl (dv rfl (dv rfl (dv rfl (an rfl rfl (aa (av (v:=.bool _) rfl rfl) (asb rfl (ai (ag (aC (bw (v:=.bool _) rfl rfl ?_))))))))));refine ⟨congrArg Value.bool ?_,(ah.rfl_.next E1)⟩
 (try simp only [bp,bG,and_true])
 first
  |(rw [eq_comm,decide_eq_false_iff_not];unfold ic;omega)
  |(rw [decide_eq_decide];unfold ic;omega)
  |(rw [eq_comm,decide_eq_true_eq];unfold ic;omega)
theorem qm (A:Option Addr) (c:Nat) (l:List Int) (n:Int) (w:World) (hr:ey iV w A l) (hl:l.length≤1000000) :
 Rt prog 133 [.slice A l.length c,.int .i64 n] w (fun v w'=>v=.bool (fE l n)∧ah w w'):=by
 refine enter (n:=33) Tryz.func133 rfl rfl rfl (ak (af (asb rfl (ai (ag (ak (ak (af (mvs rfl (aa (bF cp rfl) (mvi rfl (ai (ag (a_ (cY (G:=Nat) [4,5,6,10,11,12,13,14,15,16,17,18,19,20,21,22,23,24,25,26,27,28,29,30,31,32] (fun k=>[(9,.int .i64 (k:Nat))]) (fun k w'=>k≤l.length∧(∀ j (h:j<l.length),j<k→1≤l[j]∧l[j]≤n)∧(∀ j (h:j+1<l.length),j+1<k→l[j]<l[j+1])∧ah w w') (fun k=>l.length-k) (0) ⟨rfl,trivial⟩ ?_ ?_)))))))))))))))
 ·exact ⟨Nat.zero_le _,fun j _ h=>absurd h (by omega),fun j _ h=>absurd h (by omega),ah.rfl_⟩
 rintro k ρ1 w1 ⟨hk,h1,h2,hB⟩;refine ak (af (aa (cg rfl rfl) (ai (ag (ak (Bn rfl (fun Q2=>?_) (fun Q2=>?_)))))))
 ·have hkx:k<l.length:=by omega
  obtain ⟨ba,oa,rfl,hca⟩:=hr (by omega);refine aM (ag (ak (a_ (ak (af (mvi rfl (aa (dd c6 rfl rfl (by omega)) (aa (ar ao rfl (by exact fC hB (hca k hkx))) ?_))))))));refine asi rfl (asi rfl (ai (ag (ak (af (mvi rfl (mvi rfl (fq (v:=.int _ _) cj rfl rfl rfl ?_))))))));intro b16 w3 E16 hb16 hk16;refine az dH (eO 1 n (some ⟨b16,0,none⟩) 1 [l[k]] _ (gp hk16) (by simp)) ?_;rintro v17 w4 ⟨rfl,rfl⟩;refine aa (cn rfl) (mvb rfl (aJ (t:=19) rfl (fun Q5=>?_) (fun Q5=>?_)))
  ·replace Q5:=dF Q5;replace Q5:=dF_ Q5
   (try simp only [bp,bG,and_true] at Q5)
   refine bE rfl (ai (ag (aR rfl (ak (af (asb rfl (ai (ag (aC (bD (aE (aE (bD (aE (bw (v:=.bool _) rfl rfl (⟨congrArg Value.bool ?_,(hB.next E16)⟩))))))))))))))));rw [eq_comm,←Bool.not_eq_true,ij];rintro ⟨h3,h4⟩;have h5:=h3 _ (List.getElem_mem hkx)
   first
    |omega
    |(obtain ⟨j,rfl⟩:∃ j,k=j+1:=⟨k-1,by omega⟩
      have h6:=h4 j hkx
      (try simp only [Nat.add_sub_cancel] at*)
      omega)
  replace Q5:=dG Q5;replace Q5:=dT_ Q5
  (try simp only [bp,bG,and_true] at Q5)
  refine ae rfl (mvi rfl (ae rfl (aa (ch rfl rfl) (ae rfl (mvb rfl (AP (t:=22) rfl (fun Q6=>?_) (fun Q6=>?_)))))))
  ·refine ae rfl (mvs rfl (ae rfl (mvi rfl (ae rfl (aa (dM rfl rfl (by omega)) (dP (t:=25) (v:=.int _ _) (v':=.int .i64 ((k-1:Nat):Int)) rfl (by exact bM (by omega)) ?_))))));refine ae rfl (aa (dd c6 rfl rfl (by omega)) (ae rfl (aa (ar ao rfl (by exact fC (hB.next E16) (hca (k-1) (by omega)))) ?_)));refine ae rfl (mvi rfl (ae rfl (aa (lW rfl rfl) (ae rfl (aa (aG (v:=.bool _) rfl rfl) (aa (av (v:=.bool _) rfl rfl) (ai (ag (Bn rfl (fun Q7=>?_) (fun Q7=>?_))))))))))
   ·refine ak (af (asb rfl (ai (ag (aC (bD (aE (aE (bD (aE (bw (v:=.bool _) rfl rfl (⟨congrArg Value.bool ?_,(hB.next E16)⟩))))))))))));rw [eq_comm,←Bool.not_eq_true,ij];rintro ⟨h3,h4⟩;have h5:=h3 _ (List.getElem_mem hkx)
    first
     |omega
     |(obtain ⟨j,rfl⟩:∃ j,k=j+1:=⟨k-1,by omega⟩
       have h6:=h4 j hkx
       (try simp only [Nat.add_sub_cancel] at*)
       omega)
   refine aM (bN (ag (af (aa (dD (b:=1) rfl rfl (by omega)) (mvi rfl (ai ?_))))));refine bT (k+1) ⟨(by first | rfl | (refine bM ?_;omega)),trivial⟩ (by (iterate 56 refine bf rfl ?_);exact bB) ⟨?_,?_⟩
   ·refine ⟨by omega,fun j h hj=>?_,fun j h hj=>?_,(hB.next E16)⟩
    ·rcases Nat.lt_or_ge j k with e | e
     ·exact h1 j h e
     ·obtain rfl:j=k:=by omega
      omega
    ·rcases Nat.lt_or_ge (j+1) k with e | e
     ·exact h2 j h e
     ·obtain rfl:k=j+1:=by omega
      (try simp only [Nat.add_sub_cancel] at*)
      omega
   ·omega
  refine an rfl rfl (an rfl rfl (an rfl rfl (an rfl rfl (an rfl rfl (an rfl rfl (an rfl rfl (ae rfl (aa (av (v:=.bool _) rfl rfl) ?_))))))));refine aa (av (v:=.bool _) rfl rfl) (ai (ag (bA rfl (aM (bN (ag (af (aa (dD (b:=1) rfl rfl (by omega)) (mvi rfl (ai ?_))))))))));refine bT (k+1) ⟨(by first | rfl | (refine bM ?_;omega)),trivial⟩ (by (iterate 55 refine bf rfl ?_);exact bB) ⟨?_,?_⟩
  ·refine ⟨by omega,fun j h hj=>?_,fun j h hj=>?_,(hB.next E16)⟩
   ·rcases Nat.lt_or_ge j k with e | e
    ·exact h1 j h e
    ·obtain rfl:j=k:=by omega
     omega
   ·rcases Nat.lt_or_ge (j+1) k with e | e
    ·exact h2 j h e
    ·obtain rfl:k=j+1:=by omega
     (try simp only [Nat.add_sub_cancel] at*)
     omega
  ·omega
 refine cq (bg (bg (b_ (ag (ak (af (asb rfl (ai (ag (aC (bw (v:=.bool _) rfl rfl (⟨congrArg Value.bool ?_,hB⟩))))))))))));obtain rfl:k=l.length:=by omega
 rw [eq_comm,ij];exact ⟨fun x hx=>by obtain ⟨j,hj,rfl⟩:=List.getElem_of_mem hx;exact h1 j hj hj,fun j hj=>h2 j hj hj⟩
theorem cC {s:Rf} (h:s.role=2):lP s↔((s.next.length:Int)=s.nodes∧(s.mtch.length:Int)=s.nodes∧(s.sent.length:Int)=s.nodes∧s.reads.length≤32)∧(eQ 1 (bn s+1) s.next∧eQ 0 (bn s) s.mtch∧eQ 0 s.snap.size s.sent)∧(∀ q∈s.reads,g_ s q=true):=by unfold lP;rw [if_pos h]
theorem eb {s:Rf} (h:s.role≠2):lP s↔s.next.length+s.mtch.length+s.sent.length+s.reads.length=0:=by unfold lP;rw [if_neg h]
theorem eK {s:Rf} {q:Rd}:g_ s q=true↔(1≤q.id∧q.id≤1099511627776)∧(0≤q.ix∧q.ix≤s.commit)∧(0≤q.rn∧q.rn≤s.round)∧fE q.acks s.nodes=true:=by
 unfold g_ inb;simp only [Bool.and_eq_true,decide_eq_true_eq];constructor
 ·rintro ⟨⟨⟨h1,h2⟩,h3⟩,h4⟩;exact ⟨h1,h2,h3,h4⟩
 ·rintro ⟨h1,h2,h3,h4⟩;exact ⟨⟨⟨h1,h2⟩,h3⟩,h4⟩
theorem pT (s:Rf) (a:Ra) (w:World) (hrd:fo w s a) (hN:iX s) (hL:gI s) (hl:s.next.length≤1000000∧s.mtch.length≤1000000∧s.sent.length≤1000000∧s.reads.length≤1000000∧∀ q∈s.reads,q.acks.length≤1000000) :
 Rt prog 134 [.agg (rfV s a).toArray] w (fun v w'=>v=.bool (decide (lP s))∧ah w w'):=by
 obtain ⟨E,Ec,V,Vc,X,Xc,M,Mc,Sn,Sc,Q,Qc,LL⟩:=a;have hrL:LL.map (fun q=>q.1)=s.reads:=hrd.r;have hrk:∀ q∈LL,IR w q.2.1 q.2.2 q.1.acks:=hrd.k;obtain ⟨hl1,hl2,hl3,hl4,hl5⟩:=hl;have hbl:=dZ hL.1;have hlr:bn s=s.b+s.es.length:=hbl.1;have hrl:LL.length=s.reads.length:=by rw [←hrL,List.length_map]
 have hN0:=hN.1;refine enter (n:=122) Tryz.func134 rfl rfl rfl (ak (af (bZ (v:=.agg _) rfl ?_)));intro b1 w1 E1 hb1 hk1;refine asb rfl (ai (ag (ak (ak (af (aa (ab cZ rfl) (aa (ar ao rfl (by exact (hk1.from_ ah.rfl_).rd 2 rfl)) ?_)))))));refine aa (dp rfl rfl) (ai (ag (Bk rfl (fun Q2=>?_) (fun Q2=>?_))))
 ·refine ak (af (aa (ab cS rfl) (aa (ar bo rfl (by exact (show _=some (Value.slice X s.next.length Xc) from (hk1.from_ ah.rfl_).rd 15 rfl))) ?_)));refine aa (bF cp rfl) (aa (ab c_ rfl) (aa (ar bo rfl (by exact (show _=some (Value.slice M s.mtch.length Mc) from (hk1.from_ ah.rfl_).rd 16 rfl))) ?_));refine aa (bF cp rfl) (aa (dD rfl rfl (by omega)) (aa (ab df rfl) (aa (ar bo rfl (by exact (show _=some (Value.slice Sn s.sent.length Sc) from (hk1.from_ ah.rfl_).rd 17 rfl))) ?_)));refine aa (bF cp rfl) (aa (dD rfl rfl (by omega)) (aa (ab cl rfl) (aa (ar ea rfl (by exact (show _=some (Value.slice Q LL.length Qc) from (hk1.from_ ah.rfl_).rd 19 rfl))) ?_)));refine aa (bF fy rfl) (aa (dD rfl rfl (by omega)) (aa (bt rfl rfl) (asb rfl (ai (ag (aC (aE (bw (v:=.bool _) rfl rfl (⟨congrArg Value.bool ?_,(ah.rfl_.next E1)⟩)))))))));rw [Bool.eq_iff_iff,decide_eq_true_eq,eb (by omega),beq_iff_eq];omega
 refine aM (ag (ak (af (aa (ab bj rfl) (aa (ab ct rfl) (aa (ar ao rfl (by exact (hk1.from_ ah.rfl_).rd 6 rfl)) ?_))))));refine aa (ab bj rfl) (aa (ab cX rfl) (aa (ar bk rfl (by exact (hk1.from_ ah.rfl_).rd 8 rfl)) ?_));refine aa (bF bC rfl) (aa (bW rfl rfl (by omega)) (dP (t:=32) (v:=.int _ _) (v':=.int .i64 (bn s)) rfl (by exact bM hlr.symm) ?_));refine asi rfl (ai (ag (ak (ak (af (aa (ab cS rfl) (aa (ar bo rfl (by exact (show _=some (Value.slice X s.next.length Xc) from (hk1.from_ ah.rfl_).rd 15 rfl))) ?_)))))));refine aa (bF cp rfl) (aa (ab cf rfl) (aa (ar ao rfl (by exact (hk1.from_ ah.rfl_).rd 1 rfl)) ?_));refine aa (dp rfl rfl) (mvb rfl (AM (t:=39) rfl (fun Q3=>?_) (fun Q3=>?_)))
 ·refine bE rfl (ai (ag (aR rfl (ak (af (asb rfl (ai (ag (aC (aE (bw (v:=.bool _) rfl rfl (⟨congrArg Value.bool ?_,(ah.rfl_.next E1)⟩))))))))))));rw [eq_comm,decide_eq_false_iff_not];rw [cC (by omega)];rintro ⟨⟨g1,g2,g3,g4⟩,_⟩;omega
 refine ae rfl (aa (ab c_ rfl) (ae rfl (aa (ar bo rfl (by exact (show _=some (Value.slice M s.mtch.length Mc) from (hk1.from_ ah.rfl_).rd 16 rfl))) ?_)));refine ae rfl (aa (bF cp rfl) (ae rfl (aa (ab cf rfl) (ae rfl (aa (ar ao rfl (by exact (hk1.from_ ah.rfl_).rd 1 rfl)) ?_)))));refine ae rfl (aa (dp rfl rfl) (aa (av (v:=.bool _) rfl rfl) (mvb rfl (AM (t:=47) rfl (fun Q4=>?_) (fun Q4=>?_)))))
 ·refine bE rfl (ai (ag (aR rfl (ak (af (asb rfl (ai (ag (aC (aE (bw (v:=.bool _) rfl rfl (⟨congrArg Value.bool ?_,(ah.rfl_.next E1)⟩))))))))))));rw [eq_comm,decide_eq_false_iff_not];rw [cC (by omega)];rintro ⟨⟨g1,g2,g3,g4⟩,_⟩;omega
 refine ae rfl (aa (ab df rfl) (ae rfl (aa (ar bo rfl (by exact (show _=some (Value.slice Sn s.sent.length Sc) from (hk1.from_ ah.rfl_).rd 17 rfl))) ?_)));refine ae rfl (aa (bF cp rfl) (ae rfl (aa (ab cf rfl) (ae rfl (aa (ar ao rfl (by exact (hk1.from_ ah.rfl_).rd 1 rfl)) ?_)))));refine ae rfl (aa (dp rfl rfl) (aa (av (v:=.bool _) rfl rfl) (mvb rfl (AM (t:=55) rfl (fun Q5=>?_) (fun Q5=>?_)))))
 ·refine bE rfl (ai (ag (aR rfl (ak (af (asb rfl (ai (ag (aC (aE (bw (v:=.bool _) rfl rfl (⟨congrArg Value.bool ?_,(ah.rfl_.next E1)⟩))))))))))));rw [eq_comm,decide_eq_false_iff_not];rw [cC (by omega)];rintro ⟨⟨g1,g2,g3,g4⟩,_⟩;omega
 refine ae rfl (aa (ab cl rfl) (ae rfl (aa (ar ea rfl (by exact (show _=some (Value.slice Q LL.length Qc) from (hk1.from_ ah.rfl_).rd 19 rfl))) ?_)));refine ae rfl (aa (bF fy rfl) (ae rfl (aa (ch rfl rfl) (aa (av (v:=.bool _) rfl rfl) (ai (ag (Bn rfl (fun Q6=>?_) (fun Q6=>?_))))))))
 ·refine ak (af (asb rfl (ai (ag (aC (aE (bw (v:=.bool _) rfl rfl (⟨congrArg Value.bool ?_,(ah.rfl_.next E1)⟩))))))));rw [eq_comm,decide_eq_false_iff_not];rw [cC (by omega)];rintro ⟨⟨g1,g2,g3,g4⟩,_⟩;omega
 refine aM (ag (ak (ak (af (mvi rfl (aa (bW rfl rfl (by omega)) (aa (ab cS rfl) (aa (ar bo rfl (by exact (show _=some (Value.slice X s.next.length Xc) from (hk1.from_ ah.rfl_).rd 15 rfl))) ?_))))))));refine az dH (eO 1 (bn s+1) X Xc s.next _ (hrd.x.1.from_ (ah.rfl_.next E1)) hl1) ?_;rintro v65 w7 ⟨rfl,rfl⟩;refine aa (cn rfl) (mvb rfl (aJ (t:=67) rfl (fun Q8=>?_) (fun Q8=>?_)))
 ·with_reducible (replace Q8:=dF Q8;replace Q8:=dF_ Q8)
  (try simp only [bp,bG,and_true] at Q8)
  refine bE rfl (ai (ag (aR rfl (ak (af (asb rfl (ai (ag (aC (aE (bw (v:=.bool _) rfl rfl (⟨congrArg Value.bool ?_,(ah.rfl_.next E1)⟩))))))))))));rw [eq_comm,decide_eq_false_iff_not];rw [cC (by omega)];rintro ⟨_,⟨g1,g2,g3⟩,_⟩
  simp_all
 with_reducible (replace Q8:=dG Q8;replace Q8:=dT_ Q8)
 (try simp only [bp,bG,and_true] at Q8)
 refine ae rfl (mvi rfl (ae rfl (aa (ab c_ rfl) (ae rfl (aa (ar bo rfl (by exact (show _=some (Value.slice M s.mtch.length Mc) from (hk1.from_ ah.rfl_).rd 16 rfl))) ?_)))));refine ae rfl (az dH (eO 0 (bn s) M Mc s.mtch _ (hrd.m.1.from_ (ah.rfl_.next E1)) hl2) ?_);rintro v71 w9 ⟨rfl,rfl⟩;refine ae rfl (aa (cn rfl) (aa (av (v:=.bool _) rfl rfl) (mvb rfl (aJ (t:=74) rfl (fun Q10=>?_) (fun Q10=>?_)))))
 ·with_reducible (replace Q10:=dF Q10;replace Q10:=dF_ Q10)
  (try simp only [bp,bG,and_true] at Q10)
  refine bE rfl (ai (ag (aR rfl (ak (af (asb rfl (ai (ag (aC (aE (bw (v:=.bool _) rfl rfl (⟨congrArg Value.bool ?_,(ah.rfl_.next E1)⟩))))))))))));rw [eq_comm,decide_eq_false_iff_not];rw [cC (by omega)];rintro ⟨_,⟨g1,g2,g3⟩,_⟩
  simp_all
 with_reducible (replace Q10:=dG Q10;replace Q10:=dT_ Q10)
 (try simp only [bp,bG,and_true] at Q10)
 refine ae rfl (aa (ab dY rfl) (ae rfl (aa (ar dc rfl (by exact (hk1.from_ ah.rfl_).rd 9 rfl)) ?_)));refine ae rfl (aa (f_ (by kernel_rfl) rfl) (ae rfl (aa (ab df rfl) (ae rfl (aa (ar bo rfl (by exact (show _=some (Value.slice Sn s.sent.length Sc) from (hk1.from_ ah.rfl_).rd 17 rfl))) ?_)))));refine ae rfl (az dH (eO 0 (s.snap.size:Nat) Sn Sc s.sent _ (hrd.n.1.from_ (ah.rfl_.next E1)) hl3) ?_);rintro v80 w11 ⟨rfl,rfl⟩;refine ae rfl (aa (cn rfl) (aa (av (v:=.bool _) rfl rfl) (ai (ag (aQ rfl (fun Q12=>?_) (fun Q12=>?_))))))
 ·with_reducible (replace Q12:=dF Q12;replace Q12:=dF_ Q12)
  refine ak (af (asb rfl (ai (ag (aC (aE (bw (v:=.bool _) rfl rfl (⟨congrArg Value.bool ?_,(ah.rfl_.next E1)⟩))))))));rw [eq_comm,decide_eq_false_iff_not];rw [cC (by omega)];rintro ⟨_,⟨g1,g2,g3⟩,_⟩
  simp_all
 with_reducible (replace Q12:=dG Q12;replace Q12:=dT_ Q12)
 refine aM (ag (ak (ak (af (aa (ab cl rfl) (aa (ar ea rfl (by exact (show _=some (Value.slice Q LL.length Qc) from (hk1.from_ ah.rfl_).rd 19 rfl))) ?_))))));refine aa (bF fy rfl) (mvi rfl (ai (ag (a_ (cY (G:=Nat) [2,5,87,88,89,90,91,92,93,94,95,96,97,98,99,100,101,102,103,104,105,106,107,108,109,110,111,112,113,114,115,116,117,118,119,120,121] (fun k=>[(86,.int .i64 (k:Nat))]) (fun k w'=>k≤LL.length∧(∀ j (h:j<LL.length),j<k→g_ s LL[j].1=true)∧Blk w' b1 29 (rfV s (⟨E,Ec,V,Vc,X,Xc,M,Mc,Sn,Sc,Q,Qc,LL⟩:Ra)).toArray∧ah w w') (fun k=>LL.length-k) (0) ⟨rfl,trivial⟩ ?_ ?_)))))
 ·exact ⟨Nat.zero_le _,fun j _ h=>absurd h (by omega),hk1.from_ ah.rfl_,(ah.rfl_.next E1)⟩
 rintro k ρ13 w13 ⟨hk,h1,hk1,hB⟩;refine ak (af (aa (cg rfl rfl) (ai (ag (ak (Bn rfl (fun Q14=>?_) (fun Q14=>?_)))))))
 ·have hkL:k<LL.length:=by omega
  have hqm:LL[k].1∈s.reads:=by rw [←hrL];exact List.mem_map_of_mem (List.getElem_mem hkL)
  obtain ⟨ba,oa,rfl,hcs⟩:∃ b o,Q=some ⟨b,o,none⟩∧∀ i (hi:i<LL.length),w.rangeAt b (o+i*4) (rdV LL[i]):=hrd.q (by show 0<LL.length;omega);refine aM (ag (ak (a_ (ak (af (aa (bq gD rfl rfl (by omega)) (aa (aD (cs:=rdV LL[k]) iK fG rfl (dT hB (hcs k hkL))) (bQ jR ?_))))))));intro b5 w15 E5 hb5 hk5;have hg5:w.heap.size≤b5:=by rw [hb5];exact (hB).size
  have hk1L:=hk1.from_ (ah.rfl_.next E5);have hn5:b1≠b5:=by have:=hk1.lt;have:=((ah.rfl_.next E5)).size;omega
  refine bK (vs:=[_,_,_,_]) fG rfl rfl (by simp [Value.oneCell']) (hk5) rfl ?_;intro w16 O10 P10;replace hk1:=hk1L.only O10 hn5;refine ai (ag (ak (af (aa (ab jD rfl) (aa (ar ao rfl (by exact (show _=some (Value.int .i64 LL[k].1.id) from (P10.from_ ah.rfl_).rd 0 rfl))) ?_)))));refine fq (v:=.int _ _) cj rfl rfl rfl ?_;intro b92 w17 E92 hb92 hk92;refine az dH (eO 1 1099511627776 (some ⟨b92,0,none⟩) 1 [LL[k].1.id] _ (gp hk92) (by simp)) ?_;rintro v93 w18 ⟨rfl,rfl⟩;refine aa (cn rfl) (mvb rfl (aJ (t:=95) rfl (fun Q19=>?_) (fun Q19=>?_)))
  ·with_reducible (replace Q19:=dF Q19;replace Q19:=dF_ Q19)
   (try simp only [bp,bG,and_true] at Q19)
   refine bE rfl (ai (ag (aR rfl (ak (af (asb rfl (ai (ag (aC (bD (aE (aE (bD (aE (bw (v:=.bool _) rfl rfl (⟨congrArg Value.bool ?_,(((hB.next E5).only O10 (hg5)).next E92)⟩))))))))))))))));rw [eq_comm,decide_eq_false_iff_not];rw [cC (by omega)];rintro ⟨_,_,g⟩;have g5:=eK.1 (g _ hqm)
   first
    |omega
    |simp_all
  with_reducible (replace Q19:=dG Q19;replace Q19:=dT_ Q19)
  (try simp only [bp,bG,and_true] at Q19)
  refine ae rfl (aa (ab cQ rfl) (ae rfl (aa (ar ao rfl (by exact (hk1.from_ (ah.rfl_.next E92)).rd 10 rfl)) ?_)));refine ae rfl (aa (ab jC rfl) (ae rfl (aa (ar ao rfl (by exact (show _=some (Value.int .i64 LL[k].1.ix) from (P10.from_ (ah.rfl_.next E92)).rd 1 rfl))) ?_)));refine ae rfl (fq (v:=.int _ _) cj rfl rfl rfl ?_);intro b100 w20 E100 hb100 hk100;refine ae rfl (az dH (eO 0 s.commit (some ⟨b100,0,none⟩) 1 [LL[k].1.ix] _ (gp hk100) (by simp)) ?_);rintro v101 w21 ⟨rfl,rfl⟩;refine ae rfl (aa (cn rfl) (aa (av (v:=.bool _) rfl rfl) (mvb rfl (aJ (t:=104) rfl (fun Q22=>?_) (fun Q22=>?_)))))
  ·with_reducible (replace Q22:=dF Q22;replace Q22:=dF_ Q22)
   (try simp only [bp,bG,and_true] at Q22)
   refine bE rfl (ai (ag (aR rfl (ak (af (asb rfl (ai (ag (aC (bD (aE (aE (bD (aE (bw (v:=.bool _) rfl rfl (⟨congrArg Value.bool ?_,((((hB.next E5).only O10 (hg5)).next E92).next E100)⟩))))))))))))))));rw [eq_comm,decide_eq_false_iff_not];rw [cC (by omega)];rintro ⟨_,_,g⟩;have g5:=eK.1 (g _ hqm)
   first
    |omega
    |simp_all
  with_reducible (replace Q22:=dG Q22;replace Q22:=dT_ Q22)
  (try simp only [bp,bG,and_true] at Q22)
  refine ae rfl (aa (ab dW rfl) (ae rfl (aa (ar ao rfl (by exact (hk1.from_ ((ah.rfl_.next E92).next E100)).rd 18 rfl)) ?_)));refine ae rfl (aa (ab jB rfl) (ae rfl (aa (ar ao rfl (by exact (show _=some (Value.int .i64 LL[k].1.rn) from (P10.from_ ((ah.rfl_.next E92).next E100)).rd 2 rfl))) ?_)));refine ae rfl (fq (v:=.int _ _) cj rfl rfl rfl ?_);intro b109 w23 E109 hb109 hk109;refine ae rfl (az dH (eO 0 s.round (some ⟨b109,0,none⟩) 1 [LL[k].1.rn] _ (gp hk109) (by simp)) ?_);rintro v110 w24 ⟨rfl,rfl⟩;refine ae rfl (aa (cn rfl) (aa (av (v:=.bool _) rfl rfl) (mvb rfl (aJ (t:=113) rfl (fun Q25=>?_) (fun Q25=>?_)))))
  ·with_reducible (replace Q25:=dF Q25;replace Q25:=dF_ Q25)
   (try simp only [bp,bG,and_true] at Q25)
   refine bE rfl (ai (ag (aR rfl (ak (af (asb rfl (ai (ag (aC (bD (aE (aE (bD (aE (bw (v:=.bool _) rfl rfl (⟨congrArg Value.bool ?_,(((((hB.next E5).only O10 (hg5)).next E92).next E100).next E109)⟩))))))))))))))));rw [eq_comm,decide_eq_false_iff_not];rw [cC (by omega)];rintro ⟨_,_,g⟩;have g5:=eK.1 (g _ hqm)
   first
    |omega
    |simp_all
  with_reducible (replace Q25:=dG Q25;replace Q25:=dT_ Q25)
  (try simp only [bp,bG,and_true] at Q25)
  refine ae rfl (aa (ab fB rfl) (ae rfl (aa (ar bo rfl (by exact (show _=some (Value.slice LL[k].2.1 LL[k].1.acks.length LL[k].2.2) from (P10.from_ (((ah.rfl_.next E92).next E100).next E109)).rd 3 rfl))) ?_)));refine ae rfl (aa (ab cf rfl) (ae rfl (aa (ar ao rfl (by exact (hk1.from_ (((ah.rfl_.next E92).next E100).next E109)).rd 1 rfl)) ?_)));refine ae rfl (az mQ (qm LL[k].2.1 LL[k].2.2 LL[k].1.acks s.nodes _ ((hrk _ (List.getElem_mem hkL)).1.from_ (((((hB.next E5).only O10 (hg5)).next E92).next E100).next E109)) (hl5 _ hqm)) ?_);rintro v118 w26 ⟨rfl,E118⟩;refine ae rfl (aa (cn rfl) (aa (av (v:=.bool _) rfl rfl) (ai (ag (Bl rfl (fun Q27=>?_) (fun Q27=>?_))))))
  ·refine ak (af (asb rfl (ai (ag (aC (bD (aE (aE (bD (aE (bw (v:=.bool _) rfl rfl (⟨congrArg Value.bool ?_,((((((hB.next E5).only O10 (hg5)).next E92).next E100).next E109).next E118)⟩))))))))))));rw [eq_comm,decide_eq_false_iff_not];rw [cC (by omega)];rintro ⟨_,_,g⟩;have g5:=eK.1 (g _ hqm)
   first
    |omega
    |simp_all
  refine aM (bN (ag (af (aa (bW rfl rfl (by omega)) (mvi rfl (ai ?_))))));refine bT (k+1) ⟨(by first | rfl | (refine bM ?_;omega)),trivial⟩ (by (iterate 78 refine bf rfl ?_);exact bB) ⟨?_,?_⟩
  ·refine ⟨by omega,fun j h hj=>?_,hk1.from_ ((((ah.rfl_.next E92).next E100).next E109).next E118),((((((hB.next E5).only O10 (hg5)).next E92).next E100).next E109).next E118)⟩;rcases Nat.lt_or_ge j k with e | e
   ·exact h1 j h e
   ·obtain rfl:j=k:=by omega
    rw [eK];exact ⟨by omega,by omega,by omega,by first | assumption | simp_all⟩
  ·omega
 refine cq (bg (bg (b_ (ag (ak (af (asb rfl (ai (ag (aC (bw (v:=.bool _) rfl rfl (⟨congrArg Value.bool ?_,hB⟩))))))))))));rw [eq_comm,decide_eq_true_eq];rw [cC (by omega)];refine ⟨⟨by omega,by omega,by omega,by omega⟩,⟨?_,?_,?_⟩,fun q hq=>?_⟩
 ·simp_all
 ·simp_all
 ·simp_all
 ·rw [←hrL] at hq;obtain ⟨y,hy,rfl⟩:=List.mem_map.1 hq;obtain ⟨i,hi,rfl⟩:=List.getElem_of_mem hy;exact h1 i hi (by omega)
theorem cd {s:Rf}:iB s=true↔iX s∧gI s∧fE s.votes s.nodes=true∧lP s∧ic s:=by
 constructor
 ·intro h;have F:=nq h;have hl:=F.last;refine ⟨⟨F.n,F.i,F.ro,⟨F.vo,F.le⟩,F.te,F.el,F.ti,F.rn⟩,⟨F.lg,F.lt,F.co,F.sn,?_⟩,F.vs,?_,⟨F.pa,F.po,?_⟩⟩
  ·have:=F.sb;omega
  ·by_cases hr:s.role=2
   ·rw [cC hr];have hx:=F.nx;have hm:=F.ma;have hs:=F.se;rw [jN hr] at hx hm hs;have:=F.n;exact ⟨⟨by omega,by omega,by omega,F.rl⟩,⟨hx.2,hm.2,hs.2⟩,F.rd⟩
   ·rw [eb hr];obtain ⟨e1,e2,e3,e4⟩:=F.free hr;rw [e1,e2,e3,e4];rfl
  ·have:=F.pp;have:=F.po;omega
 ·rintro ⟨⟨n,i,ro,⟨vo,le⟩,te,el,ti,rn⟩,⟨lg,lt,co,sn,sb⟩,vs,ls,⟨pa,po,pp⟩⟩;have hbl:=dZ lg
  have key:(s.next.length=gy s∧∀ x∈s.next,1≤x∧x≤bn s+1)∧(s.mtch.length=gy s∧∀ x∈s.mtch,0≤x∧x≤bn s)∧(s.sent.length=gy s∧∀ x∈s.sent,0≤x∧x≤(s.snap.size:Int))∧s.reads.length≤32∧(gy s≠0∨s.reads.length=0)∧∀ q∈s.reads,g_ s q=true:=by
   by_cases hr:s.role=2
   ·rw [cC hr] at ls;obtain ⟨⟨l1,l2,l3,l4⟩,⟨g1,g2,g3⟩,g4⟩:=ls;rw [jN hr];exact ⟨⟨by omega,g1⟩,⟨by omega,g2⟩,⟨by omega,g3⟩,l4,.inl (by omega),g4⟩
   ·rw [eb hr] at ls;rw [oF hr];have e1:s.next=[]:=List.eq_nil_of_length_eq_zero (by omega);have e2:s.mtch=[]:=List.eq_nil_of_length_eq_zero (by omega);have e3:s.sent=[]:=List.eq_nil_of_length_eq_zero (by omega);have e4:s.reads=[]:=List.eq_nil_of_length_eq_zero (by omega);rw [e1,e2,e3,e4];exact ⟨⟨rfl,fun x hx=>by cases hx⟩,⟨rfl,fun x hx=>by cases hx⟩,⟨rfl,fun x hx=>by cases hx⟩,by decide,.inr rfl,fun x hx=>by cases hx⟩
  obtain ⟨k1,k2,k3,k4,k5,k6⟩:=key;unfold iB eT qB;simp only [Bool.and_eq_true,Bool.or_eq_true,decide_eq_true_eq,List.all_eq_true];exact ⟨⟨⟨⟨⟨⟨⟨⟨⟨⟨⟨⟨⟨⟨⟨⟨⟨⟨⟨⟨⟨⟨⟨⟨n.1,n.2⟩,eu i⟩,eu ro⟩,eu te⟩,eu vo⟩,eu le⟩,lg⟩,sn⟩,by omega⟩,eu el⟩,eu ti⟩,eu rn⟩,vs⟩,lt⟩,eu co⟩,pa⟩,eu po⟩,by omega⟩,k1⟩,k2⟩,k3⟩,k4⟩,k5⟩,k6⟩
theorem sF (s:Rf) (a:Ra) (w:World) (hrd:fo w s a) (hl:s.votes.length≤1000000∧s.next.length≤1000000∧s.mtch.length≤1000000∧s.sent.length≤1000000∧s.reads.length≤1000000∧∀ q∈s.reads,q.acks.length≤1000000) :
 Rt prog 95 [.agg (rfV s a).toArray] w (fun v w'=>v=.int .i64 (if iB s=true then 0 else 1)∧ah w w'):=by
 refine enter (n:=29) Tryz.func95 rfl rfl rfl (ak (af (bZ (v:=.agg _) rfl ?_)));intro b1 w1 E1 hb1 hk1;refine asi rfl (ai (ag (ak (ak (af (aa (aD (cs:=rfV s a) aP aF rfl ((hk1.from_ ah.rfl_).whole)) (az rF (oi s a _) ?_)))))));rintro v4 w2 ⟨rfl,E4⟩;refine aa (cn rfl) (mvb rfl (aJ (t:=6) rfl (fun Q3=>?_) (fun Q3=>?_)))
 ·replace Q3:=dF Q3;replace Q3:=dF_ Q3;have hNn:¬ iX s:=by first | exact Q3 | simpa using Q3
  refine bE rfl (ai (ag (aR rfl (ak (af (asi rfl (ai (ag (aC (aE (bw (v:=.int _ _) rfl rfl (⟨bM (by rw [if_neg (fun h=>by obtain ⟨g1,g2,g3,g4,g5⟩:=cd.1 h;first | exact hNn g1 | exact hLn g2 | exact hVn g3 | exact hSn g4 | exact hPn g5)]),((ah.rfl_.next E1).next E4)⟩))))))))))))
 replace Q3:=dG Q3;replace Q3:=dT_ Q3;have hN:iX s:=by first | exact Q3 | simpa using Q3
 refine ae rfl (aa (aD (cs:=rfV s a) aP aF rfl ((hk1.from_ (ah.rfl_.next E4)).whole)) (ae rfl (az rE (rO s a _ (hrd.e.from_ ((ah.rfl_.next E1).next E4))) ?_)));rintro v8 w4 ⟨rfl,E8⟩;refine ae rfl (aa (cn rfl) (aa (av (v:=.bool _) rfl rfl) (mvb rfl (aJ (t:=11) rfl (fun Q5=>?_) (fun Q5=>?_)))))
 ·replace Q5:=dF Q5;replace Q5:=dF_ Q5;have hLn:¬ gI s:=by first | exact Q5 | simpa using Q5
  refine bE rfl (ai (ag (aR rfl (ak (af (asi rfl (ai (ag (aC (aE (bw (v:=.int _ _) rfl rfl (⟨bM (by rw [if_neg (fun h=>by obtain ⟨g1,g2,g3,g4,g5⟩:=cd.1 h;first | exact hNn g1 | exact hLn g2 | exact hVn g3 | exact hSn g4 | exact hPn g5)]),(((ah.rfl_.next E1).next E4).next E8)⟩))))))))))))
 replace Q5:=dG Q5;replace Q5:=dT_ Q5;have hL:gI s:=by first | exact Q5 | simpa using Q5
 refine ae rfl (aa (ab de rfl) (ae rfl (aa (ar bo rfl (by exact (show _=some (Value.slice a.V s.votes.length a.Vc) from (hk1.from_ ((ah.rfl_.next E4).next E8)).rd 14 rfl))) ?_)));refine ae rfl (aa (ab cf rfl) (ae rfl (aa (ar ao rfl (by exact (hk1.from_ ((ah.rfl_.next E4).next E8)).rd 1 rfl)) ?_)));refine ae rfl (az mQ (qm a.V a.Vc s.votes s.nodes _ (hrd.v.1.from_ (((ah.rfl_.next E1).next E4).next E8)) hl.1) ?_);rintro v16 w6 ⟨rfl,E16⟩;refine ae rfl (aa (cn rfl) (aa (av (v:=.bool _) rfl rfl) (mvb rfl (AN (t:=19) rfl (fun Q7=>?_) (fun Q7=>?_)))))
 ·have hVn:¬ fE s.votes s.nodes=true:=by first | exact Q7 | simpa using Q7
  refine bE rfl (ai (ag (aR rfl (ak (af (asi rfl (ai (ag (aC (aE (bw (v:=.int _ _) rfl rfl (⟨bM (by rw [if_neg (fun h=>by obtain ⟨g1,g2,g3,g4,g5⟩:=cd.1 h;first | exact hNn g1 | exact hLn g2 | exact hVn g3 | exact hSn g4 | exact hPn g5)]),((((ah.rfl_.next E1).next E4).next E8).next E16)⟩))))))))))))
 have hV:fE s.votes s.nodes=true:=by first | exact Q7 | simpa using Q7
 refine ae rfl (aa (aD (cs:=rfV s a) aP aF rfl ((hk1.from_ (((ah.rfl_.next E4).next E8).next E16)).whole)) (ae rfl (az rD (pT s a _ (hrd.from_ ((((ah.rfl_.next E1).next E4).next E8).next E16)) hN hL hl.2) ?_)));rintro v21 w8 ⟨rfl,E21⟩;refine ae rfl (aa (cn rfl) (aa (av (v:=.bool _) rfl rfl) (mvb rfl (aJ (t:=24) rfl (fun Q9=>?_) (fun Q9=>?_)))))
 ·replace Q9:=dF Q9;replace Q9:=dF_ Q9;have hSn:¬ lP s:=by first | exact Q9 | simpa using Q9
  refine bE rfl (ai (ag (aR rfl (ak (af (asi rfl (ai (ag (aC (aE (bw (v:=.int _ _) rfl rfl (⟨bM (by rw [if_neg (fun h=>by obtain ⟨g1,g2,g3,g4,g5⟩:=cd.1 h;first | exact hNn g1 | exact hLn g2 | exact hVn g3 | exact hSn g4 | exact hPn g5)]),(((((ah.rfl_.next E1).next E4).next E8).next E16).next E21)⟩))))))))))))
 replace Q9:=dG Q9;replace Q9:=dT_ Q9;have hS:lP s:=by first | exact Q9 | simpa using Q9
 refine ae rfl (aa (aD (cs:=rfV s a) aP aF rfl ((hk1.from_ ((((ah.rfl_.next E4).next E8).next E16).next E21)).whole)) (ae rfl (az rC (qL s a _) ?_)));rintro v26 w10 ⟨rfl,E26⟩;refine ae rfl (aa (cn rfl) (aa (av (v:=.bool _) rfl rfl) (ai (ag (aQ rfl (fun Q11=>?_) (fun Q11=>?_))))))
 ·replace Q11:=dF Q11;replace Q11:=dF_ Q11;have hPn:¬ ic s:=by first | exact Q11 | simpa using Q11
  refine ak (af (asi rfl (ai (ag (aC (aE (bw (v:=.int _ _) rfl rfl (⟨bM (by rw [if_neg (fun h=>by obtain ⟨g1,g2,g3,g4,g5⟩:=cd.1 h;first | exact hNn g1 | exact hLn g2 | exact hVn g3 | exact hSn g4 | exact hPn g5)]),((((((ah.rfl_.next E1).next E4).next E8).next E16).next E21).next E26)⟩))))))))
 replace Q11:=dG Q11;replace Q11:=dT_ Q11;have hP:ic s:=by first | exact Q11 | simpa using Q11
 refine aM (ag (ak (af (asi rfl (ai (ag (aC (bw (v:=.int _ _) rfl rfl (⟨bM (by rw [if_pos (cd.2 ⟨hN,hL,hV,hS,hP⟩)]),((((((ah.rfl_.next E1).next E4).next E8).next E16).next E21).next E26)⟩)))))))))
end Go.Proofs.YtkpooenofjdpmaaGreat
