/- The law RpcGreat: the greatest messages are read again, beyond they are refused. -/
import Derived.Test.YtmaaljhcojcjhaaDoorSlRpcGreat3

set_option maxRecDepth 100000
set_option maxHeartbeats 4000000
namespace Go.Proofs.YtmaaljhcojcjhaaDoor
open Go.Proofs.Tryd (prog)
open Go.RowKit
open Go.ChangeShapes Go.WideShapes Go.ChangeAt
theorem ml:aJ prog 24=true:=by kernel_rfl
def zB (m:Nat):ByteArray:=br (List.replicate m 0)
theorem g5 (m:Nat):(zB m).size=m:=by unfold zB;rw [dk,List.length_replicate]
theorem mo (m:Nat):aH (List.replicate m 0)=List.replicate m (.int .u8 0):=by simp [aH]
def gL (s:Nat):Nat→List Ent
 |0=>[]
 |k+1=>⟨1099511627760+(s:Int),1099511627775,zB (100*(s+1))⟩::gL (s+1) k
theorem fy (k:Nat):∀ s,(gL s k).length=k:=by
 induction k with
 |zero=>intro s;rfl
 |succ k ih=>intro s;simp [gL,ih]
theorem nX (k:Nat):∀ s,gL s (k+1)=gL s k++[⟨1099511627760+((s+k:Nat):Int),1099511627775,zB (100*(s+k+1))⟩]:=by
 induction k with
 |zero=>intro s;rfl
 |succ k ih=>
  intro s;rw [gL,ih (s+1),gL,List.cons_append,show s+1+k=s+(k+1) by omega]
theorem nY (k:Nat):∀ s,s+k≤16→cq (gL s k) (1099511627759+(s:Int)) 1099511627775=true:=by
 induction k with
 |zero=>intro s _;rfl
 |succ k ih=>
  intro s h;have h1:=ih (s+1) (by omega);rw [show (1099511627759+((s+1:Nat):Int))=1099511627759+(s:Int)+1 by omega] at h1;simp only [gL,cq,gO,inb,g5,h1,Bool.and_true,Bool.and_eq_true,decide_eq_true_eq];omega
theorem okM:OkR 3 7 1 1099511627775 1099511627759 1099511627775 1099511627775 1099511627775 false (gL 0 16) 0 ⟨#[]⟩ false:=by
 refine ⟨by unfold ga;omega,?_,fun _=>⟨by rw [fy];omega,nY 16 0 (by omega)⟩,fun h=>by omega⟩;unfold ExR;rw [if_neg (by omega),if_neg (by omega),if_pos rfl];exact ⟨rfl,rfl,rfl,rfl⟩
theorem okS:OkR 5 1 7 1099511627775 1099511625728 1099511627775 0 1099511627775 false [] 524288 (zB 1024) true:=by
 refine ⟨by unfold ga;omega,?_,fun h=>by omega,fun _=>⟨by omega,by omega,by rw [g5];omega⟩⟩;unfold ExR;rw [if_neg (by omega),if_neg (by omega),if_neg (by omega),if_neg (by omega),if_pos rfl];exact ⟨rfl,rfl,rfl⟩
theorem noM (e:Ent):¬ OkR 3 7 1 1099511627775 1099511627759 1099511627775 1099511627775 1099511627775 false (gL 0 16++[e]) 0 ⟨#[]⟩ false:=fun h=>by
 have h1:=(h.2.2.1 rfl).1;rw [List.length_append,fy,List.length_singleton] at h1;omega
theorem noI:¬ OkR 5 1 7 1099511627775 1099511625729 1099511627775 0 1099511627775 false [] 524288 (zB 1024) true:=fun h=>by
 have h1:=(h.2.2.2 rfl).1;omega
theorem noD (x:ByteArray) (hx:0<x.size):¬ OkR 5 1 7 1099511627775 1099511625728 1099511627775 0 1099511627775 false [] 524288 (zB 1024++x) true:=fun h=>by
 have h1:=(h.2.2.2 rfl).2.2;rw [ByteArray.size_append,g5] at h1;omega
theorem noA:¬ OkR 5 1 7 1099511627775 1099511625728 1099511627775 0 1099511627775 false [] 524289 (zB 1024) true:=fun h=>by
 have h1:=(h.2.2.2 rfl).2.1;omega
theorem nG {P:Program} {ρ:Operand→Value} {w:World} {t yt:TypeId} {x y:Operand} {a b:ByteArray} (hx:ρ x=.string a) (hy:ρ y=.string b) (h:a.size+b.size≤9223372036854775807):RO P ρ (.binOp .add t x y yt) w (.string (a++b)) w:=
 gj hx hy (by unfold eqGuard;rfl) (by rw [binOp_string_add];exact run_string_add_sum w a b h)
theorem mJ {P:Program} {ρ:Operand→Value} {w:World} {t:TypeId} {x y:Operand} {e by_ m:Nat} {z:Value} {kl kc:IntKind} (ht:ks P t=some (e,by_,z)) (hz:z.cells=#[z]) (hx:ρ x=.int kl (m:Nat)) (hy:ρ y=.int kc (m:Nat)) (hm:m≤9007199254740992) (hb:by_*m≤281474976710656) :
 ∃ w',RO P ρ (.makeSlice t x y) w (.slice (some ⟨w.heap.size,0,none⟩) m m) w'∧af w w'∧Blk w' w.heap.size e (List.replicate m z).toArray:=by
 unfold ks at ht;split at ht
 ·rename_i e' hu;cases hi:P.info? e' with
  |none=>simp [hi] at ht
  |some i=>
   rw [hi] at ht;simp only [Option.bind_some] at ht;split at ht
   ·rename_i hs;cases hzz:i.zero with
    |none=>simp [hzz] at ht
    |some z'=>
     simp only [hzz,Option.map_some,Option.some.injEq,Prod.mk.injEq] at ht;obtain ⟨rfl,rfl,rfl⟩:=ht
     have hr:=run_make (P:=P) w t e' i z' hu hi hzz kl kc (m:Int) (m:Int) (by omega) (by omega) (by
      have:((i.bytes*m:Nat):Int)≤281474976710656:=by omega
      rwa [Int.natCast_mul] at this) (by omega)
     have hcells:madeCells z'.cells ((m:Int).toNat*i.size)=(List.replicate m z').toArray:=by
      rw [hs,Int.toNat_natCast,Nat.mul_one,hz];apply Array.ext_getElem?;intro j;simp only [madeCells,Array.getElem?_map];by_cases hj:j<m
      ·simp [hj,Nat.mod_one]
      ·simp [hj]
     rw [hcells,Int.toNat_natCast] at hr;refine ⟨w.alloc (.cells (List.replicate m z').toArray e'),fun _ _ _ _ _=>by simp [execOp,hx,hy,hr],af.rfl_.new _,?_⟩;exact Blk.new _ _ _
   ·cases ht
 ·cases ht
theorem fX (k f t tm ix lt cm rd:Int) (ok:Bool) (E:Option Addr) (n c:Nat) (a:Int) (d:ByteArray) (dn:Bool) (w:World) (es:List Ent) (hn:n=es.length) (he:aV w (.slice E n c) es) (hl:es.length≤400000000000) (ho:¬ OkR k f t tm ix lt cm rd ok es a d dn) :
 Rt prog 8 [.agg #[.int .i64 k,.int .i64 f,.int .i64 t,.int .i64 tm,.int .i64 ix,.int .i64 lt,.int .i64 cm,.int .i64 rd,.bool ok,.slice E n c,.int .i64 a,.string d,.bool dn]] w fun v w'=>v=.int .i64 1∧af w w':=
 (jT k f t tm ix lt cm rd ok E n c a d dn w es hn he hl).mono fun v w' h=>⟨by rw [h.1,if_neg ho],h.2⟩
theorem nh (v:Value) (xs:List Ent) (w:World) (h:aV w v xs) (hl:xs.length≤400000000000):Rt prog 24 [v] w fun v' w'=>(∃ A' c',v'=.slice A' xs.length c'∧w'.ownsRow w.heap.size 28 3 (.slice A' xs.length c') xs.length (bw xs))∧af w w':=
 Calls.mono (gX v xs w h hl) fun e w' ⟨v',he,ho,hF⟩=>by
  refine ⟨v',he,?_,hF⟩;rcases ho.2 with ⟨rfl,h0⟩ | ⟨g,cap,cur,rfl,_⟩
  ·exact ⟨none,0,by rw [h0],by rw [h0] at ho ⊢;exact ho⟩
  ·exact ⟨_,_,rfl,ho⟩
theorem fW (k f t tm ix lt cm rd:Int) (ok:Bool) (E:Option Addr) (n c:Nat) (a:Int) (d:ByteArray) (dn:Bool) (es:List Ent) (w:World) (_:n=es.length) (he:aV w (.slice E n c) es) (hl:es.length≤400000000000) :
 Rt prog 9 [.agg #[.int .i64 k,.int .i64 f,.int .i64 t,.int .i64 tm,.int .i64 ix,.int .i64 lt,.int .i64 cm,.int .i64 rd,.bool ok,.slice E n c,.int .i64 a,.string d,.bool dn]] w (fun v w'=>(∃ A' c',v=.agg #[.int .i64 k,.int .i64 f,.int .i64 t,.int .i64 tm,.int .i64 ix,.int .i64 lt,.int .i64 cm,.int .i64 rd,.bool ok,.slice A' es.length c',.int .i64 a,.string d,.bool dn]∧w'.ownsRow w.heap.size 28 3 (.slice A' es.length c') es.length (bw es))∧af w w'):=by
 refine enter (n:=10) Tryd.func9 rfl rfl rfl (an (ah (ee (v:=.agg _) rfl ?_)));intro b1 w1 E1 hb1 hk1;refine bF a_ ?_;intro b2 w2 E2 hb2 hk2;have hg2:w.heap.size≤b2:=by rw [hb2];exact ((af.rfl_.next E1)).size
 replace hk1:=hk1.from_ E2;refine ak (ag (an (ah (aa (aD (cs:=[_,_,_,_,_,_,_,_,_,_,_,_,_]) ax aq rfl (by exact hk1.whole)) ?_))));refine bF a_ ?_;intro b3 w3 E3 hb3 hk3;have hg3:w.heap.size≤b3:=by rw [hb3];exact (((af.rfl_.next E1).next E2)).size
 have h23:b2≠b3:=by have:=hk2.lt;omega
 have h13:b1≠b3:=by have:=hk1.lt;omega
 replace hk1:=hk1.from_ E3;replace hk2:=hk2.from_ E3;refine aM (vs:=[_,_,_,_,_,_,_,_,_,_,_,_,_]) aq rfl rfl (by simp [Value.oneCell']) (hk3) rfl ?_;intro w4 O1 P1;replace hk1:=hk1.only O1 h13;replace hk2:=hk2.only O1 h23;have hz1:=(((((af.rfl_.next E1).next E2).next E3).only O1 (hg3))).size;refine ak (ag (an (ah (aa (aj bc rfl) (aa (av cn rfl (by exact hk1.rd 9 rfl)) ?_)))));refine aC ml (nh _ es _ (he.from_ ((((af.rfl_.next E1).next E2).next E3).only O1 (hg3))) hl) ?_;rintro v7 w5 ⟨⟨A7,c7,rfl,ho7⟩,E7⟩;refine aa (aj bc rfl) (bD (v:=.slice _ _ _) dT rfl rfl rfl ((P1.from_ (af.rfl_.next E7))) (by simp) ?_);intro w6 O2 P2;replace hk2:=(hk2.from_ E7).only O2 h23;replace ho7:=aW ho7 O2 (aP ho7 (P1.from_ E7) (by decide));refine ak (ag (an (ah (aa (aD (cs:=[_,_,_,_,_,_,_,_,_,_,_,_,_]) ax aq rfl (by exact P2.whole)) ?_))));refine aM (vs:=[_,_,_,_,_,_,_,_,_,_,_,_,_]) aq rfl rfl (by simp [Value.oneCell']) (hk2) rfl ?_;intro w7 O3 P3;replace ho7:=aW ho7 O3 (aP ho7 hk2 (by decide));refine ak (ag (aA (gG rfl (aX (cs:=[_,_,_,_,_,_,_,_,_,_,_,_,_]) ax aq rfl (by exact P3.whole)) ?_)));exact ⟨⟨A7,c7,rfl,e5 ho7 hz1⟩,(((((((af.rfl_.next E1).next E2).next E3).only O1 (hg3)).next E7).only O2 (hg3)).only O3 (hg2))⟩
def kS {α:Type} (f:Nat→α) (q:Nat) (v:α):Nat→α:=fun r=>if r=q then v else f r
theorem fK {α:Type} {f:Nat→α} {q:Nat} {v:α}:kS f q v q=v:=by unfold kS;rw [if_pos rfl]
theorem dX {α:Type} {f:Nat→α} {q r:Nat} {v:α} (h:r≠q):kS f q v r=f r:=by unfold kS;rw [if_neg h]
structure GX where
 A:Nat→Option Addr
 c:Nat→Nat
 g:Nat→Nat
def GX.setA (x:GX) (q:Nat) (A:Option Addr) (c:Nat):GX:=⟨kS x.A q A,kS x.c q c,x.g⟩
def GX.setG (x:GX) (q:Nat) (k:Nat):GX:=⟨x.A,x.c,kS x.g q k⟩
def mg (q:Nat):List Ent:=if q=0 then gL 0 16 else []
def iR (q:Nat) (A:Option Addr) (c:Nat):List Value:=if q=0 then [.int .i64 3,.int .i64 7,.int .i64 1,.int .i64 1099511627775,.int .i64 1099511627759,.int .i64 1099511627775,.int .i64 1099511627775,.int .i64 1099511627775,.bool false,.slice A 16 c,.int .i64 0,.string ⟨#[]⟩,.bool false] else [.int .i64 5,.int .i64 1,.int .i64 7,.int .i64 1099511627775,.int .i64 1099511625728,.int .i64 1099511627775,.int .i64 0,.int .i64 1099511627775,.bool false,.slice A 0 c,.int .i64 524288,.string (zB 1024),.bool true]
def nw:List Value:=[.int .i64 0,.int .i64 0,.int .i64 0,.int .i64 0,.int .i64 0,.int .i64 0,.int .i64 0,.int .i64 0,.bool false,.slice none 0 0,.int .i64 0,.string ⟨#[]⟩,.bool false]
theorem fJ (q:Nat) (A:Option Addr) (c:Nat):(iR q A c).length=13:=by unfold iR;split <;> rfl
theorem fI (q:Nat) (A:Option Addr) (c:Nat):∀ v∈iR q A c,v.oneCell'=true:=by unfold iR;split <;> simp [Value.oneCell']
def GI (w0:World) (x:GX) (S:Nat→Bool) (w':World):Prop:=
 af w0 w'∧(∀ q,q<4→S (2*q+1)=true→w'.ownsRow w0.heap.size 28 3 (.slice (x.A q) (mg q).length (x.c q)) (mg q).length (bw (mg q)))∧
 (∀ q,q<4→S (8+q)=true→w0.heap.size≤x.g q∧Blk w' (x.g q) 25 (if S (12+q)=true then (iR q (x.A q) (x.c q)).toArray else nw.toArray))∧
 (∀ q r,q<4→r<4→q≠r→S (8+q)=true→S (8+r)=true→x.g q≠x.g r)
theorem o_ {i:Nat} (hq:[1,3,5,7,8,9,10,11,12,13,14,15].elem i=false):∀ q,q<4→2*q+1≠i∧8+q≠i∧12+q≠i:=by
 intro q h;have:q=0∨q=1∨q=2∨q=3:=by omega
 refine ⟨?_,?_,?_⟩ <;> rintro rfl <;> rcases this with rfl | rfl | rfl | rfl <;> exact absurd hq (by decide)
theorem GI.rd {w0 w1 w2:World} {x:GX} {S:Nat→Bool} {i:Nat} (h:GI w0 x S w1) (hq:[1,3,5,7,8,9,10,11,12,13,14,15].elem i=false) (hF:af w1 w2):GI w0 x (bu S i) w2:=by
 obtain ⟨h1,h2,h3,h4⟩:=h;have hm:=o_ hq;refine ⟨h1.next hF,fun q h hs=>?_,fun q h hs=>?_,fun q r hq hr hne hs ht=>?_⟩
 ·rw [dH (hm q h).1] at hs;exact (h2 q h hs).kept_from hF
 ·rw [dH (hm q h).2.1] at hs;rw [dH (hm q h).2.2];exact ⟨(h3 q h hs).1,(h3 q h hs).2.from_ hF⟩
 ·rw [dH (hm q hq).2.1] at hs;rw [dH (hm r hr).2.1] at ht;exact h4 q r hq hr hne hs ht
theorem GI.call {w0 w1 w2:World} {x:GX} {S:Nat→Bool} {q:Nat} {A:Option Addr} {c:Nat} (h:GI w0 x S w1) (hq:q<4) (h12:S (12+q)=false) (hF:af w1 w2) (ho:w2.ownsRow w1.heap.size 28 3 (.slice A (mg q).length c) (mg q).length (bw (mg q))):GI w0 (x.setA q A c) (bu S (2*q+1)) w2:=by
 obtain ⟨h1,h2,h3,h4⟩:=h;refine ⟨h1.next hF,fun r h hs=>?_,fun r h hs=>?_,fun r t hr ht hne hs hu=>?_⟩
 ·by_cases hrq:r=q
  ·subst hrq;rw [show (x.setA r A c).A r=A from fK,show (x.setA r A c).c r=c from fK];exact e5 ho h1.size
  ·rw [show (x.setA q A c).A r=x.A r from dX hrq,show (x.setA q A c).c r=x.c r from dX hrq];rw [dH (by omega)] at hs;exact (h2 r h hs).kept_from hF
 ·rw [dH (by omega)] at hs;rw [dH (by omega)];refine ⟨(h3 r h hs).1,?_⟩;by_cases hrq:r=q
  ·subst hrq;have hb:=(h3 r h hs).2;rw [h12,if_neg (by decide)] at hb ⊢;exact hb.from_ hF
  ·rw [show (x.setA q A c).A r=x.A r from dX hrq,show (x.setA q A c).c r=x.c r from dX hrq];exact (h3 r h hs).2.from_ hF
 ·rw [dH (by omega)] at hs hu;exact h4 r t hr ht hne hs hu
theorem GI.al {w0 w1:World} {x:GX} {S:Nat→Bool} {q:Nat} (h:GI w0 x S w1) (hq:q<4) (h12:S (12+q)=false):GI w0 (x.setG q w1.heap.size) (bu S (8+q)) (w1.alloc (.cells nw.toArray 25)):=by
 obtain ⟨h1,h2,h3,h4⟩:=h;have hF:af w1 (w1.alloc (.cells nw.toArray 25)):=af.rfl_.new _;refine ⟨h1.next hF,fun r h hs=>?_,fun r h hs=>?_,fun r t hr ht hne hs hu=>?_⟩
 ·rw [dH (by omega)] at hs;exact (h2 r h hs).kept_from hF
 ·rw [dH (by omega)];by_cases hrq:r=q
  ·subst hrq;rw [show (x.setG r w1.heap.size).g r=w1.heap.size from fK,h12,if_neg (by decide)];exact ⟨h1.size,Blk.new _ _ _⟩
  ·rw [dH (by omega)] at hs;rw [show (x.setG q w1.heap.size).g r=x.g r from dX hrq];exact ⟨(h3 r h hs).1,(h3 r h hs).2.from_ hF⟩
 ·by_cases hrq:r=q
  ·subst hrq;rw [dH (by omega)] at hu;rw [show (x.setG r w1.heap.size).g r=w1.heap.size from fK,show (x.setG r w1.heap.size).g t=x.g t from dX (by omega)];have:=(h3 t ht hu).2.lt;omega
  ·rw [dH (by omega)] at hs;rw [show (x.setG q w1.heap.size).g r=x.g r from dX hrq];by_cases htq:t=q
   ·subst htq;rw [show (x.setG t w1.heap.size).g t=w1.heap.size from fK];have:=(h3 r hr hs).2.lt;omega
   ·rw [dH (by omega)] at hu;rw [show (x.setG q w1.heap.size).g t=x.g t from dX htq];exact h4 r t hr ht hne hs hu
theorem GI.blk {w0 w1:World} {x:GX} {S:Nat→Bool} {q:Nat} (h:GI w0 x S w1) (hq:q<4) (h8:S (8+q)=true) (h12:S (12+q)=false):Blk w1 (x.g q) 25 nw.toArray:=by
 have hb:=(h.2.2.1 q hq h8).2
 rwa [h12,if_neg (by decide)] at hb
theorem GI.st {w0 w1 w2:World} {x:GX} {S:Nat→Bool} {q:Nat} (h:GI w0 x S w1) (hq:q<4) (h8:S (8+q)=true) (hO:dt (x.g q) w1 w2) (hb:Blk w2 (x.g q) 25 (iR q (x.A q) (x.c q)).toArray):GI w0 x (bu S (12+q)) w2:=by
 obtain ⟨h1,h2,h3,h4⟩:=h;refine ⟨h1.only hO (h3 q hq h8).1,fun r h hs=>?_,fun r h hs=>?_,fun r t hr ht hne hs hu=>?_⟩
 ·rw [dH (by omega)] at hs;have ho:=h2 r h hs;exact aW ho hO (aP ho (h3 q hq h8).2 (by decide))
 ·rw [dH (by omega)] at hs;refine ⟨(h3 r h hs).1,?_⟩;by_cases hrq:r=q
  ·subst hrq;rw [il,if_pos rfl];exact hb
  ·rw [dH (by omega)];exact (h3 r h hs).2.only hO (h4 r q h hq hrq hs h8)
 ·rw [dH (by omega)] at hs hu;exact h4 r t hr ht hne hs hu
theorem hG {P:Program} {ρ:Operand→Value} {w:World} {t:TypeId} {x y:Operand} {g:Nat} {u:TypeId} {cs:Array Value} {vs:List Value} (ht:cV P t=some vs.length) (hx:ρ x=.pointer (some ⟨g,0,none⟩)) (hy:ρ y=.agg vs.toArray) (h1:∀ v∈vs,v.oneCell'=true) (hb:Blk w g u cs) (hi:vs.length=cs.size) :
 ∃ w',RS P ρ (.store t x y) w w'∧dt g w w'∧Blk w' g u vs.toArray:=by
 have hb':Blk w g u cs.toList.toArray:=by simpa using hb
 refine ⟨_,jg ht hx hy h1 (hb'.there 0 vs.length (by simp;omega)),dt.sets vs 0 w,?_⟩;have:=Blk.sets vs 0 hb' (by simp;omega)
 rwa [ki cs.toList vs (by simp;omega)] at this
theorem f_:ks prog 26=some (5,1,(.int .u8 0)):=by kernel_rfl
theorem eb:aJ prog 9=true:=by kernel_rfl
theorem bM:∀ (a0:Int) (a1:Int) (a2:Int) (a3:Int) (a4:Int),prog.built 25 [(0,.int .i64 3),(1,.int .i64 7),(2,.int .i64 1),(3,.int .i64 a0),(4,.int .i64 a1),(5,.int .i64 a2),(6,.int .i64 a3),(7,.int .i64 a4)]=some #[.int .i64 3,.int .i64 7,.int .i64 1,.int .i64 a0,.int .i64 a1,.int .i64 a2,.int .i64 a3,.int .i64 a4,.bool false,.slice none 0 0,.int .i64 0,.string ⟨#[]⟩,.bool false]:=by intros;kernel_rfl
theorem fE:∀ (a0:Int) (a1:Int) (a2:ByteArray),prog.built 28 [(0,.int .i64 a0),(1,.int .i64 a1),(2,.string a2)]=some #[.int .i64 a0,.int .i64 a1,.string a2]:=by intros;kernel_rfl
theorem aR:∀ (a0:Int) (a1:Int) (a2:Int) (a3:ByteArray),prog.built 25 [(0,.int .i64 5),(1,.int .i64 1),(2,.int .i64 7),(3,.int .i64 a0),(4,.int .i64 1099511625728),(5,.int .i64 a1),(7,.int .i64 a2),(10,.int .i64 524288),(11,.string a3),(12,.bool true)]=some #[.int .i64 5,.int .i64 1,.int .i64 7,.int .i64 a0,.int .i64 1099511625728,.int .i64 a1,.int .i64 0,.int .i64 a2,.bool false,.slice none 0 0,.int .i64 524288,.string a3,.bool true]:=by intros;kernel_rfl
theorem gA:∀ (a0:Int) (a1:Int),prog.built 28 [(0,.int .i64 a0),(1,.int .i64 a1)]=some #[.int .i64 a0,.int .i64 a1,.string ⟨#[]⟩]:=by intros;kernel_rfl
theorem jX:(c6 prog 22).isSome=true:=by kernel_rfl
theorem jY:aJ prog 10=true:=by kernel_rfl
theorem m1 (e:Ent):(gL 0 16++[e]).length=17:=by rw [List.length_append,fy];rfl
theorem oI {w:World} {base:Nat} {v:Value} {i t:Int} {d:ByteArray} (h:w.ownsRow base 28 3 v 17 (bw (gL 0 16)++[.int .i64 i,.int .i64 t,.string d])):aV w v (gL 0 16++[⟨i,t,d⟩]):=
 aV.of_own (base:=base) (e:=28) (by show w.ownsRow base 28 3 v 17 (bw _);rw [gu];exact h) (m1 _)
theorem nb {w w':World} {v:Value} (h:aV w v []):aV w' v []:=by
 obtain ⟨A,c,hv,h1,h2,h3,_⟩:=h;exact ⟨A,c,hv,h1,h2,h3,fun h=>absurd h (by decide)⟩
abbrev pI:Ty:=.pr (.int .i64) (.pr (.int .i64) (.pr .str .unit))
abbrev mG:Ty:=.pr (.int .i64) (.pr (.int .i64) (.pr (.int .i64) (.pr (.int .i64) (.pr (.int .i64) (.pr (.int .i64) (.pr (.int .i64) (.pr (.int .i64) (.pr .bool (.pr (.sl pI) (.pr (.int .i64) (.pr .str (.pr .bool .unit))))))))))))
theorem kb {w:World} {g:Nat} {t:TypeId} {m:Nat} {z:Value} (h:Blk w g t (List.replicate m z).toArray) (hm:m≤9007199254740992):bI w (.slice (some ⟨g,0,none⟩) m m) (List.replicate m z):=
 bI.of_own (base:=0) (e:=t) ⟨by simp,.inr ⟨g,m,_,rfl,Nat.zero_le _,h,Nat.le_refl _,by unfold maxLen;omega,by simp,by simp⟩⟩
theorem oc {ρ:Operand→Value} {w:World} {x:Operand} {g m:Nat} (hx:ρ x=.slice (some ⟨g,0,none⟩) m m) (h:bI w (.slice (some ⟨g,0,none⟩) m m) (List.replicate m (.int .u8 0))):RO prog ρ (.convert 26 9 x) w (.string (zB m)) w:=
 eB (l:=List.replicate m 0) (fun b hb=>by rw [List.eq_of_mem_replicate hb];decide) hx (by rw [mo];exact h)
theorem nZ (k:Nat):gL 0 (k+1)=gL 0 k++[⟨1099511627760+(k:Int),1099511627775,zB (100*(k+1))⟩]:=by
 have:=nX k 0
 rwa [Nat.zero_add] at this
theorem oD {P:Program} {ops:Array Oper} {n:Fr} {L:List (Nat×Value)} {w:World} {d:Nat} {op:Op} {ty:TypeId} {pos:String} {after:Array Edge} {R:Value→World→Prop} {v:Value} {K:World→Prop} (h:∃ w',RO P (ev n L) op w v w'∧af w w'∧K w') (hk:∀ w',K w'→R v w'):aw P ops n L ⟨d,op,ty,pos,after,none⟩ w R:=by
 obtain ⟨w',a,b,c⟩:=h;exact gk a b (hk w' c)
theorem ma (A:Option Addr) (c:Nat) (xs:List mG.den) (w:World) (_:xs.length*mG.bytes≤140737488351232) (_:0<xs.length→∃ b o,A=some ⟨b,o,none⟩∧∀ (i:Nat) (hi:i<xs.length),mG.At w (fun j=>w.cell? ⟨b,o+i*mG.size+j,none⟩) xs[i]) (hT:dE w) :
 Rt prog 3 [.slice A xs.length c] w (fun v w'=>v=.bool true∧af w w'):=by
 refine enter (n:=146) Tryd.func3 rfl rfl rfl (an (ah (asb rfl (ak (ag (an (ah (asi rfl (ak (ag (an (ah (mvi rfl (mvi rfl (aa (ej (ei rfl rfl (by omega)) (congrArg (Value.int .i64) (show (1099511627775-16:Int)=1099511627759 by omega))) ?_)))))))))))))));refine mvi rfl (mvi rfl (mvi rfl (aa (bf (l:=[(0,.const (.int .i64 3)),(1,.const (.int .i64 7)),(2,.const (.int .i64 1)),(3,.tmp 17),(4,.tmp 19),(5,.tmp 20),(6,.tmp 21),(7,.tmp 22)]) (bM _ _ _ _ _)) (bF a_ ?_))));intro b4 w1 E4 hb4 hk4;have hg4:w.heap.size≤b4:=by rw [hb4];exact (af.rfl_).size
 refine aM (vs:=[_,_,_,_,_,_,_,_,_,_,_,_,_]) aq rfl rfl (by simp [Value.oneCell']) (hk4) rfl ?_;intro w2 O2 P2;refine ak (ag (an (an (ah (asi rfl (ak (ag (bt (dJ (G:=Nat×Option Addr×Nat) [24,25,26,27,28,29,30,31,32,33,34,35,36,37,38,39,40,41,42] (fun (k,_,_)=>[(5,.int .i64 ((k:Int)+1))]) (fun (k,Am,cm) w'=>k≤16∧Blk w' b4 25 #[.int .i64 3,.int .i64 7,.int .i64 1,.int .i64 1099511627775,.int .i64 1099511627759,.int .i64 1099511627775,.int .i64 1099511627775,.int .i64 1099511627775,.bool false,.slice Am k cm,.int .i64 0,.string ⟨#[]⟩,.bool false]∧w'.ownsRow w.heap.size 28 3 (.slice Am k cm) k (bw (gL 0 k))∧af w w') (fun (k,_,_)=>16-k) ((0,none,0)) ⟨rfl,trivial⟩ ?_ ?_)))))))))
 ·exact ⟨by omega,P2,World.ownsRow_nil _ _ _ _,((af.rfl_.next E4).only O2 (hg4))⟩
 rintro ⟨k,Am,cm⟩ ρ3 w3 ⟨hk,hk4,hoA,hB⟩;refine an (an (ah (mvi rfl (aa (gi rfl rfl) (ak (ag (ps rfl (fun Q4=>?_) (fun Q4=>?_))))))))
 ·refine aY (ag (an (bt ?_)));apply pk 14 13 [40] [(28,eqp _),(29,eqp _),(30,eqp _),(31,eqp _),(32,eqp _),(33,eqp _),(34,eqp _),(35,eqp _),(36,eqp _),(37,fun v w'=>∃ g,v=.slice (some ⟨g,0,none⟩) (100*(k+1)) (100*(k+1))∧Blk w' g 5 (List.replicate (100*(k+1)) (.int .u8 0)).toArray),(38,eqp _),(39,eqp _),(40,fun v w'=>∃ g,v=.slice (some ⟨g,0,none⟩) 1 1∧Blk w' g 28 [.int .i64 (1099511627760+(k:Int)),.int .i64 1099511627775,.string (zB (100*(k+1)))].toArray),(41,fun v w'=>∃ A2 c2,v=.slice A2 (k+1) c2∧w'.ownsRow w.heap.size 28 3 (.slice A2 (k+1) c2) (k+1) (bw (gL 0 k)++[.int .i64 (1099511627760+(k:Int)),.int .i64 1099511627775,.string (zB (100*(k+1)))]))] (fun w'=>af w w'∧Blk w' b4 25 #[.int .i64 3,.int .i64 7,.int .i64 1,.int .i64 1099511627775,.int .i64 1099511627759,.int .i64 1099511627775,.int .i64 1099511627775,.int .i64 1099511627775,.bool false,.slice Am k cm,.int .i64 0,.string ⟨#[]⟩,.bool false]∧w'.ownsRow w.heap.size 28 3 (.slice Am k cm) k (bw (gL 0 k))) (fun w'=>af w w'∧Blk w' b4 25 #[.int .i64 3,.int .i64 7,.int .i64 1,.int .i64 1099511627775,.int .i64 1099511627759,.int .i64 1099511627775,.int .i64 1099511627775,.int .i64 1099511627775,.bool false,.slice Am k cm,.int .i64 0,.string ⟨#[]⟩,.bool false]) (by repeat first | exact fS | refine fR ?_ | refine eY ?_) (by kernel_rfl) (by kernel_rfl) (by kernel_rfl) ⟨ai _,ai _,ai _,ai _,ai _,ai _,ai _,ai _,ai _,(fun _ _ _ hF ⟨g,h1,h2⟩=>⟨g,h1,h2.from_ hF⟩),ai _,ai _,(fun _ _ _ hF ⟨g,h1,h2⟩=>⟨g,h1,h2.from_ hF⟩),(fun _ _ _ hF ⟨A2,c2,h1,h2⟩=>⟨A2,c2,h1,h2.kept_from hF⟩),trivial⟩ (⟨hB.d1,hk4.from_ af.rfl_.d1,hoA.kept_from af.rfl_.d1⟩) (⟨hB.d1,hk4.from_ af.rfl_.d1⟩) (fun _ _ hF h=>⟨h.1.next hF,h.2.1.from_ hF,h.2.2.kept_from hF⟩) (fun _ _ hF h=>⟨h.1.next hF,h.2.from_ hF⟩)
  case hop=>
   constructor
   ·rintro-w6 ⟨D6,hkd6⟩;exact au (aj bc rfl) rfl
   constructor
   ·rintro-w7 ⟨D7,hkd7⟩;rintro _ rfl;exact au (av cn rfl (hkd7.rd 9 rfl)) rfl
   constructor
   ·rintro-w8 ⟨D8,hkd8⟩;exact au (az (v:=.int _ _) rfl) rfl
   constructor
   ·rintro-w9 ⟨D9,hkd9⟩;rintro _ rfl;exact au (ej (ei rfl rfl (by omega)) (congrArg (Value.int .i64) (show (1099511627775-16:Int)=1099511627759 by omega))) rfl
   constructor
   ·rintro-w10 ⟨D10,hkd10⟩;exact au (az (v:=.int _ _) rfl) rfl
   constructor
   ·rintro-w11 ⟨D11,hkd11⟩;rintro _ rfl _ rfl;exact au (ej (da rfl rfl (by omega)) (congrArg (Value.int .i64) (show (1099511627759+((k:Int)+1):Int)=1099511627760+(k:Int) by omega))) rfl
   constructor
   ·rintro-w12 ⟨D12,hkd12⟩;exact au (az (v:=.int _ _) rfl) rfl
   constructor
   ·rintro-w13 ⟨D13,hkd13⟩;exact au (az (v:=.int _ _) rfl) rfl
   constructor
   ·rintro-w14 ⟨D14,hkd14⟩;rintro _ rfl;exact au (ej (mI rfl rfl (by omega)) (congrArg (Value.int .i64) (show (100*((k:Int)+1):Int)=((100*(k+1):Nat):Int) by omega))) rfl
   constructor
   ·rintro-w15 ⟨D15,hkd15⟩;rintro _ rfl;exact oD (mJ (m:=100*(k+1)) f_ rfl rfl rfl (by omega) (by omega)) (fun _ h=>⟨_,rfl,h⟩)
   constructor
   ·rintro-w16 ⟨D16,hkd16⟩;rintro v16_37 ⟨g16,rfl,hr16⟩;exact au (oc rfl (kb hr16 (by omega))) rfl
   constructor
   ·rintro-w17 ⟨D17,hkd17⟩;rintro _ rfl _ rfl _ rfl;exact au (bf (l:=[(0,.tmp 33),(1,.tmp 34),(2,.tmp 38)]) (fE _ _ _)) rfl
   constructor
   ·rintro-w18 ⟨D18,hkd18⟩;rintro _ rfl;exact gk (iq (l:=[(0,.tmp 39)]) (cells:=[.int .i64 (1099511627760+(k:Int)),.int .i64 1099511627775,.string (zB (100*(k+1)))].toArray) dq rfl rfl (by show Instr.fill _ _ [(0,Value.agg #[.int .i64 (1099511627760+(k:Int)),.int .i64 1099511627775,.string (zB (100*(k+1)))])]=_;kernel_rfl)) (af.rfl_.new _) ⟨_,rfl,Blk.new _ _ _⟩
   constructor
   ·intro h;cases h
   exact trivial
  case hmu=>
   rintro w20 ⟨D20,hkd20,hod20⟩;rintro _ rfl v20_40 ⟨g20,rfl,hg20⟩;show n9 ..;refine l4 (news:=[.int .i64 (1099511627760+(k:Int)),.int .i64 1099511627775,.string (zB (100*(k+1)))]) dq rfl (by decide) rfl hod20 D20.size rfl rfl ⟨_,_,rfl,hg20.whole⟩ (by simp [Value.oneCell']) (by omega) (by omega) ?_;intro A3 c3 w3 ho3 hg3;exact ⟨⟨D20.grew hg3 (fun q hq=>(e_ hod20 q hq).1),hkd20.grown hg3 (aP hod20 hkd20 (by decide))⟩,⟨A3,c3,rfl,ho3⟩,fun t u ht h=>kp (by repeat first | exact trivial | refine ⟨.inl rfl,?_⟩ | refine ⟨.inr (fun _ h=>h),?_⟩ | refine ⟨.inr (fun _ ⟨g,h1,h2⟩=>⟨g,h1,h2.grown hg3 (aP hod20 h2 (by decide))⟩),?_⟩) t u ht h⟩
  case hend=>
   rintro w21 ⟨D21,hkd21⟩;rintro _ rfl _ rfl _ rfl _ rfl _ rfl _ rfl _ rfl _ rfl _ rfl v37 ⟨g21,rfl,hr21⟩ _ rfl _ rfl v40 _ v41 ⟨A41,c41,rfl,ho41⟩;show St ..;have hkq:=hkd21;refine aa (aj bc rfl) (bD (v:=.slice _ _ _) dT rfl rfl rfl (hkq) (by simp) ?_);intro w22 O6 P6;replace ho41:=aW ho41 O6 (aP ho41 hkq (by decide));refine ak (bG (ag (ah (mvi rfl (aa (da rfl rfl (by omega)) (asi rfl (ak ?_)))))));refine cI ((k+1,A41,c41)) ⟨(congrArg (Value.int .i64) (by omega)),trivial⟩ (by (iterate 40 refine bH rfl ?_);exact cf) ⟨?_,?_⟩
   ·exact ⟨by omega,P6,by rw [nZ,gu];exact ho41,(D21.only O6 (hg4))⟩
   ·show 16-(k+1)<16-k;omega
 obtain rfl:k=16:=by omega
 refine dd (bA (bA (cJ (ag (an (ah (mvi rfl (mvi rfl (mvi rfl (nC f_ rfl rfl rfl (by decide) (by decide) ?_))))))))));intro b46 w23 E46 hb46 hk46;refine aa (oc rfl (kb hk46 (by decide))) (aa (bf (l:=[(0,.const (.int .i64 5)),(1,.const (.int .i64 1)),(2,.const (.int .i64 7)),(3,.tmp 43),(4,.const (.int .i64 1099511625728)),(5,.tmp 44),(7,.tmp 45),(10,.const (.int .i64 524288)),(11,.tmp 47),(12,.const (.bool true))]) (aR _ _ _ _)) (bF a_ ?_));intro b6 w24 E6 hb6 hk6;have hg6:w.heap.size≤b6:=by rw [hb6];exact ((hB.next E46)).size
 have h46:b4≠b6:=by have:=hk4.lt;have:=E46.size;omega
 replace hk4:=hk4.from_ ((af.rfl_.next E46).next E6);replace hoA:=hoA.kept_from ((af.rfl_.next E46).next E6);refine aM (vs:=[_,_,_,_,_,_,_,_,_,_,_,_,_]) aq rfl rfl (by simp [Value.oneCell']) (hk6) rfl ?_;intro w25 O7 P7;replace hk4:=hk4.only O7 h46;replace hoA:=aW hoA O7 (aP hoA hk6 (by decide));refine ak (ag (an (an (ah (asi rfl (ak (ag (bt (dJ (G:=Nat) [2,8,9,10,11,12,49,50,51,52,53,54,55,56,57,58,59,60,61,62,63,64,65,66,67,68,69,70,71,72,73,74,75,76,77,78,79,80,81,82,83,84,85,86] (fun j=>[(7,.int .i64 (j:Nat))]) (fun j w'=>j≤2∧Blk w' b4 25 #[.int .i64 3,.int .i64 7,.int .i64 1,.int .i64 1099511627775,.int .i64 1099511627759,.int .i64 1099511627775,.int .i64 1099511627775,.int .i64 1099511627775,.bool false,.slice Am 16 cm,.int .i64 0,.string ⟨#[]⟩,.bool false]∧Blk w' b6 25 #[.int .i64 5,.int .i64 1,.int .i64 7,.int .i64 1099511627775,.int .i64 1099511625728,.int .i64 1099511627775,.int .i64 0,.int .i64 1099511627775,.bool false,.slice none 0 0,.int .i64 524288,.string (zB 1024),.bool true]∧w'.ownsRow w.heap.size 28 3 (.slice Am 16 cm) 16 (bw (gL 0 16))∧af w w') (fun j=>2-j) (0) ⟨rfl,trivial⟩ ?_ ?_)))))))))
 ·exact ⟨by omega,hk4,P7,hoA,(((hB.next E46).next E6).only O7 (hg6))⟩
 rintro j ρ26 w26 ⟨hj,hk4,hk6,hoA,hB⟩;refine an (an (ah (mvi rfl (aa (dL rfl rfl) (ak (ag (ps rfl (fun Q27=>?_) (fun Q27=>?_))))))))
 ·refine aY (ag (an (bt (an (ah (aa (aD (cs:=[_,_,_,_,_,_,_,_,_,_,_,_,_]) ax aq rfl (by exact hk4.whole)) ?_))))));refine bF a_ ?_;intro b8 w28 E8 hb8 hk8;have hg8:w.heap.size≤b8:=by rw [hb8];exact (hB).size
  have h48:b4≠b8:=by have:=hk4.lt;omega
  have h68:b6≠b8:=by have:=hk6.lt;omega
  replace hk4:=hk4.from_ (af.rfl_.next E8);replace hk6:=hk6.from_ (af.rfl_.next E8);replace hoA:=hoA.kept_from (af.rfl_.next E8);refine aM (vs:=[_,_,_,_,_,_,_,_,_,_,_,_,_]) aq rfl rfl (by simp [Value.oneCell']) (hk8) rfl ?_;intro w29 O11 P11;replace hk4:=hk4.only O11 h48;replace hk6:=hk6.only O11 h68;replace hoA:=aW hoA O11 (aP hoA hk8 (by decide));refine ak (ag (an (an (ah (mvi rfl (aa (bB rfl rfl) (ak (ag (pq rfl (fun Q30=>?_) (fun Q30=>?_))))))))))
  ·refine ah (aa (aD (cs:=[_,_,_,_,_,_,_,_,_,_,_,_,_]) ax aq rfl (by exact (hk6.from_ af.rfl_).whole)) ?_);refine aM (vs:=[_,_,_,_,_,_,_,_,_,_,_,_,_]) aq rfl rfl (by simp [Value.oneCell']) (P11) rfl ?_;intro w31 O13 P13;replace hk4:=hk4.only O13 h48;replace hk6:=hk6.only O13 h68;replace hoA:=aW hoA O13 (aP hoA P11 (by decide));obtain ⟨xk,xf,xt,xtm,xix,xlt,xcm,xrd,xok,xE,xc,xa,xd,xdn,xes,hk8x,hox,hlx,hokx⟩:∃ (xk xf xt xtm xix xlt xcm xrd:Int) (xok:Bool) (xE:Option Addr) (xc:Nat) (xa:Int) (xd:ByteArray) (xdn:Bool) (xes:List Ent),Blk w31 b8 25 #[.int .i64 xk,.int .i64 xf,.int .i64 xt,.int .i64 xtm,.int .i64 xix,.int .i64 xlt,.int .i64 xcm,.int .i64 xrd,.bool xok,.slice xE xes.length xc,.int .i64 xa,.string xd,.bool xdn]∧w31.ownsRow w.heap.size 28 3 (.slice xE xes.length xc) xes.length (bw xes)∧xes.length≤16∧OkR xk xf xt xtm xix xlt xcm xrd xok xes xa xd xdn:=⟨5,1,7,1099511627775,1099511625728,1099511627775,0,1099511627775,false,none,0,524288,zB 1024,true,[],P13,World.ownsRow_nil _ _ _ _,by simp,okS⟩;obtain ⟨L,hL⟩:∃ L,(dG (tsR xk xf xt xtm xix xlt xcm xrd xok xes xa xd xdn)).length=L:=⟨_,rfl⟩;have hzw:=((((hB.next E8).only O11 (hg8)).only O13 (hg8))).size;refine ak (ag (an (ah (aa (aD (cs:=[_,_,_,_,_,_,_,_,_,_,_,_,_]) ax aq rfl (by exact (hk8x.from_ af.rfl_).whole)) ?_))));refine aC gz (nd xk xf xt xtm xix xlt xcm xrd xok xE xes.length xc xa xd xdn xes L _ rfl hL (aV.of_own (hox.kept_from af.rfl_) rfl) hokx (hT.from_ (((hB.next E8).only O11 (hg8)).only O13 (hg8)))) ?_;rintro v59 w32 ⟨⟨A59,c59,rfl,hr59⟩,E59⟩;refine mvt rfl (aa (ay rfl rfl) (aa (ay rfl rfl) (ass rfl (asi rfl (ak (ag (an (ah (mvs rfl (aC gy (ng xk xf xt xtm xix xlt xcm xrd xok xa xd xdn xes A59 c59 L _ hL hokx hr59 (hT.from_ ((((hB.next E8).only O11 (hg8)).only O13 (hg8)).next E59))) ?_))))))))));rintro v64 w33 ⟨⟨A64,c64,rfl,ho64⟩,E64⟩;refine mvt rfl (aa (ay rfl rfl) (aa (ay rfl rfl) (bF a_ ?_)));intro b11 w34 E11 hb11 hk11;have hg11:w.heap.size≤b11:=by rw [hb11];exact ((((((hB.next E8).only O11 (hg8)).only O13 (hg8)).next E59).next E64)).size
   have h811:b8≠b11:=by have:=hk8x.lt;have:=E59.size;have:=E64.size;omega
   have h411:b4≠b11:=by have:=hk4.lt;have:=E59.size;have:=E64.size;omega
   have h611:b6≠b11:=by have:=hk6.lt;have:=E59.size;have:=E64.size;omega
   replace hk8x:=hk8x.from_ (((af.rfl_.next E59).next E64).next E11);replace hk4:=hk4.from_ (((af.rfl_.next E59).next E64).next E11);replace hk6:=hk6.from_ (((af.rfl_.next E59).next E64).next E11);replace hoA:=hoA.kept_from (((af.rfl_.next E59).next E64).next E11);replace hox:=hox.kept_from (((af.rfl_.next E59).next E64).next E11);replace ho64:=ho64.kept_from E11;refine aM (vs:=[_,_,_,_,_,_,_,_,_,_,_,_,_]) aq rfl rfl (by simp [Value.oneCell']) (hk11) rfl ?_;intro w35 O15 P15;replace hk4:=hk4.only O15 h411;replace hk6:=hk6.only O15 h611;replace hk8x:=hk8x.only O15 h811;replace hoA:=aW hoA O15 (aP hoA hk11 (by decide));replace hox:=aW hox O15 (aP hox hk11 (by decide));replace ho64:=aW ho64 O15 (aP ho64 hk11 (by decide));refine asi rfl (ak (ag (an (ah (mvi rfl (aC cc (cE _ _) ?_))))));rintro v68 w36 ⟨rfl,rfl⟩;refine aa (cj rfl rfl) (mvb rfl (aB (t:=70) rfl (fun Q37=>?_) (fun Q37=>?_)))
   ·replace Q37:=cz Q37;replace Q37:=bU Q37;exfalso;omega
   replace Q37:=cB Q37;replace Q37:=bT Q37;refine ae rfl (mvi rfl (ae rfl (aC cc (cE _ _) ?_)));rintro v72 w38 ⟨rfl,rfl⟩;refine ae rfl (aa (cj rfl rfl) (aa (ao (v:=.bool _) rfl rfl) (mvb rfl (aB (t:=75) rfl (fun Q39=>?_) (fun Q39=>?_)))))
   ·replace Q39:=cz Q39;replace Q39:=bU Q39;exfalso;omega
   replace Q39:=cB Q39;replace Q39:=bT Q39;refine ae rfl (aa (aD (cs:=[_,_,_,_,_,_,_,_,_,_,_,_,_]) ax aq rfl (by exact (hk8x.from_ af.rfl_).whole)) ?_);refine ae rfl (aa (aD (cs:=[_,_,_,_,_,_,_,_,_,_,_,_,_]) ax aq rfl (by exact (P15.from_ af.rfl_).whole)) ?_);refine ae rfl (aC gx (fB xk xf xt xtm xix xlt xcm xrd xok xE xes.length xc xa xd xdn xes A64 xes.length c64 _ rfl rfl (aV.of_own (hox.kept_from af.rfl_) rfl) (aV.of_own (ho64.kept_from af.rfl_) rfl) (by omega)) ?_);rintro v78 w40 ⟨rfl,E78⟩;refine ae rfl (aa (ch rfl) (aa (ao (v:=.bool _) rfl rfl) (mvb rfl (oS (t:=81) rfl (fun Q41=>?_) (fun Q41=>?_)))))
   ·exfalso;contradiction
   refine ae rfl (aa (aD (cs:=[_,_,_,_,_,_,_,_,_,_,_,_,_]) ax aq rfl (by exact (hk8x.from_ (af.rfl_.next E78)).whole)) ?_);refine ae rfl (aC c8 (iG xk xf xt xtm xix xlt xcm xrd xok xE xes.length xc xa xd xdn _ xes rfl (aV.of_own (hox.kept_from (af.rfl_.next E78)) rfl) (by omega) hokx) ?_);rintro v83 w42 ⟨rfl,E83⟩;refine ae rfl (aC cc (cE _ _) ?_);rintro v84 w43 ⟨rfl,rfl⟩;refine ae rfl (aa (cj rfl rfl) (aa (ao (v:=.bool _) rfl rfl) (ak (ag (aK rfl (fun Q44=>?_) (fun Q44=>?_))))))
   ·replace Q44:=cz Q44;replace Q44:=bU Q44;exfalso;omega
   replace Q44:=cB Q44;replace Q44:=bT Q44;refine aY (bG (ag (ah (mvi rfl (aa (da rfl rfl (by omega)) (asi rfl (ak ?_)))))));refine cI (j+1) ⟨(by first | rfl | (refine bY ?_;omega)),trivial⟩ (by (iterate 92 refine bH rfl ?_);exact cf) ⟨?_,?_⟩
   ·exact ⟨by omega,hk4.from_ ((af.rfl_.next E78).next E83),hk6.from_ ((af.rfl_.next E78).next E83),hoA.kept_from ((af.rfl_.next E78).next E83),(((((((((hB.next E8).only O11 (hg8)).only O13 (hg8)).next E59).next E64).next E11).only O15 (hg11)).next E78).next E83)⟩
   ·omega
  obtain ⟨xk,xf,xt,xtm,xix,xlt,xcm,xrd,xok,xE,xc,xa,xd,xdn,xes,hk8x,hox,hlx,hokx⟩:∃ (xk xf xt xtm xix xlt xcm xrd:Int) (xok:Bool) (xE:Option Addr) (xc:Nat) (xa:Int) (xd:ByteArray) (xdn:Bool) (xes:List Ent),Blk w29 b8 25 #[.int .i64 xk,.int .i64 xf,.int .i64 xt,.int .i64 xtm,.int .i64 xix,.int .i64 xlt,.int .i64 xcm,.int .i64 xrd,.bool xok,.slice xE xes.length xc,.int .i64 xa,.string xd,.bool xdn]∧w29.ownsRow w.heap.size 28 3 (.slice xE xes.length xc) xes.length (bw xes)∧xes.length≤16∧OkR xk xf xt xtm xix xlt xcm xrd xok xes xa xd xdn:=⟨3,7,1,1099511627775,1099511627759,1099511627775,1099511627775,1099511627775,false,Am,cm,0,⟨#[]⟩,false,gL 0 16,P11,hoA.kept_from af.rfl_,by rw [fy];omega,okM⟩;obtain ⟨L,hL⟩:∃ L,(dG (tsR xk xf xt xtm xix xlt xcm xrd xok xes xa xd xdn)).length=L:=⟨_,rfl⟩;have hzw:=(((hB.next E8).only O11 (hg8))).size;refine aY (ag (an (ah (aa (aD (cs:=[_,_,_,_,_,_,_,_,_,_,_,_,_]) ax aq rfl (by exact (hk8x.from_ af.rfl_).whole)) ?_))));refine aC gz (nd xk xf xt xtm xix xlt xcm xrd xok xE xes.length xc xa xd xdn xes L _ rfl hL (aV.of_own (hox.kept_from af.rfl_) rfl) hokx (hT.from_ ((hB.next E8).only O11 (hg8)))) ?_;rintro v59 w45 ⟨⟨A59,c59,rfl,hr59⟩,E59⟩;refine mvt rfl (aa (ay rfl rfl) (aa (ay rfl rfl) (ass rfl (asi rfl (ak (ag (an (ah (mvs rfl (aC gy (ng xk xf xt xtm xix xlt xcm xrd xok xa xd xdn xes A59 c59 L _ hL hokx hr59 (hT.from_ (((hB.next E8).only O11 (hg8)).next E59))) ?_))))))))));rintro v64 w46 ⟨⟨A64,c64,rfl,ho64⟩,E64⟩;refine mvt rfl (aa (ay rfl rfl) (aa (ay rfl rfl) (bF a_ ?_)));intro b11 w47 E11 hb11 hk11;have hg11:w.heap.size≤b11:=by rw [hb11];exact (((((hB.next E8).only O11 (hg8)).next E59).next E64)).size
  have h811:b8≠b11:=by have:=hk8x.lt;have:=E59.size;have:=E64.size;omega
  have h411:b4≠b11:=by have:=hk4.lt;have:=E59.size;have:=E64.size;omega
  have h611:b6≠b11:=by have:=hk6.lt;have:=E59.size;have:=E64.size;omega
  replace hk8x:=hk8x.from_ (((af.rfl_.next E59).next E64).next E11);replace hk4:=hk4.from_ (((af.rfl_.next E59).next E64).next E11);replace hk6:=hk6.from_ (((af.rfl_.next E59).next E64).next E11);replace hoA:=hoA.kept_from (((af.rfl_.next E59).next E64).next E11);replace hox:=hox.kept_from (((af.rfl_.next E59).next E64).next E11);replace ho64:=ho64.kept_from E11;refine aM (vs:=[_,_,_,_,_,_,_,_,_,_,_,_,_]) aq rfl rfl (by simp [Value.oneCell']) (hk11) rfl ?_;intro w48 O15 P15;replace hk4:=hk4.only O15 h411;replace hk6:=hk6.only O15 h611;replace hk8x:=hk8x.only O15 h811;replace hoA:=aW hoA O15 (aP hoA hk11 (by decide));replace hox:=aW hox O15 (aP hox hk11 (by decide));replace ho64:=aW ho64 O15 (aP ho64 hk11 (by decide));refine asi rfl (ak (ag (an (ah (mvi rfl (aC cc (cE _ _) ?_))))));rintro v68 w49 ⟨rfl,rfl⟩;refine aa (cj rfl rfl) (mvb rfl (aB (t:=70) rfl (fun Q50=>?_) (fun Q50=>?_)))
  ·replace Q50:=cz Q50;replace Q50:=bU Q50;exfalso;omega
  replace Q50:=cB Q50;replace Q50:=bT Q50;refine ae rfl (mvi rfl (ae rfl (aC cc (cE _ _) ?_)));rintro v72 w51 ⟨rfl,rfl⟩;refine ae rfl (aa (cj rfl rfl) (aa (ao (v:=.bool _) rfl rfl) (mvb rfl (aB (t:=75) rfl (fun Q52=>?_) (fun Q52=>?_)))))
  ·replace Q52:=cz Q52;replace Q52:=bU Q52;exfalso;omega
  replace Q52:=cB Q52;replace Q52:=bT Q52;refine ae rfl (aa (aD (cs:=[_,_,_,_,_,_,_,_,_,_,_,_,_]) ax aq rfl (by exact (hk8x.from_ af.rfl_).whole)) ?_);refine ae rfl (aa (aD (cs:=[_,_,_,_,_,_,_,_,_,_,_,_,_]) ax aq rfl (by exact (P15.from_ af.rfl_).whole)) ?_);refine ae rfl (aC gx (fB xk xf xt xtm xix xlt xcm xrd xok xE xes.length xc xa xd xdn xes A64 xes.length c64 _ rfl rfl (aV.of_own (hox.kept_from af.rfl_) rfl) (aV.of_own (ho64.kept_from af.rfl_) rfl) (by omega)) ?_);rintro v78 w53 ⟨rfl,E78⟩;refine ae rfl (aa (ch rfl) (aa (ao (v:=.bool _) rfl rfl) (mvb rfl (oS (t:=81) rfl (fun Q54=>?_) (fun Q54=>?_)))))
  ·exfalso;contradiction
  refine ae rfl (aa (aD (cs:=[_,_,_,_,_,_,_,_,_,_,_,_,_]) ax aq rfl (by exact (hk8x.from_ (af.rfl_.next E78)).whole)) ?_);refine ae rfl (aC c8 (iG xk xf xt xtm xix xlt xcm xrd xok xE xes.length xc xa xd xdn _ xes rfl (aV.of_own (hox.kept_from (af.rfl_.next E78)) rfl) (by omega) hokx) ?_);rintro v83 w55 ⟨rfl,E83⟩;refine ae rfl (aC cc (cE _ _) ?_);rintro v84 w56 ⟨rfl,rfl⟩;refine ae rfl (aa (cj rfl rfl) (aa (ao (v:=.bool _) rfl rfl) (ak (ag (aK rfl (fun Q57=>?_) (fun Q57=>?_))))))
  ·replace Q57:=cz Q57;replace Q57:=bU Q57;exfalso;omega
  replace Q57:=cB Q57;replace Q57:=bT Q57;refine aY (bG (ag (ah (mvi rfl (aa (da rfl rfl (by omega)) (asi rfl (ak ?_)))))));refine cI (j+1) ⟨(by first | rfl | (refine bY ?_;omega)),trivial⟩ (by (iterate 91 refine bH rfl ?_);exact cf) ⟨?_,?_⟩
  ·exact ⟨by omega,hk4.from_ ((af.rfl_.next E78).next E83),hk6.from_ ((af.rfl_.next E78).next E83),hoA.kept_from ((af.rfl_.next E78).next E83),((((((((hB.next E8).only O11 (hg8)).next E59).next E64).next E11).only O15 (hg11)).next E78).next E83)⟩
  ·omega
 have hzr:=(hB).size;refine dd (bA (bA (cJ (ag (an (nk (X:=GX) [(0,87,fun x=>.agg #[.int .i64 3,.int .i64 7,.int .i64 1,.int .i64 1099511627775,.int .i64 1099511627759,.int .i64 1099511627775,.int .i64 1099511627775,.int .i64 1099511627775,.bool false,.slice Am 16 cm,.int .i64 0,.string ⟨#[]⟩,.bool false]),(1,88,fun x=>.agg #[.int .i64 3,.int .i64 7,.int .i64 1,.int .i64 1099511627775,.int .i64 1099511627759,.int .i64 1099511627775,.int .i64 1099511627775,.int .i64 1099511627775,.bool false,.slice (x.A 0) 16 (x.c 0),.int .i64 0,.string ⟨#[]⟩,.bool false]),(2,89,fun x=>.agg #[.int .i64 5,.int .i64 1,.int .i64 7,.int .i64 1099511627775,.int .i64 1099511625728,.int .i64 1099511627775,.int .i64 0,.int .i64 1099511627775,.bool false,.slice none 0 0,.int .i64 524288,.string (zB 1024),.bool true]),(3,90,fun x=>.agg #[.int .i64 5,.int .i64 1,.int .i64 7,.int .i64 1099511627775,.int .i64 1099511625728,.int .i64 1099511627775,.int .i64 0,.int .i64 1099511627775,.bool false,.slice (x.A 1) 0 (x.c 1),.int .i64 524288,.string (zB 1024),.bool true]),(4,91,fun x=>.agg #[.int .i64 5,.int .i64 1,.int .i64 7,.int .i64 1099511627775,.int .i64 1099511625728,.int .i64 1099511627775,.int .i64 0,.int .i64 1099511627775,.bool false,.slice none 0 0,.int .i64 524288,.string (zB 1024),.bool true]),(5,92,fun x=>.agg #[.int .i64 5,.int .i64 1,.int .i64 7,.int .i64 1099511627775,.int .i64 1099511625728,.int .i64 1099511627775,.int .i64 0,.int .i64 1099511627775,.bool false,.slice (x.A 2) 0 (x.c 2),.int .i64 524288,.string (zB 1024),.bool true]),(6,93,fun x=>.agg #[.int .i64 5,.int .i64 1,.int .i64 7,.int .i64 1099511627775,.int .i64 1099511625728,.int .i64 1099511627775,.int .i64 0,.int .i64 1099511627775,.bool false,.slice none 0 0,.int .i64 524288,.string (zB 1024),.bool true]),(7,94,fun x=>.agg #[.int .i64 5,.int .i64 1,.int .i64 7,.int .i64 1099511627775,.int .i64 1099511625728,.int .i64 1099511627775,.int .i64 0,.int .i64 1099511627775,.bool false,.slice (x.A 3) 0 (x.c 3),.int .i64 524288,.string (zB 1024),.bool true]),(8,13,fun x=>.pointer (some ⟨x.g 0,0,none⟩)),(9,14,fun x=>.pointer (some ⟨x.g 1,0,none⟩)),(10,15,fun x=>.pointer (some ⟨x.g 2,0,none⟩)),(11,16,fun x=>.pointer (some ⟨x.g 3,0,none⟩))] [1,3,5,7,8,9,10,11,12,13,14,15] (fun x S w'=>GI w26 x S w') (by kernel_rfl) (by kernel_rfl) rfl rfl (fun x S i w1 w2 hq hF h=>GI.rd h hq hF) (⟨⟨fun _=>none,fun _=>0,fun _=>0⟩,af.rfl_.d1,fun _ _ h=>(by cases h),fun _ _ h=>(by cases h),fun _ _ _ _ _ h=>(by cases h)⟩) ?_ ?_))))))
 ·constructor
  ·rintro S L' w58 x hU hme hI hM hC hS ⟨-⟩;have hM':=hM;obtain ⟨hF58,hog58,hbg58,hng58⟩:=hM';have e4:=InvX.out hI (t:=4) rfl;exact dz [(4,_)] x hU hI (.head _) rfl (by kernel_rfl) ⟨e4,trivial⟩ (aD (cs:=[.int .i64 3,.int .i64 7,.int .i64 1,.int .i64 1099511627775,.int .i64 1099511627759,.int .i64 1099511627775,.int .i64 1099511627775,.int .i64 1099511627775,.bool false,.slice Am 16 cm,.int .i64 0,.string ⟨#[]⟩,.bool false]) ax aq rfl ((hk4.from_ hF58).whole)) fg (hme _ _ _ _ _ rfl af.rfl_ hM)
  constructor
  ·rintro S L' w59 x hU hme hI hM hC hS ⟨d0,-⟩;have hM':=hM;obtain ⟨hF59,hog59,hbg59,hng59⟩:=hM';have e87:=InvX.get hI (i:=0) (.head _) d0;have h12:S 12=false:=bm hC (j:=12) rfl (by kernel_rfl) hS;refine ew (al:=[.tmp 87]) [(87,_)] hU hI (.tail _ (.head _)) (by kernel_rfl) ⟨e87,trivial⟩ eb ((fW 3 7 1 1099511627775 1099511627759 1099511627775 1099511627775 1099511627775 false Am 16 cm 0 ⟨#[]⟩ false (gL 0 16) _ (fy 16 0).symm (aV.of_own (hoA.kept_from hF59) (fy 16 0)) (by rw [fy];omega)).mono ?_);rintro v w2 ⟨⟨A',c',rfl,ho⟩,hF⟩;exact ⟨x.setA 0 A' c',rfl,⟨fun _=>rfl,fun h=>(by rw [hS] at h;cases h),fun _=>rfl,fun _=>rfl,fun _=>rfl,fun _=>rfl,fun _=>rfl,fun _=>rfl,fun _=>rfl,fun _=>rfl,fun _=>rfl,fun _=>rfl,trivial⟩,GI.call hM (by decide) h12 hF ho⟩
  constructor
  ·rintro S L' w60 x hU hme hI hM hC hS ⟨-⟩;have hM':=hM;obtain ⟨hF60,hog60,hbg60,hng60⟩:=hM';have e6:=InvX.out hI (t:=6) rfl;exact dz [(6,_)] x hU hI (.tail _ (.tail _ (.head _))) rfl (by kernel_rfl) ⟨e6,trivial⟩ (aD (cs:=[.int .i64 5,.int .i64 1,.int .i64 7,.int .i64 1099511627775,.int .i64 1099511625728,.int .i64 1099511627775,.int .i64 0,.int .i64 1099511627775,.bool false,.slice none 0 0,.int .i64 524288,.string (zB 1024),.bool true]) ax aq rfl ((hk6.from_ hF60).whole)) fg (hme _ _ _ _ _ rfl af.rfl_ hM)
  constructor
  ·rintro S L' w61 x hU hme hI hM hC hS ⟨d2,d1,-⟩;have hM':=hM;obtain ⟨hF61,hog61,hbg61,hng61⟩:=hM';have e89:=InvX.get hI (i:=2) (.tail _ (.tail _ (.head _))) d2;have h12:S 13=false:=bm hC (j:=13) rfl (by kernel_rfl) hS;refine ew (al:=[.tmp 89]) [(89,_)] hU hI (.tail _ (.tail _ (.tail _ (.head _)))) (by kernel_rfl) ⟨e89,trivial⟩ eb ((fW 5 1 7 1099511627775 1099511625728 1099511627775 0 1099511627775 false none 0 0 524288 (zB 1024) true [] _ rfl (aV.nil_ _) (by simp)).mono ?_);rintro v w2 ⟨⟨A',c',rfl,ho⟩,hF⟩;exact ⟨x.setA 1 A' c',rfl,⟨fun _=>rfl,fun _=>rfl,fun _=>rfl,fun h=>(by rw [hS] at h;cases h),fun _=>rfl,fun _=>rfl,fun _=>rfl,fun _=>rfl,fun _=>rfl,fun _=>rfl,fun _=>rfl,fun _=>rfl,trivial⟩,GI.call hM (by decide) h12 hF ho⟩
  constructor
  ·rintro S L' w62 x hU hme hI hM hC hS ⟨-⟩;have hM':=hM;obtain ⟨hF62,hog62,hbg62,hng62⟩:=hM';have e6:=InvX.out hI (t:=6) rfl;exact dz [(6,_)] x hU hI (.tail _ (.tail _ (.tail _ (.tail _ (.head _))))) rfl (by kernel_rfl) ⟨e6,trivial⟩ (aD (cs:=[.int .i64 5,.int .i64 1,.int .i64 7,.int .i64 1099511627775,.int .i64 1099511625728,.int .i64 1099511627775,.int .i64 0,.int .i64 1099511627775,.bool false,.slice none 0 0,.int .i64 524288,.string (zB 1024),.bool true]) ax aq rfl ((hk6.from_ hF62).whole)) fg (hme _ _ _ _ _ rfl af.rfl_ hM)
  constructor
  ·rintro S L' w63 x hU hme hI hM hC hS ⟨d4,d3,-⟩;have hM':=hM;obtain ⟨hF63,hog63,hbg63,hng63⟩:=hM';have e91:=InvX.get hI (i:=4) (.tail _ (.tail _ (.tail _ (.tail _ (.head _))))) d4;have h12:S 14=false:=bm hC (j:=14) rfl (by kernel_rfl) hS;refine ew (al:=[.tmp 91]) [(91,_)] hU hI (.tail _ (.tail _ (.tail _ (.tail _ (.tail _ (.head _)))))) (by kernel_rfl) ⟨e91,trivial⟩ eb ((fW 5 1 7 1099511627775 1099511625728 1099511627775 0 1099511627775 false none 0 0 524288 (zB 1024) true [] _ rfl (aV.nil_ _) (by simp)).mono ?_);rintro v w2 ⟨⟨A',c',rfl,ho⟩,hF⟩;exact ⟨x.setA 2 A' c',rfl,⟨fun _=>rfl,fun _=>rfl,fun _=>rfl,fun _=>rfl,fun _=>rfl,fun h=>(by rw [hS] at h;cases h),fun _=>rfl,fun _=>rfl,fun _=>rfl,fun _=>rfl,fun _=>rfl,fun _=>rfl,trivial⟩,GI.call hM (by decide) h12 hF ho⟩
  constructor
  ·rintro S L' w64 x hU hme hI hM hC hS ⟨-⟩;have hM':=hM;obtain ⟨hF64,hog64,hbg64,hng64⟩:=hM';have e6:=InvX.out hI (t:=6) rfl;exact dz [(6,_)] x hU hI (.tail _ (.tail _ (.tail _ (.tail _ (.tail _ (.tail _ (.head _))))))) rfl (by kernel_rfl) ⟨e6,trivial⟩ (aD (cs:=[.int .i64 5,.int .i64 1,.int .i64 7,.int .i64 1099511627775,.int .i64 1099511625728,.int .i64 1099511627775,.int .i64 0,.int .i64 1099511627775,.bool false,.slice none 0 0,.int .i64 524288,.string (zB 1024),.bool true]) ax aq rfl ((hk6.from_ hF64).whole)) fg (hme _ _ _ _ _ rfl af.rfl_ hM)
  constructor
  ·rintro S L' w65 x hU hme hI hM hC hS ⟨d6,d5,-⟩;have hM':=hM;obtain ⟨hF65,hog65,hbg65,hng65⟩:=hM';have e93:=InvX.get hI (i:=6) (.tail _ (.tail _ (.tail _ (.tail _ (.tail _ (.tail _ (.head _))))))) d6;have h12:S 15=false:=bm hC (j:=15) rfl (by kernel_rfl) hS;refine ew (al:=[.tmp 93]) [(93,_)] hU hI (.tail _ (.tail _ (.tail _ (.tail _ (.tail _ (.tail _ (.tail _ (.head _)))))))) (by kernel_rfl) ⟨e93,trivial⟩ eb ((fW 5 1 7 1099511627775 1099511625728 1099511627775 0 1099511627775 false none 0 0 524288 (zB 1024) true [] _ rfl (aV.nil_ _) (by simp)).mono ?_);rintro v w2 ⟨⟨A',c',rfl,ho⟩,hF⟩;exact ⟨x.setA 3 A' c',rfl,⟨fun _=>rfl,fun _=>rfl,fun _=>rfl,fun _=>rfl,fun _=>rfl,fun _=>rfl,fun _=>rfl,fun h=>(by rw [hS] at h;cases h),fun _=>rfl,fun _=>rfl,fun _=>rfl,fun _=>rfl,trivial⟩,GI.call hM (by decide) h12 hF ho⟩
  constructor
  ·rintro S L' w66 x hU hme hI hM hC hS ⟨-⟩;have hM':=hM;obtain ⟨hF66,hog66,hbg66,hng66⟩:=hM';have h12:S 12=false:=bm hC (j:=12) rfl (by kernel_rfl) hS;exact dz [] (x.setG 0 w66.heap.size) hU hI (.tail _ (.tail _ (.tail _ (.tail _ (.tail _ (.tail _ (.tail _ (.tail _ (.head _))))))))) rfl (by kernel_rfl) trivial (ek a_) ⟨fun _=>rfl,fun _=>rfl,fun _=>rfl,fun _=>rfl,fun _=>rfl,fun _=>rfl,fun _=>rfl,fun _=>rfl,fun h=>(by rw [hS] at h;cases h),fun _=>rfl,fun _=>rfl,fun _=>rfl,trivial⟩ (GI.al hM (by decide) h12)
  constructor
  ·rintro S L' w67 x hU hme hI hM hC hS ⟨-⟩;have hM':=hM;obtain ⟨hF67,hog67,hbg67,hng67⟩:=hM';have h12:S 13=false:=bm hC (j:=13) rfl (by kernel_rfl) hS;exact dz [] (x.setG 1 w67.heap.size) hU hI (.tail _ (.tail _ (.tail _ (.tail _ (.tail _ (.tail _ (.tail _ (.tail _ (.tail _ (.head _)))))))))) rfl (by kernel_rfl) trivial (ek a_) ⟨fun _=>rfl,fun _=>rfl,fun _=>rfl,fun _=>rfl,fun _=>rfl,fun _=>rfl,fun _=>rfl,fun _=>rfl,fun _=>rfl,fun h=>(by rw [hS] at h;cases h),fun _=>rfl,fun _=>rfl,trivial⟩ (GI.al hM (by decide) h12)
  constructor
  ·rintro S L' w68 x hU hme hI hM hC hS ⟨-⟩;have hM':=hM;obtain ⟨hF68,hog68,hbg68,hng68⟩:=hM';have h12:S 14=false:=bm hC (j:=14) rfl (by kernel_rfl) hS;exact dz [] (x.setG 2 w68.heap.size) hU hI (.tail _ (.tail _ (.tail _ (.tail _ (.tail _ (.tail _ (.tail _ (.tail _ (.tail _ (.tail _ (.head _))))))))))) rfl (by kernel_rfl) trivial (ek a_) ⟨fun _=>rfl,fun _=>rfl,fun _=>rfl,fun _=>rfl,fun _=>rfl,fun _=>rfl,fun _=>rfl,fun _=>rfl,fun _=>rfl,fun _=>rfl,fun h=>(by rw [hS] at h;cases h),fun _=>rfl,trivial⟩ (GI.al hM (by decide) h12)
  constructor
  ·rintro S L' w69 x hU hme hI hM hC hS ⟨-⟩;have hM':=hM;obtain ⟨hF69,hog69,hbg69,hng69⟩:=hM';have h12:S 15=false:=bm hC (j:=15) rfl (by kernel_rfl) hS;exact dz [] (x.setG 3 w69.heap.size) hU hI (.tail _ (.tail _ (.tail _ (.tail _ (.tail _ (.tail _ (.tail _ (.tail _ (.tail _ (.tail _ (.tail _ (.head _)))))))))))) rfl (by kernel_rfl) trivial (ek a_) ⟨fun _=>rfl,fun _=>rfl,fun _=>rfl,fun _=>rfl,fun _=>rfl,fun _=>rfl,fun _=>rfl,fun _=>rfl,fun _=>rfl,fun _=>rfl,fun _=>rfl,fun h=>(by rw [hS] at h;cases h),trivial⟩ (GI.al hM (by decide) h12)
  constructor
  ·rintro S L' w70 x hU hme hI hM hC hS ⟨d8,d1,d7,d0,d1,-,-,-,-,-,-,d8,d9,d10,d11,-⟩;have hM':=hM;obtain ⟨hF70,hog70,hbg70,hng70⟩:=hM';have e13:=InvX.get hI (i:=8) (.tail _ (.tail _ (.tail _ (.tail _ (.tail _ (.tail _ (.tail _ (.tail _ (.head _))))))))) d8;have e88:=InvX.get hI (i:=1) (.tail _ (.head _)) d1;have hkb:=GI.blk (q:=0) hM (by decide) d8 hS;obtain ⟨w2,hR,hO,hb⟩:=hG (ρ:=ev 146 [(13,_),(88,_)]) (x:=.tmp 13) (y:=.tmp 88) (vs:=iR 0 (x.A 0) (x.c 0)) aq rfl rfl (fI _ _ _) hkb (by rw [fJ];rfl);exact fM [(13,_),(88,_)] hI (nV rfl) rfl (by kernel_rfl) ⟨e13,e88,trivial⟩ hR (GI.st (q:=0) hM (by decide) d8 hO hb)
  constructor
  ·rintro S L' w71 x hU hme hI hM hC hS ⟨d9,d3,d12,d0,d1,d2,d3,-,-,-,-,d8,d9,d10,d11,d12,-⟩;have hM':=hM;obtain ⟨hF71,hog71,hbg71,hng71⟩:=hM';have e14:=InvX.get hI (i:=9) (.tail _ (.tail _ (.tail _ (.tail _ (.tail _ (.tail _ (.tail _ (.tail _ (.tail _ (.head _)))))))))) d9;have e90:=InvX.get hI (i:=3) (.tail _ (.tail _ (.tail _ (.head _)))) d3;have hkb:=GI.blk (q:=1) hM (by decide) d9 hS;obtain ⟨w2,hR,hO,hb⟩:=hG (ρ:=ev 146 [(14,_),(90,_)]) (x:=.tmp 14) (y:=.tmp 90) (vs:=iR 1 (x.A 1) (x.c 1)) aq rfl rfl (fI _ _ _) hkb (by rw [fJ];rfl);exact fM [(14,_),(90,_)] hI (nV rfl) rfl (by kernel_rfl) ⟨e14,e90,trivial⟩ hR (GI.st (q:=1) hM (by decide) d9 hO hb)
  constructor
  ·rintro S L' w72 x hU hme hI hM hC hS ⟨d10,d5,d13,d0,d1,d2,d3,d4,d5,-,-,d8,d9,d10,d11,d12,d13,-⟩;have hM':=hM;obtain ⟨hF72,hog72,hbg72,hng72⟩:=hM';have e15:=InvX.get hI (i:=10) (.tail _ (.tail _ (.tail _ (.tail _ (.tail _ (.tail _ (.tail _ (.tail _ (.tail _ (.tail _ (.head _))))))))))) d10;have e92:=InvX.get hI (i:=5) (.tail _ (.tail _ (.tail _ (.tail _ (.tail _ (.head _)))))) d5;have hkb:=GI.blk (q:=2) hM (by decide) d10 hS;obtain ⟨w2,hR,hO,hb⟩:=hG (ρ:=ev 146 [(15,_),(92,_)]) (x:=.tmp 15) (y:=.tmp 92) (vs:=iR 2 (x.A 2) (x.c 2)) aq rfl rfl (fI _ _ _) hkb (by rw [fJ];rfl);exact fM [(15,_),(92,_)] hI (nV rfl) rfl (by kernel_rfl) ⟨e15,e92,trivial⟩ hR (GI.st (q:=2) hM (by decide) d10 hO hb)
  constructor
  ·rintro S L' w73 x hU hme hI hM hC hS ⟨d11,d7,d14,d0,d1,d2,d3,d4,d5,d6,d7,d8,d9,d10,d11,d12,d13,d14,-⟩;have hM':=hM;obtain ⟨hF73,hog73,hbg73,hng73⟩:=hM';have e16:=InvX.get hI (i:=11) (.tail _ (.tail _ (.tail _ (.tail _ (.tail _ (.tail _ (.tail _ (.tail _ (.tail _ (.tail _ (.tail _ (.head _)))))))))))) d11;have e94:=InvX.get hI (i:=7) (.tail _ (.tail _ (.tail _ (.tail _ (.tail _ (.tail _ (.tail _ (.head _)))))))) d7;have hkb:=GI.blk (q:=3) hM (by decide) d11 hS;obtain ⟨w2,hR,hO,hb⟩:=hG (ρ:=ev 146 [(16,_),(94,_)]) (x:=.tmp 16) (y:=.tmp 94) (vs:=iR 3 (x.A 3) (x.c 3)) aq rfl rfl (fI _ _ _) hkb (by rw [fJ];rfl);exact fM [(16,_),(94,_)] hI (nV rfl) rfl (by kernel_rfl) ⟨e16,e94,trivial⟩ hR (GI.st (q:=3) hM (by decide) d11 hO hb)
  exact trivial
 ·intro x74 w74 hM;obtain ⟨hF74,hog74,hbg74,hng74⟩:=hM;obtain ⟨xA,xc,xg⟩:=x74;have hzx:=hF74.size;obtain ⟨g0,k0⟩:=hbg74 0 (by decide) rfl;obtain ⟨g1,k1⟩:=hbg74 1 (by decide) rfl;obtain ⟨g2,k2⟩:=hbg74 2 (by decide) rfl;obtain ⟨g3,k3⟩:=hbg74 3 (by decide) rfl;replace k0:Blk w74 (xg 0) 25 #[.int .i64 3,.int .i64 7,.int .i64 1,.int .i64 1099511627775,.int .i64 1099511627759,.int .i64 1099511627775,.int .i64 1099511627775,.int .i64 1099511627775,.bool false,.slice (xA 0) 16 (xc 0),.int .i64 0,.string ⟨#[]⟩,.bool false]:=k0;replace k1:Blk w74 (xg 1) 25 #[.int .i64 5,.int .i64 1,.int .i64 7,.int .i64 1099511627775,.int .i64 1099511625728,.int .i64 1099511627775,.int .i64 0,.int .i64 1099511627775,.bool false,.slice (xA 1) 0 (xc 1),.int .i64 524288,.string (zB 1024),.bool true]:=k1;replace k2:Blk w74 (xg 2) 25 #[.int .i64 5,.int .i64 1,.int .i64 7,.int .i64 1099511627775,.int .i64 1099511625728,.int .i64 1099511627775,.int .i64 0,.int .i64 1099511627775,.bool false,.slice (xA 2) 0 (xc 2),.int .i64 524288,.string (zB 1024),.bool true]:=k2;replace k3:Blk w74 (xg 3) 25 #[.int .i64 5,.int .i64 1,.int .i64 7,.int .i64 1099511627775,.int .i64 1099511625728,.int .i64 1099511627775,.int .i64 0,.int .i64 1099511627775,.bool false,.slice (xA 3) 0 (xc 3),.int .i64 524288,.string (zB 1024),.bool true]:=k3;have o0:w74.ownsRow _ 28 3 (.slice (xA 0) 16 (xc 0)) 16 (bw (gL 0 16)):=hog74 0 (by decide) rfl;have o1:w74.ownsRow _ 28 3 (.slice (xA 1) 0 (xc 1)) 0 (bw []):=hog74 1 (by decide) rfl;have o2:w74.ownsRow _ 28 3 (.slice (xA 2) 0 (xc 2)) 0 (bw []):=hog74 2 (by decide) rfl;have o3:w74.ownsRow _ 28 3 (.slice (xA 3) 0 (xc 3)) 0 (bw []):=hog74 3 (by decide) rfl;have e1:∀ w9,aV w9 (.slice (xA 1) 0 (xc 1)) []:=fun _=>nb (aV.of_own o1 rfl)
  have e2:∀ w9,aV w9 (.slice (xA 2) 0 (xc 2)) []:=fun _=>nb (aV.of_own o2 rfl)
  have e3:∀ w9,aV w9 (.slice (xA 3) 0 (xc 3)) []:=fun _=>nb (aV.of_own o3 rfl)
  have n01:=hng74 0 1 (by decide) (by decide) (by decide) rfl rfl;have n02:=hng74 0 2 (by decide) (by decide) (by decide) rfl rfl;have n03:=hng74 0 3 (by decide) (by decide) (by decide) rfl rfl;have n10:=hng74 1 0 (by decide) (by decide) (by decide) rfl rfl;have n12:=hng74 1 2 (by decide) (by decide) (by decide) rfl rfl;have n13:=hng74 1 3 (by decide) (by decide) (by decide) rfl rfl;have n20:=hng74 2 0 (by decide) (by decide) (by decide) rfl rfl;have n21:=hng74 2 1 (by decide) (by decide) (by decide) rfl rfl;have n23:=hng74 2 3 (by decide) (by decide) (by decide) rfl rfl;have n30:=hng74 3 0 (by decide) (by decide) (by decide) rfl rfl;have n31:=hng74 3 1 (by decide) (by decide) (by decide) rfl rfl;have n32:=hng74 3 2 (by decide) (by decide) (by decide) rfl rfl;have z0:w.heap.size≤xg 0:=Nat.le_trans hzr g0;have z1:w.heap.size≤xg 1:=Nat.le_trans hzr g1;have z2:w.heap.size≤xg 2:=Nat.le_trans hzr g2;have z3:w.heap.size≤xg 3:=Nat.le_trans hzr g3;refine ag (an (ah (aa (aj bc rfl) (aa (av cn rfl (by exact k0.rd 9 rfl)) ?_))));refine mvi rfl (aa (ej (da rfl rfl (by omega)) (congrArg (Value.int .i64) (show (1099511627775+1:Int)=1099511627776 by omega))) ?_);refine mvi rfl (aa (bf (l:=[(0,.tmp 98),(1,.tmp 99)]) (gA _ _)) ?_);refine kX (l:=[(0,.tmp 100)]) (cells:=[.int .i64 1099511627776,.int .i64 1099511627775,.string ⟨#[]⟩].toArray) dq rfl rfl (by show Instr.fill _ _ [(0,Value.agg #[.int .i64 1099511627776,.int .i64 1099511627775,.string ⟨#[]⟩])]=_;kernel_rfl) ?_;intro b101 w75 E101 hb101 hk101;refine ik (news:=[.int .i64 1099511627776,.int .i64 1099511627775,.string ⟨#[]⟩]) dq rfl (by decide) rfl (o0.kept_from E101) (Nat.le_trans hzx E101.size) rfl rfl (fun _=>⟨b101,0,rfl,hk101.whole⟩) (fun h=>by cases h) (by simp [Value.oneCell']) (by omega) (by omega) ?_;intro A102 c102 w76 ho102 hg102;have HF102:=(((hB.next hF74).next E101)).grew hg102 (fun q hq=>Nat.le_trans hzr (e_ (o0.kept_from E101) q hq).1);replace k0:=(k0.from_ E101).grown hg102 (aP (o0.kept_from E101) (k0.from_ E101) (by decide));replace k1:=(k1.from_ E101).grown hg102 (aP (o0.kept_from E101) (k1.from_ E101) (by decide));replace k2:=(k2.from_ E101).grown hg102 (aP (o0.kept_from E101) (k2.from_ E101) (by decide));replace k3:=(k3.from_ E101).grown hg102 (aP (o0.kept_from E101) (k3.from_ E101) (by decide));refine aa (aj bc rfl) (bD (v:=.slice _ _ _) dT rfl rfl rfl (k0) (by simp) ?_);intro w77 O19 P19;have k0b:=k0;replace ho102:=aW ho102 O19 (aP ho102 k0 (by decide));replace k1:=k1.only O19 n10;replace k2:=k2.only O19 n20;replace k3:=k3.only O19 n30;replace k0:=P19;refine ak (ag (an (ah (aa (aj bg rfl) (aa (av ar rfl (by exact k1.rd 4 rfl)) ?_)))));refine aa (ej (da rfl rfl (by omega)) (congrArg (Value.int .i64) (show (1099511625728+1:Int)=1099511625729 by omega))) ?_;refine aa (aj bg rfl) (bD (v:=.int _ _) bo rfl rfl rfl (k1) (by simp) ?_);intro w78 O20 P20;have k1b:=k1;replace ho102:=aW ho102 O20 (aP ho102 k1b (by decide));replace k0:=k0.only O20 n01;replace k2:=k2.only O20 n21;replace k3:=k3.only O20 n31;replace k1:=P20;refine ak (ag (an (ah (aa (aj bS rfl) (aa (av bJ rfl (by exact k2.rd 11 rfl)) ?_)))));refine aa (nG rfl rfl (by rw [g5];decide)) ?_;refine aa (aj bS rfl) (bD (v:=.string _) jB rfl rfl rfl (k2) (by simp) ?_);intro w79 O21 P21;have k2b:=k2;replace ho102:=aW ho102 O21 (aP ho102 k2b (by decide));replace k0:=k0.only O21 n02;replace k1:=k1.only O21 n12;replace k3:=k3.only O21 n32;replace k2:=P21;refine ak (ag (an (ah (aa (aj bq rfl) (aa (av ar rfl (by exact k3.rd 10 rfl)) ?_)))));refine aa (ej (da rfl rfl (by omega)) (congrArg (Value.int .i64) (show (524288+1:Int)=524289 by omega))) ?_;refine aa (aj bq rfl) (bD (v:=.int _ _) bo rfl rfl rfl (k3) (by simp) ?_);intro w80 O22 P22;have k3b:=k3;replace ho102:=aW ho102 O22 (aP ho102 k3b (by decide));replace k0:=k0.only O22 n03;replace k1:=k1.only O22 n13;replace k2:=k2.only O22 n23;replace k3:=P22;refine ak (ag (an (ah (aa (aD (cs:=[_,_,_,_,_,_,_,_,_,_,_,_,_]) ax aq rfl (by exact (k0.from_ af.rfl_).whole)) ?_))));refine aC c8 (fX 3 7 1 1099511627775 1099511627759 1099511627775 1099511627775 1099511627775 false A102 17 c102 0 ⟨#[]⟩ false _ (gL 0 16++[⟨1099511627776,1099511627775,⟨#[]⟩⟩]) (m1 _).symm (oI (ho102.kept_from af.rfl_)) (by rw [m1];decide) (noM _)) ?_;rintro v117 w81 ⟨rfl,E117⟩;refine aC cc (cE _ _) ?_;rintro v118 w82 ⟨rfl,rfl⟩;refine aa (bB rfl rfl) (mvb rfl (oT (t:=120) rfl (fun Q83=>?_) (fun Q83=>?_)));rotate_left
  ·exfalso;omega
  refine ae rfl (aa (aD (cs:=[_,_,_,_,_,_,_,_,_,_,_,_,_]) ax aq rfl (by exact (k1.from_ (af.rfl_.next E117)).whole)) ?_);refine ae rfl (aC c8 (fX 5 1 7 1099511627775 1099511625729 1099511627775 0 1099511627775 false (xA 1) 0 (xc 1) 524288 (zB 1024) true _ [] rfl (e1 _) (by simp) noI) ?_);rintro v122 w84 ⟨rfl,E122⟩;refine ae rfl (aC cc (cE _ _) ?_);rintro v123 w85 ⟨rfl,rfl⟩;refine ae rfl (aa (bB rfl rfl) (aa (aG (v:=.bool _) rfl rfl) (mvb rfl (oT (t:=126) rfl (fun Q86=>?_) (fun Q86=>?_)))));rotate_left
  ·exfalso;omega
  refine ae rfl (aa (aD (cs:=[_,_,_,_,_,_,_,_,_,_,_,_,_]) ax aq rfl (by exact (k2.from_ ((af.rfl_.next E117).next E122)).whole)) ?_);refine ae rfl (aC c8 (fX 5 1 7 1099511627775 1099511625728 1099511627775 0 1099511627775 false (xA 2) 0 (xc 2) 524288 _ true _ [] rfl (e2 _) (by simp) (noD _ (by decide))) ?_);rintro v128 w87 ⟨rfl,E128⟩;refine ae rfl (aC cc (cE _ _) ?_);rintro v129 w88 ⟨rfl,rfl⟩;refine ae rfl (aa (bB rfl rfl) (aa (aG (v:=.bool _) rfl rfl) (mvb rfl (oT (t:=132) rfl (fun Q89=>?_) (fun Q89=>?_)))));rotate_left
  ·exfalso;omega
  refine ae rfl (aa (aD (cs:=[_,_,_,_,_,_,_,_,_,_,_,_,_]) ax aq rfl (by exact (k3.from_ (((af.rfl_.next E117).next E122).next E128)).whole)) ?_);refine ae rfl (aC c8 (fX 5 1 7 1099511627775 1099511625728 1099511627775 0 1099511627775 false (xA 3) 0 (xc 3) 524289 (zB 1024) true _ [] rfl (e3 _) (by simp) noA) ?_);rintro v134 w90 ⟨rfl,E134⟩;refine ae rfl (aC cc (cE _ _) ?_);rintro v135 w91 ⟨rfl,rfl⟩;refine ae rfl (aa (bB rfl rfl) (aa (aG (v:=.bool _) rfl rfl) (mvb rfl (oT (t:=138) rfl (fun Q92=>?_) (fun Q92=>?_)))));rotate_left
  ·exfalso;omega
  refine ae rfl (mvs rfl (ae rfl (aa (cu jX rfl) (ae rfl (aa (ke (oA rfl rfl) (decide_eq_true (by omega))) (aa (aG (v:=.bool _) rfl rfl) (mvb rfl (ae rfl ?_))))))));refine aC jY (lQ _ (hT.from_ ((((((((HF102.only O19 (z0)).only O20 (z1)).only O21 (z2)).only O22 (z3)).next E117).next E122).next E128).next E134))) ?_;rintro v144 w93 ⟨rfl,E144⟩;refine aa (aG (v:=.bool _) rfl rfl) (asb rfl (ak (ag (aA (bX (v:=.bool _) rfl rfl (⟨rfl,(((((((((HF102.only O19 (z0)).only O20 (z1)).only O21 (z2)).only O22 (z3)).next E117).next E122).next E128).next E134).next E144)⟩))))))
noncomputable def dS (os:Os):World:=
 { World.holding prog os ⟨#[],#[],[]⟩ with heap:=(World.holding prog os ⟨#[],#[],[]⟩).heap.modify 0 fun | .cells _ t frozen=>.cells #[.int .u32 0,.int .u32 498536548,.int .u32 997073096,.int .u32 651767980,.int .u32 1994146192,.int .u32 1802195444,.int .u32 1303535960,.int .u32 1342533948,.int .u32 3988292384,.int .u32 4027552580,.int .u32 3604390888,.int .u32 3412177804,.int .u32 2607071920,.int .u32 2262029012,.int .u32 2685067896,.int .u32 3183342108] t frozen | o=>o }
theorem jW (os:Os):laidMet prog Rows.rpcGreatRow.laid ((dS os).forCall (fun _ _=>0) ⟨#[],#[.slice none 0 0],[]⟩).memory:=
 laidMet_of_run' 8 (by kernel_rfl) (by kernel_rfl)
theorem iI (os:Os) {H:Type} (enc:TypeId×Value→H):∃ places,DataW.whole enc prog ((dS os).forCall (fun _ _=>0) ⟨#[],#[.slice none 0 0],[]⟩).memory Tryd.f3.params.toList Rows.rpcGreatSpec.vars false #[(.slice none 0 0:Value)].toList 8=some ([.nil],[],places):=
 ⟨[],by kernel_rfl⟩
theorem gZ (os:Os) (started:os.Started) (H:Type) (enc:TypeId×Value→H) (F:Stop.Interp) :
 ReturnsInHanded {} Tryd.checked os 3 .any ((OpenSpec.ofChange Rows.rpcGreatSpec).preRow enc prog Tryd.f3 Rows.rpcGreatRow.domain false Rows.rpcGreatRow.laid) (((OpenSpec.ofChange Rows.rpcGreatSpec).at F).post enc prog Tryd.f3 false true false false):=by
 obtain ⟨places,hx⟩:=iI os enc
 refine returnsInHanded_of_row (C:=Tryd.checked) (s:=OpenSpec.ofChange Rows.rpcGreatSpec) Tryd.own started (by kernel_rfl) Tryd.func3
  (witness_row_at (enc:=enc) (C:=Tryd.checked) false (dS os) #[.slice none 0 0] rfl (by kernel_rfl) (by kernel_rfl) (by kernel_rfl)
   (OpenSpec.preRow_of_cond 8 hx (by kernel_rfl) (fun k hk=>by cases hk) (by kernel_rfl) (jW os))) ?_
 intro W base args ds gs before hval hW _ _ hsz hL hS _;exact iW 3 Tryd.f3 22 4 Rows.rpcGreatSpec Tryd.params3 (by kernel_rfl) Tryd.underlying4 rfl (fun _=>rfl) (by kernel_rfl) (dT_ (by kernel_rfl)) Rows.rpcGreatRow.laid (jE mG (by kernel_rfl) Rows.rpcGreatRow.laid (fun _ h=>my h) ma) W base args ds gs before hval hW hsz hL hS
theorem iY:Rows.RpcGreatSaid:=
 OpenClaim.holds_of_cond 3 Tryd.f3 rfl rfl rfl rfl rfl rfl rfl ⟨rfl,rfl,rfl,rfl,rfl⟩ rfl rfl rfl rfl rfl (by kernel_rfl) Tryd.func3 (by kernel_rfl)
  (dT_ (by kernel_rfl)) (by unfold Func.isWrapper;first | (rw [if_pos (by decide+kernel)];kernel_rfl) | (rw [if_neg (by decide+kernel)];exact ⟨rfl,rfl⟩))
  (fun os started H enc _ F=>by rw [OpenClaim.pre_eq_preRow];exact gZ os started H enc F)
theorem iJ (f : FuncId) (fn : Func) (hf : Tryd.pinned.checked.prog.funcNamed "lectern/lecternlaw25.RpcGreat" = some f) (hfn : Tryd.pinned.checked.prog.funcs[f]? = some fn) :
 false=Tryd.pinned.checked.prog.looks []∧∀ (j:Nat) t,fn.params[j]? =some t→Tryd.pinned.checked.prog.wantsStandIn t=false:=by
 obtain rfl : f = 3 := Option.some.inj ((show prog.funcNamed "lectern/lecternlaw25.RpcGreat" = some 3 by kernel_rfl).symm.trans hf) |>.symm
 obtain rfl:fn=Tryd.f3:=(Option.some.inj (Tryd.func3.symm.trans hfn)).symm;refine ⟨by kernel_rfl,fun j t ht=>?_⟩;rw [(Tryd.params3)] at ht;obtain rfl:t=22:=by simpa using Array.mem_of_getElem? ht
 exact (show prog.wantsStandIn 22=false by kernel_rfl)
theorem RpcGreat_holds:Rows.RpcGreatCardSaid:=
 Claim7.holds_tied_plain_at .later [] _ _ _ _ iY (fun _ h=>by cases h) (by kernel_rfl) (fun _ h=>by cases h) rpcGreat_row_tie rfl ⟨rfl,rfl⟩ (by kernel_rfl) rfl iJ (by kernel_rfl)
end Go.Proofs.YtmaaljhcojcjhaaDoor
