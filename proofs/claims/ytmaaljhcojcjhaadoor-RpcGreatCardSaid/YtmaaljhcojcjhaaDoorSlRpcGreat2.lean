/- texts that the claim stands on. -/
import Derived.Test.YtmaaljhcojcjhaaDoorSlRpcGreat1
import Derived.Laws.CopyRow
import Derived.Lib.LazyBuf
import Derived.Lib.AppendZerosOnto
import Derived.Lib.Overlaps
import Derived.Lib.AppendStr
import Derived.Laws.IdiomStrings
import Derived.Laws.StructEq
import Derived.Deep.AppendLies
import Derived.Laws.BitsAllLaws
set_option maxRecDepth 100000
set_option maxHeartbeats 4000000
namespace Go.Proofs.YtmaaljhcojcjhaaDoor
open Go.Proofs.Tryd (prog)
open Go.RowKit
theorem bC:c6 prog 23=some (28,3):=by kernel_rfl
theorem gb:hX prog 66=some (.agg #[.int .i64 0,.int .i64 0,.slice none 0 0]):=by kernel_rfl
theorem aS:gY prog 66=some true:=by kernel_rfl
theorem aE:cV prog 66=some 3:=by kernel_rfl
theorem gg:aJ prog 33=true:=by kernel_rfl
theorem cp:prog.built 66 []=some #[.int .i64 0,.int .i64 0,.slice none 0 0]:=by kernel_rfl
theorem bk:ff prog 54=some (3,1,8,(.int .i64 0)):=by kernel_rfl
theorem gf:aJ prog 34=true:=by kernel_rfl
theorem j5:aJ prog 35=true:=by kernel_rfl
theorem de:cw prog 66 0=some 0:=by kernel_rfl
theorem ar:gY prog 3=some false:=by kernel_rfl
theorem bl:(c6 prog 23).isSome=true:=by kernel_rfl
theorem iO:cw prog 66 1=some 1:=by kernel_rfl
theorem j4:aJ prog 36=true:=by kernel_rfl
theorem eN:aJ prog 38=true:=by kernel_rfl
theorem gd:aJ prog 37=true:=by kernel_rfl
theorem cL:cw prog 28 0=some 0:=by kernel_rfl
theorem fm:cw prog 28 1=some 1:=by kernel_rfl
def dh (B p:Int) (es:List Ent):List Ent:=if p<B then es.drop (min (B-p) es.length).toNat else es
def mgP (B p:Int):Int:=if p<B then B else p
def mgQ (B T p q:Int):Int:=if p<B then T else q
def dP (B T:Int) (xs:List Ent):List Ent→List Ent
 |[]=>[]
 |e::r=>if e.i≤B+xs.length∧cS B T xs e.i=e.t then dP B T xs r else e::r
def kr (B:Int) (xs:List Ent):List Ent→Nat | []=>xs.length | e::_=>(e.i-1-B).toNat
def mg2 (B T:Int) (xs ys:List Ent):Int×Bool×List Ent:=
 if 512<kr B xs ys+ys.length then (6,false,[]) else if bL B T (xs.take (kr B xs ys)++ys)=true then (0,false,xs.take (kr B xs ys)++ys) else (1,false,[])
def dm (B T p q:Int) (xs es:List Ent):Int×Bool×List Ent:=
 if bL B T xs=true∧inb 0 1099511627776 p=true∧inb 0 1099511627775 q=true∧cq es p q=true then
  if B+xs.length<mgP B p∨¬ cS B T xs (mgP B p)=mgQ B T p q then (0,true,xs) else mg2 B T xs (dP B T xs (dh B p es))
 else (1,false,[])
def nr (w w':World) (B T:Int) (r:Int×Bool×List Ent) (v:Value):Prop:=
 ∃ (X Y:Int) (A:Option Addr) (m c:Nat),v=.tuple #[.agg #[.int .i64 X,.int .i64 Y,.slice A m c],.bool r.2.1,.int .i64 r.1]∧
  (r.1≠0→X=0∧Y=0∧A=none∧m=0∧c=0)∧(r.1=0→X=B∧Y=T∧m=r.2.2.length∧w'.ownsRow w.heap.size 28 3 (.slice A m c) m (bw r.2.2))
theorem gq {w w':World} {B T:Int} {r:Int×Bool×List Ent} {c:Int} {b:Bool} (h:r=(c,b,[])) (hc:c≠0):nr w w' B T r (.tuple #[.agg #[.int .i64 0,.int .i64 0,.slice none 0 0],.bool b,.int .i64 c]):=by
 subst h;exact ⟨0,0,none,0,0,rfl,fun _=>⟨rfl,rfl,rfl,rfl,rfl⟩,fun h=>absurd h hc⟩
theorem jM {w w':World} {B T:Int} {r:Int×Bool×List Ent} {b:Bool} {ys:List Ent} {A:Option Addr} {m c:Nat} (h:r=(0,b,ys)) (hm:m=ys.length) (ho:w'.ownsRow w.heap.size 28 3 (.slice A m c) m (bw ys)):nr w w' B T r (.tuple #[.agg #[.int .i64 B,.int .i64 T,.slice A m c],.bool b,.int .i64 0]):=by
 subst h;exact ⟨B,T,A,m,c,rfl,fun h=>absurd rfl h,fun _=>⟨rfl,rfl,hm,ho⟩⟩
theorem gr (B T i:Int) (k:Nat) (A A':Option Addr) (n c m d:Nat) (xs ys:List Ent) (w:World) (h:aV w (.slice A n c) xs) (hu:aV w (.slice A' m d) ys) (hB0:0≤B) (hB1:B≤4611686018427387904) (hi:i=B+k) (hk:k≤xs.length) (hx:xs.length≤400000000000) (hy:ys.length≤400000000000) :
 Rt prog 38 [.agg #[.int .i64 B,.int .i64 T,.slice A n c],.int .i64 i,.slice A' m d] w fun v w'=>∃ A2 c2,v=.agg #[.int .i64 B,.int .i64 T,.slice A2 (k+ys.length) c2]∧w'.ownsRow w.heap.size 28 3 (.slice A2 (k+ys.length) c2) (k+ys.length) (bw (xs.take k++ys))∧af w w':=by
 subst hi;exact Calls.mono (ld B T k _ _ xs ys w h hu hB0 hB1 hk hx hy) fun e w' ⟨v',he,ho,hF⟩=>⟨_,he,by obtain ⟨A2,c2,rfl⟩:=e8 ho;exact ⟨A2,c2,rfl,ho,hF⟩⟩
theorem kY {w:World} {b o:Nat} {x y z:Value} (h0:w.cell? ⟨b,o,none⟩=some x) (h1:w.cell? ⟨b,o+1,none⟩=some y) (h2:w.cell? ⟨b,o+2,none⟩=some z):w.rangeAt b o [x,y,z]:=fun j v hv=>by
 match j,hv with
 |0,hv=>cases hv;exact h0
 |1,hv=>cases hv;exact h1
 |2,hv=>cases hv;exact h2
theorem aV.head {w:World} {A:Option Addr} {n c:Nat} {e:Ent} {r:List Ent} (h:aV w (.slice A n c) (e::r)):∃ b o,A=some ⟨b,o,none⟩∧w.rangeAt b o [.int .i64 e.i,.int .i64 e.t,.string e.d]:=by
 obtain ⟨A',c',hv,_,_,_,hp⟩:=h;simp only [Value.slice.injEq] at hv;obtain ⟨rfl,_,_⟩:=hv;obtain ⟨b,o,hA,_,hc⟩:=hp (by simp);have:=hc 0 (by simp);simp only [Nat.zero_mul,Nat.add_zero,List.getElem_cons_zero] at this;exact ⟨b,o,hA,kY this.1 this.2.1 this.2.2⟩
theorem aV.len {w:World} {A:Option Addr} {n c:Nat} {xs:List Ent} (h:aV w (.slice A n c) xs):n=xs.length∧xs.length≤c:=by
 obtain ⟨A',c',hv,h1,_⟩:=h;simp only [Value.slice.injEq] at hv;obtain ⟨_,rfl,rfl⟩:=hv;exact ⟨rfl,h1⟩
theorem mF {B p q:Int} {es:List Ent} (_:0≤B) (h:cq es p q=true) (hq:inb 0 1099511627775 q=true):∃ t,cq (dh B p es) (mgP B p) t=true:=by
 unfold dh mgP;split
 ·rename_i hp;by_cases hl:B-p≤es.length
  ·have:=(jf es (B-p).toNat p q (by omega) h hq).1;rw [show p+(((B-p).toNat:Nat):Int)=B by omega] at this;rw [show min (B-p) (es.length:Int)=B-p by omega];exact ⟨_,this⟩
  ·rw [show (min (B-p) (es.length:Int)).toNat=es.length by omega,List.drop_length];exact ⟨0,rfl⟩
 ·exact ⟨q,h⟩
theorem c5 {e:Ent} {r:List Ent} {p t:Int} (h:cq (e::r) p t=true):e.i=p+1∧cq r (p+1) e.t=true:=by
 simp only [cq,gO,Bool.and_eq_true,decide_eq_true_eq] at h;exact ⟨h.1.1.1.1,h.2⟩
theorem l9 (B T:Int) (A:Option Addr) (n c:Nat) (xs:List Ent) (w:World) (h:aV w (.slice A n c) xs) (hl:dc B xs=B+xs.length) :
 Rt prog 36 [.agg #[.int .i64 B,.int .i64 T,.slice A n c]] w fun v w'=>v=.tuple #[.int .i64 (B+xs.length),.int .i64 (eo T xs)]∧af w w':=
 Rt.mono (Rt.of (lb B T _ xs w h)) fun v w' h=>⟨by rw [h.1,hl],h.2⟩
theorem fb {B T:Int} {xs:List Ent} {e:Ent} {r:List Ent} (h:¬ (e.i≤B+xs.length∧cS B T xs e.i=e.t)):dP B T xs (e::r)=e::r:=by
 unfold dP;rw [if_neg h]
theorem l5 {B T:Int} {xs:List Ent} {e:Ent} {r:List Ent} (h:e.i≤B+xs.length∧cS B T xs e.i=e.t):dP B T xs (e::r)=dP B T xs r:=by
 rw [dP,if_pos h]
theorem mU (B T p q : Int) (A U : Option Addr) (cA cU : Nat) (xs es : List Ent) (w : World) (h : aV w (.slice A xs.length cA) xs) (he : aV w (.slice U es.length cU) es) (hel : es.length ≤ 400000000000) :
    Rt prog 31 [.agg #[.int .i64 B, .int .i64 T, .slice A xs.length cA], .int .i64 p, .int .i64 q, .slice U es.length cU] w (fun v w' => nr w w' B T (dm B T p q xs es) v ∧ af w w') := by
  refine enter (n := 123) Tryd.func31 rfl rfl rfl ?_
  refine an (ah ?_)
  refine ee (v := .agg _) rfl ?_
  intro b4 w1 E4 hb4 hk4
  have hl4 := hk4.lt
  refine bF gb ?_
  intro b8 w2 E8 hb8 hk8
  replace hk4 := hk4.from_ E8
  have hg8 : w.heap.size ≤ b8 := by rw [hb8]; exact E4.size
  have h48 : b4 < b8 := by omega
  refine asb rfl ?_
  refine asi rfl ?_
  refine ak (ag (an (an (ah ?_))))
  refine aa (aD (cs := [_, _, _]) aS aE rfl (by first | (first | exact (hk4.from_ af.rfl_).whole | exact (hk4.from_ af.rfl_).rd 0 rfl | exact (hk4.from_ af.rfl_).rd 1 rfl | exact (hk4.from_ af.rfl_).rd 2 rfl))) ?_
  refine aC gg (Rt.of (jv B T _ xs _ (h.from_ ((af.rfl_.next E4).next E8)))) ?_
  rintro v14 w3 ⟨rfl, E14⟩
  refine aa (cj rfl rfl) ?_
  refine mvb rfl ?_
  refine aB (t := 16) rfl (fun Q4 => ?_) (fun Q4 => ?_)
  · replace Q4 := cz Q4; replace Q4 := bU Q4
    have hbad : ¬ (bL B T xs = true ∧ inb 0 1099511627776 p = true ∧ inb 0 1099511627775 q = true ∧ cq es p q = true) := fun h0 => Q4 (by unfold chk; rw [if_pos h0.1])
    refine ab rfl rfl ?_
    refine ab rfl rfl ?_
    refine ab rfl rfl ?_
    refine ab rfl rfl ?_
    refine aa (aG (v := .bool _) rfl rfl) ?_
    refine mvb rfl ?_
    refine ab rfl rfl ?_
    refine ab rfl rfl ?_
    refine ab rfl rfl ?_
    refine ab rfl rfl ?_
    refine aa (aG (v := .bool _) rfl rfl) ?_
    refine mvb rfl ?_
    refine ab rfl rfl ?_
    refine ab rfl rfl ?_
    refine ab rfl rfl ?_
    refine ab rfl rfl ?_
    refine ab rfl rfl ?_
    refine aa (aG (v := .bool _) rfl rfl) ?_
    refine ak (ag ?_)
    refine cd rfl ?_
    refine an (ah ?_)
    refine aa (bf (l := []) (cp)) ?_
    refine aM (vs := [_, _, _]) aE rfl rfl (by simp [Value.oneCell']) (hk8.from_ (af.rfl_.next E14)) rfl ?_
    intro w5 O2 P2
    refine asb rfl ?_
    refine asi rfl ?_
    refine ak (ag (aA (aI ?_)))
    refine fQ rfl (aX (cs := [_, _, _]) aS aE rfl (by first | exact P2.whole | exact P8.whole | exact P14.whole | exact P17.whole | exact P18.whole)) (bp (v := .bool _) rfl) (bp (v := .int _ _) rfl) ?_
    exact ⟨gq (by unfold dm; rw [if_neg hbad]) (by decide), ((((af.rfl_.next E4).next E8).next E14).only O2 (hg8))⟩
  replace Q4 := cB Q4; replace Q4 := bT Q4
  have hm : bL B T xs = true := by
    cases hm : bL B T xs with
    | true => rfl
    | false => unfold chk at Q4; rw [hm] at Q4; cases Q4
  obtain ⟨hl, hB0, hB1, hx⟩ := mW hm
  refine ae rfl ?_
  refine mvi rfl ?_
  refine ae rfl ?_
  refine ez (v := .int _ _) bk rfl rfl rfl ?_
  intro b18 w6 E18 hb18 hk18
  refine ae rfl ?_
  refine aC gf (ja _ _ _ _ _ hk18) ?_
  rintro v19 w7 ⟨rfl, E19⟩
  refine ae rfl ?_
  refine aa (ch rfl) ?_
  refine aa (ao (v := .bool _) rfl rfl) ?_
  refine mvb rfl ?_
  refine aB (t := 22) rfl (fun Q8 => ?_) (fun Q8 => ?_)
  · replace Q8 := cz Q8
    have hbad : ¬ (bL B T xs = true ∧ inb 0 1099511627776 p = true ∧ inb 0 1099511627775 q = true ∧ cq es p q = true) := fun h0 => by rw [h0.2.1] at Q8; cases Q8
    refine ab rfl rfl ?_
    refine ab rfl rfl ?_
    refine ab rfl rfl ?_
    refine ab rfl rfl ?_
    refine aa (aG (v := .bool _) rfl rfl) ?_
    refine mvb rfl ?_
    refine ab rfl rfl ?_
    refine ab rfl rfl ?_
    refine ab rfl rfl ?_
    refine ab rfl rfl ?_
    refine ab rfl rfl ?_
    refine aa (aG (v := .bool _) rfl rfl) ?_
    refine ak (ag ?_)
    refine cd rfl ?_
    refine an (ah ?_)
    refine aa (bf (l := []) (cp)) ?_
    refine aM (vs := [_, _, _]) aE rfl rfl (by simp [Value.oneCell']) (hk8.from_ (((af.rfl_.next E14).next E18).next E19)) rfl ?_
    intro w9 O2 P2
    refine asb rfl ?_
    refine asi rfl ?_
    refine ak (ag (aA (aI ?_)))
    refine fQ rfl (aX (cs := [_, _, _]) aS aE rfl (by first | exact P2.whole | exact P8.whole | exact P14.whole | exact P17.whole | exact P18.whole)) (bp (v := .bool _) rfl) (bp (v := .int _ _) rfl) ?_
    exact ⟨gq (by unfold dm; rw [if_neg hbad]) (by decide), ((((((af.rfl_.next E4).next E8).next E14).next E18).next E19).only O2 (hg8))⟩
  replace Q8 := cB Q8
  have hPv := Q8
  have hpb := cF Q8
  refine ae rfl ?_
  refine mvi rfl ?_
  refine ae rfl ?_
  refine ez (v := .int _ _) bk rfl rfl rfl ?_
  intro b24 w10 E24 hb24 hk24
  refine ae rfl ?_
  refine aC gf (ja _ _ _ _ _ hk24) ?_
  rintro v25 w11 ⟨rfl, E25⟩
  refine ae rfl ?_
  refine aa (ch rfl) ?_
  refine aa (ao (v := .bool _) rfl rfl) ?_
  refine mvb rfl ?_
  refine aB (t := 28) rfl (fun Q12 => ?_) (fun Q12 => ?_)
  · replace Q12 := cz Q12
    have hbad : ¬ (bL B T xs = true ∧ inb 0 1099511627776 p = true ∧ inb 0 1099511627775 q = true ∧ cq es p q = true) := fun h0 => by rw [h0.2.2.1] at Q12; cases Q12
    refine ab rfl rfl ?_
    refine ab rfl rfl ?_
    refine ab rfl rfl ?_
    refine ab rfl rfl ?_
    refine ab rfl rfl ?_
    refine aa (aG (v := .bool _) rfl rfl) ?_
    refine ak (ag ?_)
    refine cd rfl ?_
    refine an (ah ?_)
    refine aa (bf (l := []) (cp)) ?_
    refine aM (vs := [_, _, _]) aE rfl rfl (by simp [Value.oneCell']) (hk8.from_ (((((af.rfl_.next E14).next E18).next E19).next E24).next E25)) rfl ?_
    intro w13 O2 P2
    refine asb rfl ?_
    refine asi rfl ?_
    refine ak (ag (aA (aI ?_)))
    refine fQ rfl (aX (cs := [_, _, _]) aS aE rfl (by first | exact P2.whole | exact P8.whole | exact P14.whole | exact P17.whole | exact P18.whole)) (bp (v := .bool _) rfl) (bp (v := .int _ _) rfl) ?_
    exact ⟨gq (by unfold dm; rw [if_neg hbad]) (by decide), ((((((((af.rfl_.next E4).next E8).next E14).next E18).next E19).next E24).next E25).only O2 (hg8))⟩
  replace Q12 := cB Q12
  have hQv := Q12
  have hqb := cF Q12
  refine ae rfl ?_
  refine mvi rfl ?_
  refine ae rfl ?_
  refine mvi rfl ?_
  refine ae rfl ?_
  refine mvs rfl ?_
  refine ae rfl ?_
  refine aC j5 (Rt.of (fz p q _ es _ (he.from_ (((((((af.rfl_.next E4).next E8).next E14).next E18).next E19).next E24).next E25)) (by omega) (by omega) (by omega) (by omega))) ?_
  rintro v32 w14 ⟨rfl, E32⟩
  refine ae rfl ?_
  refine aa (ch rfl) ?_
  refine aa (ao (v := .bool _) rfl rfl) ?_
  refine ak (ag ?_)
  refine aK rfl (fun Q15 => ?_) (fun Q15 => ?_)
  · replace Q15 := cz Q15
    have hbad : ¬ (bL B T xs = true ∧ inb 0 1099511627776 p = true ∧ inb 0 1099511627775 q = true ∧ cq es p q = true) := fun h0 => by rw [h0.2.2.2] at Q15; cases Q15
    refine an (ah ?_)
    refine aa (bf (l := []) (cp)) ?_
    refine aM (vs := [_, _, _]) aE rfl rfl (by simp [Value.oneCell']) (hk8.from_ ((((((af.rfl_.next E14).next E18).next E19).next E24).next E25).next E32)) rfl ?_
    intro w16 O2 P2
    refine asb rfl ?_
    refine asi rfl ?_
    refine ak (ag (aA (aI ?_)))
    refine fQ rfl (aX (cs := [_, _, _]) aS aE rfl (by first | exact P2.whole | exact P8.whole | exact P14.whole | exact P17.whole | exact P18.whole)) (bp (v := .bool _) rfl) (bp (v := .int _ _) rfl) ?_
    exact ⟨gq (by unfold dm; rw [if_neg hbad]) (by decide), (((((((((af.rfl_.next E4).next E8).next E14).next E18).next E19).next E24).next E25).next E32).only O2 (hg8))⟩
  replace Q15 := cB Q15
  have hR := Q15
  refine aY (ag ?_)
  refine ll (G := Int × Int × List Ent × Option Addr × Nat × Nat) [36, 37, 38, 39, 40, 41, 42, 43, 44, 45, 46, 47, 48, 49, 50, 51, 52] (fun (P, Q, ys, A3, n3, c3) => [(1, .int .i64 P), (2, .int .i64 Q), (3, .slice A3 n3 c3)]) (fun (P, Q, ys, A3, n3, c3) w' => P = mgP B p ∧ Q = mgQ B T p q ∧ ys = dh B p es ∧ n3 = ys.length ∧ aV w' (.slice A3 n3 c3) ys ∧ Blk w' b4 66 #[.int .i64 B, .int .i64 T, .slice A xs.length cA] ∧ Blk w' b8 66 #[.int .i64 0, .int .i64 0, .slice none 0 0] ∧ af w w') ?_ ?_
  · refine an (ah ?_)
    refine mvi rfl ?_
    refine aa (aj de rfl) ?_
    refine aa (av ar rfl (by first | (first | exact (hk4.from_ ((((((af.rfl_.next E14).next E18).next E19).next E24).next E25).next E32)).whole | exact (hk4.from_ ((((((af.rfl_.next E14).next E18).next E19).next E24).next E25).next E32)).rd 0 rfl | exact (hk4.from_ ((((((af.rfl_.next E14).next E18).next E19).next E24).next E25).next E32)).rd 1 rfl | exact (hk4.from_ ((((((af.rfl_.next E14).next E18).next E19).next E24).next E25).next E32)).rd 2 rfl))) ?_
    refine aa (dL rfl rfl) ?_
    refine ak (ag ?_)
    refine aK rfl (fun Q17 => ?_) (fun Q17 => ?_)
    · replace Q17 := dT_ Q17
      have hlt := Q17
      refine an (ah ?_)
      refine mvs rfl ?_
      refine aa (aj de rfl) ?_
      refine aa (av ar rfl (by first | (first | exact (hk4.from_ ((((((af.rfl_.next E14).next E18).next E19).next E24).next E25).next E32)).whole | exact (hk4.from_ ((((((af.rfl_.next E14).next E18).next E19).next E24).next E25).next E32)).rd 0 rfl | exact (hk4.from_ ((((((af.rfl_.next E14).next E18).next E19).next E24).next E25).next E32)).rd 1 rfl | exact (hk4.from_ ((((((af.rfl_.next E14).next E18).next E19).next E24).next E25).next E32)).rd 2 rfl))) ?_
      refine mvi rfl ?_
      refine aa (ei rfl rfl (by omega)) ?_
      refine mvs rfl ?_
      refine aa (cu bl rfl) ?_
      refine aa (oz rfl rfl) ?_
      refine aa (jj (l := (min (B - p) es.length).toNat) bC rfl (.inr ⟨_, _, _, rfl, rfl, (by omega)⟩) (.inl ⟨rfl, rfl⟩) (by omega) (by have := he.len; omega)) ?_
      refine ass rfl ?_
      refine ak (ag ?_)
      apply dD 6 [(49, eqp _), (50, eqp _), (51, eqp _), (52, eqp _), (1, eqp _), (2, eqp _)] (by kernel_rfl) (by kernel_rfl) ⟨ai _, ai _, ai _, ai _, ai _, ai _, trivial⟩
      case hop =>
       refine ⟨?_, ?_⟩
       · intro w19 D19
         show aw ..
         exact au (aj de rfl) rfl
       refine ⟨?_, ?_⟩
       · intro w20 D20
         rintro _ rfl
         show aw ..
         exact au (av ar rfl (by first | (first | exact (hk4.from_ (((((((af.rfl_.next E14).next E18).next E19).next E24).next E25).next E32).next D20)).whole | exact (hk4.from_ (((((((af.rfl_.next E14).next E18).next E19).next E24).next E25).next E32).next D20)).rd 0 rfl | exact (hk4.from_ (((((((af.rfl_.next E14).next E18).next E19).next E24).next E25).next E32).next D20)).rd 1 rfl | exact (hk4.from_ (((((((af.rfl_.next E14).next E18).next E19).next E24).next E25).next E32).next D20)).rd 2 rfl))) rfl
       refine ⟨?_, ?_⟩
       · intro w21 D21
         show aw ..
         exact au (aj iO rfl) rfl
       refine ⟨?_, ?_⟩
       · intro w22 D22
         rintro _ rfl
         show aw ..
         exact au (av ar rfl (by first | (first | exact (hk4.from_ (((((((af.rfl_.next E14).next E18).next E19).next E24).next E25).next E32).next D22)).whole | exact (hk4.from_ (((((((af.rfl_.next E14).next E18).next E19).next E24).next E25).next E32).next D22)).rd 0 rfl | exact (hk4.from_ (((((((af.rfl_.next E14).next E18).next E19).next E24).next E25).next E32).next D22)).rd 1 rfl | exact (hk4.from_ (((((((af.rfl_.next E14).next E18).next E19).next E24).next E25).next E32).next D22)).rd 2 rfl))) rfl
       refine ⟨?_, ?_⟩
       · intro w23 D23
         rintro _ rfl
         show aw ..
         exact au (b_ (v := .int _ _) rfl) rfl
       refine ⟨?_, ?_⟩
       · intro w24 D24
         rintro _ rfl
         show aw ..
         exact au (b_ (v := .int _ _) rfl) rfl
       exact trivial
      case hend =>
       intro w25 D25
       rintro _ rfl _ rfl _ rfl _ rfl _ rfl _ rfl
       show St ..
       refine ak ?_
       refine cI ((_, _, dh B p es, _, _, _)) ⟨rfl, rfl, rfl, trivial⟩ (by (iterate 20 refine bH rfl ?_); exact cf) ?_
       first
         | exact ⟨by unfold mgP; rw [if_pos hlt], by unfold mgQ; rw [if_pos hlt], rfl, by unfold dh; rw [if_pos hlt, List.length_drop], by unfold dh; rw [if_pos hlt]; exact (he.from_ (((((((((af.rfl_.next E4).next E8).next E14).next E18).next E19).next E24).next E25).next E32).next D25)).restA (by omega), hk4.from_ (((((((af.rfl_.next E14).next E18).next E19).next E24).next E25).next E32).next D25), hk8.from_ (((((((af.rfl_.next E14).next E18).next E19).next E24).next E25).next E32).next D25), (((((((((af.rfl_.next E4).next E8).next E14).next E18).next E19).next E24).next E25).next E32).next D25)⟩
         | exact ⟨by unfold mgP; rw [if_neg hlt], by unfold mgQ; rw [if_neg hlt], rfl, by unfold dh; rw [if_neg hlt], by unfold dh; rw [if_neg hlt]; exact he.from_ (((((((((af.rfl_.next E4).next E8).next E14).next E18).next E19).next E24).next E25).next E32).next D25), hk4.from_ (((((((af.rfl_.next E14).next E18).next E19).next E24).next E25).next E32).next D25), hk8.from_ (((((((af.rfl_.next E14).next E18).next E19).next E24).next E25).next E32).next D25), (((((((((af.rfl_.next E4).next E8).next E14).next E18).next E19).next E24).next E25).next E32).next D25)⟩
    replace Q17 := dF_ Q17
    have hlt := Q17
    refine aY ?_
    refine cI ((_, _, dh B p es, _, _, _)) ⟨rfl, rfl, rfl, trivial⟩ (by (iterate 4 refine bH rfl ?_); exact cf) ?_
    first
      | exact ⟨by unfold mgP; rw [if_pos hlt], by unfold mgQ; rw [if_pos hlt], rfl, by unfold dh; rw [if_pos hlt, List.length_drop], by unfold dh; rw [if_pos hlt]; exact (he.from_ ((((((((af.rfl_.next E4).next E8).next E14).next E18).next E19).next E24).next E25).next E32)).restA (by omega), hk4.from_ ((((((af.rfl_.next E14).next E18).next E19).next E24).next E25).next E32), hk8.from_ ((((((af.rfl_.next E14).next E18).next E19).next E24).next E25).next E32), ((((((((af.rfl_.next E4).next E8).next E14).next E18).next E19).next E24).next E25).next E32)⟩
      | exact ⟨by unfold mgP; rw [if_neg hlt], by unfold mgQ; rw [if_neg hlt], rfl, by unfold dh; rw [if_neg hlt], by unfold dh; rw [if_neg hlt]; exact he.from_ ((((((((af.rfl_.next E4).next E8).next E14).next E18).next E19).next E24).next E25).next E32), hk4.from_ ((((((af.rfl_.next E14).next E18).next E19).next E24).next E25).next E32), hk8.from_ ((((((af.rfl_.next E14).next E18).next E19).next E24).next E25).next E32), ((((((((af.rfl_.next E4).next E8).next E14).next E18).next E19).next E24).next E25).next E32)⟩
  rintro ⟨P, Q, ys, A3, n3, c3⟩ ρ26 w26 ⟨hP6, hQ6, hys6, rfl, hes, hk4, hk8, hB⟩
  have hPB : B ≤ P := by rw [hP6]; unfold mgP; split <;> omega
  obtain ⟨t6, hrun6⟩ : ∃ t, cq ys P t = true := by rw [hP6, hys6]; exact mF hB0 hR hQv
  have hy6 : ys.length ≤ es.length := by rw [hys6]; unfold dh; split <;> simp
  refine an (ah ?_)
  refine aa (aD (cs := [_, _, _]) aS aE rfl (by first | (first | exact (hk4.from_ af.rfl_).whole | exact (hk4.from_ af.rfl_).rd 0 rfl | exact (hk4.from_ af.rfl_).rd 1 rfl | exact (hk4.from_ af.rfl_).rd 2 rfl))) ?_
  refine aC j4 (l9 B T A _ cA xs _ (h.from_ hB) hl) ?_
  rintro v55 w27 ⟨rfl, E55⟩
  refine mvt rfl ?_
  refine aa (ay rfl rfl) ?_
  refine aa (ay rfl rfl) ?_
  refine asi rfl ?_
  refine asi rfl ?_
  refine ak (ag (an (an (ah ?_))))
  refine mvi rfl ?_
  refine mvi rfl ?_
  refine aa (eW rfl rfl) ?_
  refine mvb rfl ?_
  refine aB (t := 61) rfl (fun Q28 => ?_) (fun Q28 => ?_)
  · replace Q28 := dT_ Q28
    have hms : B + (xs.length : Int) < mgP B p ∨ ¬ cS B T xs (mgP B p) = mgQ B T p q := .inl (by rw [← hP6]; exact Q28)
    refine ab rfl rfl ?_
    refine ab rfl rfl ?_
    refine ab rfl rfl ?_
    refine ab rfl rfl ?_
    refine ab rfl rfl ?_
    refine aa (aG (v := .bool _) rfl rfl) ?_
    refine ak (ag ?_)
    refine cd rfl ?_
    refine an (ah ?_)
    refine aa (aD (cs := [_, _, _]) aS aE rfl (by first | (first | exact (hk4.from_ (af.rfl_.next E55)).whole | exact (hk4.from_ (af.rfl_.next E55)).rd 0 rfl | exact (hk4.from_ (af.rfl_.next E55)).rd 1 rfl | exact (hk4.from_ (af.rfl_.next E55)).rd 2 rfl))) ?_
    refine mvi rfl ?_
    have hb70 := (hk8.from_ (af.rfl_.next E55)).lt
    refine aC eN (gr B T _ xs.length A none _ cA 0 0 xs [] _ (h.from_ (hB.next E55)) (aV.nil_ _) hB0 (by omega) rfl (Nat.le_refl _) (by omega) (by simp)) ?_
    rintro v70 w29 ⟨A70, c70, rfl, ho70, E70⟩
    refine aM (vs := [_, _, _]) aE rfl rfl (by simp [Value.oneCell']) (hk8.from_ ((af.rfl_.next E55).next E70)) rfl ?_
    intro w30 O8 P8
    refine asb rfl ?_
    refine asi rfl ?_
    refine ak (ag (aA (aI ?_)))
    refine fQ rfl (aX (cs := [_, _, _]) aS aE rfl (by first | exact P2.whole | exact P8.whole | exact P14.whole | exact P17.whole | exact P18.whole)) (bp (v := .bool _) rfl) (bp (v := .int _ _) rfl) ?_
    refine ⟨jM (ys := xs.take xs.length ++ []) (by unfold dm; rw [if_pos ⟨hm, hPv, hQv, hR⟩, if_pos hms]; simp) (by simp) (dN (eZ ho70 O8 hb70) (by omega)), (((hB.next E55).next E70).only O8 (hg8))⟩
  replace Q28 := dF_ Q28
  have hPL : P ≤ B + (xs.length : Int) := by omega
  refine ae rfl ?_
  refine aa (aD (cs := [_, _, _]) aS aE rfl (by first | (first | exact (hk4.from_ (af.rfl_.next E55)).whole | exact (hk4.from_ (af.rfl_.next E55)).rd 0 rfl | exact (hk4.from_ (af.rfl_.next E55)).rd 1 rfl | exact (hk4.from_ (af.rfl_.next E55)).rd 2 rfl))) ?_
  refine ae rfl ?_
  refine mvi rfl ?_
  refine ae rfl ?_
  refine aC gd (Rt.of (ib B T P _ xs _ (h.from_ (hB.next E55)) hB0 (by omega) hPB (by omega) (by omega))) ?_
  rintro v64 w31 ⟨rfl, E64⟩
  refine ae rfl ?_
  refine mvi rfl ?_
  refine ae rfl ?_
  refine aa (cj rfl rfl) ?_
  refine aa (ao (v := .bool _) rfl rfl) ?_
  refine ak (ag ?_)
  refine aK rfl (fun Q32 => ?_) (fun Q32 => ?_)
  · replace Q32 := cz Q32; replace Q32 := bU Q32
    have hms : B + (xs.length : Int) < mgP B p ∨ ¬ cS B T xs (mgP B p) = mgQ B T p q := .inr (by rw [← hP6, ← hQ6]; exact Q32)
    refine an (ah ?_)
    refine aa (aD (cs := [_, _, _]) aS aE rfl (by first | (first | exact (hk4.from_ ((af.rfl_.next E55).next E64)).whole | exact (hk4.from_ ((af.rfl_.next E55).next E64)).rd 0 rfl | exact (hk4.from_ ((af.rfl_.next E55).next E64)).rd 1 rfl | exact (hk4.from_ ((af.rfl_.next E55).next E64)).rd 2 rfl))) ?_
    refine mvi rfl ?_
    have hb70 := (hk8.from_ ((af.rfl_.next E55).next E64)).lt
    refine aC eN (gr B T _ xs.length A none _ cA 0 0 xs [] _ (h.from_ ((hB.next E55).next E64)) (aV.nil_ _) hB0 (by omega) rfl (Nat.le_refl _) (by omega) (by simp)) ?_
    rintro v70 w33 ⟨A70, c70, rfl, ho70, E70⟩
    refine aM (vs := [_, _, _]) aE rfl rfl (by simp [Value.oneCell']) (hk8.from_ (((af.rfl_.next E55).next E64).next E70)) rfl ?_
    intro w34 O8 P8
    refine asb rfl ?_
    refine asi rfl ?_
    refine ak (ag (aA (aI ?_)))
    refine fQ rfl (aX (cs := [_, _, _]) aS aE rfl (by first | exact P2.whole | exact P8.whole | exact P14.whole | exact P17.whole | exact P18.whole)) (bp (v := .bool _) rfl) (bp (v := .int _ _) rfl) ?_
    refine ⟨jM (ys := xs.take xs.length ++ []) (by unfold dm; rw [if_pos ⟨hm, hPv, hQv, hR⟩, if_pos hms]; simp) (by simp) (dN (eZ ho70 O8 hb70) (by omega)), ((((hB.next E55).next E64).next E70).only O8 (hg8))⟩
  replace Q32 := cB Q32; replace Q32 := bT Q32
  have hnm : ¬ (B + (xs.length : Int) < mgP B p ∨ ¬ cS B T xs (mgP B p) = mgQ B T p q) := by rw [← hP6, ← hQ6]; exact fun h0 => h0.elim (fun h1 => by omega) (fun h1 => h1 Q32)
  refine aY (ag ?_)
  refine ll (G := List Ent × Option Addr × Nat) [71, 72, 73, 74, 75, 76, 77, 78, 79, 80, 81, 82, 83, 84, 85, 86, 87, 88, 89, 90, 91, 92, 93, 94, 95, 96] (fun (ys, A4, c4) => [(3, .slice A4 ys.length c4)]) (fun (ys, A4, c4) w' => aV w' (.slice A4 ys.length c4) ys ∧ ys = dP B T xs (dh B p es) ∧ (∀ e r, ys = e :: r → B + 1 ≤ e.i ∧ e.i ≤ B + xs.length + 1) ∧ ys.length ≤ es.length ∧ Blk w' b4 66 #[.int .i64 B, .int .i64 T, .slice A xs.length cA] ∧ Blk w' b8 66 #[.int .i64 0, .int .i64 0, .slice none 0 0] ∧ af w w') ?_ ?_
  · refine bt ?_
    refine dJ (G := List Ent × Option Addr × Nat × Int × Int) [71, 72, 73, 74, 75, 76, 77, 78, 79, 80, 81, 82, 83, 84, 85, 86, 87, 88, 89, 90, 91, 92, 93, 94, 95, 96] (fun (zs, A4, c4, p', t') => [(3, .slice A4 zs.length c4)]) (fun (zs, A4, c4, p', t') w' => aV w' (.slice A4 zs.length c4) zs ∧ dP B T xs zs = dP B T xs ys ∧ cq zs p' t' = true ∧ B ≤ p' ∧ p' ≤ B + xs.length ∧ zs.length ≤ es.length ∧ Blk w' b4 66 #[.int .i64 B, .int .i64 T, .slice A xs.length cA] ∧ Blk w' b8 66 #[.int .i64 0, .int .i64 0, .slice none 0 0] ∧ af w w') (fun (zs, A4, c4, p', t') => zs.length) ((ys, A3, c3, P, t6)) ⟨rfl, trivial⟩ ?_ ?_
    · exact ⟨hes.from_ ((af.rfl_.next E55).next E64), rfl, hrun6, hPB, hPL, hy6, hk4.from_ ((af.rfl_.next E55).next E64), hk8.from_ ((af.rfl_.next E55).next E64), ((hB.next E55).next E64)⟩
    rintro ⟨zs, A4, c4, p', t'⟩ ρ35 w35 ⟨hzs, hsk, hrun, hpB, hpL, hzl, hk4, hk8, hB⟩
    refine an (an ?_)
    have hcases : zs = [] ∨ (∃ e r, zs = e :: r ∧ ¬ e.i ≤ B + xs.length) ∨ (∃ e r, zs = e :: r ∧ e.i ≤ B + xs.length) := by
      cases zs with
      | nil => exact .inl rfl
      | cons e r => by_cases h1 : e.i ≤ B + xs.length
                    · exact .inr (.inr ⟨e, r, rfl, h1⟩)
                    · exact .inr (.inl ⟨e, r, rfl, h1⟩)
    rcases hcases with rfl | ⟨e, r, rfl, h1⟩ | ⟨e, r, rfl, h1⟩
    · have hfin := hsk.trans (congrArg _ hys6)
      apply dD 24 [(71, eqp _), (72, eqp _), (73, eqp _), (74, eqp _), (75, eqp _), (76, eqp _), (77, eqp _), (78, eqp _), (79, eqp _), (80, eqp _), (81, eqp _), (82, eqp _), (83, eqp _), (84, eqp _), (85, eqp _), (86, eqp _), (87, eqp _), (88, eqp _), (89, eqp _), (90, eqp _), (91, eqp _), (92, eqp _), (93, eqp _), (94, eqp _)] (by kernel_rfl) (by kernel_rfl) ⟨ai _, ai _, ai _, ai _, ai _, ai _, ai _, ai _, ai _, ai _, ai _, ai _, ai _, ai _, ai _, ai _, ai _, ai _, ai _, ai _, ai _, ai _, ai _, ai _, trivial⟩
      case hop =>
       refine ⟨?_, ?_⟩
       · intro w37 D37
         show aw ..
         exact au (az (v := .slice _ _ _) rfl) rfl
       refine ⟨?_, ?_⟩
       · intro w38 D38
         rintro _ rfl
         show aw ..
         exact au (cu bl rfl) rfl
       refine ⟨?_, ?_⟩
       · intro w39 D39
         rintro _ rfl
         show aw ..
         exact au (mL (eW rfl rfl) (by simp)) rfl
       refine ⟨?_, ?_⟩
       · intro w40 D40
         rintro _ rfl
         show aw ..
         exact au (az (v := .bool _) rfl) rfl
       refine ⟨?_, ?_⟩
       · intro w41 D41
         rintro _ rfl
         show aw ..
         exact aU rfl rfl rfl
       refine ⟨?_, ?_⟩
       · intro w42 D42
         rintro _ rfl _ rfl
         show aw ..
         exact aU rfl rfl rfl
       refine ⟨?_, ?_⟩
       · intro w43 D43
         rintro _ rfl _ rfl
         show aw ..
         exact aU rfl rfl rfl
       refine ⟨?_, ?_⟩
       · intro w44 D44
         rintro _ rfl _ rfl
         show aw ..
         exact aU rfl rfl rfl
       refine ⟨?_, ?_⟩
       · intro w45 D45
         rintro _ rfl
         show aw ..
         exact aU rfl rfl rfl
       refine ⟨?_, ?_⟩
       · intro w46 D46
         rintro _ rfl _ rfl _ rfl
         show aw ..
         exact aU rfl rfl rfl
       refine ⟨?_, ?_⟩
       · intro w47 D47
         rintro _ rfl _ rfl
         show aw ..
         exact au (ao (v := .bool _) rfl rfl) rfl
       refine ⟨?_, ?_⟩
       · intro w48 D48
         rintro _ rfl
         show aw ..
         exact au (az (v := .bool _) rfl) rfl
       refine ⟨?_, ?_⟩
       · intro w49 D49
         rintro _ rfl
         show aw ..
         exact aU rfl rfl rfl
       refine ⟨?_, ?_⟩
       · intro w50 D50
         rintro _ rfl
         show aw ..
         exact aU rfl rfl rfl
       refine ⟨?_, ?_⟩
       · intro w51 D51
         rintro _ rfl _ rfl
         show aw ..
         exact aU rfl rfl rfl
       refine ⟨?_, ?_⟩
       · intro w52 D52
         rintro _ rfl _ rfl
         show aw ..
         exact aU rfl rfl rfl
       refine ⟨?_, ?_⟩
       · intro w53 D53
         rintro _ rfl _ rfl
         show aw ..
         exact aU rfl rfl rfl
       refine ⟨?_, ?_⟩
       · intro w54 D54
         rintro _ rfl _ rfl _ rfl
         show aw ..
         exact aU rfl rfl rfl
       refine ⟨?_, ?_⟩
       · intro w55 D55
         rintro _ rfl
         show aw ..
         exact aU rfl rfl rfl
       refine ⟨?_, ?_⟩
       · intro w56 D56
         rintro _ rfl _ rfl
         show aw ..
         exact aU rfl rfl rfl
       refine ⟨?_, ?_⟩
       · intro w57 D57
         rintro _ rfl _ rfl
         show aw ..
         exact aU rfl rfl rfl
       refine ⟨?_, ?_⟩
       · intro w58 D58
         rintro _ rfl _ rfl
         show aw ..
         exact aU rfl rfl rfl
       refine ⟨?_, ?_⟩
       · intro w59 D59
         rintro _ rfl _ rfl _ rfl
         show aw ..
         exact aU rfl rfl rfl
       refine ⟨?_, ?_⟩
       · intro w60 D60
         rintro _ rfl _ rfl
         show aw ..
         exact au (ao (v := .bool _) rfl rfl) rfl
       exact trivial
      case hend =>
       intro w61 D61
       rintro _ rfl _ rfl _ rfl _ rfl _ rfl _ rfl _ rfl _ rfl _ rfl _ rfl _ rfl _ rfl _ rfl _ rfl _ rfl _ rfl _ rfl _ rfl _ rfl _ rfl _ rfl _ rfl _ rfl _ rfl
       show St ..
       refine ak (ag ?_)
       refine kB rfl ?_
       refine dd ?_
       refine bA (bA (cJ ?_))
       refine cI ((_, _, _)) ⟨rfl, trivial⟩ (by (iterate 51 refine bH rfl ?_); exact cf) ?_
       exact ⟨hzs.from_ (af.rfl_.next D61), hfin, (fun e r h0 => by cases h0 <;> (have := (c5 hrun).1; omega)), hzl, hk4.from_ (af.rfl_.next D61), hk8.from_ (af.rfl_.next D61), (hB.next D61)⟩
    · have hfin := (fb (r := r) (fun h0 => h1 h0.1)).symm.trans (hsk.trans (congrArg _ hys6))
      obtain ⟨b9, o9, rfl, hcell⟩ := hzs.head
      apply dD 24 [(71, eqp _), (72, eqp _), (73, eqp _), (74, eqp _), (75, eqp _), (76, eqp _), (77, eqp _), (78, eqp _), (79, eqp _), (80, eqp _), (81, eqp _), (82, eqp _), (83, eqp _), (84, eqp _), (85, eqp _), (86, eqp _), (87, eqp _), (88, eqp _), (89, eqp _), (90, eqp _), (91, eqp _), (92, eqp _), (93, eqp _), (94, eqp _)] (by kernel_rfl) (by kernel_rfl) ⟨ai _, ai _, ai _, ai _, ai _, ai _, ai _, ai _, ai _, ai _, ai _, ai _, ai _, ai _, ai _, ai _, ai _, ai _, ai _, ai _, ai _, ai _, ai _, ai _, trivial⟩
      case hop =>
       refine ⟨?_, ?_⟩
       · intro w63 D63
         show aw ..
         exact au (az (v := .slice _ _ _) rfl) rfl
       refine ⟨?_, ?_⟩
       · intro w64 D64
         rintro _ rfl
         show aw ..
         exact au (cu bl rfl) rfl
       refine ⟨?_, ?_⟩
       · intro w65 D65
         rintro _ rfl
         show aw ..
         exact au (ke (eW rfl rfl) (by simp)) rfl
       refine ⟨?_, ?_⟩
       · intro w66 D66
         rintro _ rfl
         show aw ..
         exact au (az (v := .bool _) rfl) rfl
       refine ⟨?_, ?_⟩
       · intro w67 D67
         rintro _ rfl
         show aw ..
         exact aN rfl (az (v := .slice _ _ _) rfl) rfl
       refine ⟨?_, ?_⟩
       · intro w68 D68
         rintro _ rfl _ rfl
         show aw ..
         exact aN rfl (cM bC rfl rfl (by simp <;> omega)) rfl
       refine ⟨?_, ?_⟩
       · intro w69 D69
         rintro _ rfl _ rfl
         show aw ..
         exact aN rfl (aj cL rfl) rfl
       refine ⟨?_, ?_⟩
       · intro w70 D70
         rintro _ rfl _ rfl
         show aw ..
         exact aN rfl (av ar rfl (by exact eX (af.rfl_.next D70) hcell 0 _ rfl)) rfl
       refine ⟨?_, ?_⟩
       · intro w71 D71
         rintro _ rfl
         show aw ..
         exact aN rfl (az (v := .int _ _) rfl) rfl
       refine ⟨?_, ?_⟩
       · intro w72 D72
         rintro _ rfl _ rfl _ rfl
         show aw ..
         exact aN rfl (mL (gi rfl rfl) (decide_eq_false h1)) rfl
       refine ⟨?_, ?_⟩
       · intro w73 D73
         rintro _ rfl _ rfl
         show aw ..
         exact au (aG (v := .bool _) rfl rfl) rfl
       refine ⟨?_, ?_⟩
       · intro w74 D74
         rintro _ rfl
         show aw ..
         exact au (az (v := .bool _) rfl) rfl
       refine ⟨?_, ?_⟩
       · intro w75 D75
         rintro _ rfl
         show aw ..
         exact aU rfl rfl rfl
       refine ⟨?_, ?_⟩
       · intro w76 D76
         rintro _ rfl
         show aw ..
         exact aU rfl rfl rfl
       refine ⟨?_, ?_⟩
       · intro w77 D77
         rintro _ rfl _ rfl
         show aw ..
         exact aU rfl rfl rfl
       refine ⟨?_, ?_⟩
       · intro w78 D78
         rintro _ rfl _ rfl
         show aw ..
         exact aU rfl rfl rfl
       refine ⟨?_, ?_⟩
       · intro w79 D79
         rintro _ rfl _ rfl
         show aw ..
         exact aU rfl rfl rfl
       refine ⟨?_, ?_⟩
       · intro w80 D80
         rintro _ rfl _ rfl _ rfl
         show aw ..
         exact aU rfl rfl rfl
       refine ⟨?_, ?_⟩
       · intro w81 D81
         rintro _ rfl
         show aw ..
         exact aU rfl rfl rfl
       refine ⟨?_, ?_⟩
       · intro w82 D82
         rintro _ rfl _ rfl
         show aw ..
         exact aU rfl rfl rfl
       refine ⟨?_, ?_⟩
       · intro w83 D83
         rintro _ rfl _ rfl
         show aw ..
         exact aU rfl rfl rfl
       refine ⟨?_, ?_⟩
       · intro w84 D84
         rintro _ rfl _ rfl
         show aw ..
         exact aU rfl rfl rfl
       refine ⟨?_, ?_⟩
       · intro w85 D85
         rintro _ rfl _ rfl _ rfl
         show aw ..
         exact aU rfl rfl rfl
       refine ⟨?_, ?_⟩
       · intro w86 D86
         rintro _ rfl _ rfl
         show aw ..
         exact au (ao (v := .bool _) rfl rfl) rfl
       exact trivial
      case hend =>
       intro w87 D87
       rintro _ rfl _ rfl _ rfl _ rfl _ rfl _ rfl _ rfl _ rfl _ rfl _ rfl _ rfl _ rfl _ rfl _ rfl _ rfl _ rfl _ rfl _ rfl _ rfl _ rfl _ rfl _ rfl _ rfl _ rfl
       show St ..
       refine ak (ag ?_)
       refine kB rfl ?_
       refine dd ?_
       refine bA (bA (cJ ?_))
       refine cI ((_, _, _)) ⟨rfl, trivial⟩ (by (iterate 51 refine bH rfl ?_); exact cf) ?_
       exact ⟨hzs.from_ (af.rfl_.next D87), hfin, (fun e r h0 => by cases h0 <;> (have := (c5 hrun).1; omega)), hzl, hk4.from_ (af.rfl_.next D87), hk8.from_ (af.rfl_.next D87), (hB.next D87)⟩
    obtain ⟨b9, o9, rfl, hcell⟩ := hzs.head
    apply dD 24 [(71, eqp _), (72, eqp _), (73, eqp _), (74, eqp _), (75, eqp _), (76, eqp _), (77, eqp _), (78, eqp _), (79, eqp _), (80, eqp _), (81, eqp _), (82, eqp _), (83, eqp _), (84, eqp _), (85, eqp _), (86, eqp _), (87, eqp _), (88, eqp _), (89, eqp _), (90, eqp _), (91, eqp _), (92, eqp _), (93, eqp _), (94, eqp _)] (by kernel_rfl) (by kernel_rfl) ⟨ai _, ai _, ai _, ai _, ai _, ai _, ai _, ai _, ai _, ai _, ai _, ai _, ai _, ai _, ai _, ai _, ai _, ai _, ai _, ai _, ai _, ai _, ai _, ai _, trivial⟩
    case hop =>
     refine ⟨?_, ?_⟩
     · intro w89 D89
       show aw ..
       exact au (az (v := .slice _ _ _) rfl) rfl
     refine ⟨?_, ?_⟩
     · intro w90 D90
       rintro _ rfl
       show aw ..
       exact au (cu bl rfl) rfl
     refine ⟨?_, ?_⟩
     · intro w91 D91
       rintro _ rfl
       show aw ..
       exact au (ke (eW rfl rfl) (by simp)) rfl
     refine ⟨?_, ?_⟩
     · intro w92 D92
       rintro _ rfl
       show aw ..
       exact au (az (v := .bool _) rfl) rfl
     refine ⟨?_, ?_⟩
     · intro w93 D93
       rintro _ rfl
       show aw ..
       exact aN rfl (az (v := .slice _ _ _) rfl) rfl
     refine ⟨?_, ?_⟩
     · intro w94 D94
       rintro _ rfl _ rfl
       show aw ..
       exact aN rfl (cM bC rfl rfl (by simp <;> omega)) rfl
     refine ⟨?_, ?_⟩
     · intro w95 D95
       rintro _ rfl _ rfl
       show aw ..
       exact aN rfl (aj cL rfl) rfl
     refine ⟨?_, ?_⟩
     · intro w96 D96
       rintro _ rfl _ rfl
       show aw ..
       exact aN rfl (av ar rfl (by exact eX (af.rfl_.next D96) hcell 0 _ rfl)) rfl
     refine ⟨?_, ?_⟩
     · intro w97 D97
       rintro _ rfl
       show aw ..
       exact aN rfl (az (v := .int _ _) rfl) rfl
     refine ⟨?_, ?_⟩
     · intro w98 D98
       rintro _ rfl _ rfl _ rfl
       show aw ..
       exact aN rfl (ke (gi rfl rfl) (decide_eq_true h1)) rfl
     refine ⟨?_, ?_⟩
     · intro w99 D99
       rintro _ rfl _ rfl
       show aw ..
       exact au (aG (v := .bool _) rfl rfl) rfl
     refine ⟨?_, ?_⟩
     · intro w100 D100
       rintro _ rfl
       show aw ..
       exact au (az (v := .bool _) rfl) rfl
     refine ⟨?_, ?_⟩
     · intro w101 D101
       rintro _ rfl
       show aw ..
       exact aN rfl (aD (cs := [_, _, _]) aS aE rfl (by first | (first | exact (hk4.from_ (af.rfl_.next D101)).whole | exact (hk4.from_ (af.rfl_.next D101)).rd 0 rfl | exact (hk4.from_ (af.rfl_.next D101)).rd 1 rfl | exact (hk4.from_ (af.rfl_.next D101)).rd 2 rfl))) rfl
     refine ⟨?_, ?_⟩
     · intro w102 D102
       rintro _ rfl
       show aw ..
       exact aN rfl (az (v := .slice _ _ _) rfl) rfl
     refine ⟨?_, ?_⟩
     · intro w103 D103
       rintro _ rfl _ rfl
       show aw ..
       exact aN rfl (cM bC rfl rfl (by simp <;> omega)) rfl
     refine ⟨?_, ?_⟩
     · intro w104 D104
       rintro _ rfl _ rfl
       show aw ..
       exact aN rfl (aj cL rfl) rfl
     refine ⟨?_, ?_⟩
     · intro w105 D105
       rintro _ rfl _ rfl
       show aw ..
       exact aN rfl (av ar rfl (by exact eX (af.rfl_.next D105) hcell 0 _ rfl)) rfl
     refine ⟨?_, ?_⟩
     · intro w106 D106
       rintro _ rfl _ rfl _ rfl
       show aw ..
       refine fT rfl gd ((Rt.of (ib B T e.i _ xs _ (h.from_ (hB.next D106)) hB0 (by omega) (by have := (c5 hrun).1; omega) (by omega) (by omega))).mono ?_)
       rintro v _ ⟨rfl, E106'⟩; exact ⟨E106', rfl⟩
     refine ⟨?_, ?_⟩
     · intro w107 D107
       rintro _ rfl
       show aw ..
       exact aN rfl (az (v := .slice _ _ _) rfl) rfl
     refine ⟨?_, ?_⟩
     · intro w108 D108
       rintro _ rfl _ rfl
       show aw ..
       exact aN rfl (cM bC rfl rfl (by simp <;> omega)) rfl
     refine ⟨?_, ?_⟩
     · intro w109 D109
       rintro _ rfl _ rfl
       show aw ..
       exact aN rfl (aj fm rfl) rfl
     refine ⟨?_, ?_⟩
     · intro w110 D110
       rintro _ rfl _ rfl
       show aw ..
       exact aN rfl (av ar rfl (by exact eX (af.rfl_.next D110) hcell 1 _ rfl)) rfl
     refine ⟨?_, ?_⟩
     · intro w111 D111
       rintro _ rfl _ rfl _ rfl
       show aw ..
       exact aN rfl (bB rfl rfl) rfl
     refine ⟨?_, ?_⟩
     · intro w112 D112
       rintro _ rfl _ rfl
       show aw ..
       exact au (aG (v := .bool _) rfl rfl) rfl
     exact trivial
    case hend =>
     intro w113 D113
     rintro _ rfl _ rfl _ rfl _ rfl _ rfl _ rfl _ rfl _ rfl _ rfl _ rfl _ rfl _ rfl _ rfl _ rfl _ rfl _ rfl _ rfl _ rfl _ rfl _ rfl _ rfl _ rfl _ rfl _ rfl
     show St ..
     refine ak (ag ?_)
     refine aK rfl (fun Q114 => ?_) (fun Q114 => ?_)
     · replace Q114 := bT Q114
       have hq := Q114
       refine aY (ag (bt (ah ?_)))
       refine mvs rfl ?_
       refine aa (jj (l := 1) bC rfl (.inr ⟨_, _, _, rfl, rfl, rfl⟩) (.inl ⟨rfl, rfl⟩) (by simp) (by have := hzs.len; simp at this; omega)) ?_
       refine ass rfl ?_
       refine ak (bG ?_)
       refine cI ((r, iu (some ⟨b9, o9, none⟩) c4 1 3, c4 - 1, p' + 1, e.t)) ⟨(by first | rfl | (refine bY ?_; omega)), trivial⟩ (by (iterate 54 refine bH rfl ?_); exact cf) ⟨?_, ?_⟩
       · exact ⟨(hzs.from_ (af.rfl_.next D113)).restA (k := 1) (by simp), (l5 ⟨h1, hq⟩).symm.trans hsk, (c5 hrun).2, by omega, by have := (c5 hrun).1; omega, by simp at hzl; omega, hk4.from_ (af.rfl_.next D113), hk8.from_ (af.rfl_.next D113), (hB.next D113)⟩
       · simp
     replace Q114 := bU Q114
     have hfin := (fb (r := r) (fun h0 => Q114 h0.2)).symm.trans (hsk.trans (congrArg _ hys6))
     refine dd ?_
     refine bA (bA (cJ ?_))
     refine cI ((_, _, _)) ⟨rfl, trivial⟩ (by (iterate 51 refine bH rfl ?_); exact cf) ?_
     exact ⟨hzs.from_ (af.rfl_.next D113), hfin, (fun e r h0 => by cases h0 <;> (have := (c5 hrun).1; omega)), hzl, hk4.from_ (af.rfl_.next D113), hk8.from_ (af.rfl_.next D113), (hB.next D113)⟩
  rintro ⟨zs, A4, c4⟩ ρ115 w115 ⟨hzs, hsk, hhold, hzl, hk4, hk8, hB⟩
  refine ll (G := Nat) [97, 98, 99, 100, 101, 102, 103, 104] (fun k => [(11, .int .i64 (B + (k : Nat)))]) (fun k w' => k = kr B xs zs ∧ k ≤ xs.length ∧ aV w' (.slice A4 zs.length c4) zs ∧ Blk w' b4 66 #[.int .i64 B, .int .i64 T, .slice A xs.length cA] ∧ Blk w' b8 66 #[.int .i64 0, .int .i64 0, .slice none 0 0] ∧ af w w') ?_ ?_
  · refine an (ah ?_)
    refine mvs rfl ?_
    refine aa (cu bl rfl) ?_
    refine aa (eW rfl rfl) ?_
    refine ak (ag ?_)
    refine aK rfl (fun Q116 => ?_) (fun Q116 => ?_)
    · replace Q116 := dT_ Q116
      obtain ⟨e, r, rfl⟩ := List.exists_cons_of_length_pos (show 0 < zs.length by omega)
      obtain ⟨b9, o9, rfl, hcell⟩ := hzs.head
      obtain ⟨hh1, hh2⟩ := hhold e r rfl
      obtain ⟨k0, hk0⟩ : ∃ k0, k0 = (e.i - 1 - B).toNat := ⟨_, rfl⟩
      refine ah ?_
      refine mvs rfl ?_
      refine aa (cM bC rfl rfl (by simp <;> omega)) ?_
      refine aa (aj cL rfl) ?_
      refine aa (av ar rfl (by exact eX af.rfl_ hcell 0 _ rfl)) ?_
      refine aa (ei rfl rfl (by omega)) ?_
      refine asi rfl ?_
      refine ak ?_
      refine cI (k0) ⟨(by first | rfl | (refine bY ?_; omega)), trivial⟩ (by (iterate 9 refine bH rfl ?_); exact cf) ?_
      exact ⟨hk0, by omega, hzs.from_ af.rfl_, hk4.from_ af.rfl_, hk8.from_ af.rfl_, hB⟩
    replace Q116 := dF_ Q116
    obtain rfl : zs = [] := List.eq_nil_of_length_eq_zero (by omega)
    obtain ⟨k0, hk0⟩ : ∃ k0, k0 = xs.length := ⟨_, rfl⟩
    refine aY ?_
    refine cI (k0) ⟨(by first | rfl | (refine bY ?_; omega)), trivial⟩ (by (iterate 3 refine bH rfl ?_); exact cf) ?_
    exact ⟨hk0, by omega, hzs.from_ af.rfl_, hk4.from_ af.rfl_, hk8.from_ af.rfl_, hB⟩
  rintro k ρ117 w117 ⟨hk13, hkl, hzs, hk4, hk8, hB⟩
  refine an (an (ah ?_))
  refine mvi rfl ?_
  refine aa (aj de rfl) ?_
  refine aa (av ar rfl (by first | (first | exact (hk4.from_ af.rfl_).whole | exact (hk4.from_ af.rfl_).rd 0 rfl | exact (hk4.from_ af.rfl_).rd 1 rfl | exact (hk4.from_ af.rfl_).rd 2 rfl))) ?_
  refine aa (ei rfl rfl (by omega)) ?_
  refine mvs rfl ?_
  refine aa (cu bl rfl) ?_
  refine aa (da rfl rfl (by omega)) ?_
  refine aa (eW rfl rfl) ?_
  refine ak (ag ?_)
  refine aK rfl (fun Q118 => ?_) (fun Q118 => ?_)
  · replace Q118 := dT_ Q118
    refine an (ah ?_)
    refine aa (bf (l := []) (cp)) ?_
    refine aM (vs := [_, _, _]) aE rfl rfl (by simp [Value.oneCell']) (hk8.from_ af.rfl_) rfl ?_
    intro w119 O14 P14
    refine asb rfl ?_
    refine asi rfl ?_
    refine ak (ag (aA (aI ?_)))
    refine fQ rfl (aX (cs := [_, _, _]) aS aE rfl (by first | exact P2.whole | exact P8.whole | exact P14.whole | exact P17.whole | exact P18.whole)) (bp (v := .bool _) rfl) (bp (v := .int _ _) rfl) ?_
    exact ⟨gq (by unfold dm; rw [if_pos ⟨hm, hPv, hQv, hR⟩, if_neg hnm, ← hsk]; unfold mg2; rw [← hk13, if_pos (by omega)]) (by decide), (hB.only O14 (hg8))⟩
  replace Q118 := dF_ Q118
  refine aY (ag (an (ah ?_)))
  refine aa (aD (cs := [_, _, _]) aS aE rfl (by first | (first | exact (hk4.from_ af.rfl_).whole | exact (hk4.from_ af.rfl_).rd 0 rfl | exact (hk4.from_ af.rfl_).rd 1 rfl | exact (hk4.from_ af.rfl_).rd 2 rfl))) ?_
  refine mvi rfl ?_
  refine mvs rfl ?_
  have hb117 := (hk8.from_ af.rfl_).lt
  refine aC eN (gr B T _ k A A4 _ cA _ c4 xs zs _ (h.from_ hB) (hzs.from_ af.rfl_) hB0 (by omega) rfl hkl (by omega) (by omega)) ?_
  rintro v117 w120 ⟨A117, c117, rfl, ho117, E117⟩
  refine aM (vs := [_, _, _]) aE rfl rfl (by simp [Value.oneCell']) (hk8.from_ (af.rfl_.next E117)) rfl ?_
  intro w121 O15 P15
  refine ak (ag (an (an (ah ?_))))
  refine aa (aD (cs := [_, _, _]) aS aE rfl (by exact P15.whole)) ?_
  refine aC gg (Rt.of (jv B T _ (xs.take k ++ zs) _ (aV.of_own (eZ ho117 O15 hb117) (by simp; omega)))) ?_
  rintro v119 w122 ⟨rfl, E119⟩
  refine aa (cj rfl rfl) ?_
  refine ak (ag ?_)
  refine aK rfl (fun Q123 => ?_) (fun Q123 => ?_)
  · replace Q123 := cz Q123; replace Q123 := bU Q123
    have hmay : ¬ bL B T (xs.take k ++ zs) = true := fun h0 => Q123 (by unfold chk; rw [if_pos h0])
    refine an (ah ?_)
    refine aa (bf (l := []) (cp)) ?_
    refine aM (vs := [_, _, _]) aE rfl rfl (by simp [Value.oneCell']) (P15.from_ (af.rfl_.next E119)) rfl ?_
    intro w124 O17 P17
    refine asb rfl ?_
    refine asi rfl ?_
    refine ak (ag (aA (aI ?_)))
    refine fQ rfl (aX (cs := [_, _, _]) aS aE rfl (by first | exact P2.whole | exact P8.whole | exact P14.whole | exact P17.whole | exact P18.whole)) (bp (v := .bool _) rfl) (bp (v := .int _ _) rfl) ?_
    exact ⟨gq (by unfold dm; rw [if_pos ⟨hm, hPv, hQv, hR⟩, if_neg hnm, ← hsk]; unfold mg2; rw [← hk13, if_neg (by omega), if_neg hmay]) (by decide), ((((hB.next E117).only O15 (hg8)).next E119).only O17 (hg8))⟩
  replace Q123 := cB Q123; replace Q123 := bT Q123
  have hmay : bL B T (xs.take k ++ zs) = true := by
    cases hm : bL B T (xs.take k ++ zs) with
    | true => rfl
    | false => unfold chk at Q123; rw [hm] at Q123; cases Q123
  refine aY (ag (an (ah ?_)))
  refine aa (aD (cs := [_, _, _]) aS aE rfl (by exact (P15.from_ (af.rfl_.next E119)).whole)) ?_
  have ho122 := (eZ ho117 O15 hb117).kept_from (af.rfl_.next E119)
  refine aM (vs := [_, _, _]) aE rfl rfl (by simp [Value.oneCell']) (P15.from_ (af.rfl_.next E119)) rfl ?_
  intro w125 O18 P18
  refine asb rfl ?_
  refine asi rfl ?_
  refine ak (ag (aA ?_))
  refine fQ rfl (aX (cs := [_, _, _]) aS aE rfl (by first | exact P2.whole | exact P8.whole | exact P14.whole | exact P17.whole | exact P18.whole)) (bp (v := .bool _) rfl) (bp (v := .int _ _) rfl) ?_
  refine ⟨jM (ys := xs.take k ++ zs) (by unfold dm; rw [if_pos ⟨hm, hPv, hQv, hR⟩, if_neg hnm, ← hsk]; unfold mg2; rw [← hk13, if_neg (by omega), if_pos hmay]) (by simp; omega) (dN (eZ ho122 O18 hb117) (by omega)), ((((hB.next E117).only O15 (hg8)).next E119).only O18 (hg8))⟩
def fe (Ex:List Nat) (RL:List (Nat×(Value→World→Prop))) (t:Nat):Value→World→Prop:=bif Ex.elem t then fun _ _=>True else di RL t
theorem k9 {Ex:List Nat} {l:List (Nat×(Value→World→Prop))} (h:jC l):∀ t v w1 w2,af w1 w2→fe Ex l t v w1→fe Ex l t v w2:=by
 intro t v w1 w2 hF h1;unfold fe at h1 ⊢;cases hb:Ex.elem t with
 |true=>trivial
 |false=>rw [hb] at h1;exact dp h t v w1 w2 hF h1
theorem m0 {Ex:List Nat} {l:List (Nat×(Value→World→Prop))}:∀ t v w,di l t v w→fe Ex l t v w:=by
 intro t v w h;unfold fe;cases hb:Ex.elem t with
 |true=>trivial
 |false=>exact h
def MuR (Ex:List Nat) (d:Nat) (w1 w2:World):List (Nat×(Value→World→Prop))→Prop
 |[]=>True
 |(k,R)::r=>((Ex.elem k||Nat.beq k d)=true∨∀ u,R u w1→R u w2)∧MuR Ex d w1 w2 r
theorem kp {Ex:List Nat} {d:Nat} {w1 w2:World}:∀ {RL:List (Nat×(Value→World→Prop))},MuR Ex d w1 w2 RL→∀ t u,t≠d→di RL t u w1→fe Ex RL t u w2
 |[],_,t,u,_,_=>by unfold fe;cases Ex.elem t <;> trivial
 |(k,R)::r,⟨h1,h2⟩,t,u,hd,h=>by
  have e:di ((k,R)::r) t=bif Nat.beq t k then R else di r t:=rfl
  have ih:=kp h2 t u hd;unfold fe at ih ⊢;rw [e] at h ⊢;cases hx:Ex.elem t with
  |true=>trivial
  |false=>
   rw [hx] at ih;simp only [cond_false] at ih ⊢;cases hb:Nat.beq t k with
   |true=>
    have hk:t=k:=Nat.eq_of_beq_eq_true hb;subst hk;rw [hb] at h;rcases h1 with h1 | h1
    ·rw [hx,Bool.false_or] at h1;exact absurd (Nat.eq_of_beq_eq_true h1) hd
    ·exact h1 u h
   |false=>rw [hb] at h;exact ih h
def gv (l:List Oper) (o:Oper) (j:Nat):Bool:=dI o j||o.after.toList.any fun e=>Region.binds .any e&&match l[e.on]? with | some o'=>dI o' j | none=>false
def ed (l:List Oper) (listed:Array Bool):Prop:=∀ i o,l[i]? =some o→listed.getD i false=true→∀ e∈o.after,Region.binds .any e=true→listed.getD e.on false=true
theorem dR {l:List Oper} {listed:Array Bool} (hcl:ed l listed) {o:Oper} {j:Nat} (hall:∀ e∈o.after,Region.binds .any e=true→listed.getD e.on false=true) (h:gv l o j=true):listed.getD j false=true:=by
 have direct:∀ (x:Oper),(∀ e∈x.after,Region.binds .any e=true→listed.getD e.on false=true)→dI x j=true→listed.getD j false=true:=by
  intro x hx he;obtain ⟨e,he,he2⟩:=List.any_eq_true.1 he;simp only [Bool.and_eq_true,beq_iff_eq] at he2;have:=hx e (by simpa using he) he2.1
  rwa [he2.2] at this
 unfold gv at h;rcases Bool.or_eq_true_iff.1 h with h | h
 ·exact direct o hall h
 ·obtain ⟨e,he,he2⟩:=List.any_eq_true.1 h;simp only [Bool.and_eq_true] at he2;have h1:=hall e (by simpa using he) he2.1;cases ho:l[e.on]? with
  |none=>rw [ho] at he2;cases he2.2
  |some o'=>
   rw [ho] at he2;exact direct o' (hcl e.on o' ho h1) he2.2
theorem fD {l:List Oper} {listed:Array Bool} (hcl:ed l listed) {i:Nat} {o:Oper} (ho:l[i]? =some o) (hall:∀ e∈o.after,Region.binds .any e=true→listed.getD e.on false=true):ed l (listed.setIfInBounds i true):=by
 have up:∀ k,listed.getD k false=true→(listed.setIfInBounds i true).getD k false=true:=by
  intro k hk;by_cases e:i=k
  ·subst e
   have:i<listed.size:=by
    rcases Nat.lt_or_ge i listed.size with h | h
    ·exact h
    ·simp [Array.getD,show ¬ i<listed.size by omega] at hk
   simp [this]
  ·rw [getD_set_ne false e];exact hk
 intro k x hx hk e he hb;by_cases h:i=k
 ·subst h;rw [ho] at hx;cases hx;exact up _ (hall e he hb)
 ·rw [getD_set_ne false h] at hk;exact up _ (hcl k x hx hk e he hb)
theorem gQ (l:List Oper) (n:Nat):ed l (Array.replicate n false):=by
 intro i o _ h;simp [Array.getD] at h
def nM (l:List Oper) (K i t:Nat):Bool:=(List.range K).any fun j=>match l[j]? with | some oj=>(oj.dst==some t)&&gv l oj i | none=>false
def ef (l:List Oper) (K i:Nat) (o:Oper):List Nat:=(db l K).filter fun t=>(o.looksAt l.toArray).elem t&&!nM l K i t
def fH (P:Program) (ops:Array Oper) (n:Fr) (L:List (Nat×Value)) (I2:World→Prop) (R1 R2:Nat→Value→World→Prop) (l0:List Oper) (K:Nat) (mu:Nat):Nat→List Oper→Prop
 |_,[]=>True
 |i,o::r=>(Nat.beq i mu=false→∀ w',I2 w'→fu R2 w' (ef l0 K i o) fun M=>aw P ops n (M++L) o w' (R1 (o.dst.getD 0)))∧fH P ops n L I2 R1 R2 l0 K mu (i+1) r
theorem jk {P:Program} {ops:Array Oper} {n:Fr} {L:List (Nat×Value)} {I2:World→Prop} {R1 R2:Nat→Value→World→Prop} {l0:List Oper} {K mu:Nat}:∀ {l:List Oper} {k:Nat},fH P ops n L I2 R1 R2 l0 K mu k l→∀ (i:Nat) (o:Oper),l[i]? =some o→k+i≠mu→
 ∀ w',I2 w'→fu R2 w' (ef l0 K (k+i) o) fun M=>aw P ops n (M++L) o w' (R1 (o.dst.getD 0))
 |[],_,_,i,o,h,_=>by simp at h
 |x::r,k,⟨h1,h2⟩,0,o,h,hne=>by
  simp only [List.getElem?_cons_zero,Option.some.injEq] at h;subst h;rw [Nat.add_zero] at hne ⊢;refine h1 ?_;rw [←Bool.not_eq_true];intro hb;exact hne (Nat.eq_of_beq_eq_true hb)
 |x::r,k,⟨h1,h2⟩,i+1,o,h,hne=>by
  have:=jk h2 i o (by simpa using h) (by omega)
  rwa [show k+1+i=k+(i+1) by omega] at this
theorem iz {P:Program} {ops:Array Oper} {n:Fr} {L:List (Nat×Value)} {I2:World→Prop} {R1 R2:Nat→Value→World→Prop} {l0:List Oper} {K mu:Nat} {l:List Oper} (h:fH P ops n L I2 R1 R2 l0 K mu 0 l) (i:Nat) (o:Oper) (ho:l[i]? =some o) (hne:i≠mu)
 (w':World) (hw:I2 w'):fu R2 w' (ef l0 K i o) fun M=>aw P ops n (M++L) o w' (R1 (o.dst.getD 0)):=by
 have:=jk h i o ho (by rw [Nat.zero_add];exact hne) w' hw
 rwa [Nat.zero_add] at this
def n9 (P:Program) (ops:Array Oper) (n:Fr) (L:List (Nat×Value)) (o:Oper) (w:World) (post:Value→World→Prop):Prop:=
 Region.wanted o (yielded ops (mkT n.n L))=true∧((∃ v w',(execOp (ev n L) o).run P w=.ok (.value v) w'∧post v w')∨(∃ f l,(execOp (ev n L) o).run P w=.ok (.enter f (List.toArray l)) w∧Rt P f l w post))
def oP (P:Program) (ops:Array Oper) (n:Fr) (L:List (Nat×Value)) (I1 I2:World→Prop) (R1 R2:Nat→Value→World→Prop) (l0:List Oper) (K mu:Nat):Option Oper→Prop
 |none=>True
 |some o=>∀ w',I1 w'→fu R1 w' (ef l0 K mu o) fun M=>n9 P ops n (M++L) o w' fun v w''=>I2 w''∧R2 (o.dst.getD 0) v w''∧∀ t u,t≠o.dst.getD 0→R1 t u w'→R2 t u w''
def cH (l:List Oper) (K j:Nat):Bool:=(List.range l.length).any fun i=>decide (K≤i)&&(match l[i]? with | some o=> !gv l o j | none=>false)
def oh (l:List Oper) (K:Nat):Bool:=
 (List.range K).all fun j=> !cH l K j||match l[j]? with
  |none=>false
  |some o=>jn o.op&&o.guard.isNone&&o.dst.isSome&&(List.range l.length).all fun i=>i==j||match l[i]? with
   |none=>false
   |some y=>(if i<K then !cH l K i else gv l y j)||o.apart l.toArray y
def gH (l:List Oper) (K:Nat):Bool:=
 let ops:=l.toArray
 let dst (i:Nat):Option Nat:=(l[i]?).bind (·.dst)
 (decide (K≤l.length)&&
 (List.range l.length).all fun i=>match l[i]? with
  |none=>false
  |some o=>
   (o.after.toList.all fun e=> !Region.binds .any e||decide (e.on<i))&&!bj o.op&&
   (if i<K then
    (match o.dst with
     |none=>false
     |some d=>(List.range K).all (fun j=>j==i||dst j != some d)&&!((o.looksAt ops).elem d))&&
    (List.range K).all (fun j=>match dst j with
     |none=>false
     |some d=> !(o.looksAt ops).elem d||nM l K i d||(decide (j<i)&&gv l o j))
    else (List.range i).all (fun j=>gv l o j||decide (j<K))))&&oh l K
section late
variable {P:Program} {Q:Exit→Act→World→Prop} {n:Fr} {L:List (Nat×Value)} {w:World} {l:List Oper} {K:Nat} {R:Nat→Value→World→Prop}
theorem eH (hc:oh l K=true) {j:Nat} {o:Oper} (hj:j<K) (ho:l[j]? =some o) (hl:cH l K j=true) :
 jn o.op=true∧o.guard=none∧∀ i y,l[i]? =some y→i≠j→((i<K∧cH l K i=true)∨(K≤i∧gv l y j=false))→o.apart l.toArray y=true:=by
 have h:=List.all_eq_true.1 hc j (List.mem_range.2 hj);rw [hl,ho] at h;simp only [Bool.not_true,Bool.false_or,Bool.and_eq_true] at h;refine ⟨h.1.1.1,by simpa using h.1.1.2,fun i y hi hne hcase=>?_⟩;have h2:=List.all_eq_true.1 h.2 i (List.mem_range.2 (List.getElem?_eq_some_iff.1 hi).1);rw [hi] at h2;simp only [beq_iff_eq,hne,Bool.or_eq_true,false_or] at h2;rcases hcase with ⟨h3,h4⟩ | ⟨h3,h4⟩
 ·simp [h3,h4] at h2;exact h2
 ·simp [show ¬ i<K by omega,h4] at h2;exact h2
theorem iU {i j:Nat} {o:Oper} (hl:cH l K j=false) (ho:l[i]? =some o) (hi:K≤i):gv l o j=true:=by
 unfold cH at hl;have:=List.any_eq_false.1 hl i (List.mem_range.2 (List.getElem?_eq_some_iff.1 ho).1);rw [ho] at this;simpa [hi] using this
theorem kV (hQ:PQ Q) (hc:gH l K=true) {f:Nat→Value}:∀ (m k:Nat) (listed:Array Bool) (U:List Nat) (a:Act) (w':World),ed l listed→listed.toList.count false=m→listed.size=l.length→K≤k→k≤l.length→
 (∀ j,K≤j→j<l.length→listed.getD j true=decide (j<k))→U.Nodup→(∀ j,j<K→(listed.getD j true=false↔j∈U))→(∀ j∈U,j<K∧cH l K j=true∧∃ o,l[j]? =some o∧Yields P l.toArray o (f j) a)→
 wpList P l.toArray Q (l.drop k) (dM l f U a) w'→wpAny P .any l.toArray Q m listed a w':=by
 have hc1:=(Bool.and_eq_true_iff.1 hc).1;have hlate:=(Bool.and_eq_true_iff.1 hc).2;have hKl:K≤l.length:=dT_ (Bool.and_eq_true_iff.1 hc1).1;have hck:=(List.all_eq_true.1 (Bool.and_eq_true_iff.1 hc1).2);intro m
 induction m with
 |zero=>
  intro k listed U a w' hcl hcount hs hK hkl htail hn hU hUl h
  have hall:∀ j,j<l.length→listed.getD j true=true:=by
   intro j hj;have hm:listed[j]'(by omega)∈listed.toList:=by simp
   cases hb:listed[j]'(by omega) with
   |true=>simp [Array.getD,show j<listed.size by omega,hb]
   |false=>
    rw [hb] at hm;exact absurd hcount (Nat.pos_iff_ne_zero.1 (List.count_pos_iff.2 hm))
  have hU0:U=[]:=by
   rw [List.eq_nil_iff_forall_not_mem];intro j hj;have h1:=(hU j (hUl j hj).1).2 hj;rw [hall j (by have:=(hUl j hj).1;omega)] at h1;cases h1
  have hke:k=l.length:=by
   rcases Nat.lt_or_ge k l.length with hlt | hge
   ·have h1:=htail k hK hlt;rw [hall k hlt] at h1;simp at h1
   ·omega
  subst hU0 hke;refine ⟨?_,by simpa [dM,wpList] using h⟩;rw [List.eq_nil_iff_forall_not_mem];intro j hj;obtain ⟨h0,o,ho,_⟩:=mem_ready.1 hj;rw [List.getElem?_toArray] at ho;rw [hall j (List.getElem?_eq_some_iff.1 ho).1] at h0;cases h0
 |succ m ih=>
  intro k listed U a w' hcl hcount hs hK hkl htail hn hU hUl h
  have hex:∃ i,i<l.length∧listed.getD i true=false:=by
   obtain ⟨i,hi,hb⟩:=List.mem_iff_getElem.1 (List.count_pos_iff.1 (by rw [hcount];omega:0<listed.toList.count false));have hi':i<listed.size:=by simpa using hi
   exact ⟨i,by omega,by simpa [Array.getD,hi'] using hb⟩
  obtain ⟨i0,hi0,hmin⟩:=exists_least hex
  have hready:i0∈Region.ready .any l.toArray listed:=by
   refine mem_ready.2 ⟨hi0.2,l[i0]'hi0.1,by rw [List.getElem?_toArray,List.getElem?_eq_getElem hi0.1],fun e he hb=>?_⟩;have hx:=hck i0 (List.mem_range.2 hi0.1);rw [List.getElem?_eq_getElem hi0.1] at hx;simp only [Bool.and_eq_true] at hx;have he2:=List.all_eq_true.1 hx.1.1 e (by simpa using he);rw [hb] at he2;simp at he2;rw [←aO (by omega)];cases hb2:listed.getD e.on true with
   |true=>rfl
   |false=>exact absurd (hmin e.on ⟨by omega,hb2⟩) (by omega)
  refine ⟨fun h0=>(by rw [h0] at hready;cases hready),fun i hi=>?_⟩;obtain ⟨h0,o,ho,hall⟩:=mem_ready.1 hi;rw [List.getElem?_toArray] at ho;have hil:i<l.length:=(List.getElem?_eq_some_iff.1 ho).1;have hx:=hck i (List.mem_range.2 hil);rw [ho] at hx;simp only [Bool.and_eq_true] at hx;have hsel:bj o.op=false:=by simpa using hx.1.2
  have hcnt:(listed.setIfInBounds i true).toList.count false=m:=by
   have hil':i<listed.size:=by omega
   have hfalse:listed.toList[i]? =some false:=by
    rw [Array.getElem?_toList,Array.getElem?_eq_getElem hil'];simp [Array.getD,hil'] at h0;rw [h0]
   rw [Array.toList_setIfInBounds];have:=cK (l:=listed.toList) (i:=i) hfalse;omega
  by_cases hiK:i<K
  ·
   have hiU:=(hU i hiK).1 h0;obtain ⟨_,hil8,o',ho',hy⟩:=hUl i hiU;rw [ho] at ho';cases ho';obtain ⟨_,_,hap⟩:=eH hlate hiK ho hil8;refine Yields.wpOp (by rw [List.getElem?_toArray];exact ho) hy ?_;have he:a.put o.dst (f i)=a.put ((l[i]?).bind (·.dst)) (f i):=by rw [ho];rfl
   refine ih k _ (U.erase i) _ w' (fD hcl ho hall) hcnt (by simpa using hs) hK hkl (fun j h1 h2=>by rw [getD_set_ne true (by omega)];exact htail j h1 h2) (hn.erase i) (fun j hj=>?_) (fun j hj=>?_) ?_
   ·by_cases e:i=j
    ·subst e;simp [hs,hil,hn.not_mem_erase]
    ·rw [getD_set_ne true e,hU j hj];exact (List.mem_erase_of_ne (Ne.symm e)).symm
   ·have hjU:=List.mem_of_mem_erase hj;obtain ⟨h1,h2,oj,h3,h4⟩:=hUl j hjU;have hne:i≠j:=fun e=>by subst e;exact (hn.not_mem_erase) hj
    obtain ⟨_,_,hapj⟩:=eH hlate h1 h3 h2;have hxj:=hck j (List.mem_range.2 (by omega));rw [h3] at hxj;simp only [Bool.and_eq_true] at hxj;exact ⟨h1,h2,oj,h3,(hY (by simpa using hxj.1.2) (hapj i o ho hne (.inl ⟨hiK,hil8⟩))).2 h4⟩
   ·rw [he,iv U a hiU hn (fun j hj hne d hd=>?_)]
    ·exact h
    ·obtain ⟨h1,h2,oj,h3,h4⟩:=hUl j hj;have h5:=(Oper.apart_spec (hap j oj h3 hne (.inl ⟨h1,h2⟩))).2.1 d (by rw [ho] at hd;exact hd);rw [h3];exact h5
  ·
   have hik:i=k:=by
    rw [htail i (by omega) hil] at h0;have h0':k≤i:=by simpa using h0
    rcases Nat.eq_or_lt_of_le h0' with e | hlt
    ·exact e.symm
    ·exfalso;have h3:=hx.2;rw [if_neg hiK] at h3;have h4:=List.all_eq_true.1 h3 k (List.mem_range.2 hlt);simp only [show ¬ k<K by omega,decide_false,Bool.or_false] at h4;have h5:=dR hcl hall h4;rw [←aO (by omega),htail k hK (by omega)] at h5;simp at h5
   subst hik
   have hdrop:l.drop i=o::l.drop (i+1):=by
    rw [List.drop_eq_getElem_cons hil];rw [List.getElem?_eq_getElem hil] at ho;cases ho;rfl
   rw [hdrop] at h
   have hk2:wpOp P l.toArray Q i (wpList P l.toArray Q (l.drop (i+1))) (dM l f U a) w':=by
    unfold wpOp;rw [List.getElem?_toArray,ho];exact h
   have hne:∀ j∈U,j≠i:=fun j hj e=>by have:=(hUl j hj).1;omega
   have hk3:=i_ hQ ho hsel U _ a hn (fun j hj=>by
    obtain ⟨h1,h2,oj,h3,h4⟩:=hUl j hj;obtain ⟨_,_,hapj⟩:=eH hlate h1 h3 h2;have hxj:=hck j (List.mem_range.2 (by omega));rw [h3] at hxj;simp only [Bool.and_eq_true] at hxj;refine ⟨oj,h3,by simpa using hxj.1.2,hapj i o ho (Ne.symm (hne j hj)) (.inr ⟨by omega,?_⟩),h4,fun j' hj' hne'=>?_⟩
    ·cases hE:gv l o j with
     |false=>rfl
     |true=>
      have h5:=dR hcl hall hE;rw [←aO (by omega),(hU j h1).2 hj] at h5;cases h5
    ·obtain ⟨h1',h2',oj',h3',_⟩:=hUl j' hj';exact ⟨oj',h3',hapj j' oj' h3' hne' (.inl ⟨h1',h2'⟩)⟩) hk2
   refine wpOp_mono (fun a' w'' hh=>?_) hk3;refine ih (i+1) _ U a' w'' (fD hcl ho hall) hcnt (by simpa using hs) (by omega) (by omega) (fun j h1 h2=>?_) hn (fun j hj=>?_) (fun j hj=>?_) hh.2
   ·by_cases e:i=j
    ·subst e;simp [hs,hil]
    ·rw [getD_set_ne true e,htail j h1 h2];have:(j<i+1)↔(j<i):=by omega
     simp [this]
   ·rw [getD_set_ne true (by omega)];exact hU j hj
   ·obtain ⟨h1,h2,oj,h3,_⟩:=hUl j hj;exact ⟨h1,h2,oj,h3,hh.1 j hj oj h3⟩
end late
section late
variable {P:Program} {Q:Exit→Act→World→Prop} {n:Fr} {L:List (Nat×Value)} {w:World} {l:List Oper} {K mu:Nat} {I1 I2:World→Prop} {R1 R:Nat→Value→World→Prop}
theorem oV (hc:gH l K=true) {j j':Nat} {oj oj':Oper} {t:Nat} (hj:j<K) (hj':j'<K) (hoj:l[j]? =some oj) (hoj':l[j']? =some oj') (hd:oj.dst=some t) (hd':oj'.dst=some t):j=j':=by
 have hc1:=(Bool.and_eq_true_iff.1 hc).1;have hck:=(List.all_eq_true.1 (Bool.and_eq_true_iff.1 hc1).2);have hx:=hck j' (List.mem_range.2 (List.getElem?_eq_some_iff.1 hoj').1);rw [hoj'] at hx;simp only [Bool.and_eq_true] at hx;have h3:=hx.2;rw [if_pos hj'] at h3;simp only [Bool.and_eq_true] at h3;have h3a:=h3.1;rw [hd'] at h3a;simp only [Bool.and_eq_true] at h3a;have h5:=List.all_eq_true.1 h3a.1 j (List.mem_range.2 hj);rw [hoj] at h5;simpa [hd] using h5
theorem l3 {i t:Nat} (h:nM l K i t=true):∃ j oj,j<K∧l[j]? =some oj∧oj.dst=some t∧gv l oj i=true:=by
 obtain ⟨j,hj,h2⟩:=List.any_eq_true.1 h;cases hoj:l[j]? with
 |none=>rw [hoj] at h2;cases h2
 |some oj=>
  rw [hoj] at h2;simp only [Bool.and_eq_true,beq_iff_eq] at h2;exact ⟨j,oj,List.mem_range.1 hj,hoj,h2.1,h2.2⟩
theorem gF (hc:gH l K=true) {i t:Nat} {o:Oper} (hi:i<K) (ho:l[i]? =some o) (ht:t∈ef l K i o):(o.looksAt l.toArray).elem t=true∧∃ j oj,j<K∧l[j]? =some oj∧oj.dst=some t∧j<i∧gv l o j=true:=by
 obtain ⟨ht1,ht2⟩:=List.mem_filter.1 ht;simp only [Bool.and_eq_true,Bool.not_eq_true'] at ht2;obtain ⟨oj,hoj,hdj⟩:=List.mem_filterMap.1 ht1;obtain ⟨j,hj⟩:=List.mem_iff_getElem?.1 hoj;rw [List.getElem?_take] at hj;split at hj
 ·rename_i hjK;refine ⟨ht2.1,j,oj,hjK,hj,hdj,?_⟩;have hc1:=(Bool.and_eq_true_iff.1 hc).1;have hck:=(List.all_eq_true.1 (Bool.and_eq_true_iff.1 hc1).2);have hx:=hck i (List.mem_range.2 (List.getElem?_eq_some_iff.1 ho).1);rw [ho] at hx;simp only [Bool.and_eq_true] at hx;have h3:=hx.2;rw [if_pos hi] at h3;simp only [Bool.and_eq_true] at h3;have h5:=List.all_eq_true.1 h3.2 j (List.mem_range.2 hjK);rw [hj] at h5;have h6:t∈o.looksAt l.toArray:=by simpa using ht2.1
  simpa [hdj,h6,ht2.2] using h5
 ·cases hj
theorem mX (hc:gH l K=true) {listed:Array Bool} (hcl:ed l listed) (hs:listed.size=l.length) {i:Nat} {o:Oper} (_ho:l[i]? =some o) (hil:i<l.length) (h0:listed.getD i true=false) {L':List (Nat×Value)}
 (hfr:∀ t,(∀ i o,i<K→l[i]? =some o→listed.getD i true=true→o.dst≠some t)→aL L' t=aL L t):∀ t,(o.looksAt l.toArray).elem t=true→aL ((ef l K i o).map (fun d=>(d,aL L' d))++L) t=aL L' t:=by
 intro t ht;rw [fc];split
 ·rfl
 ·rename_i hne;refine (hfr t fun j oj hj hoj hlj hd=>?_).symm;have hmem:t∈db l K:=List.mem_filterMap.2 ⟨oj,List.mem_iff_getElem?.2 ⟨j,by rw [List.getElem?_take,if_pos hj];exact hoj⟩,hd⟩;cases hb:nM l K i t with
  |false=>
   apply hne;simp only [List.elem_eq_mem,decide_eq_true_eq];exact List.mem_filter.2 ⟨hmem,by rw [ht,hb];rfl⟩
  |true=>
   obtain ⟨j',oj',hj',hoj',hd',hdep⟩:=l3 hb;have hjj:=oV hc hj hj' hoj hoj' hd hd';subst hjj;rw [hoj] at hoj';cases hoj';have hjl:j<l.length:=(List.getElem?_eq_some_iff.1 hoj).1;have h1:=dR hcl (hcl j oj hoj (by rw [←aO (by omega)];exact hlj)) hdep;rw [←aO (by omega),h0] at h1;cases h1
theorem jm (hQ:PQ Q) (hc:gH l K=true) (hop:fH P l.toArray n L I2 R1 R l K mu 0 (l.take K)) (h12:∀ t v w,R1 t v w→R t v w) (hmuL:mu<K→cH l K mu=false)
 (hend:∀ w',I2 w'→fu R w' (db l K) fun M=>St P l.toArray Q (l.drop K) n (M++L) w') (m:Nat) (listed:Array Bool) (L':List (Nat×Value)) (w':World) (hcl:ed l listed) (hcount:listed.toList.count false=m) (hs:listed.size=l.length)
 (htail:∀ j,K≤j→j<l.length→listed.getD j true=false) (hF:I2 w')
 (hfr:∀ t,(∀ i o,i<K→l[i]? =some o→listed.getD i true=true→o.dst≠some t)→aL L' t=aL L t)
 (hR:∀ i o d,i<K→l[i]? =some o→listed.getD i true=true→o.dst=some d→R d (aL L' d) w') (hpre:∀ i,i<K→listed.getD i true=false→cH l K i=true):wpAny P .any l.toArray Q m listed (mkA n L') w':=by
 have hc1:=(Bool.and_eq_true_iff.1 hc).1;have hlate:=(Bool.and_eq_true_iff.1 hc).2;have hKl:K≤l.length:=dT_ (Bool.and_eq_true_iff.1 hc1).1;have hck:=(List.all_eq_true.1 (Bool.and_eq_true_iff.1 hc1).2)
 have hhead:∀ i,i<K→∃ o d,l[i]? =some o∧o.dst=some d∧bj o.op=false∧(∀ j oj,j<K→j≠i→l[j]? =some oj→oj.dst≠some d):=by
  intro i hi;have hil:i<l.length:=by omega
  have hx:=hck i (List.mem_range.2 hil);rw [List.getElem?_eq_getElem hil] at hx;simp only [Bool.and_eq_true] at hx;have h3:=hx.2;rw [if_pos hi] at h3;simp only [Bool.and_eq_true] at h3;obtain ⟨h3a,h3b⟩:=h3;cases hod:(l[i]).dst with
  |none=>rw [hod] at h3a;cases h3a
  |some d=>
   rw [hod] at h3a;simp only [Bool.and_eq_true] at h3a;refine ⟨l[i],d,List.getElem?_eq_getElem hil,hod,by simpa using hx.1.2,fun j oj hj hne hoj e=>?_⟩;have h5:=List.all_eq_true.1 h3a.1 j (List.mem_range.2 hj);rw [hoj] at h5;simp [hne,e] at h5
 have hval:∀ i,i<K→listed.getD i true=false→∃ v,∀ o d,l[i]? =some o→o.dst=some d→Yields P l.toArray o v (mkA n L')∧R d v w':=by
  intro i hi hf;have hil8:=hpre i hi hf;obtain ⟨o,d,ho,hd,hsel,_⟩:=hhead i hi;obtain ⟨hk,hg,hap⟩:=eH hlate hi ho hil8
  have hfact:∀ t∈ef l K i o,R t (aL L' t) w':=by
   intro t ht;obtain ⟨ht2,j,oj,hjK,hj,hdj,hji,_⟩:=gF hc hi ho ht;refine hR j oj t hjK hj ?_ hdj;cases hb:listed.getD j true with
   |true=>rfl
   |false=>
    have h6:=hpre j hjK hb;have h7:=(Oper.apart_spec (hap j oj hj (by omega) (.inl ⟨hjK,h6⟩))).2.2 t hdj;exact absurd (by simpa using ht2) h7
  have hlooks:=mX (L:=L) hc hcl hs ho (by omega) hf hfr;have hok:=dZ (aL L') _ hfact (iz hop i o (by rw [List.getElem?_take,if_pos hi];exact ho) (by intro e;rw [e,hmuL (by omega)] at hil8;cases hil8) w' hF);obtain ⟨hE,hW⟩:=dv (n:=n) (ops:=l.toArray) (o:=o) hsel hlooks;rw [hd] at hok;simp only [Option.getD_some] at hok
  have hyl:∃ v,Yields P l.toArray o v (mkA n L')∧R d v w':=by
   unfold aw at hok;rw [hE,hW] at hok;rcases hok with ⟨hw,⟨v,w'',hr,hF',hRv⟩ | ⟨f,args,hr,hcall⟩⟩ | ⟨hw,hRv⟩
   ·obtain ⟨rfl,hall⟩:=m3 hk hr;refine ⟨v,.inl ⟨hw,fun w2=>?_⟩,h12 _ _ _ hRv⟩;rw [bn];exact hall w2
   ·exfalso;obtain ⟨dst,op,ty,pos,after,guard⟩:=o;cases op <;> simp only [jn,Bool.false_eq_true] at hk <;> simp only [execOp,Sem.run_pure,Sem.run_bind,Result.ok.injEq] at hr
    ·cases hr.1
    ·cases hr.1
    ·rename_i x i';cases hx:ev n L' x <;> simp only [hx,Instr.extract] at hr <;> (try (simp at hr;done))
     rename_i vs;cases hv:vs[i']? <;> simp [hv] at hr
   ·exact ⟨undef,.inr ⟨hw,rfl⟩,h12 _ _ _ hRv⟩
  obtain ⟨v,hv1,hv2⟩:=hyl;refine ⟨v,fun o' d' ho' hd'=>?_⟩;rw [ho] at ho';cases ho';rw [hd] at hd';cases hd';exact ⟨hv1,hv2⟩
 obtain ⟨f,hf⟩:∃ f:Nat→Value,∀ i,i<K→listed.getD i true=false→∀ o d,l[i]? =some o→o.dst=some d→Yields P l.toArray o (f i) (mkA n L')∧R d (f i) w':=by
  refine ⟨fun i=>open Classical in if h:∃ v,∀ o d,l[i]? =some o→o.dst=some d→Yields P l.toArray o v (mkA n L')∧R d v w' then h.choose else undef,fun i hi hl=>?_⟩;have h:=hval i hi hl;simp only [dif_pos h];exact h.choose_spec
 have hUm:∀ i,i∈(List.range K).filter (fun i=> !listed.getD i true)↔i<K∧listed.getD i true=false:=fun i=>by
  rw [List.mem_filter,List.mem_range];simp
 obtain ⟨U,hU,hUn⟩:∃ U:List Nat,(∀ i,i∈U↔i<K∧listed.getD i true=false)∧U.Nodup:=⟨_,hUm,List.nodup_range.sublist (List.filter_sublist ..)⟩;have hbind:∀ {i:Nat} {o:Oper},l[i]? =some o→(l[i]?).bind (·.dst)=o.dst:=fun h=>by rw [h];rfl
 have hRall:∀ d∈db l K,R d (aL ((U.filterMap fun i=>((l[i]?).bind (·.dst)).map fun d=>(d,f i))++L') d) w':=by
  intro d hd;obtain ⟨o,ho,hod⟩:=List.mem_filterMap.1 hd;obtain ⟨i,hi⟩:=List.mem_iff_getElem?.1 ho;rw [List.getElem?_take] at hi;split at hi
  ·rename_i hiK;obtain ⟨o',d',ho',hd',_,hdist⟩:=hhead i hiK;rw [hi] at ho';cases ho';rw [hod] at hd';cases hd'
   have hne:∀ j∈U,j≠i→(l[j]?).bind (·.dst)≠some d:=fun j hj hji=>by
    have hjK:=((hU j).1 hj).1;obtain ⟨oj,dj,hoj,_⟩:=hhead j hjK;rw [hbind hoj];exact hdist j oj hjK hji hoj
   cases hb:listed.getD i true with
   |true=>
    rw [fp U fun j hj=>hne j hj (fun e=>by subst e;have:=((hU j).1 hj).2;rw [hb] at this;cases this)];exact hR i o d hiK hi hb hod
   |false=>
    rw [fU U ((hU i).2 ⟨hiK,hb⟩) ((hbind hi).trans hod) hne];exact (hf i hiK hb o d hi hod).2
  ·cases hi
 have he:=dZ _ (db l K) hRall (hend w' hF)
 have hL:mkA n ((db l K).map (fun d=>(d,aL ((U.filterMap fun i=>((l[i]?).bind (·.dst)).map fun d=>(d,f i))++L') d))++L)=dM l f U (mkA n L'):=by
  rw [kh];refine en fun t _=>?_
  rw [fc];split
  ·rfl
  ·rename_i hne
   have hnd:∀ i,i<K→∀ o,l[i]? =some o→o.dst≠some t:=fun i hi o ho hod=>hne (by
    simp only [List.elem_eq_mem,decide_eq_true_eq];exact List.mem_filterMap.2 ⟨o,List.mem_iff_getElem?.2 ⟨i,by rw [List.getElem?_take,if_pos hi];exact ho⟩,hod⟩)
   rw [fp U fun j hj=>by
    have hjK:=((hU j).1 hj).1;obtain ⟨oj,dj,hoj,_⟩:=hhead j hjK;rw [hbind hoj];exact hnd j hjK oj hoj]
   exact (hfr t fun i o hi ho _ hod=>hnd i hi o ho hod).symm
 replace he:=he.out;rw [hL] at he;refine kV hQ hc m K listed U _ w' hcl hcount hs (Nat.le_refl _) hKl (fun j h1 h2=>by rw [htail j h1 h2];simp [h1]) hUn (fun j hj=>⟨fun h=>(hU j).2 ⟨hj,h⟩,fun h=>((hU j).1 h).2⟩) (fun j hj=>?_) he;obtain ⟨h1,h2⟩:=(hU j).1 hj;obtain ⟨oj,dj,hoj,hdj,_⟩:=hhead j h1;exact ⟨h1,hpre j h1 h2,oj,hoj,(hf j h1 h2 oj dj hoj hdj).1⟩
theorem lJ (hQ:PQ Q) (hc:gH l K=true) (hm1:∀ w1 w2,af w1 w2→I1 w1→I1 w2) (hm2:∀ w1 w2,af w1 w2→I2 w1→I2 w2) (hmono1:∀ t v w1 w2,af w1 w2→R1 t v w1→R1 t v w2) (hmono:∀ t v w1 w2,af w1 w2→R t v w1→R t v w2)
 (hop:fH P l.toArray n L I2 R1 R l K mu 0 (l.take K)) (h12:∀ t v w,R1 t v w→R t v w) (hmuL:mu<K→cH l K mu=false) (hmu:oP P l.toArray n L I1 I2 R1 R l K mu l[mu]?)
 (hend:∀ w',I2 w'→fu R w' (db l K) fun M=>St P l.toArray Q (l.drop K) n (M++L) w') :
 ∀ (m:Nat) (listed:Array Bool) (L':List (Nat×Value)) (w':World),ed l listed→listed.toList.count false=m→listed.size=l.length→(∀ j,K≤j→j<l.length→listed.getD j true=false)→I2 w'→(listed.getD mu true=false→I1 w')→
  (∀ t,(∀ i o,i<K→l[i]? =some o→listed.getD i true=true→o.dst≠some t)→aL L' t=aL L t)→
  (∀ i o d,i<K→l[i]? =some o→listed.getD i true=true→o.dst=some d→R d (aL L' d) w')→(listed.getD mu true=false→∀ i o d,i<K→l[i]? =some o→listed.getD i true=true→o.dst=some d→R1 d (aL L' d) w')→wpAny P .any l.toArray Q m listed (mkA n L') w':=by
 have hc1:=(Bool.and_eq_true_iff.1 hc).1;have hlate:=(Bool.and_eq_true_iff.1 hc).2;have hKl:K≤l.length:=dT_ (Bool.and_eq_true_iff.1 hc1).1;have hck:=(List.all_eq_true.1 (Bool.and_eq_true_iff.1 hc1).2);intro m
 induction m with
 |zero=>
  intro listed L' w' hcl hcount hs htail hF hF1 hfr hR hR1
  exact jm hQ hc hop h12 hmuL hend 0 listed L' w' hcl hcount hs htail hF hfr hR (fun i hi h=>by
   have hm:listed[i]'(by omega)∈listed.toList:=by simp
   have hb:listed[i]'(by omega)=false:=by simpa [Array.getD,show i<listed.size by omega] using h
   rw [hb] at hm;exact absurd hcount (Nat.pos_iff_ne_zero.1 (List.count_pos_iff.2 hm)))
 |succ m ih=>
  intro listed L' w' hcl hcount hs htail hF hF1 hfr hR hR1;by_cases hpre:∀ i,i<K→listed.getD i true=false→cH l K i=true
  ·exact jm hQ hc hop h12 hmuL hend (m+1) listed L' w' hcl hcount hs htail hF hfr hR hpre
  ·
   have hn0:∃ i,i<K∧listed.getD i true=false∧cH l K i=false:=by
    refine Classical.byContradiction fun hno=>hpre fun i hi hf=>?_
    cases hb:cH l K i with
    |true=>rfl
    |false=>exact absurd ⟨i,hi,hf,hb⟩ hno
   obtain ⟨n0,hn0⟩:=hn0;obtain ⟨i0,hi0,hmin⟩:=exists_least (p:=fun i=>i<K∧listed.getD i true=false) ⟨n0,hn0.1,hn0.2.1⟩;have hi0l:i0<l.length:=by omega
   have hready:i0∈Region.ready .any l.toArray listed:=by
    refine mem_ready.2 ⟨hi0.2,l[i0],by rw [List.getElem?_toArray,List.getElem?_eq_getElem hi0l],fun e he hb=>?_⟩;have hx:=hck i0 (List.mem_range.2 hi0l);rw [List.getElem?_eq_getElem hi0l] at hx;simp only [Bool.and_eq_true] at hx;have he2:=List.all_eq_true.1 hx.1.1 e (by simpa using he);rw [hb] at he2;simp at he2;rw [←aO (by omega)];cases hb2:listed.getD e.on true with
    |true=>rfl
    |false=>exact absurd (hmin e.on ⟨by omega,hb2⟩) (by omega)
   refine ⟨fun h0=>(by rw [h0] at hready;cases hready),fun i hi=>?_⟩;obtain ⟨h0,o,ho,hall⟩:=mem_ready.1 hi;rw [List.getElem?_toArray] at ho;have hil:i<l.length:=(List.getElem?_eq_some_iff.1 ho).1;have hx:=hck i (List.mem_range.2 hil);rw [ho] at hx;simp only [Bool.and_eq_true] at hx
   have hiK:i<K:=by
    rcases Nat.lt_or_ge i K with h | h
    ·exact h
    ·exfalso;have h5:=dR hcl hall (iU hn0.2.2 ho h);rw [←aO (by omega),hn0.2.1] at h5;cases h5
   have h3:=hx.2;rw [if_pos hiK] at h3;simp only [Bool.and_eq_true] at h3;obtain ⟨h3a,h3b⟩:=h3;cases hod:o.dst with
   |none=>rw [hod] at h3a;cases h3a
   |some d=>
    rw [hod] at h3a;simp only [Bool.and_eq_true] at h3a;have hlooks:=mX (L:=L) hc hcl hs ho hil h0 hfr
    have hfactG:∀ (RR:Nat→Value→World→Prop),(∀ i o d,i<K→l[i]? =some o→listed.getD i true=true→o.dst=some d→RR d (aL L' d) w')→∀ t∈ef l K i o,RR t (aL L' t) w':=by
     intro RR hRR t ht;obtain ⟨_,j,oj,hjK,hj,hd,_,hdep⟩:=gF hc hiK ho ht;have h6:=dR hcl hall hdep;exact hRR j oj t hjK hj (by rw [aO (by omega)];exact h6) hd
    have hsel:bj o.op=false:=by simpa using hx.1.2
    obtain ⟨hE,hW⟩:=dv (n:=n) (ops:=l.toArray) (o:=o) hsel hlooks
    have next:∀ v w'',I2 w''→(i≠mu→listed.getD mu true=false→I1 w'')→R d v w''→(i≠mu→R1 d v w'')→(∀ t u,t≠d→R t u w'→(i=mu→R1 t u w')→R t u w'')→(i≠mu→∀ t u,R1 t u w'→R1 t u w'')→wpAny P .any l.toArray Q m (listed.setIfInBounds i true) ((mkA n L').put (some d) v) w'':=by
     intro v w'' hI2' hI1' hRv hR1v hst hst1;rw [cX]
     have hne:∀ j oj d',j<K→l[j]? =some oj→j≠i→oj.dst=some d'→d'≠d:=by
      intro j oj d' hj hoj hji hd e;have h5:=List.all_eq_true.1 h3a.1 j (List.mem_range.2 hj);rw [hoj] at h5;simp [hji,hd,e] at h5
     refine ih _ _ w'' (fD hcl ho hall) ?_ (by simpa using hs) (fun j hj1 hj2=>?_) hI2' (fun hml=>?_) (fun t ht=>?_) (fun j oj d' hj hoj hlj hd=>?_) (fun hml j oj d' hj hoj hlj hd=>?_)
     ·have hil':i<listed.size:=by omega
      have hfalse:listed.toList[i]? =some false:=by
       rw [Array.getElem?_toList,Array.getElem?_eq_getElem hil'];simp [Array.getD,hil'] at h0;rw [h0]
      rw [Array.toList_setIfInBounds];have:=cK (l:=listed.toList) (i:=i) hfalse;omega
     ·rw [getD_set_ne true (by omega)];exact htail j hj1 hj2
     ·have him:i≠mu:=fun e=>by subst e;simp [show i<listed.size by omega] at hml
      rw [getD_set_ne true him] at hml;exact hI1' him hml
     ·have htd:t≠d:=fun e=>ht i o hiK ho (by simp [show i<listed.size by omega]) (by rw [hod,e])
      rw [aT,if_neg htd];refine hfr t fun j oj hj hoj hlj=>ht j oj hj hoj ?_
      by_cases e:i=j
      ·subst e;rw [h0] at hlj;cases hlj
      ·rw [getD_set_ne true e];exact hlj
     ·rw [aT];by_cases e:j=i
      ·subst e;rw [ho] at hoj;cases hoj;rw [hod] at hd;cases hd;rw [if_pos rfl];exact hRv
      ·have hdd:=hne j oj d' hj hoj e hd;rw [if_neg hdd];rw [getD_set_ne true (Ne.symm e)] at hlj;refine hst _ _ hdd (hR j oj d' hj hoj hlj hd) (fun e2=>?_);subst e2;exact hR1 h0 j oj d' hj hoj hlj hd
     ·have him:i≠mu:=fun e=>by subst e;simp [show i<listed.size by omega] at hml
      rw [getD_set_ne true him] at hml;rw [aT];by_cases e:j=i
      ·subst e;rw [ho] at hoj;cases hoj;rw [hod] at hd;cases hd;rw [if_pos rfl];exact hR1v him
      ·rw [if_neg (hne j oj d' hj hoj e hd)];rw [getD_set_ne true (Ne.symm e)] at hlj;exact hst1 him _ _ (hR1 hml j oj d' hj hoj hlj hd)
    unfold wpOp;rw [List.getElem?_toArray,ho];show if Region.wanted o (yielded l.toArray (mkT n.n L'))=true then _ else _
    by_cases him:i=mu
    ·subst him;rw [ho] at hmu;have hok:=dZ (aL L') _ (hfactG R1 (hR1 h0)) (hmu w' (hF1 h0));rw [hod] at hok;simp only [Option.getD_some] at hok;unfold n9 at hok;rw [hE,hW] at hok;obtain ⟨hw,⟨v,w'',hr,hI,hRv,hst⟩ | ⟨f,args,hr,hcall⟩⟩:=hok
     ·rw [if_pos hw];refine .inl ?_;unfold Oper.wp;rw [bn,hr,Oper.upon_value,hod];exact next v w'' hI (fun h=>absurd rfl h) hRv (fun h=>absurd rfl h) (fun t u ht _ h1=>hst t u ht (h1 rfl)) (fun h=>absurd rfl h)
     ·rw [if_pos hw];refine .inl ?_;unfold Oper.wp;rw [bn,hr,Oper.upon_enter,hod];refine Calls.mono hcall fun e w'' ⟨v,he,hI,hRv,hst⟩=>?_
      subst he;exact next v w'' hI (fun h=>absurd rfl h) hRv (fun h=>absurd rfl h) (fun t u ht _ h1=>hst t u ht (h1 rfl)) (fun h=>absurd rfl h)
    ·have hok:=dZ (aL L') _ (hfactG R hR) (iz hop i o (by rw [List.getElem?_take,if_pos hiK];exact ho) him w' hF);rw [hod] at hok;simp only [Option.getD_some] at hok;unfold aw at hok;rw [hE,hW] at hok
     have next':∀ v w'',af w' w''→R1 d v w''→wpAny P .any l.toArray Q m (listed.setIfInBounds i true) ((mkA n L').put (some d) v) w'':=fun v w'' hF' hRv=>
      next v w'' (hm2 _ _ hF' hF) (fun _ h=>hm1 _ _ hF' (hF1 h)) (h12 _ _ _ hRv) (fun _=>hRv) (fun t u _ h _=>hmono _ _ _ _ hF' h) (fun _ t u h=>hmono1 _ _ _ _ hF' h)
     rcases hok with ⟨hw,⟨v,w'',hr,hF',hRv⟩ | ⟨f,args,hr,hcall⟩⟩ | ⟨hw,hRv⟩
     ·rw [if_pos hw];refine .inl ?_;unfold Oper.wp;rw [bn,hr,Oper.upon_value,hod];exact next' v w'' hF' hRv
     ·rw [if_pos hw];refine .inl ?_;unfold Oper.wp;rw [bn,hr,Oper.upon_enter,hod];refine Calls.mono hcall fun e w'' ⟨v,he,hF',hRv⟩=>?_
      subst he;exact next' v w'' hF' hRv
     ·rw [if_neg (by rw [hw];simp),hod];exact next' undef w' af.rfl_ hRv
theorem pk {id:Nat} (K mu:Nat) (Ex:List Nat) (RL:List (Nat×(Value→World→Prop))) (I1 I2:World→Prop) (hQ:PQ Q) (hm:P.follows .mixedOrders=true) (hc:gH l K=true) (hl:cH l K mu=false) (hmono:jC RL)
 (h0:I1 { w with drawn:=w.drawn+1 }) (h0':I2 { w with drawn:=w.drawn+1 }) (hm1:∀ w1 w2,af w1 w2→I1 w1→I1 w2) (hm2:∀ w1 w2,af w1 w2→I2 w1→I2 w2)
 (hop:fH P l.toArray n L I2 (di RL) (fe Ex RL) l K mu 0 (l.take K)) (hmu:oP P l.toArray n L I1 I2 (di RL) (fe Ex RL) l K mu l[mu]?)
 (hend:∀ w',I2 w'→fu (fe Ex RL) w' (db l K) fun M=>St P l.toArray Q (l.drop K) n (M++L) w'):Cd P (.region id l.toArray true) Q n L w:=by
 refine ⟨wp_region_any hm ?_⟩;have hKl:K≤l.length:=dT_ (Bool.and_eq_true_iff.1 (Bool.and_eq_true_iff.1 hc).1).1
 have:=lJ (Q:=Q) hQ hc hm1 hm2 (dp hmono) (k9 hmono) hop m0 (fun _=>hl) hmu hend l.length (Array.replicate l.length false) L { w with drawn:=w.drawn+1 } (gQ l _) (by simp) (by simp)
  (fun j _ hj=>by simp [Array.getD,hj]) h0' (fun _=>h0) (fun _ _=>rfl) (fun i o d hi _ hl=>by
   have:i<l.length:=by omega
   simp [Array.getD,this] at hl) (fun _ i o d hi _ hl=>by
   have:i<l.length:=by omega
   simp [Array.getD,this] at hl)
 simpa using this
theorem fr {id:Nat} (K:Nat) (RL:List (Nat×(Value→World→Prop))) (hQ:PQ Q) (hm:P.follows .mixedOrders=true) (hc:gH l K=true) (hmono:jC RL)
 (hop:fH P l.toArray n L (af w) (di RL) (di RL) l K l.length 0 (l.take K)) (hend:∀ w',af w w'→fu (di RL) w' (db l K) fun M=>St P l.toArray Q (l.drop K) n (M++L) w'):Cd P (.region id l.toArray true) Q n L w:=by
 refine ⟨wp_region_any hm ?_⟩;have hKl:K≤l.length:=dT_ (Bool.and_eq_true_iff.1 (Bool.and_eq_true_iff.1 hc).1).1
 have:=lJ (Q:=Q) (mu:=l.length) (I1:=af w) (I2:=af w) (R1:=di RL) hQ hc (fun _ _ hF h=>h.next hF) (fun _ _ hF h=>h.next hF) (dp hmono) (dp hmono) hop (fun _ _ _ h=>h) (fun h=>absurd h (by omega)) (by simp [oP]) hend l.length (Array.replicate l.length false) L { w with drawn:=w.drawn+1 } (gQ l _) (by simp) (by simp)
  (fun j _ hj=>by simp [Array.getD,hj]) af.rfl_.d1 (fun _=>af.rfl_.d1) (fun _ _=>rfl) (fun i o d hi _ hl=>by
   have:i<l.length:=by omega
   simp [Array.getD,this] at hl) (fun _ i o d hi _ hl=>by
   have:i<l.length:=by omega
   simp [Array.getD,this] at hl)
 simpa using this
end late
theorem eC {P:Program} {ρ:Operand→Value} {w:World} {s x:Operand} {t base:Nat} {A A2:Option Addr} {m j cap c2 e size by_:Nat} {z:Value} {xs news:List Value} (hq:ff P t=some (e,size,by_,z)) (hzs:z.cells.size=size) (hs0:0<size)
 (hs:ρ s=.slice A m cap) (hown:w.ownsRow base e size (.slice A m cap) m xs) (hB:base≤w.heap.size)
 (hx:ρ x=.slice A2 j c2) (hl:news.length=j*size) (hsrc:∃ b o,A2=some ⟨b,o,none⟩∧w.rangeAt b o news) (h1:∀ u∈news,u.oneCell'=true) (h63:m+j≤9223372036854775807) (hby:(m+j)*by_≤140737488355328) :
 ∃ A' cap' w',RO P ρ (.call { callee:=.builtin .append,args:=#[s,x],argTypes:=#[t,t] }) w (.slice A' (m+j) cap') w'∧w'.ownsRow base e size (.slice A' (m+j) cap') (m+j) (xs++news)∧w.grownBy w' (A.map (·.block)):=by
 obtain ⟨i,hu,hi,hsz,hb,hz⟩:=k_ hq;obtain ⟨b,o,rfl,hr⟩:=hsrc;have hobl:(Value.slice A m cap).ownBlock=A.map (·.block):=by cases A <;> rfl
 have key:∀ ty,∃ v' w',(Builtin.append_ #[t,t] ty #[.slice A m cap,.slice (some ⟨b,o,none⟩) j c2]).run P w=.ok v' w'∧w'.ownsRow base e size v' (m+j) (xs++news)∧w.grownBy w' (A.map (·.block)):=fun ty=>by
  obtain ⟨v',w',h1,h2,h3,_⟩:=run_append_own (P:=P) w base t ty e i z size by_ hu hi hz hsz hb hzs hs0 _ m xs hown ⟨b,o,none⟩ j c2 news hl (fun i u hu=>by rw [Addr.add_mid];exact hr i u hu) h1 (by unfold maxLen;omega) hby hB;exact ⟨v',w',h1,h2,by rw [←hobl];exact h3⟩
 obtain ⟨v',w',hrun,hown',hg⟩:=key 0;obtain ⟨A',cap',rfl⟩:=e8 hown';refine ⟨A',cap',w',fun dst ty pos after g=>?_,hown',hg⟩;have hty:(Builtin.append_ #[t,t] ty #[.slice A m cap,.slice (some ⟨b,o,none⟩) j c2]).run P w=(Builtin.append_ #[t,t] 0 #[.slice A m cap,.slice (some ⟨b,o,none⟩) j c2]).run P w:=rfl;unfold execOp;simp only [resolve,invoke,builtin,Sem.run_bind,Sem.run_pure,Result.andThen_ok,List.map_toArray,List.map_cons,List.map_nil,hs,hx,hty,hrun]
end Go.Proofs.YtmaaljhcojcjhaaDoor
namespace Go.Proofs.YtmaaljhcojcjhaaDoor
open Go.Proofs.Tryd (prog)
open Go.RowKit
section
variable {P:Program} {ops:Array Oper} {n:Fr} {L:List (Nat×Value)} {w:World} {ty:TypeId} {pos:String} {after:Array Edge} {dst:Option Nat} {t:TypeId} {x s:Operand}
theorem nE {ρ:Operand→Value} {e by_:Nat} {z v:Value} (hq:ff P t=some (e,1,by_,z)) (_:z.cells.size=1) (hx:ρ x=v) (hv:v.cells=#[v]):RO P ρ (.buildSlice t 1 #[(0,x)]) w (.slice (some ⟨w.heap.size,0,none⟩) 1 1) (w.alloc (.cells #[v] e)):=by
 refine iq (l:=[(0,x)]) (cells:=#[v]) hq rfl rfl ?_
 have e1:(Array.range (1*1)).map (z.cells[·%z.cells.size]!)=#[z.cells[0]!]:=by
  rw [show Array.range (1*1)=#[0] from rfl];simp
 rw [e1];simp [Instr.fill,hx,hv]
theorem l4 {post:Value→World→Prop} {base:Nat} {A A2:Option Addr} {m j cap c2 e size by_:Nat} {z:Value} {xs news:List Value} (hq:ff P t=some (e,size,by_,z)) (hzs:z.cells.size=size) (hs0:0<size)
 (hs:ev n L s=.slice A m cap) (hown:w.ownsRow base e size (.slice A m cap) m xs) (hB:base≤w.heap.size)
 (hx:ev n L x=.slice A2 j c2) (hl:news.length=j*size) (hsrc:∃ b o,A2=some ⟨b,o,none⟩∧w.rangeAt b o news) (h1:∀ u∈news,u.oneCell'=true) (h63:m+j≤9223372036854775807) (hby:(m+j)*by_≤140737488355328)
 (k:∀ A' cap' w',w'.ownsRow base e size (.slice A' (m+j) cap') (m+j) (xs++news)→w.grownBy w' (A.map (·.block))→post (.slice A' (m+j) cap') w') :
 n9 P ops n L ⟨dst,.call { callee:=.builtin .append,args:=#[s,x],argTypes:=#[t,t] },ty,pos,after,none⟩ w post:=by
 obtain ⟨A',cap',w',hr,ho,hg⟩:=eC (P:=P) (ρ:=ev n L) hq hzs hs0 hs hown hB hx hl hsrc h1 h63 hby;exact ⟨rfl,.inl ⟨_,w',hr _ _ _ _ _,k A' cap' w' ho hg⟩⟩
end
theorem e_ {w:World} {bs e s n c m:Nat} {A:Option Addr} {l:List Value} (h:w.ownsRow bs e s (.slice A n c) m l):∀ k,A.map (·.block)=some k→bs≤k∧k<w.heap.size:=fun k hk=>h.lt k (by rw [←hk];cases A <;> rfl)
end Go.Proofs.YtmaaljhcojcjhaaDoor
namespace Go.Proofs.YtmaaljhcojcjhaaDoor
open Go.Proofs.Tryd (prog)
open Go.RowKit
end Go.Proofs.YtmaaljhcojcjhaaDoor
namespace Go.Proofs.YtmaaljhcojcjhaaDoor
open Go.Proofs.Tryd (prog)
open Go.RowKit Go.ChangeShapes Go.WideShapes Go.ChangeAt
theorem aP {w:World} {base e s n c m g t:Nat} {A:Option Addr} {xs:List Value} {cs:Array Value} (h:w.ownsRow base e s (.slice A n c) m xs) (hb:Blk w g t cs) (hne:t≠e):∀ k,A.map (·.block)=some k→k≠g:=by
 rintro k hk rfl;rcases h.2 with ⟨h0,_⟩ | ⟨g',cap,cur,hv,hg,hh,r⟩
 ·simp only [Value.slice.injEq] at h0;rw [h0.1] at hk;cases hk
 ·simp only [Value.slice.injEq] at hv;rw [hv.1] at hk;simp only [Option.map_some,Option.some.injEq] at hk;subst hk;unfold Blk at hb;rw [hh] at hb;simp only [Option.some.injEq,Obj.cells.injEq] at hb;exact hne hb.2.1.symm
theorem aW {w w':World} {base e s n c g:Nat} {A:Option Addr} {xs:List Value} (h:w.ownsRow base e s (.slice A n c) n xs) (o:dt g w w') (hne:∀ k,A.map (·.block)=some k→k≠g):w'.ownsRow base e s (.slice A n c) n xs:=by
 refine ⟨h.1,?_⟩;rcases h.2 with h2 | ⟨g',cap,cur,hv,hg,hh,r⟩
 ·exact .inl h2
 ·refine .inr ⟨g',cap,cur,hv,hg,?_,r⟩;simp only [Value.slice.injEq] at hv;rw [o.block g' (hne g' (by rw [hv.1];rfl))];exact hh
theorem e5 {w:World} {base base' size n:Nat} {e:TypeId} {v:Value} {xs:List Value} (h:w.ownsRow base e size v n xs) (hb:base'≤base):w.ownsRow base' e size v n xs:=by
 refine ⟨h.1,?_⟩;rcases h.2 with h0 | ⟨g,cap,cur,hv,hg,r⟩
 ·exact .inl h0
 ·exact .inr ⟨g,cap,cur,hv,by omega,r⟩
end Go.Proofs.YtmaaljhcojcjhaaDoor
namespace Go.Proofs.YtmaaljhcojcjhaaDoor
open Go.Proofs.Tryd (prog)
open Go.RowKit
section
variable {α:Type} {f:α→List Value} {s:Nat}
def p5 (s:Nat) (f:α→List Value) (w:World) (A:Option Addr) (L:List α):Prop:=0<L.length→∃ b o,A=some ⟨b,o,none⟩∧∀ i (h:i<L.length),w.rangeAt b (o+i*s) (f L[i])
end
theorem o6 (cs:List Value) (o:Nat):iy cs o []=cs:=by simp [iy]
end Go.Proofs.YtmaaljhcojcjhaaDoor
namespace Go.Proofs.YtmaaljhcojcjhaaDoor
open Go.Proofs.Tryd (prog)
open Go.RowKit
end Go.Proofs.YtmaaljhcojcjhaaDoor
namespace Go.Proofs.YtmaaljhcojcjhaaDoor
open Go.Proofs.Tryd (prog)
open Go.RowKit
end Go.Proofs.YtmaaljhcojcjhaaDoor
namespace Go.Proofs.YtmaaljhcojcjhaaDoor
open Go.Proofs.Tryd (prog)
open Go.RowKit
def pg (l:List Oper) (K mu i:Nat):Bool:=Nat.blt mu K&&match l[mu]? with | some om=>gv l om i | none=>false
def oO (P:Program) (ops:Array Oper) (n:Fr) (L:List (Nat×Value)) (I1 I2:World→Prop) (R1 R2:Nat→Value→World→Prop) (l0:List Oper) (K:Nat) (mu:Nat):Nat→List Oper→Prop
 |_,[]=>True
 |i,o::r=>(Nat.beq i mu=false→match pg l0 K mu i with
   |true=>∀ w',I1 w'→fu R1 w' (ef l0 K i o) fun M=>aw P ops n (M++L) o w' (R1 (o.dst.getD 0))
   |false=>∀ w',I2 w'→fu R2 w' (ef l0 K i o) fun M=>aw P ops n (M++L) o w' (R1 (o.dst.getD 0)))∧oO P ops n L I1 I2 R1 R2 l0 K mu (i+1) r
end Go.Proofs.YtmaaljhcojcjhaaDoor
namespace Go.Proofs.YtmaaljhcojcjhaaDoor
open Go.Proofs.Tryd (prog)
def aZ (n:Nat):List Nat:=if n<128 then [n] else (n%128+128)::aZ (n/128)
termination_by n
theorem cl {n:Nat} (h:n<128):aZ n=[n]:=by rw [aZ,if_pos h]
theorem dO {n:Nat} (h:¬ n<128):aZ n=(n%128+128)::aZ (n/128):=by rw [aZ,if_neg h]
theorem fa (n:Nat):1≤(aZ n).length:=by
 by_cases h:n<128
 ·simp [cl h]
 ·simp [dO h]
theorem kn:∀ (j n:Nat),n<128 ^ (j+1)→(aZ n).length≤j+1
 |0,n,h=>by rw [cl (by omega)];simp
 |j+1,n,h=>by
  by_cases hn:n<128
  ·simp [cl hn]
  ·rw [dO hn,List.length_cons];have:=kn j (n/128) (by rw [Nat.div_lt_iff_lt_mul (by decide),←Nat.pow_succ];exact h);omega
theorem cN {n:Nat} (h:n≤9223372036854775807):(aZ n).length≤9:=kn 8 n (by omega)
theorem jl:∀ (j n:Nat),n<128 ^ (j+1)→∀ b∈aZ n,b<256
 |0,n,h,b,hb=>by rw [cl (by omega)] at hb;simp at hb;omega
 |j+1,n,h,b,hb=>by
  by_cases hn:n<128
  ·rw [cl hn] at hb;simp at hb;omega
  ·rw [dO hn,List.mem_cons] at hb;rcases hb with rfl | hb
   ·omega
   ·exact jl j (n/128) (by rw [Nat.div_lt_iff_lt_mul (by decide),←Nat.pow_succ];exact h) b hb
theorem eE {n:Nat} (h:n≤9223372036854775807):∀ b∈aZ n,b<256:=jl 8 n (by omega)
def dB:Nat→Nat→List Nat→Option (Nat×Nat)
 |_,_,[]=>none
 |i,n,x::t=>
  if 9≤i then none
  else if 128≤x then dB (i+1) (n+(x-128)*128 ^ i) t
  else if x=0∧0<i then none
  else some (n+x*128 ^ i,i+1)
def cv (l:List Nat):Option (Nat×Nat):=dB 0 0 l
theorem iD:∀ (j i n m:Nat) (t:List Nat),m<128 ^ (j+1)→i+j<9→(0<i→0<m)→dB i n (aZ m++t)=some (n+m*128 ^ i,i+(aZ m).length)
 |0,i,n,m,t,h,hi,h0=>by
  have hm:m<128:=by omega
  rw [cl hm];simp only [List.cons_append,List.nil_append,dB,List.length_cons,List.length_nil];rw [if_neg (by omega),if_neg (by omega),if_neg (by omega)]
 |j+1,i,n,m,t,h,hi,h0=>by
  by_cases hm:m<128
  ·rw [cl hm];simp only [List.cons_append,List.nil_append,dB,List.length_cons,List.length_nil];rw [if_neg (by omega),if_neg (by omega),if_neg (by omega)]
  ·rw [dO hm];simp only [List.cons_append,dB,List.length_cons];rw [if_neg (by omega),if_pos (by omega),iD j (i+1) _ (m/128) t (by rw [Nat.div_lt_iff_lt_mul (by decide),←Nat.pow_succ];exact h) (by omega) (by omega)]
   congr 2
   ·have e:m=128*(m/128)+m%128:=(Nat.div_add_mod m 128).symm;rw [Nat.pow_succ,Nat.add_sub_cancel,Nat.add_assoc]
    congr 1
    conv=>rhs;rw [e,Nat.add_mul]
    rw [Nat.add_comm,Nat.mul_comm (128 ^ i) 128,←Nat.mul_assoc,Nat.mul_comm (m/128) 128]
   ·omega
theorem fh {m:Nat} (h:m≤9223372036854775807) (t:List Nat):cv (aZ m++t)=some (m,(aZ m).length):=by
 have:=iD 8 0 0 m t (by omega) (by omega) (by omega);simpa [cv] using this
theorem gK:∀ (l:List Nat) (i n:Nat) {m k:Nat},(∀ b∈l,b<256)→dB i n l=some (m,k)→n<128 ^ i→m<128 ^ k∧i<k∧k≤9∧k≤i+l.length
 |[],i,n,m,k,_,h,_=>by simp [dB] at h
 |x::t,i,n,m,k,hb,h,hn=>by
  have hx:=hb x (by simp);simp only [dB] at h;split at h
  ·cases h
  ·split at h
   ·have hp:n+(x-128)*128 ^ i<128 ^ (i+1):=by
     have:(x-128)*128 ^ i≤127*128 ^ i:=Nat.mul_le_mul_right _ (by omega);rw [Nat.pow_succ];omega
    have:=gK t (i+1) _ (fun b h=>hb b (by simp [h])) h hp;simp only [List.length_cons];omega
   ·split at h
    ·cases h
    ·simp only [Option.some.injEq,Prod.mk.injEq] at h;obtain ⟨rfl,rfl⟩:=h;have:x*128 ^ i≤127*128 ^ i:=Nat.mul_le_mul_right _ (by omega);simp only [List.length_cons,Nat.pow_succ];omega
theorem iE:∀ (l:List Nat) (i n:Nat) {m k:Nat},(∀ b∈l,b<256)→dB i n l=some (m,k)→∃ q,m=n+q*128 ^ i∧(0<i→0<q)∧l.take (k-i)=aZ q
 |[],i,n,m,k,_,h=>by simp [dB] at h
 |x::t,i,n,m,k,hb,h=>by
  have hx:=hb x (by simp);simp only [dB] at h;split at h
  ·cases h
  ·split at h
   ·rename_i h9 h128;obtain ⟨q,hq,hq0,ht⟩:=iE t (i+1) _ (fun b h=>hb b (by simp [h])) h;have hq1:=hq0 (by omega)
    have hk:i+1<k:=by
     by_cases hk:i+1<k
     ·exact hk
     ·exfalso;have:k-(i+1)=0:=by omega
      rw [this] at ht;have:=fa q;rw [←ht] at this;simp at this
    refine ⟨(x-128)+128*q,?_,by omega,?_⟩
    ·rw [hq,Nat.pow_succ,Nat.add_mul,Nat.add_assoc]
     congr 2
     rw [Nat.mul_comm (128 ^ i) 128,←Nat.mul_assoc,Nat.mul_comm q 128]
    ·rw [dO (by omega),show k-i=(k-(i+1))+1 by omega,List.take_succ_cons,ht]
     congr 1
     ·omega
     ·congr 1;omega
   ·split at h
    ·cases h
    ·simp only [Option.some.injEq,Prod.mk.injEq] at h;obtain ⟨rfl,rfl⟩:=h;exact ⟨x,rfl,by omega,by rw [cl (by omega),show i+1-i=1 by omega];simp⟩
theorem eI {l:List Nat} {m k:Nat} (hb:∀ b∈l,b<256) (h:cv l=some (m,k)):m≤9223372036854775807∧0<k∧k≤9∧k≤l.length:=by
 have h1:=gK l 0 0 hb h (by decide);have h2:128 ^ k≤128 ^ 9:=Nat.pow_le_pow_right (by decide) h1.2.2.1;omega
theorem gJ {l:List Nat} {m k:Nat} (hb:∀ b∈l,b<256) (h:cv l=some (m,k)):l.take k=aZ m:=by
 obtain ⟨q,hq,_,ht⟩:=iE l 0 0 hb h;simp only [Nat.pow_zero,Nat.mul_one,Nat.zero_add] at hq;subst hq;simpa using ht
def dF (s:ByteArray):List Nat:=s.data.toList.map (·.toNat)
theorem dY (s:ByteArray):(dF s).length=s.size:=by rw [dF,List.length_map,Array.length_toList];rfl
theorem lA (s:ByteArray):∀ b∈dF s,b<256:=by
 intro b hb;simp only [dF,List.mem_map] at hb;obtain ⟨x,_,rfl⟩:=hb;exact x.toNat_lt
def aH (l:List Nat):List Value:=l.map fun (x:Nat)=>.int .u8 x
theorem bd (l:List Nat):(aH l).length=l.length:=by simp [aH]
theorem iX (l m:List Nat):aH (l++m)=aH l++aH m:=by simp [aH]
theorem gU (s:ByteArray):Lib.strCells s=aH (dF s):=by simp [Lib.strCells,aH,dF]
theorem jD {ops:Array Oper} {rest:List Oper} {o:Oper} {a:Act} {Q:Exit→Act→World→Prop} {wr:World} (a0:World) (hgd:o.guard=none) (s x:Operand) (t u:TypeId)
 (ho:o.op=.call { callee:=.builtin .append,args:=#[s,x],argTypes:=#[t,u] }) (e:TypeId) (i:TypeInfo)
 (ht:prog.underlying t=some (.slice e)) (hu:prog.underlying u=some .string) (hi:prog.info? e=some i) (hz:i.zero=some (.int .u8 0)) (hsize:i.size=1) (hby:i.bytes=1)
 (v:Value) (n:Nat) (xs:List Nat) (hs:a.eval s=v) (hown:wr.ownsRow a0.heap.size e 1 v n (aH xs)) (hw:af a0 wr) (str:ByteArray) (hx:a.eval x=.string str)
 (hroom:n+str.size≤140737488355328)
 (h:∀ v' w',w'.ownsRow a0.heap.size e 1 v' (n+str.size) (aH (xs++dF str))→af a0 w'→wpList prog ops Q rest (a.put o.dst v') w'):wpList prog ops Q (o::rest) a wr:=by
 refine Lib.wpList_append_own_string (P:=prog) _ hgd s x t u ho a0.heap.size e i ht hu hi hz hsize hby v n _ hs hown str hx (by unfold maxLen;omega) hroom hw.size ?_;intro v' w' hown' hg _;rw [gU,←iX] at hown';exact h v' w' hown' (hw.grew hg (fun k hk=>(hown.lt k hk).1))
end Go.Proofs.YtmaaljhcojcjhaaDoor
namespace Go.Proofs.YtmaaljhcojcjhaaDoor
open Go.Proofs.Tryd (prog)
open Go.RowKit
theorem ly:(prog.info? 5).map (fun i=>(i.zero,i.size,i.bytes))=some (some (.int .u8 0),1,1):=by kernel_rfl
theorem o7 (m:Nat):bits .or .u8 (IntKind.u8.wrap (m:Int)) 128=((m%128+128:Nat):Int):=by
 have H:∀ b:Fin 256,bits .or .u8 ((b.val:Nat):Int) 128=((b.val%128+128:Nat):Int):=by decide+kernel
 have:=H ⟨m%256,by omega⟩;rw [IntKind.wrap_u8];have e:((m:Int)%256)=((m%256:Nat):Int):=by omega
 rw [e,this];simp only;omega
theorem fv (a0 w:World) (v:Value) (k:Nat) (xs:List Nat) (m:Nat) (hm:m≤9223372036854775807) (hown:w.ownsRow a0.heap.size 5 1 v k (aH xs)) (hw:af a0 w) (hk:k≤1000000000000) :
 Calls prog 27 #[v,.int .i64 m] w fun e w'=>∃ v',e=.returned v'∧w'.ownsRow a0.heap.size 5 1 v' (k+(aZ m).length) (aH (xs++aZ m))∧af a0 w':=by
 obtain ⟨i0,hi0,hz0,hz1,hz2⟩:=info_parts ly;have hm9:=cN hm
 go_enter Tryd.func27,Tryd.ntmps27
 go_wp2
 go_loopw [0,1] (fun v i wr=>∃ m' ys,i=.int .i64 (m':Nat)∧m'≤9223372036854775807∧wr.ownsRow a0.heap.size 5 1 v (k+ys.length) (aH (xs++ys))∧ys++aZ m'=aZ m∧af a0 wr) (fun _ i _=>(intOf i).toNat)
 case atStart=>exact ⟨m,[],rfl,hm,by simpa using hown,rfl,hw⟩
 case round=>
  obtain ⟨m',ys,rfl,hm',hown',hys,hw'⟩:=hrel;have hlen:ys.length+(aZ m').length=(aZ m).length:=by rw [←hys,List.length_append]
  have hp:=fa m';have hr1:(k+ys.length+1)*1≤140737488355328:=by omega
  have hr2:k+ys.length+1≤maxLen:=by unfold maxLen;omega
  by_cases h:m'<128
  ·have hd:decide ((128:Int)≤(m':Int))=false:=by simp;omega
   have hb:((m':Int)%256)=(m':Int):=by omega
   rw [cl h] at hys;have HY:=Lib.hid hys;clear hys
   go_wp2_with (at_builtin;refine eT a0 rfl (.tmp 15) (.tmp 18) 26 rfl 5 i0 _ 1 Tryd.underlying26 hi0 hz0 hz1 hz2 rfl _ _ _ rfl hown' hw' rfl rfl hr1 hr2 ?_;intro v1 w1 hown1 hw1)
   go_ret
   refine ⟨_,rfl,?_,hw1⟩;have e1:k+(aZ m).length=k+ys.length+1:=by rw [←HY.out];simp;omega
   rw [e1,←HY.out];simpa [aH,←List.append_assoc] using hown1
  ·have hd:decide ((128:Int)≤(m':Int))=true:=by simp;omega
   rw [dO h] at hys;have HY:=Lib.hid hys;have hor:=o7 m';rw [IntKind.wrap_u8] at hor;clear hys
   go_wp2_with (at_builtin;refine eT a0 rfl (.tmp 7) (.tmp 11) 26 rfl 5 i0 _ 1 Tryd.underlying26 hi0 hz0 hz1 hz2 rfl _ _ _ rfl hown' hw' rfl rfl hr1 hr2 ?_;intro v1 w1 hown1 hw1)
   go_roundw
   case rel=>
    refine ⟨m'/128,ys++[m'%128+128],by go_num,by omega,?_,by rw [←HY.out];simp,hw1⟩;have e1:k+(ys++[m'%128+128]).length=k+ys.length+1:=by simp;omega
    rw [e1];simpa [aH,←List.append_assoc] using hown1
   case measure=>simp [intOf];omega
theorem nO (m:Nat) (hm:m≤9223372036854775807) (w:World) :
 Calls prog 25 #[.int .i64 m] w fun e w'=>∃ v',e=.returned (.tuple #[v',.int .i64 0])∧w'.ownsRow w.heap.size 5 1 v' (aZ m).length (aH (aZ m))∧af w w':=by
 have H:=fv w w (.slice none 0 0) 0 [] m hm (World.ownsRow_nil _ _ _ _) af.rfl_ (by omega);simp only [Nat.zero_add,List.nil_append] at H;have hd:decide ((m:Int)<0)=false:=by simp
 go_enter Tryd.func25,Tryd.ntmps25
 go_wp2_with (go_at_call 27;refine H.mono ?_;rintro e w1 ⟨v1,rfl,hown,hb⟩)
 go_ret2
 exact ⟨_,rfl,hown,hb⟩
def gW:Option (Nat×Nat)→Value
 |some (m,k)=>.tuple #[.int .i64 (m:Nat),.int .i64 (k:Nat),.int .i64 0]
 |none=>.tuple #[.int .i64 0,.int .i64 0,.int .i64 1]
theorem lG (j n y:Nat) (hj:j≤8) (hn:n<128 ^ j) (hy:y<128):bits .or .i64 (n:Int) (wrap64 (wrap64 (y:Int)*2 ^ (7*j)))=((n+y*128 ^ j:Nat):Int):=by
 have e1:(128:Nat) ^ j=2 ^ (7*j):=by rw [Nat.pow_mul]
 have h8:128 ^ j≤128 ^ 8:=Nat.pow_le_pow_right (by decide) hj;have h9:y*128 ^ j≤127*128 ^ j:=Nat.mul_le_mul_right _ (by omega);have e2:((y:Int)*2 ^ (7*j))=((y*128 ^ j:Nat):Int):=by rw [e1];simp
 rw [IntWalk.wrap64_in (y:Int) (by omega),e2,IntWalk.wrap64_in _ (by omega)];show IntKind.i64.wrap ((BitVec.ofInt 64 (n:Int) ||| BitVec.ofInt 64 ((y*128 ^ j:Nat):Int)).toNat:Int)=_;have t1:(BitVec.ofInt 64 (n:Int)).toNat=n:=by rw [BitVec.ofInt_natCast,BitVec.toNat_ofNat];exact Nat.mod_eq_of_lt (by omega)
 have t2:(BitVec.ofInt 64 ((y*128 ^ j:Nat):Int)).toNat=y*128 ^ j:=by rw [BitVec.ofInt_natCast,BitVec.toNat_ofNat];exact Nat.mod_eq_of_lt (by omega)
 have t3:n ||| y*128 ^ j=n+y*128 ^ j:=by
  rw [Nat.or_comm,Nat.mul_comm y,e1,←Nat.two_pow_add_eq_or_of_lt (by rw [←e1];exact hn)];omega
 rw [BitVec.toNat_or,t1,t2,t3,IntKind.wrap_i64];omega
theorem jx {x:Nat} (h:x<256):bits .andNot .u8 (x:Int) 128=((x%128:Nat):Int):=by
 have H:∀ b:Fin 256,bits .andNot .u8 ((b.val:Nat):Int) 128=((b.val%128:Nat):Int):=by decide+kernel
 exact H ⟨x,h⟩
theorem np {x:Nat} (h:x<256):(bits .and .u8 (x:Int) 128 != 0)=decide (128≤x):=by
 have H:∀ b:Fin 256,(bits .and .u8 ((b.val:Nat):Int) 128 != 0)=decide (128≤b.val):=by decide+kernel
 exact H ⟨x,h⟩
theorem ku (v:Value) (l:List Nat) (hl:∀ b∈l,b<256) (w:World) (hr:bI w v (aH l)) (h9:(9:Int)<(l.length:Int)) :
 Calls prog 29 #[v] w fun e w'=>e=.returned (gW (cv l))∧w=w':=by
 obtain ⟨A,cap,rfl,hc1,hc2,hrow⟩:=hr.parts;have hlen:(aH l).length=l.length:=by simp [aH]
 rw [hlen] at hc1 hrow ⊢;have i4:(9:Int)≤(cap:Int):=by omega
 go_enter Tryd.func29,Tryd.ntmps29
 go_wp2
 go_loopw [2,13] (fun s i wr=>∃ j n:Nat,s=.int .i64 (n:Nat)∧i=.int .i64 (j:Nat)∧j≤9∧n<128 ^ j∧dB j n (l.drop j)=cv l∧w=wr) (fun _ i _=>9-(intOf i).toNat)
 case atStart=>exact ⟨0,0,rfl,rfl,by omega,by decide,rfl,rfl⟩
 case round=>
  obtain ⟨j,n,rfl,rfl,hj,hn,hg,rfl⟩:=hrel;have HG:=Lib.hid hg;clear hg;by_cases hlt:j<9
  ·have hd:decide ((j:Int)<9)=true:=by simp;omega
   have hj2:j<l.length:=by omega
   obtain ⟨b,o,rfl,hb,hcell⟩:=hrow (by omega);have d1:w.cell? ⟨b,o+j,none⟩=some (.int .u8 (l[j]:Nat)):=hcell j _ (by simp [aH,hj2]);have i1:(0:Int)≤(j:Int):=by omega
   have i2:(j:Int)<9:=by omega
   have hx:l[j]<256:=hl _ (List.getElem_mem hj2);have hg:=HG.out;rw [List.drop_eq_getElem_cons hj2] at hg;simp only [dB] at hg;rw [if_neg (by omega)] at hg;clear hcell hrow hr HG
   generalize l[j]=x at*
   have hor:=lG j n (x%128) (by omega) hn (by omega);rw [←jx hx] at hor;have hbit:=np hx;have e7:127*128 ^ j+128 ^ j=128 ^ (j+1):=by rw [Nat.pow_succ];omega
   have h9':(x%128)*128 ^ j≤127*128 ^ j:=Nat.mul_le_mul_right _ (by omega);by_cases hbig:128≤x
   ·rw [if_pos hbig] at hg;rw [decide_eq_true hbig] at hbit;have H:=Lib.hid (And.intro hg (And.intro hn (And.intro e7 h9')));have HB:=Lib.hid (And.intro hbig hx);clear hg e7 h9' hbig hx hn
    go_wp2
    go_roundw
    case rel=>
     obtain ⟨hg,hn,e7,h9'⟩:=H.out;have hxx:x%128=x-128:=by have:=HB.out;omega
     refine ⟨j+1,n+(x%128)*128 ^ j,rfl,by go_num,by omega,by omega,?_,trivial⟩;rw [hxx];exact hg
    case measure=>simp [intOf];omega
   ·rw [if_neg hbig] at hg;rw [decide_eq_false hbig] at hbit;have hxx:x%128=x:=by omega
    rw [hxx] at hor;by_cases hx0:x=0
    ·subst hx0;simp only [Int.ofNat_zero,Nat.zero_mul,Nat.add_zero] at d1 hor hbit;have H:=Lib.hid (And.intro hg (And.intro hn (And.intro e7 h9')));clear hg e7 h9' hbig hx hn hxx;by_cases hj0:0<j
     ·go_wp2
      go_ret3
      refine ⟨?_,rfl⟩;have h:=H.out.1;rw [if_pos ⟨by trivial,hj0⟩] at h;rw [←h];rfl
     ·go_wp2
      go_ret3
      refine ⟨?_,rfl⟩;have h:=H.out.1;rw [if_neg (fun c=>hj0 c.2)] at h;rw [←h];simp [gW]
    ·rw [if_neg (by omega)] at hg;have H:=Lib.hid (And.intro hg (And.intro hn (And.intro e7 h9')));clear hg e7 h9' hbig hx hn hxx
     go_wp2
     go_ret3
     refine ⟨?_,rfl⟩;rw [←H.out.1];simp [gW]
  ·have hd:decide ((j:Int)<9)=false:=by simp;omega
   go_wp2
   go_ret3
   refine ⟨?_,rfl⟩;rw [←HG.out];have hjc:j=9:=by omega
   rw [hjc];rw [List.drop_eq_getElem_cons (show 9<l.length by omega)];simp only [dB];rw [if_pos (by omega)];rfl
theorem jP (v:Value) (l:List Nat) (hl:∀ b∈l,b<256) (w:World) (hr:bI w v (aH l)) (h9:¬ (9:Int)<(l.length:Int)) :
 Calls prog 29 #[v] w fun e w'=>e=.returned (gW (cv l))∧w=w':=by
 obtain ⟨A,cap,rfl,hc1,hc2,hrow⟩:=hr.parts;have hlen:(aH l).length=l.length:=by simp [aH]
 rw [hlen] at hc1 hrow ⊢;have i4:((l.length:Int):Int)≤(cap:Int):=by omega
 go_enter Tryd.func29,Tryd.ntmps29
 go_wp2
 go_loopw [2,13] (fun s i wr=>∃ j n:Nat,s=.int .i64 (n:Nat)∧i=.int .i64 (j:Nat)∧j≤l.length∧n<128 ^ j∧dB j n (l.drop j)=cv l∧w=wr) (fun _ i _=>l.length-(intOf i).toNat)
 case atStart=>exact ⟨0,0,rfl,rfl,by omega,by decide,rfl,rfl⟩
 case round=>
  obtain ⟨j,n,rfl,rfl,hj,hn,hg,rfl⟩:=hrel;have HG:=Lib.hid hg;clear hg;by_cases hlt:j<l.length
  ·have hd:decide ((j:Int)<(l.length:Int))=true:=by simp;omega
   have hj2:j<l.length:=by omega
   obtain ⟨b,o,rfl,hb,hcell⟩:=hrow (by omega);have d1:w.cell? ⟨b,o+j,none⟩=some (.int .u8 (l[j]:Nat)):=hcell j _ (by simp [aH,hj2]);have i1:(0:Int)≤(j:Int):=by omega
   have i2:(j:Int)<(l.length:Int):=by omega
   have hx:l[j]<256:=hl _ (List.getElem_mem hj2);have hg:=HG.out;rw [List.drop_eq_getElem_cons hj2] at hg;simp only [dB] at hg;rw [if_neg (by omega)] at hg;clear hcell hrow hr HG
   generalize l[j]=x at*
   have hor:=lG j n (x%128) (by omega) hn (by omega);rw [←jx hx] at hor;have hbit:=np hx;have e7:127*128 ^ j+128 ^ j=128 ^ (j+1):=by rw [Nat.pow_succ];omega
   have h9':(x%128)*128 ^ j≤127*128 ^ j:=Nat.mul_le_mul_right _ (by omega);by_cases hbig:128≤x
   ·rw [if_pos hbig] at hg;rw [decide_eq_true hbig] at hbit;have H:=Lib.hid (And.intro hg (And.intro hn (And.intro e7 h9')));have HB:=Lib.hid (And.intro hbig hx);clear hg e7 h9' hbig hx hn
    go_wp2
    go_roundw
    case rel=>
     obtain ⟨hg,hn,e7,h9'⟩:=H.out;have hxx:x%128=x-128:=by have:=HB.out;omega
     refine ⟨j+1,n+(x%128)*128 ^ j,rfl,by go_num,by omega,by omega,?_,trivial⟩;rw [hxx];exact hg
    case measure=>simp [intOf];omega
   ·rw [if_neg hbig] at hg;rw [decide_eq_false hbig] at hbit;have hxx:x%128=x:=by omega
    rw [hxx] at hor;by_cases hx0:x=0
    ·subst hx0;simp only [Int.ofNat_zero,Nat.zero_mul,Nat.add_zero] at d1 hor hbit;have H:=Lib.hid (And.intro hg (And.intro hn (And.intro e7 h9')));clear hg e7 h9' hbig hx hn hxx;by_cases hj0:0<j
     ·go_wp2
      go_ret3
      refine ⟨?_,rfl⟩;have h:=H.out.1;rw [if_pos ⟨by trivial,hj0⟩] at h;rw [←h];rfl
     ·go_wp2
      go_ret3
      refine ⟨?_,rfl⟩;have h:=H.out.1;rw [if_neg (fun c=>hj0 c.2)] at h;rw [←h];simp [gW]
    ·rw [if_neg (by omega)] at hg;have H:=Lib.hid (And.intro hg (And.intro hn (And.intro e7 h9')));clear hg e7 h9' hbig hx hn hxx
     go_wp2
     go_ret3
     refine ⟨?_,rfl⟩;rw [←H.out.1];simp [gW]
  ·have hd:decide ((j:Int)<(l.length:Int))=false:=by simp;omega
   go_wp2
   go_ret3
   refine ⟨?_,rfl⟩;rw [←HG.out];have hjc:j=l.length:=by omega
   rw [hjc];rw [List.drop_length];rfl
theorem fx (v:Value) (l:List Nat) (hl:∀ b∈l,b<256) (w:World) (hr:bI w v (aH l)) :
 Calls prog 29 #[v] w fun e w'=>e=.returned (gW (cv l))∧w=w':=by
 by_cases h:(9:Int)<(l.length:Int)
 ·exact ku v l hl w hr h
 ·exact jP v l hl w hr h
def pB:Option (Nat×Nat)→Value
 |some (m,k)=>.tuple #[.int .i64 (m:Nat),.int .i64 (k:Nat)]
 |none=>.tuple #[.int .i64 0,.int .i64 0]
theorem km (m:Nat) (hm:m≤9223372036854775807) (w:World) :
 Calls prog 26 #[.int .i64 m] w fun e w'=>e=.returned (.int .i64 ((aZ m).length:Nat))∧w=w':=by
 have hm9:=cN hm
 go_enter Tryd.func26,Tryd.ntmps26
 go_wp2
 go_loopw [0,3] (fun i c wr=>∃ m' k,i=.int .i64 (m':Nat)∧c=.int .i64 (k:Nat)∧m'≤9223372036854775807∧k+(aZ m').length=(aZ m).length+1∧w=wr) (fun i _ _=>(intOf i).toNat)
 case atStart=>exact ⟨m,1,rfl,rfl,hm,by omega,rfl⟩
 case round=>
  obtain ⟨m',k,rfl,rfl,hm',hk,rfl⟩:=hrel;have hpm:=fa m';have hk10:k≤10:=by omega
  by_cases h:m'<128
  ·have hd:decide ((128:Int)≤(m':Int))=false:=by simp;omega
   rw [cl h] at hk;have HK:=Lib.hid hk;clear hk
   go_wp2
   go_ret
   have:=HK.out;simp only [List.length_cons,List.length_nil] at this;exact ⟨jK (by omega),rfl⟩
  ·have hd:decide ((128:Int)≤(m':Int))=true:=by simp;omega
   rw [dO h] at hk;have hp:=fa (m'/128);have HK:=Lib.hid hk;clear hk
   go_wp2
   go_roundw
   case rel=>exact ⟨m'/128,k+1,by go_num,by go_num,by omega,by have:=HK.out;simp only [List.length_cons] at this;omega,trivial⟩
   case measure=>simp [intOf];omega
def jQ (s:ByteArray):List Nat:=aZ s.size++dF s
def cy:List ByteArray→List Nat
 |[]=>[]
 |s::r=>jQ s++cy r
def cx (ts:List ByteArray):List Nat:=aZ ts.length++cy ts
theorem js:∀ (l:List ByteArray) (s:ByteArray),cy (l++[s])=cy l++jQ s
 |[],s=>by simp [cy]
 |x::r,s=>by simp only [List.cons_append,cy,js r s,List.append_assoc]
theorem jr {ts:List ByteArray} {j:Nat} (h:j<ts.length):cy (ts.take (j+1))=cy (ts.take j)++jQ ts[j]:=by
 rw [List.take_succ_eq_append_getElem h,js]
theorem dC (s:ByteArray):(jQ s).length=(aZ s.size).length+s.size:=by rw [jQ,List.length_append,dY]
theorem gP:∀ (l m:List ByteArray),cy (l++m)=cy l++cy m
 |[],m=>rfl
 |x::r,m=>by simp only [List.cons_append,cy,gP r m,List.append_assoc]
theorem lL (ts:List ByteArray) (j:Nat):(cy (ts.take j)).length≤(cy ts).length:=by
 conv=>rhs;rw [←List.take_append_drop j ts,gP,List.length_append]
 omega
theorem eJ:∀ (ts:List ByteArray),ts.length≤(cy ts).length
 |[]=>by simp
 |x::r=>by
  have:=eJ r;have:=fa x.size;simp only [cy,List.length_cons,List.length_append,dC];omega
theorem nA {w:World} {v:Value} {ts:List ByteArray} (hr:bI w v (ts.map .string)):∃ A cap,v=.slice A ts.length cap∧ts.length≤cap∧cap≤9223372036854775807∧
 (0<ts.length→∃ b o,A=some ⟨b,o,none⟩∧b<w.heap.size∧∀ i (h:i<ts.length),w.cell? ⟨b,o+i,none⟩=some (.string ts[i])):=by
 obtain ⟨A,cap,rfl,h1,h2,hp⟩:=hr.parts;rw [List.length_map] at h1 hp ⊢;refine ⟨A,cap,rfl,h1,h2,fun h0=>?_⟩;obtain ⟨b,o,hA,hb,hc⟩:=hp h0;exact ⟨b,o,hA,hb,fun i hi=>hc i _ (by simp [hi])⟩
theorem nI (v:Value) (ts:List ByteArray) (w:World) (hr:bI w v (ts.map .string)) (hs:∀ s∈ts,s.size≤140737488351232) (hfit:(cx ts).length≤1048576) :
 Calls prog 13 #[v] w fun e w'=>∃ v',e=.returned (.tuple #[v',.int .i64 0])∧w'.ownsRow w.heap.size 5 1 v' (cx ts).length (aH (cx ts))∧af w w':=by
 obtain ⟨A,cap,rfl,hc1,hc2,hrow⟩:=nA hr;obtain ⟨i0,hi0,hz0,hz1,hz2⟩:=info_parts ly;have hn9:=cN (show ts.length≤9223372036854775807 by omega);have hnum:=fun m (hm:m≤9223372036854775807) w=>km m hm w
 have HN:=Lib.hid hnum;clear hnum;have hl:=hfit;rw [cx,List.length_append] at hl
 go_enter Tryd.func13,Tryd.ntmps13
 go_wp2_with (go_at_call 26;(with_reducible refine (HN.out ts.length (by omega) _).mono ?_);rintro e w1 ⟨rfl,rfl⟩)
 go_loopw [4,15] (fun z i wr=>∃ j q:Nat,i=.int .i64 (j:Nat)∧z=.int .i64 (q:Nat)∧j≤ts.length∧q=(aZ ts.length).length+(cy (ts.take j)).length∧q≤1048576∧w=wr) (fun _ i _=>ts.length-(intOf i).toNat)
 case atStart=>exact ⟨0,_,rfl,rfl,by omega,by simp [cy],by omega,rfl⟩
 case round=>
  obtain ⟨j,q,rfl,rfl,hj,hq,hq2,rfl⟩:=hrel;by_cases hlt:j<ts.length
  ·have hd:decide ((j:Int)<(ts.length:Int))=true:=by simp;omega
   obtain ⟨b,o,rfl,hb,hc⟩:=hrow (by omega);have d1:=hc j hlt;have hsz:=hs _ (List.getElem_mem hlt);have i1:(0:Int)≤(j:Int):=by omega
   have i2:(j:Int)<(ts.length:Int):=by omega
   have hnext:=jr hlt;have hsl:=dC ts[j];have hle:=lL ts (j+1);rw [hnext,List.length_append,hsl] at hle;have HQ:=Lib.hid hq;have HX:=Lib.hid (And.intro hnext hsl);have hov:q+((aZ ts[j].size).length+ts[j].size)≤1048576:=by omega
   clear hnext hsl hc hrow hr hq hle
   generalize ts[j]=s at*
   have hz9:=cN (show s.size≤9223372036854775807 by omega);have hd2:decide ((1048576:Int)<(q:Int)+(((aZ s.size).length:Int)+(s.size:Int)))=false:=by simp;omega
   go_wp2_with (go_at_call 26;(with_reducible refine (HN.out s.size (by omega) _).mono ?_);rintro e w1 ⟨rfl,rfl⟩)
   go_roundw
   case rel=>
    refine ⟨j+1,q+((aZ s.size).length+s.size),by go_num,by go_num,by omega,?_,by omega,trivial⟩;have h1:=HQ.out;have h2:=HX.out.1;have h3:=HX.out.2;rw [h2,List.length_append,h3];omega
   case measure=>simp [intOf];omega
  ·have hd:decide ((j:Int)<(ts.length:Int))=false:=by simp;omega
   have happ:=fun (v:Value) (k:Nat) (xs:List Nat) (m:Nat) (wr:World)=>fv w wr v k xs m
   have HA:=Lib.hid happ;have HQ:=Lib.hid hq;clear happ hq
   go_wp2_with (refine wpList_make_own (P:=prog) _ rfl _ _ _ rfl w.heap.size 5 i0 _ 1 Tryd.underlying26 hi0 hz0 hz1 .i64 .i64 _ q rfl rfl rfl (by rw [hz2];omega) (by unfold maxLen;omega) (Nat.le_refl _) ?_;intro w1 hown1 hg1)
   have hw1:af w w1:=af.rfl_.grew hg1 (fun k hk=>by cases hk);refine (HA.out _ 0 [] ts.length w1 (by omega) hown1 hw1 (by omega)).mono ?_;rintro e w2 ⟨v2,rfl,hown2,hw2⟩;simp only [Nat.zero_add,List.nil_append] at hown2
   go_wp2
   go_loopw [7,37] (fun u i wr=>∃ k:Nat,i=.int .i64 (k:Nat)∧k≤ts.length∧wr.ownsRow w.heap.size 5 1 u ((aZ ts.length).length+(cy (ts.take k)).length) (aH (aZ ts.length++cy (ts.take k)))∧af w wr) (fun _ i _=>ts.length-(intOf i).toNat)
   case atStart=>exact ⟨0,rfl,by omega,by simpa [cy] using hown2,hw2⟩
   case round=>
    obtain ⟨k,rfl,hk,hown,hw⟩:=hrel;by_cases hlt2:k<ts.length
    ·have hd3:decide ((k:Int)<(ts.length:Int))=true:=by simp;omega
     obtain ⟨b,o,rfl,hb,hc⟩:=hrow (by omega);have d1:∀ w',af w w'→w'.cell? ⟨b,o+k,none⟩=some (.string ts[k]):=fun w' h=>(h.cells _ _ hb).trans (hc k hlt2)
     have hsz:=hs _ (List.getElem_mem hlt2);have i1:(0:Int)≤(k:Int):=by omega
     have i2:(k:Int)<(ts.length:Int):=by omega
     have hnext:=jr hlt2;have hsl:=dC ts[k];have hle:=lL ts (k+1);rw [hnext,List.length_append,hsl] at hle;have HX:=Lib.hid (And.intro hnext hsl);have hov:(aZ ts.length).length+(cy (ts.take k)).length+((aZ ts[k].size).length+ts[k].size)≤1048576:=by omega
     clear hnext hsl hc hrow hr hle
     generalize ts[k]=s at*
     have HO:=Lib.hid hown;clear hown
     go_wp2_with (first
      |(go_at_call 27;refine (HA.out _ _ _ s.size _ (by omega) HO.out hw (by omega)).mono ?_;rintro e w3 ⟨v3,rfl,hown3,hw3⟩)
      |(at_builtin;refine jD w rfl (.tmp 44) (.tmp 45) 26 9 rfl 5 i0 Tryd.underlying26 Tryd.underlying9 hi0 hz0 hz1 hz2 _ _ _ rfl hown3 hw3 s rfl (by omega) ?_;intro v4 w4 hown4 hw4))
     go_roundw
     case rel=>
      refine ⟨k+1,by go_num,by omega,?_,hw4⟩;have h2:=HX.out.1;rw [h2,jQ,List.length_append,List.length_append,dY];have e1:(aZ ts.length).length+((cy (ts.take k)).length+((aZ s.size).length+s.size))=(aZ ts.length).length+(cy (ts.take k)).length+(aZ s.size).length+s.size:=by omega
      rw [e1];simpa [List.append_assoc] using hown4
     case measure=>simp [intOf];omega
    ·have hd3:decide ((k:Int)<(ts.length:Int))=false:=by simp;omega
     have hkl:k=ts.length:=by omega
     have HK:=Lib.hid hkl;clear hkl
     go_wp2
     go_ret2
     rw [HK.out,List.take_length] at hown;refine ⟨_,rfl,?_,hw⟩;rw [cx,List.length_append];exact hown
end Go.Proofs.YtmaaljhcojcjhaaDoor
namespace Go.Proofs.YtmaaljhcojcjhaaDoor
open Go.Proofs.Tryd (prog)
def br (l:List Nat):ByteArray:=⟨(l.map UInt8.ofNat).toArray⟩
theorem kW (s:ByteArray):br (dF s)=s:=by
 unfold br dF;rw [List.map_map];have:(UInt8.ofNat ∘ fun x:UInt8=>x.toNat)=id:=by funext x;simp
 rw [this,List.map_id]
theorem eu {l:List Nat} (h:∀ b∈l,b<256):dF (br l)=l:=by
 unfold br dF;simp only [List.map_map]
 conv=>rhs;rw [←List.map_id l]
 refine List.map_congr_left fun x hx=>?_
 simp only [Function.comp,id];have:=h x hx;simp only [UInt8.toNat_ofNat'];omega
theorem dk (l:List Nat):(br l).size=l.length:=by
 show ((l.map UInt8.ofNat).toArray).size=_;simp
def cO:Nat→List Nat→Option (List ByteArray×List Nat)
 |0,l=>some ([],l)
 |c+1,l=>
  match cv l with
  |none=>none
  |some (n,k)=>
   if l.length-k<n then none
   else match cO c (l.drop (k+n)) with
    |none=>none
    |some (ss,r)=>some (br ((l.drop k).take n)::ss,r)
def dV (l:List Nat):Option (List ByteArray):=
 if 1048576<l.length then none
 else match cv l with
  |none=>none
  |some (c,k)=>
   if l.length<c then none
   else match cO c (l.drop k) with
    |some (ss,[])=>some ss
    |_=>none
theorem gI:∀ (ts:List ByteArray) (t:List Nat),(∀ s∈ts,s.size≤140737488351232)→cO ts.length (cy ts++t)=some (ts,t)
 |[],t,_=>rfl
 |s::r,t,h=>by
  have hs:=h s (by simp);have ih:=gI r t (fun x hx=>h x (by simp [hx]));simp only [cy,jQ,List.length_cons,cO,List.append_assoc];rw [fh (by omega)];have hl:=dY s;simp only;rw [if_neg (by simp only [List.length_append];omega)]
  have e1:List.drop ((aZ s.size).length+s.size) (aZ s.size++(dF s++(cy r++t)))=cy r++t:=by
   rw [←List.append_assoc,List.drop_append_of_le_length (by simp [hl]),List.drop_eq_nil_of_le (by simp [hl]),List.nil_append]
  have e2:List.take s.size (List.drop (aZ s.size).length (aZ s.size++(dF s++(cy r++t))))=dF s:=by
   rw [List.drop_append_of_le_length (Nat.le_refl _),List.drop_length,List.nil_append,List.take_append_of_le_length (by omega),List.take_of_length_le (by omega)]
  rw [e1,e2,ih,kW]
theorem mc {ts:List ByteArray} (h:∀ s∈ts,s.size≤140737488351232) (hfit:(cx ts).length≤1048576):dV (cx ts)=some ts:=by
 have hc:=eJ ts;have hl:(cx ts).length=(aZ ts.length).length+(cy ts).length:=by rw [cx,List.length_append]
 unfold dV;rw [if_neg (by omega)];have e:cv (cx ts)=some (ts.length,(aZ ts.length).length):=fh (by omega) _;have hs:=gI ts [] h;rw [List.append_nil] at hs;rw [e];simp only;rw [if_neg (by omega),cx,List.drop_append_of_le_length (Nat.le_refl _),List.drop_length,List.nil_append,hs]
theorem fV:∀ (c:Nat) (l:List Nat) {ss:List ByteArray} {r:List Nat},(∀ b∈l,b<256)→cO c l=some (ss,r)→ss.length=c∧l=cy ss++r
 |0,l,ss,r,_,h=>by
  simp only [cO,Option.some.injEq,Prod.mk.injEq] at h;obtain ⟨rfl,rfl⟩:=h;exact ⟨rfl,rfl⟩
 |c+1,l,ss,r,hb,h=>by
  simp only [cO] at h;split at h
  ·cases h
  ·rename_i n k hg;have hk:=eI hb hg;have hback:=gJ hb hg;split at h
   ·cases h
   ·rename_i hn;split at h
    ·cases h
    ·rename_i ss' r' hs;simp only [Option.some.injEq,Prod.mk.injEq] at h;obtain ⟨rfl,rfl⟩:=h;obtain ⟨h1,h2⟩:=fV c _ (fun b h=>hb b (List.mem_of_mem_drop h)) hs;have hlt:((l.drop k).take n).length=n:=by rw [List.length_take,List.length_drop];omega
     refine ⟨by simp [h1],?_⟩;simp only [cy,jQ];rw [dk,hlt,eu (fun b h=>hb b (List.mem_of_mem_drop (List.mem_of_mem_take h))),←hback,List.append_assoc,List.append_assoc,←h2]
     conv=>lhs;rw [←List.take_append_drop k l,←List.take_append_drop n (l.drop k),List.drop_drop]
theorem me {l:List Nat} {ss:List ByteArray} (hb:∀ b∈l,b<256) (h:dV l=some ss):cx ss=l∧l.length≤1048576:=by
 unfold dV at h;split at h
 ·cases h
 ·split at h
  ·cases h
  ·rename_i c k hg;split at h
   ·cases h
   ·split at h
    ·rename_i ss' hs;simp only [Option.some.injEq] at h;subst h;obtain ⟨h1,h2⟩:=fV c _ (fun b h=>hb b (List.mem_of_mem_drop h)) hs;rw [List.append_nil] at h2;refine ⟨?_,by omega⟩;rw [cx,h1,←h2,←gJ hb hg,List.take_append_drop]
    ·cases h
end Go.Proofs.YtmaaljhcojcjhaaDoor
namespace Go.Proofs.YtmaaljhcojcjhaaDoor
open Go.Proofs.Tryd (prog)
open Go.RowKit
theorem kA {w:World} {src dst e:TypeId} (hs:prog.underlying src=some (.slice e)) (he:prog.underlying e=some (.int .u8)) (hd:prog.underlying dst=some .string)
 {v:Value} {l:List Nat} (hl:∀ b∈l,b<256) (hr:bI w v (aH l)):(convert src dst v).run prog w=.ok (.string (br l)) w:=by
 obtain ⟨A,cap,rfl,_,_,hp⟩:=hr.parts;rw [bd] at hp ⊢;cases A with
 |none=>
  have h0:l=[]:=by
   cases l with
   |nil=>rfl
   |cons x t=>
    obtain ⟨b,o,hA,_⟩:=hp (by simp);cases hA
  subst h0;rw [run_convert_bytes_string w src dst e none _ cap hs he hd];rfl
 |some a=>
  have hm:(l.map UInt8.ofNat).length=l.length:=by simp
  have:=run_convert_bytes_back (P:=prog) w src dst e a cap (l.map UInt8.ofNat) hs he hd (fun j hj=>by
   have hj':j<l.length:=by simpa using hj
   obtain ⟨b,o,hA,_,hc⟩:=hp (by omega);simp only [Option.some.injEq] at hA;subst hA;rw [Go.WideShapes.add_plain];have hb:=hl _ (List.getElem_mem hj');rw [hc j (.int .u8 (l[j]:Nat)) (by simp [aH,hj'])];simp only [List.getElem_map,UInt8.toNat_ofNat']
   congr 2
   omega)
  rw [hm] at this;exact this
theorem mA:(prog.info? 9).map (fun i=>(i.zero,i.size,i.bytes))=some (some (.string ⟨#[]⟩),1,16):=by kernel_rfl
def pP (w w':World) (e:Ending):Option (List ByteArray)→Prop
 |none=>e=.returned (.tuple #[.slice none 0 0,.int .i64 1])
 |some ss=>∃ v',e=.returned (.tuple #[v',.int .i64 0])∧w'.ownsRow w.heap.size 9 1 v' ss.length (ss.map .string)
def oQ (w:World) (c:Nat) (whole:Option (List ByteArray×List Nat)) (vb u i:Value) (wr:World):Prop:=
 ∃ (j:Nat) (ss:List ByteArray) (rest:List Nat),i=.int .i64 (j:Nat)∧j≤c∧bI w vb (aH rest)∧(∀ b∈rest,b<256)∧rest.length≤1048576∧
  wr.ownsRow w.heap.size 9 1 u j (ss.map .string)∧whole=(cO (c-j) rest).map (fun x=>(ss++x.1,x.2))∧af w wr
theorem nW (v:Value) (l:List Nat) (hl:∀ b∈l,b<256) (w:World) (hr:bI w v (aH l)) :
 Calls prog 16 #[v] w fun e w'=>pP w w' e (dV l)∧af w w':=by
 obtain ⟨A,cap,rfl,hc1,hc2,_⟩:=hr.parts;rw [bd] at hc1 hr ⊢;obtain ⟨i0,hi0,hz0,hz1,hz2⟩:=info_parts mA;by_cases hbig:1048576<l.length
 ·have hd:decide ((1048576:Int)<(l.length:Int))=true:=by simp;omega
  have hn:dV l=none:=by unfold dV;rw [if_pos hbig]
  have HN:=Lib.hid hn;clear hn
  go_enter Tryd.func16,Tryd.ntmps16
  go_wp2
  go_ret2
  rw [HN.out];exact ⟨rfl,af.rfl_⟩
 have hd:decide ((1048576:Int)<(l.length:Int))=false:=by simp;omega
 have hget:=fx _ l hl w hr;rcases hg:cv l with _ | ⟨c,k⟩
 ·rw [hg] at hget;simp only [gW] at hget;have hn:dV l=none:=by unfold dV;rw [if_neg hbig,hg]
  have HN:=Lib.hid hn;have HG:=Lib.hid hget;clear hn hg hget
  go_enter Tryd.func16,Tryd.ntmps16
  go_wp2_with (go_at_call 29;(with_reducible refine HG.out.mono ?_);rintro e w1 ⟨rfl,rfl⟩)
  go_ret2
  rw [HN.out];exact ⟨rfl,af.rfl_⟩
 rw [hg] at hget;simp only [gW] at hget;have hk:=eI hl hg;by_cases hcl:l.length<c
 ·have hd2:decide ((l.length:Int)<(c:Int))=true:=by simp;omega
  have hn:dV l=none:=by unfold dV;rw [if_neg hbig,hg];simp only;rw [if_pos hcl]
  have HN:=Lib.hid hn;have HG:=Lib.hid hget;clear hn hg hget
  go_enter Tryd.func16,Tryd.ntmps16
  go_wp2_with (go_at_call 29;(with_reducible refine HG.out.mono ?_);rintro e w1 ⟨rfl,rfl⟩)
  go_ret2
  rw [HN.out];exact ⟨rfl,af.rfl_⟩
 have hd2:decide ((l.length:Int)<(c:Int))=false:=by simp;omega
 have hB:dV l=match cO c (l.drop k) with | some (ss,[])=>some ss | _=>none:=by unfold dV;rw [if_neg hbig,hg];simp only;rw [if_neg hcl];(first | done | rfl)
 have hrest:=hr.rest (k:=k) (by rw [bd];omega);have hdrop:(aH l).drop k=aH (l.drop k):=by simp [aH,List.map_drop]
 rw [hdrop] at hrest;have hra:(if cap=k then A else Option.map (fun x=>x.add k) A)=restA A cap k:=rfl;have j1:(0:Int)≤(k:Int):=by omega
 have j2:(k:Int)≤(l.length:Int):=by omega
 have j3:(k:Int)≤(cap:Int):=by omega
 have HB:=Lib.hid hB;have HG:=Lib.hid hget;clear hB hg hget;have hck:c≤1048576:=by omega
 go_enter Tryd.func16,Tryd.ntmps16
 go_wp2_with (first
  |(go_at_call 29;(with_reducible refine HG.out.mono ?_);rintro e w1 ⟨rfl,rfl⟩)
  |(refine wpList_make_own (P:=prog) _ rfl _ _ _ rfl w.heap.size 9 i0 _ 1 Tryd.underlying40 hi0 hz0 hz1 .i64 .i64 _ c rfl rfl rfl (by rw [hz2];omega) (by unfold maxLen;omega) (Nat.le_refl _) ?_;intro w1 hown1 hg1))
 have hw1:af w w1:=af.rfl_.grew hg1 (fun k hk=>by cases hk)
 go_loopw [0,7,34] (oQ w c (cO c (l.drop k))) (fun _ _ i _=>c-(intOf i).toNat)
 case atStart=>exact ⟨0,[],l.drop k,rfl,by omega,hrest,fun b hb=>hl b (List.mem_of_mem_drop hb),by rw [List.length_drop];omega,by simpa using hown1,by simp,hw1⟩
 case round=>
  rename_i vb u _ _;obtain ⟨j,ss,rest,rfl,hj,hrow,hrb,hrl,hown,hwhole,hw⟩:=hrel;clear hrest hra hown1 hg1 hr;obtain ⟨A2,cap2,rfl,hcc1,hcc2,_⟩:=hrow.parts;rw [bd] at hcc1 hrow ⊢;have hgetr:=fun w' (h:af w w')=>fx _ rest hrb w' (hrow.from_ h)
  by_cases hlt:j<c
  ·have hd3:decide ((j:Int)<(c:Int))=true:=by simp;omega
   obtain ⟨d,hd4⟩:∃ d,c-j=d+1:=⟨c-j-1,by omega⟩;rw [hd4] at hwhole;simp only [cO] at hwhole;rcases hgr:cv rest with _ | ⟨n,q⟩
   ·rw [hgr] at hgetr hwhole;simp only [gW] at hgetr;have hB:dV l=none:=by rw [HB.out,hwhole];rfl
    have H1:=Lib.hid hgetr;have HN:=Lib.hid hB;clear hgetr hgr hwhole hown hB
    go_wp2_with (go_at_call 29;(with_reducible refine (H1.out _ hw).mono ?_);rintro e w2 ⟨rfl,rfl⟩)
    go_ret2
    rw [HN.out];exact ⟨rfl,hw⟩
   have hq:=eI hrb hgr;rw [hgr] at hgetr hwhole;simp only [gW] at hgetr hwhole;by_cases hbad:rest.length-q<n
   ·rw [if_pos hbad] at hwhole;have hd5:decide ((rest.length:Int)-(q:Int)<(n:Int))=true:=by simp;omega
    have hB:dV l=none:=by rw [HB.out,hwhole];rfl
    have H1:=Lib.hid hgetr;have HN:=Lib.hid hB;clear hgetr hgr hwhole hown hB
    go_wp2_with (go_at_call 29;(with_reducible refine (H1.out _ hw).mono ?_);rintro e w2 ⟨rfl,rfl⟩)
    go_ret2
    rw [HN.out];exact ⟨rfl,hw⟩
   ·rw [if_neg hbad] at hwhole;have hd5:decide ((rest.length:Int)-(q:Int)<(n:Int))=false:=by simp;omega
    obtain ⟨p,hp⟩:∃ p,p=q+n:=⟨_,rfl⟩;have hsum:(q:Int)+(n:Int)=(p:Int):=by omega
    have hpl:p≤rest.length:=by omega
    have hqp:q≤p:=by omega
    have hcut:=(hrow.cut (k:=p) (by rw [bd];omega)).rest (k:=q) (by rw [List.length_take,bd];omega)
    have hpart:((aH rest).take p).drop q=aH ((rest.drop q).take n):=by
     have:p-q=n:=by omega
     simp only [aH];rw [List.drop_take,this,List.map_take,List.map_drop]
    have hsub:p-q=n:=by omega
    rw [hpart,hsub] at hcut;have hconv:=fun w' (h:af w w')=>kA Tryd.underlying26 Tryd.underlying5 Tryd.underlying9 (fun b hb=>hrb b (List.mem_of_mem_drop (List.mem_of_mem_take hb))) (hcut.from_ h)
    have hnext:=hrow.rest (k:=p) (by rw [bd];omega);have hnd:(aH rest).drop p=aH (rest.drop p):=by simp [aH,List.map_drop]
    rw [hnd] at hnext;have hra1:(if cap2=q then A2 else Option.map (fun x=>x.add q) A2)=restA A2 cap2 q:=rfl;have hra2:(if cap2=p then A2 else Option.map (fun x=>x.add p) A2)=restA A2 cap2 p:=rfl;have k1:(0:Int)≤(q:Int):=by omega
    have k2:(q:Int)≤(p:Int):=by omega
    have k3:(p:Int)≤(cap2:Int):=by omega
    have k4:(p:Int)≤(rest.length:Int):=by omega
    have H1:=Lib.hid hgetr;have HW:=Lib.hid (And.intro hwhole hp);have hr1:(j+1)*16≤140737488355328:=by omega
    have hr2:j+1≤maxLen:=by unfold maxLen;omega
    have HO:=Lib.hid hown;clear hgetr hgr hwhole hp hown hpart hcut hnd
    go_wp2_with (first
     |(go_at_call 29;(with_reducible refine (H1.out _ hw).mono ?_);rintro e w2 ⟨rfl,rfl⟩)
     |(at_builtin;refine eT w rfl (.tmp 52) (.tmp 60) 40 rfl 9 i0 _ 16 Tryd.underlying40 hi0 hz0 hz1 hz2 rfl _ _ _ rfl HO.out hw rfl rfl hr1 hr2 ?_;intro v3 w3 hown3 hw3))
    go_roundw
    case rel=>
     refine ⟨j+1,ss++[br ((rest.drop q).take n)],rest.drop p,by go_num,by omega,hnext,fun b hb=>hrb b (List.mem_of_mem_drop hb),by rw [List.length_drop];omega,?_,?_,hw3⟩
     ·rw [List.map_append];exact hown3
     ·rw [HW.out.1,HW.out.2,show c-(j+1)=d by omega];cases cO d (List.drop (q+n) rest) <;> simp
    case measure=>simp [intOf];omega
  ·have hd3:decide ((j:Int)<(c:Int))=false:=by simp;omega
   rw [show c-j=0 by omega] at hwhole;simp only [cO,Option.map_some,List.append_nil] at hwhole;have hsl:ss.length=j:=by simpa using hown.1
   have HW:=Lib.hid (And.intro hwhole hsl);have HO:=Lib.hid hown;clear hwhole hown hgetr hsl;by_cases hend:0<rest.length
   ·have hd6:decide ((0:Int)<(rest.length:Int))=true:=by simp;omega
    have hB:dV l=none:=by
     rw [HB.out,HW.out.1];cases rest with
     |nil=>simp at hend
     |cons x t=>rfl
    have HN:=Lib.hid hB;clear hB
    go_wp2
    go_ret2
    rw [HN.out];exact ⟨rfl,hw⟩
   ·have hd6:decide ((0:Int)<(rest.length:Int))=false:=decide_eq_false (by omega)
    have hB:dV l=some ss:=by
     rw [HB.out,HW.out.1];cases rest with
     |nil=>rfl
     |cons x t=>simp at hend
    have HN:=Lib.hid hB;clear hB
    go_wp2
    go_ret2
    rw [HN.out];exact ⟨⟨_,rfl,by rw [HW.out.2];exact HO.out⟩,hw⟩
abbrev p2 (k c s:Int) (i t:ByteArray):Value:=.agg #[.int .i64 k,.int .i64 c,.int .i64 s,.string i,.string t]
abbrev p3 (k c s:Int) (i t:ByteArray):List Value:=[.int .i64 k,.int .i64 c,.int .i64 s,.string i,.string t]
theorem et {a b:ByteArray}:a.toList=b.toList↔a=b:=by
 refine ⟨fun hh=>?_,fun h=>by rw [h]⟩;rw [ByteArray.toList_eq,ByteArray.toList_eq] at hh;obtain ⟨⟨x⟩⟩:=a;obtain ⟨⟨y⟩⟩:=b
 simp_all
section
variable {ρ:Operand→Value} {w:World} {yt:TypeId} {x y:Operand}
theorem eB {v:Value} {l:List Nat} (hl:∀ b∈l,b<256) (hx:ρ x=v) (hr:bI w v (aH l)):RO prog ρ (.convert 26 9 x) w (.string (br l)) w:=fun _ _ _ _ _=>by
 subst hx;have h:=kA (src:=26) (dst:=9) (e:=5) (by kernel_rfl) (by kernel_rfl) (by kernel_rfl) hl hr;simp [execOp,h]
end
theorem nm (w:World) (s:ByteArray) (hs:s.size≤9223372036854775807):∃ A cap w',(convert 9 26 (.string s)).run prog w=.ok (.slice A s.size cap) w'∧af w w'∧bI w' (.slice A s.size cap) (aH (dF s)):=by
 refine ⟨_,_,_,run_bytes_of_string w 9 26 5 s (by kernel_rfl) (by kernel_rfl) (by kernel_rfl),af.rfl_.d1.new _,?_⟩;have hge:=grownCap_ge w s.size 0 5;have hlen:(aH (dF s)).length=s.size:=by unfold aH;rw [List.length_map,dY]
 refine ⟨⟨some ⟨w.heap.size,0,none⟩,grownCap w s.size 0 5,by rw [hlen],fun _=>⟨w.heap.size,0,rfl,?_,fun i u hu=>?_⟩⟩,some ⟨w.heap.size,0,none⟩,_,by rw [hlen],by rw [hlen];exact hge,grownCap_le_maxLen w s.size 0 5 hs⟩
 ·show w.heap.size<(w.heap.push _).size;simp
 ·have hi:i<s.size:=by
   have:=(List.getElem?_eq_some_iff.1 hu).1;omega
  have hu2:(bytesRow s (grownCap w s.size 0 5))[i]? =some u:=by
   unfold bytesRow;rw [Array.getElem?_append_left (by simp;exact hi),←hu];unfold aH dF;simp;rfl
  have hb:(w.drew.alloc (.cells (bytesRow s (grownCap w s.size 0 5)) 5 ((bytesRow s (grownCap w s.size 0 5)).size,(bytesRow s (grownCap w s.size 0 5)).size+1))).heap[w.heap.size]? =some (.cells (bytesRow s (grownCap w s.size 0 5)) 5 ((bytesRow s (grownCap w s.size 0 5)).size,(bytesRow s (grownCap w s.size 0 5)).size+1)):=by
   show (w.heap.push _)[w.heap.size]? =_;simp
  rw [Nat.zero_add];unfold World.cell?;simp only [hb];simpa using hu2
theorem mC {ops:Array Oper} {Q:Exit→Act→World→Prop} {rest:List Oper} {n:Fr} {L:List (Nat×Value)} {w:World} {ty:TypeId} {pos:String} {after:Array Edge} {d:Nat} {x:Operand} {s:ByteArray} (hx:ev n L x=.string s) (hs:s.size≤9223372036854775807)
 (k:∀ A c w',af w w'→bI w' (.slice A s.size c) (aH (dF s))→St prog ops Q rest n ((d,.slice A s.size c)::L) w'):St prog ops Q (⟨some d,.convert 9 26 x,ty,pos,after,none⟩::rest) n L w:=by
 obtain ⟨A,c,w',h1,h2,h3⟩:=nm w s hs;refine aa (v:=.slice A s.size c) (w':=w') (fun _ _ _ _ _=>?_) (k A c w' h2 h3);simp only [execOp,hx,Sem.run_bind,h1,Result.andThen_ok];rfl
def OkC (k c s:Int) (i t:ByteArray):Prop:=(k=1∧c=0∧s=0∧i.size=0∧t.size=0)∨(k≠1∧(1≤c∧c<1099511627776)∧(1≤s∧s<1099511627776)∧i.size+t.size≤2048∧(k=2∨(k=3∧t.size=0)∨(k=4∧i.size=0∧t.size=0)))
instance (k c s:Int) (i t:ByteArray):Decidable (OkC k c s i t):=by unfold OkC;exact inferInstance
theorem oX {s:ByteArray}:s=⟨#[]⟩↔s.size=0:=by
 refine ⟨fun h=>by rw [h];rfl,fun h=>?_⟩;obtain ⟨d⟩:=s;have:d.size=0:=h;rw [Array.size_eq_zero_iff] at this;rw [this]
theorem pM (s:ByteArray):(s.toList==(⟨#[]⟩:ByteArray).toList)=decide (s.size=0):=by
 rw [Bool.eq_iff_iff,beq_iff_eq,decide_eq_true_eq,et];exact oX
end Go.Proofs.YtmaaljhcojcjhaaDoor
namespace Go.Proofs.YtmaaljhcojcjhaaDoor
open Go.Proofs.Tryd (prog)
open Go.RowKit
def jR (l:List Oper):Bool:=(List.range l.length).all fun i=>match l[i]? with
 |none=>false
 |some o=>o.guard.isNone&&o.after.toList.all fun e=> !Region.binds .any e||decide (e.on<i)
def bu (S:Nat→Bool) (i:Nat):Nat→Bool:=fun j=>if j=i then true else S j
def fj (P:Program) (n:Fr) (o:Oper) (Inv:List (Nat×Value)→World→Prop) (L':List (Nat×Value)) (w':World):Prop:=
 (∃ d v w'',o.dst=some d∧(execOp (ev n L') o).run P w'=.ok (.value v) w''∧Inv ((d,v)::L') w'')∨
 (∃ w'',o.dst=none∧(execOp (ev n L') o).run P w'=.ok .skip w''∧Inv L' w'')∨
 (∃ d f args,o.dst=some d∧(execOp (ev n L') o).run P w'=.ok (.enter f (List.toArray args)) w'∧Rt P f args w' fun v w''=>Inv ((d,v)::L') w'')
section
variable {P:Program} {Q:Exit→Act→World→Prop} {n:Fr} {L:List (Nat×Value)} {w:World} {l:List Oper}
theorem nT {Inv:(Nat→Bool)→List (Nat×Value)→World→Prop} (hwf:jR l=true)
 (hstep:∀ (i:Nat) (o:Oper) (S:Nat→Bool) (L':List (Nat×Value)) (w':World),l[i]? =some o→Inv S L' w'→S i=false→(∀ e∈o.after,Region.binds .any e=true→S e.on=true)→fj P n o (Inv (bu S i)) L' w')
 (hend:∀ L' w',Inv (fun i=>decide (i<l.length)) L' w'→Q .normal (mkA n L') w') :
 ∀ (m:Nat) (listed:Array Bool) (L':List (Nat×Value)) (w':World),listed.toList.count false=m→listed.size=l.length→Inv (fun i=>listed.getD i false) L' w'→wpAny P .any l.toArray Q m listed (mkA n L') w':=by
 have hck:=List.all_eq_true.1 hwf;intro m
 induction m with
 |zero=>
  intro listed L' w' hcount hs hI
  have hall:∀ i,i<l.length→listed.getD i false=true:=fun i hi=>by
   have hm:listed[i]'(by omega)∈listed.toList:=by simp
   cases hb:listed[i]'(by omega) with
   |true=>simp [Array.getD,show i<listed.size by omega,hb]
   |false=>rw [hb] at hm;exact absurd hcount (Nat.pos_iff_ne_zero.1 (List.count_pos_iff.2 hm))
  have e:(fun i=>listed.getD i false)=fun i=>decide (i<l.length):=by
   funext i
   by_cases hi:i<l.length
   ·rw [hall i hi,decide_eq_true hi]
   ·rw [decide_eq_false hi];simp [Array.getD,show ¬ i<listed.size by omega]
  rw [e] at hI;refine ⟨?_,hend L' w' hI⟩;cases hr:Region.ready .any l.toArray listed with
  |nil=>rfl
  |cons i r=>
   exfalso;obtain ⟨h0,o,ho,_⟩:=mem_ready.1 (show i∈Region.ready .any l.toArray listed by rw [hr];simp);rw [List.getElem?_toArray] at ho;have hil:i<l.length:=(List.getElem?_eq_some_iff.1 ho).1;have:=hall i hil;rw [←aO (by omega),h0] at this;cases this
 |succ m ih=>
  intro listed L' w' hcount hs hI
  have hn0:∃ i,i<l.length∧listed.getD i true=false:=by
   have hpos:0<listed.toList.count false:=by omega
   obtain ⟨i,hi,hb⟩:=List.getElem_of_mem (List.count_pos_iff.1 hpos);rw [Array.length_toList] at hi;refine ⟨i,by omega,?_⟩;rw [Array.getElem_toList] at hb;simp [Array.getD,hi,hb]
  obtain ⟨i0,hi0,hmin⟩:=exists_least (p:=fun i=>i<l.length∧listed.getD i true=false) hn0
  have hready:i0∈Region.ready .any l.toArray listed:=by
   refine mem_ready.2 ⟨hi0.2,l[i0]'hi0.1,by rw [List.getElem?_toArray,List.getElem?_eq_getElem hi0.1],fun e he hb=>?_⟩;have hx:=hck i0 (List.mem_range.2 hi0.1);rw [List.getElem?_eq_getElem hi0.1] at hx;simp only [Bool.and_eq_true] at hx;have he2:=List.all_eq_true.1 hx.2 e (by simpa using he);rw [hb] at he2;simp at he2;have:=hi0.1;rw [←aO (by omega)];cases hb2:listed.getD e.on true with
   |true=>rfl
   |false=>exact absurd (hmin e.on ⟨by omega,hb2⟩) (by omega)
  refine ⟨fun h0=>(by rw [h0] at hready;cases hready),fun i hi=>?_⟩;obtain ⟨h0,o,ho,hall⟩:=mem_ready.1 hi;rw [List.getElem?_toArray] at ho;have hil:i<l.length:=(List.getElem?_eq_some_iff.1 ho).1;have hx:=hck i (List.mem_range.2 hil);rw [ho] at hx;simp only [Bool.and_eq_true] at hx;have hg:o.guard=none:=by simpa using hx.1
  have h0f:listed.getD i false=false:=by rw [←aO (by omega)];exact h0
  have hset:(fun j=>(listed.setIfInBounds i true).getD j false)=bu (fun j=>listed.getD j false) i:=by
   funext j
   unfold bu;by_cases e:j=i
   ·subst e;simp [Array.getD,show j<listed.size by omega]
   ·rw [if_neg e,getD_set_ne false (Ne.symm e)]
  have hcnt:(listed.setIfInBounds i true).toList.count false=m:=by
   have hil':i<listed.size:=by omega
   have hfalse:listed.toList[i]? =some false:=by
    rw [Array.getElem?_toList,Array.getElem?_eq_getElem hil'];simp [Array.getD,hil'] at h0;rw [h0]
   rw [Array.toList_setIfInBounds];have:=cK (l:=listed.toList) (i:=i) hfalse;omega
  have next:∀ L2 w2,Inv (bu (fun j=>listed.getD j false) i) L2 w2→wpAny P .any l.toArray Q m (listed.setIfInBounds i true) (mkA n L2) w2:=fun L2 w2 h=>
   ih _ L2 w2 hcnt (by simpa using hs) (by rw [hset];exact h)
  unfold wpOp;rw [List.getElem?_toArray,ho];show if Region.wanted o (yielded l.toArray (mkT n.n L'))=true then _ else _
  rw [if_pos (by unfold Region.wanted;rw [hg])];refine .inl ?_;unfold Oper.wp;rw [bn];rcases hstep i o _ L' w' ho hI h0f hall with ⟨d,v,w'',hd,hr,hI2⟩ | ⟨w'',hd,hr,hI2⟩ | ⟨d,f,args,hd,hr,hc⟩
  ·rw [hr,Oper.upon_value,hd,cX];exact next _ _ hI2
  ·rw [hr,Oper.upon_skip,hd];exact next _ _ hI2
  ·rw [hr,Oper.upon_enter,hd];refine Calls.mono hc fun e w'' ⟨v,he,hI2⟩=>?_
   subst he;show wpAny P .any l.toArray Q m (listed.setIfInBounds i true) ((mkA n L').put (some d) v) w'';rw [cX];exact next _ _ hI2
theorem nj {id:Nat} (Inv:(Nat→Bool)→List (Nat×Value)→World→Prop) (hm:P.follows .mixedOrders=true) (hwf:jR l=true) (h0:Inv (fun _=>false) L { w with drawn:=w.drawn+1 })
 (hstep:∀ (i:Nat) (o:Oper) (S:Nat→Bool) (L':List (Nat×Value)) (w':World),l[i]? =some o→Inv S L' w'→S i=false→(∀ e∈o.after,Region.binds .any e=true→S e.on=true)→fj P n o (Inv (bu S i)) L' w')
 (hend:∀ L' w',Inv (fun i=>decide (i<l.length)) L' w'→Q .normal (mkA n L') w'):Cd P (.region id l.toArray true) Q n L w:=by
 refine ⟨wp_region_any hm ?_⟩
 have:=nT (Q:=Q) hwf hstep hend l.length (Array.replicate l.length false) L { w with drawn:=w.drawn+1 } (by simp) (by simp) (by
  have e:(fun i=>(Array.replicate l.length false).getD i false)=fun _=>false:=by
   funext i
   by_cases hi:i<l.length <;> simp [Array.getD,hi]
  rw [e];exact h0)
 simpa using this
def dU (L:List (Nat×Value)) (T:List (Nat×Nat×Value)) (S:Nat→Bool) (L':List (Nat×Value)):Prop:=
 (∀ t,(∀ p∈T,p.2.1≠t)→aL L' t=aL L t)∧(∀ p∈T,S p.1=true→aL L' p.2.1=p.2.2)∧∀ p∈T,S p.1=false→aL L' p.2.1=aL L p.2.1
def mj:List (Nat×Nat×Value)→Prop
 |[]=>True
 |p::r=>(∀ q∈r,q.1≠p.1∧q.2.1≠p.2.1)∧mj r
theorem jF:∀ {T:List (Nat×Nat×Value)},mj T→∀ {p q:Nat×Nat×Value},p∈T→q∈T→p.1=q.1∨p.2.1=q.2.1→p=q
 |_::_,⟨h1,h2⟩,p,q,hp,hq,he=>by
  rcases List.mem_cons.1 hp with rfl | hp' <;> rcases List.mem_cons.1 hq with rfl | hq'
  ·rfl
  ·rcases he with e | e
   ·exact absurd e.symm (h1 _ hq').1
   ·exact absurd e.symm (h1 _ hq').2
  ·rcases he with e | e
   ·exact absurd e (h1 _ hp').1
   ·exact absurd e (h1 _ hp').2
  ·exact jF h2 hp' hq' he
theorem dU.put {T:List (Nat×Nat×Value)} {S:Nat→Bool} {L':List (Nat×Value)} {i d:Nat} {v:Value} (h:dU L T S L') (hU:mj T) (hp:(i,d,v)∈T):dU L T (bu S i) ((d,v)::L'):=by
 refine ⟨fun t ht=>?_,fun p hq hs=>?_,fun p hq hs=>?_⟩
 ·rw [aT,if_neg (fun e=>ht _ hp e.symm)];exact h.1 t ht
 ·rw [aT];by_cases e:p.2.1=d
  ·rw [if_pos e,jF hU hq hp (.inr e)]
  ·rw [if_neg e];refine h.2.1 p hq ?_;unfold bu at hs;by_cases e2:p.1=i
   ·exact absurd (congrArg (·.2.1) (jF hU hq hp (.inl e2))) e
   ·rwa [if_neg e2] at hs
 ·unfold bu at hs;by_cases e2:p.1=i
  ·rw [if_pos e2] at hs;cases hs
  ·rw [if_neg e2] at hs;rw [aT,if_neg (fun e=>e2 (congrArg (·.1) (jF hU hq hp (.inr e))))];exact h.2.2 p hq hs
theorem dU.skip {T:List (Nat×Nat×Value)} {S:Nat→Bool} {L':List (Nat×Value)} {i:Nat} (h:dU L T S L') (hi:∀ p∈T,p.1≠i):dU L T (bu S i) L':=by
 refine ⟨h.1,fun p hq hs=>h.2.1 p hq ?_,fun p hq hs=>h.2.2 p hq ?_⟩ <;> (unfold bu at hs;rwa [if_neg (hi p hq)] at hs)
theorem dU.get {T:List (Nat×Nat×Value)} {S:Nat→Bool} {L':List (Nat×Value)} {i d:Nat} {v:Value} (h:dU L T S L') (hp:(i,d,v)∈T) (hs:S i=true):aL L' d=v:=h.2.1 _ hp hs
def ec (S:Nat→Bool):List Edge→Prop
 |[]=>True
 |e::r=>(bif Region.binds .any e then S e.on=true else True)∧ec S r
theorem iF {S:Nat→Bool}:∀ {es:List Edge},(∀ e∈es,Region.binds .any e=true→S e.on=true)→ec S es
 |[],_=>trivial
 |e::r,h=>by
  refine ⟨?_,iF fun e' he=>h e' (.tail _ he)⟩;cases hb:Region.binds .any e with
  |true=>exact h e (.head _) hb
  |false=>trivial
def oM (P:Program) (n:Fr) (L:List (Nat×Value)) (T:List (Nat×Nat×Value)) (Mem:(Nat→Bool)→World→Prop):Nat→List Oper→Prop
 |_,[]=>True
 |i,o::r=>(∀ S L' w',dU L T S L'→Mem S w'→S i=false→ec S o.after.toList→fj P n o (fun L2 w2=>dU L T (bu S i) L2∧Mem (bu S i) w2) L' w')∧oM P n L T Mem (i+1) r
theorem mY {T:List (Nat×Nat×Value)} (_:mj T) {L L':List (Nat×Value)} {S:Nat→Bool} (h:dU L T S L') (hS:∀ p∈T,S p.1=true) (t:Nat):aL L' t=aL (T.map (fun p=>(p.2.1,p.2.2))++L) t:=by
 have key:∀ T':List (Nat×Nat×Value),(∀ p∈T',p∈T)→(∃ p∈T',p.2.1=t)∨(∀ p∈T',p.2.1≠t)→(∃ p∈T',p.2.1=t∧aL (T'.map (fun p=>(p.2.1,p.2.2))++L) t=p.2.2)∨((∀ p∈T',p.2.1≠t)∧aL (T'.map (fun p=>(p.2.1,p.2.2))++L) t=aL L t):=by
  intro T'
  induction T' with
  |nil=>exact fun _ _=>.inr ⟨fun p hp=>by simp at hp,rfl⟩
  |cons q r ih=>
   intro hsub _;rw [List.map_cons,List.cons_append,aT];by_cases e:q.2.1=t
   ·rw [if_pos e.symm];exact .inl ⟨q,.head _,e,rfl⟩
   ·rw [if_neg (Ne.symm e)];rcases ih (fun p hp=>hsub p (.tail _ hp)) (by by_cases hx:∃ p∈r,p.2.1=t;exact .inl hx;exact .inr fun p hp he=>hx ⟨p,hp,he⟩) with ⟨p,hp,h1,h2⟩ | ⟨h1,h2⟩
    ·exact .inl ⟨p,.tail _ hp,h1,h2⟩
    ·refine .inr ⟨fun p hp=>?_,h2⟩;rcases List.mem_cons.1 hp with rfl | hp2
     ·exact e
     ·exact h1 p hp2
 rcases key T (fun _ hp=>hp) (by by_cases hx:∃ p∈T,p.2.1=t;exact .inl hx;exact .inr fun p hp he=>hx ⟨p,hp,he⟩) with ⟨p,hp,h1,h2⟩ | ⟨h1,h2⟩
 ·rw [h2,←h1];exact h.2.1 p hp (hS p hp)
 ·rw [h2];exact h.1 t h1
theorem ou {t:TypeId} {x y:Operand} {g i:Nat} {u:TypeId} {cs:Array Value} {v:Value} (ht:cV P t=some 1) (hx:ev n L x=.pointer (some ⟨g,i,none⟩)) (hy:ev n L y=v) (h1:v.oneCell'=true) (hb:Blk w g u cs) (hi:i<cs.size) :
 ∃ w',RS P (ev n L) (.store t x y) w w'∧dt g w w'∧Blk w' g u (cs.setIfInBounds i v):=by
 have hc:w.cell? ⟨g,i,none⟩=some (cs[i]'hi):=by rw [hb.cell];simp [hi]
 exact ⟨_,j_ ht hx hy h1 hc (hb.frozen i),dt.setCell w g i v,hb.set_ i v⟩
end
end Go.Proofs.YtmaaljhcojcjhaaDoor
namespace Go.Proofs.YtmaaljhcojcjhaaDoor
open Go.Proofs.Tryd (prog)
open Go.RowKit
def p6 (w:World) (base:Nat) (e:TypeId) (A:Option Addr) (n c:Nat) (xs:List Value):Prop:=
 xs.length=n∧n≤c∧c≤maxLen∧∃ g off cs,A=some ⟨g,off,none⟩∧base≤g∧Blk w g e cs∧off+c≤cs.size∧(cs.toList.drop off).take n=xs
section
variable {P:Program} {Q:Exit→Act→World→Prop} {n:Fr} {L:List (Nat×Value)} {w:World} {l:List Oper}
def oN (P:Program) (n:Fr) (Inv:(Nat→Bool)→List (Nat×Value)→World→Prop):Nat→List Oper→Prop
 |_,[]=>True
 |i,o::r=>(∀ S L' w',Inv S L' w'→S i=false→ec S o.after.toList→fj P n o (Inv (bu S i)) L' w')∧oN P n Inv (i+1) r
theorem nS {T:List (Nat×Nat×Value)} {S:Nat→Bool} {L':List (Nat×Value)} (hU:mj T) (hS:∀ p∈T,S p.1=true) (hI:dU L T S L'):mkA n L'=mkA n (T.map (fun p=>(p.2.1,p.2.2))++L):=by
 unfold mkA;rw [gp fun t _=>mY hU hI hS t]
end
section
variable {P:Program} {ρ:Operand→Value} {w:World} {t:TypeId} {x:Operand} {e g off c n:Nat}
theorem im {m:Nat} {y:Operand} {k:IntKind} (ht:c6 P t=some (e,1)) (hx:ρ x=.slice (some ⟨g,off,none⟩) n c) (hy:ρ y=.int k (m:Nat)) (hm:m≤c):RO P ρ (.slice t x none (some y) none) w (.slice (some ⟨g,off,none⟩) m c) w:=by
 have:=kd (P:=P) (ρ:=ρ) (w:=w) (l:=0) (h:=m) ht (lo:=none) (hi:=some y) hx (.inl ⟨rfl,rfl⟩) (.inr ⟨y,k,rfl,hy⟩) (Nat.zero_le _) hm;simpa using this
theorem ir {m:Nat} {y:Operand} {k:IntKind} (ht:c6 P t=some (e,1)) (hx:ρ x=.slice (some ⟨g,off,none⟩) n c) (hy:ρ y=.int k (m:Nat)) (hm:m≤n) (hn:n≤c):RO P ρ (.slice t x (some y) none none) w (.slice (some ⟨g,if c=m then off else off+m,none⟩) (n-m) (c-m)) w:=by
 have:=kd (P:=P) (ρ:=ρ) (w:=w) (l:=m) (h:=n) ht (lo:=some y) (hi:=none) hx (.inr ⟨y,k,rfl,hy⟩) (.inl ⟨rfl,rfl⟩) hm hn;simpa using this
end
end Go.Proofs.YtmaaljhcojcjhaaDoor
namespace Go.Proofs.YtmaaljhcojcjhaaDoor
open Go.Proofs.Tryd (prog)
open Go.RowKit
open Go.ChangeShapes Go.WideShapes Go.ChangeAt
theorem iN:(c6 prog 54).isSome=true:=by kernel_rfl
theorem bh:c6 prog 54=some (3,1):=by kernel_rfl
theorem bg:cw prog 25 4=some 4:=by kernel_rfl
theorem bO:cw prog 25 5=some 5:=by kernel_rfl
theorem cR:cw prog 25 6=some 6:=by kernel_rfl
theorem bN:cw prog 25 7=some 7:=by kernel_rfl
theorem bq:cw prog 25 10=some 10:=by kernel_rfl
theorem dr:aJ prog 19=true:=by kernel_rfl
theorem cQ:cw prog 25 8=some 8:=by kernel_rfl
theorem c_:gY prog 4=some false:=by kernel_rfl
theorem cW:cw prog 25 12=some 12:=by kernel_rfl
theorem bS:cw prog 25 11=some 11:=by kernel_rfl
theorem bJ:gY prog 9=some false:=by kernel_rfl
theorem bc:cw prog 25 9=some 9:=by kernel_rfl
theorem cn:gY prog 23=some false:=by kernel_rfl
theorem a_:hX prog 25=some (.agg #[.int .i64 0,.int .i64 0,.int .i64 0,.int .i64 0,.int .i64 0,.int .i64 0,.int .i64 0,.int .i64 0,.bool false,.slice none 0 0,.int .i64 0,.string ⟨#[]⟩,.bool false]):=by kernel_rfl
theorem cC:cw prog 25 0=some 0:=by kernel_rfl
theorem bo:cV prog 3=some 1:=by kernel_rfl
theorem ax:gY prog 25=some true:=by kernel_rfl
theorem aq:cV prog 25=some 13:=by kernel_rfl
theorem gC:cV prog 4=some 1:=by kernel_rfl
theorem dT:cV prog 23=some 1:=by kernel_rfl
theorem jB:cV prog 9=some 1:=by kernel_rfl
def eQ (lo hi:Int) (xs:List Int):Prop:=∀ x∈xs,lo≤x∧x≤hi
instance (lo hi:Int) (xs:List Int):Decidable (eQ lo hi xs):=by unfold eQ;exact inferInstance
theorem bW {lo hi:Int}:eQ lo hi []↔True:=by simp [eQ]
theorem bK {lo hi x:Int} {l:List Int}:eQ lo hi (x::l)↔(lo≤x∧x≤hi)∧eQ lo hi l:=by simp [eQ]
theorem ln {lo hi x:Int} {l:List Int}:eQ lo hi (l++[x])↔eQ lo hi l∧(lo≤x∧x≤hi):=by
 simp only [eQ,List.mem_append,List.mem_singleton];exact ⟨fun h=>⟨fun y hy=>h y (.inl hy),h x (.inr rfl)⟩,fun h y hy=>hy.elim (h.1 y) (fun e=>e ▸ h.2)⟩
theorem bz:(⟨#[]⟩:ByteArray).size=0:=rfl
def ExR (k ix lt cm rd:Int) (ok:Bool) (n:Nat) (a:Int) (d:ByteArray) (dn:Bool):Prop:=
 if k=1 then cm=0∧rd=0∧ok.toNat=0∧n=0∧a=0∧d.size=0∧dn.toNat=0
 else if k=2 then ix=0∧lt=0∧cm=0∧rd=0∧n=0∧a=0∧d.size=0∧dn.toNat=0
 else if k=3 then ok.toNat=0∧a=0∧d.size=0∧dn.toNat=0
 else if k=4 then lt=0∧cm=0∧n=0∧a=0∧d.size=0∧dn.toNat=0
 else if k=5 then cm=0∧ok.toNat=0∧n=0
 else if k=6 then lt=0∧cm=0∧ok.toNat=0∧n=0∧d.size=0∧dn.toNat=0
 else ix=0∧lt=0∧cm=0∧rd=0∧ok.toNat=0∧n=0∧a=0∧d.size=0∧dn.toNat=0
instance (k ix lt cm rd:Int) (ok:Bool) (n:Nat) (a:Int) (d:ByteArray) (dn:Bool):Decidable (ExR k ix lt cm rd ok n a d dn):=by unfold ExR;exact inferInstance
def ga (k f t tm ix lt cm rd a:Int):Prop:=(1≤k∧k≤6)∧(1≤f∧f≤7)∧(1≤t∧t≤7)∧(0≤tm∧tm≤1099511627775)∧(0≤ix∧ix≤1099511627775)∧(0≤lt∧lt≤1099511627775)∧(0≤cm∧cm≤1099511627775)∧(0≤rd∧rd≤1099511627775)∧(0≤a∧a≤1099511627775)
instance (k f t tm ix lt cm rd a:Int):Decidable (ga k f t tm ix lt cm rd a):=by unfold ga;exact inferInstance
def kR (k ix lt:Int) (es:List Ent):Prop:=k=3→es.length≤16∧cq es ix lt=true
instance (k ix lt:Int) (es:List Ent):Decidable (kR k ix lt es):=by unfold kR;exact inferInstance
def ft (k ix a:Int) (d:ByteArray):Prop:=k=5→(1≤ix∧ix≤1099511625728)∧a≤524288∧d.size≤1024
instance (k ix a:Int) (d:ByteArray):Decidable (ft k ix a d):=by unfold ft;exact inferInstance
def OkR (k f t tm ix lt cm rd:Int) (ok:Bool) (es:List Ent) (a:Int) (d:ByteArray) (dn:Bool):Prop:=
 ga k f t tm ix lt cm rd a∧ExR k ix lt cm rd ok es.length a d dn∧kR k ix lt es∧ft k ix a d
instance (k f t tm ix lt cm rd:Int) (ok:Bool) (es:List Ent) (a:Int) (d:ByteArray) (dn:Bool):Decidable (OkR k f t tm ix lt cm rd ok es a d dn):=by unfold OkR;exact inferInstance
theorem og {xs:List Int} {k:Nat} (h:k<xs.length):(xs.map iV).toArray[k]? =some (iV xs[k]):=by simp [h]
theorem eh (lo hi:Int) (g m c:Nat) (xs:List Int) (w:World) (hm:m=xs.length) (hb:Blk w g 3 (xs.map iV).toArray) (hl:xs.length≤1000) :
 Rt prog 19 [.int .i64 lo,.int .i64 hi,.slice (some ⟨g,0,none⟩) m c] w (fun v w'=>v=.bool (decide (eQ lo hi xs))∧w=w'):=by
 refine enter (n:=24) Tryd.func19 rfl rfl rfl (an (ah (asb rfl (ak (ag (an (an (ah (mvs rfl (aa (cu iN rfl) (mvi rfl (ak (ag (bt (dJ (G:=Nat) [6,8,12,13,14,15,16,17,18,19,20,21,22,23] (fun k=>[(11,.int .i64 (k:Nat))]) (fun k w'=>k≤xs.length∧eQ lo hi (xs.take k)∧w=w') (fun k=>xs.length-k) (0) ⟨rfl,trivial⟩ ?_ ?_)))))))))))))))
 ·exact ⟨Nat.zero_le _,bW.2 trivial,rfl⟩
 rintro k ρ1 w1 ⟨hk,ha,rfl⟩;refine an (ah (aa (dL rfl rfl) (ak (ag (an (ps rfl (fun Q2=>?_) (fun Q2=>?_)))))))
 ·have hkx:k<xs.length:=by omega
  refine aY (ag (an (bt (an (ah (aa (aQ bh rfl rfl (by omega)) (aa (av ar rfl (by exact hb.rd k (og hkx))) ?_)))))));refine asi rfl (ak (ag (an (ah (mvi rfl (mvi rfl (aa (dL rfl rfl) (mvb rfl (oU (t:=18) rfl (fun Q3=>?_) (fun Q3=>?_))))))))))
  ·refine ab rfl rfl (ab rfl rfl (ab rfl rfl (aa (aG (v:=.bool _) rfl rfl) (ak (ag (cd rfl (an (ah (asb rfl (ak (ag (aA (cD (aI (aI (cD (aI ?_)))))))))))))))));refine bX (v:=.bool _) rfl rfl (⟨congrArg Value.bool ?_,rfl⟩);rw [eq_comm,decide_eq_false_iff_not];intro h;have:=h _ (List.getElem_mem hkx);omega
  refine ae rfl (mvi rfl (ae rfl (mvi rfl (ae rfl (aa (eW rfl rfl) (aa (ao (v:=.bool _) rfl rfl) (ak (ag (ps rfl (fun Q4=>?_) (fun Q4=>?_))))))))))
  ·refine an (ah (asb rfl (ak (ag (aA (cD (aI (aI (cD (aI (bX (v:=.bool _) rfl rfl (⟨congrArg Value.bool ?_,rfl⟩))))))))))));rw [eq_comm,decide_eq_false_iff_not];intro h;have:=h _ (List.getElem_mem hkx);omega
  refine aY (bG (ag (ah (aa (fP (b:=1) rfl rfl (by omega)) (mvi rfl (ak ?_))))));refine cI (k+1) ⟨(by first | rfl | (refine bY ?_;omega)),trivial⟩ (by (iterate 30 refine bH rfl ?_);exact cf) ⟨?_,?_⟩
  ·exact ⟨by omega,by rw [List.take_succ_eq_append_getElem hkx];exact ln.2 ⟨ha,by omega⟩,rfl⟩
  ·omega
 obtain rfl:k=xs.length:=by omega
 rw [List.take_length] at ha;refine dd (bA (bA (cJ (ag (an (ah (asb rfl (ak (ag (aA (bX (v:=.bool _) rfl rfl (⟨congrArg Value.bool (decide_eq_true ha).symm,rfl⟩))))))))))))
theorem n6 (k f t tm ix lt cm rd:Int) (ok:Bool) (E:Option Addr) (n c:Nat) (a:Int) (d:ByteArray) (dn:Bool) (w:World) :
 Rt prog 20 [.agg #[.int .i64 k,.int .i64 f,.int .i64 t,.int .i64 tm,.int .i64 ix,.int .i64 lt,.int .i64 cm,.int .i64 rd,.bool ok,.slice E n c,.int .i64 a,.string d,.bool dn]] w (fun v w'=>v=.bool (decide (ix=0∧lt=0∧cm=0∧rd=0∧a=0∧ok.toNat=0∧dn.toNat=0∧d.size=0∧n=0))∧af w w'):=by
 refine enter (n:=36) Tryd.func20 rfl rfl rfl (an (ah (ee (v:=.agg _) rfl ?_)));intro b1 w1 E1 hb1 hk1;refine asb rfl (ak (ag (an (ah (aa (aj bg rfl) (aa (av ar rfl (by exact (hk1.from_ af.rfl_).rd 4 rfl)) ?_))))));refine aa (aj bO rfl) (aa (av ar rfl (by exact (hk1.from_ af.rfl_).rd 5 rfl)) ?_);refine aa (aj cR rfl) (aa (av ar rfl (by exact (hk1.from_ af.rfl_).rd 6 rfl)) ?_);refine aa (aj bN rfl) (aa (av ar rfl (by exact (hk1.from_ af.rfl_).rd 7 rfl)) ?_);refine aa (aj bq rfl) (aa (av ar rfl (by exact (hk1.from_ af.rfl_).rd 10 rfl)) ?_);refine g_ [.tmp 4,.tmp 6,.tmp 8,.tmp 10,.tmp 12] [.int _ _,.int _ _,.int _ _,.int _ _,.int _ _] bk rfl rfl rfl rfl (by simp [Value.cells]) ?_;intro b13 w2 E13 hb13 hk13;refine aC dr (eh 0 0 b13 5 5 [ix,lt,cm,rd,a] _ rfl hk13 (by simp)) ?_;rintro v14 w3 ⟨rfl,rfl⟩;refine mvb rfl (oU (t:=15) rfl (fun Q4=>?_) (fun Q4=>?_))
 ·simp only [bK,bW,and_true] at Q4;refine ae rfl (aa (aj cQ rfl) (ae rfl (aa (av c_ rfl (by exact (hk1.from_ (af.rfl_.next E13)).rd 8 rfl)) ?_)));refine ae rfl (aa (ch rfl) (aa (aG (v:=.bool _) rfl rfl) (mvb rfl (oS (t:=20) rfl (fun Q5=>?_) (fun Q5=>?_)))))
  ·have ho:ok.toNat=0:=by cases ok <;> simp_all
   refine ae rfl (aa (aj cW rfl) (ae rfl (aa (av c_ rfl (by exact (hk1.from_ (af.rfl_.next E13)).rd 12 rfl)) ?_)));refine ae rfl (aa (ch rfl) (aa (aG (v:=.bool _) rfl rfl) (mvb rfl (oS (t:=25) rfl (fun Q6=>?_) (fun Q6=>?_)))))
   ·have hd:dn.toNat=0:=by cases dn <;> simp_all
    refine ae rfl (aa (aj bS rfl) (ae rfl (aa (av bJ rfl (by exact (hk1.from_ (af.rfl_.next E13)).rd 11 rfl)) ?_)));refine ae rfl (aa (ej (jJ rfl rfl) (congrArg Value.bool (pM d))) (aa (aG (v:=.bool _) rfl rfl) (mvb rfl (oU (t:=30) rfl (fun Q7=>?_) (fun Q7=>?_)))))
    ·refine ae rfl (aa (aj bc rfl) (ae rfl (aa (av cn rfl (by exact (hk1.from_ (af.rfl_.next E13)).rd 9 rfl)) ?_)));refine ae rfl (aa (cu bl rfl) (ae rfl ?_));refine aa (ej (bB rfl rfl) (congrArg Value.bool (show (((n:Nat):Int)==0)=decide (n=0) by rw [Bool.eq_iff_iff,beq_iff_eq,decide_eq_true_eq];omega))) ?_;refine aa (aG (v:=.bool _) rfl rfl) (asb rfl (ak (ag (aA (bX (v:=.bool _) rfl rfl (⟨congrArg Value.bool ?_,((af.rfl_.next E1).next E13)⟩))))))
     first
      |(rw [eq_comm,decide_eq_false_iff_not];omega)
      |(rw [decide_eq_decide];omega)
      |(rw [eq_comm,decide_eq_true_eq];omega)
    refine ab rfl rfl (ab rfl rfl (ab rfl rfl (ab rfl rfl (aa (ao (v:=.bool _) rfl rfl) (asb rfl (ak (ag (aA (bX (v:=.bool _) rfl rfl (⟨congrArg Value.bool ?_,((af.rfl_.next E1).next E13)⟩))))))))))
    first
     |(rw [eq_comm,decide_eq_false_iff_not];omega)
     |(rw [decide_eq_decide];omega)
     |(rw [eq_comm,decide_eq_true_eq];omega)
   have hd:dn.toNat=1:=by cases dn <;> simp_all
   refine ab rfl rfl (ab rfl rfl (ab rfl rfl (aa (ao (v:=.bool _) rfl rfl) (mvb rfl (ab rfl rfl (ab rfl rfl (ab rfl rfl (ab rfl rfl ?_))))))));refine aa (ao (v:=.bool _) rfl rfl) (asb rfl (ak (ag (aA (bX (v:=.bool _) rfl rfl (⟨congrArg Value.bool ?_,((af.rfl_.next E1).next E13)⟩))))))
   first
    |(rw [eq_comm,decide_eq_false_iff_not];omega)
    |(rw [decide_eq_decide];omega)
    |(rw [eq_comm,decide_eq_true_eq];omega)
  have ho:ok.toNat=1:=by cases ok <;> simp_all
  refine ab rfl rfl (ab rfl rfl (ab rfl rfl (aa (ao (v:=.bool _) rfl rfl) (mvb rfl (ab rfl rfl (ab rfl rfl (ab rfl rfl (aa (ao (v:=.bool _) rfl rfl) ?_))))))));refine mvb rfl (ab rfl rfl (ab rfl rfl (ab rfl rfl (ab rfl rfl (aa (ao (v:=.bool _) rfl rfl) (asb rfl (ak (ag (aA (bX (v:=.bool _) rfl rfl ?_))))))))));refine ⟨congrArg Value.bool ?_,((af.rfl_.next E1).next E13)⟩
  first
   |(rw [eq_comm,decide_eq_false_iff_not];omega)
   |(rw [decide_eq_decide];omega)
   |(rw [eq_comm,decide_eq_true_eq];omega)
 simp only [bK,bW,and_true] at Q4;refine ab rfl rfl (ab rfl rfl (ab rfl rfl (aa (ao (v:=.bool _) rfl rfl) (mvb rfl (ab rfl rfl (ab rfl rfl (ab rfl rfl (aa (ao (v:=.bool _) rfl rfl) ?_))))))));refine mvb rfl (ab rfl rfl (ab rfl rfl (ab rfl rfl (aa (ao (v:=.bool _) rfl rfl) (mvb rfl (ab rfl rfl (ab rfl rfl (ab rfl rfl ?_))))))));refine ab rfl rfl (aa (ao (v:=.bool _) rfl rfl) (asb rfl (ak (ag (aA (bX (v:=.bool _) rfl rfl (⟨congrArg Value.bool ?_,((af.rfl_.next E1).next E13)⟩)))))))
 first
  |(rw [eq_comm,decide_eq_false_iff_not];omega)
  |(rw [decide_eq_decide];omega)
  |(rw [eq_comm,decide_eq_true_eq];omega)
theorem lP (k f t tm ix lt cm rd:Int) (ok:Bool) (E:Option Addr) (n c:Nat) (a:Int) (d:ByteArray) (dn:Bool) (w:World) :
 Rt prog 21 [.agg #[.int .i64 k,.int .i64 f,.int .i64 t,.int .i64 tm,.int .i64 ix,.int .i64 lt,.int .i64 cm,.int .i64 rd,.bool ok,.slice E n c,.int .i64 a,.string d,.bool dn]] w (fun v w'=>(∃ ix' lt' cm' rd' ok' E' n' c' a' d' dn',v=.agg #[.int .i64 k,.int .i64 f,.int .i64 t,.int .i64 tm,.int .i64 ix',.int .i64 lt',.int .i64 cm',.int .i64 rd',.bool ok',.slice E' n' c',.int .i64 a',.string d',.bool dn']∧((ix'=0∧lt'=0∧cm'=0∧rd'=0∧a'=0∧ok'.toNat=0∧dn'.toNat=0∧d'.size=0∧n'=0)↔ExR k ix lt cm rd ok n a d dn))∧af w w'):=by
 refine enter (n:=38) Tryd.func21 rfl rfl rfl (an (ah (ee (v:=.agg _) rfl ?_)));intro b1 w1 E1 hb1 hk1;have hg1:w.heap.size≤b1:=by rw [hb1];exact Nat.le_refl _
 refine bF a_ ?_;intro b2 w2 E2 hb2 hk2;have hlt:=hk1.lt;have hg2:w.heap.size≤b2:=by rw [hb2];exact ((af.rfl_.next E1)).size
 have h12:b1<b2:=by omega
 replace hk1:=hk1.from_ E2;refine ak (ag (an (an (ah (aa (aj cC rfl) (aa (av ar rfl (by exact hk1.rd 0 rfl)) ?_))))));refine ak (ag (bt (an (ah (aa (bB rfl rfl) (asb rfl (ak (ag (pq rfl (fun Q3=>?_) (fun Q3=>?_))))))))))
 ·refine ah (aa (aj bg rfl) (bD (v:=.int _ _) bo rfl rfl rfl (hk1) (by show 0+4<13;decide) ?_));intro w4 O3_0 P3_0;replace hk2:=hk2.only O3_0 (by omega);replace hk1:Blk w4 b1 25 #[.int .i64 k,.int .i64 f,.int .i64 t,.int .i64 tm,.int .i64 0,.int .i64 lt,.int .i64 cm,.int .i64 rd,.bool ok,.slice E n c,.int .i64 a,.string d,.bool dn]:=P3_0;refine aa (aj bO rfl) (bD (v:=.int _ _) bo rfl rfl rfl (hk1) (by show 0+5<13;decide) ?_);intro w5 O3_1 P3_1;replace hk2:=hk2.only O3_1 (by omega);replace hk1:Blk w5 b1 25 #[.int .i64 k,.int .i64 f,.int .i64 t,.int .i64 tm,.int .i64 0,.int .i64 0,.int .i64 cm,.int .i64 rd,.bool ok,.slice E n c,.int .i64 a,.string d,.bool dn]:=P3_1;refine ak (bG (ag (an (ah (aa (aD (cs:=[_,_,_,_,_,_,_,_,_,_,_,_,_]) ax aq rfl (by exact hk1.whole)) ?_)))));refine aM (vs:=[_,_,_,_,_,_,_,_,_,_,_,_,_]) aq rfl rfl (by simp [Value.oneCell']) (hk2) rfl ?_;intro w6 O14 P14;refine ak (ag (aA (gG rfl (aX (cs:=[_,_,_,_,_,_,_,_,_,_,_,_,_]) ax aq rfl (by exact P14.whole)) ?_)));refine ⟨⟨_,_,_,_,_,_,_,_,_,_,_,rfl,?_⟩,(((((af.rfl_.next E1).next E2).only O3_0 (hg1)).only O3_1 (hg1)).only O14 (hg2))⟩;unfold ExR
  first
   |(rw [if_pos (by omega)];(try simp only [true_and]);first | done | omega)
   |(rw [if_neg (by omega),if_pos (by omega)];(try simp only [Bool.toNat_false,bz,true_and,and_true]);first | done | omega)
   |(rw [if_neg (by omega),if_neg (by omega),if_pos (by omega)];(try simp only [Bool.toNat_false,bz,true_and,and_true]);first | done | omega)
   |(rw [if_neg (by omega),if_neg (by omega),if_neg (by omega),if_pos (by omega)];(try simp only [Bool.toNat_false,bz,true_and,and_true]);first | done | omega)
   |(rw [if_neg (by omega),if_neg (by omega),if_neg (by omega),if_neg (by omega),if_pos (by omega)];(try simp only [Bool.toNat_false,bz,true_and,and_true]);first | done | omega)
   |(rw [if_neg (by omega),if_neg (by omega),if_neg (by omega),if_neg (by omega),if_neg (by omega),if_pos (by omega)];(try simp only [Bool.toNat_false,bz,true_and,and_true]);first | done | omega)
   |(rw [if_neg (by omega),if_neg (by omega),if_neg (by omega),if_neg (by omega),if_neg (by omega),if_neg (by omega)];omega)
 refine an (ah (aa (bB rfl rfl) (asb rfl (ak (ag (pq rfl (fun Q7=>?_) (fun Q7=>?_)))))))
 ·refine ah (aa (aj cQ rfl) (bD (v:=.bool _) gC rfl rfl rfl (hk1) (by show 0+8<13;decide) ?_));intro w8 O5_0 P5_0;replace hk2:=hk2.only O5_0 (by omega);replace hk1:Blk w8 b1 25 #[.int .i64 k,.int .i64 f,.int .i64 t,.int .i64 tm,.int .i64 ix,.int .i64 lt,.int .i64 cm,.int .i64 rd,.bool false,.slice E n c,.int .i64 a,.string d,.bool dn]:=P5_0;refine ak (bG (ag (an (ah (aa (aD (cs:=[_,_,_,_,_,_,_,_,_,_,_,_,_]) ax aq rfl (by exact hk1.whole)) ?_)))));refine aM (vs:=[_,_,_,_,_,_,_,_,_,_,_,_,_]) aq rfl rfl (by simp [Value.oneCell']) (hk2) rfl ?_;intro w9 O14 P14;refine ak (ag (aA (gG rfl (aX (cs:=[_,_,_,_,_,_,_,_,_,_,_,_,_]) ax aq rfl (by exact P14.whole)) ?_)));refine ⟨⟨_,_,_,_,_,_,_,_,_,_,_,rfl,?_⟩,((((af.rfl_.next E1).next E2).only O5_0 (hg1)).only O14 (hg2))⟩;unfold ExR
  first
   |(rw [if_pos (by omega)];(try simp only [Bool.toNat_false,bz,true_and,and_true]);first | done | omega)
   |(rw [if_neg (by omega),if_pos (by omega)];(try simp only [Bool.toNat_false,true_and]);first | done | omega)
   |(rw [if_neg (by omega),if_neg (by omega),if_pos (by omega)];(try simp only [Bool.toNat_false,bz,true_and,and_true]);first | done | omega)
   |(rw [if_neg (by omega),if_neg (by omega),if_neg (by omega),if_pos (by omega)];(try simp only [Bool.toNat_false,bz,true_and,and_true]);first | done | omega)
   |(rw [if_neg (by omega),if_neg (by omega),if_neg (by omega),if_neg (by omega),if_pos (by omega)];(try simp only [Bool.toNat_false,bz,true_and,and_true]);first | done | omega)
   |(rw [if_neg (by omega),if_neg (by omega),if_neg (by omega),if_neg (by omega),if_neg (by omega),if_pos (by omega)];(try simp only [Bool.toNat_false,bz,true_and,and_true]);first | done | omega)
   |(rw [if_neg (by omega),if_neg (by omega),if_neg (by omega),if_neg (by omega),if_neg (by omega),if_neg (by omega)];omega)
 refine an (ah (aa (bB rfl rfl) (asb rfl (ak (ag (pq rfl (fun Q10=>?_) (fun Q10=>?_)))))))
 ·refine ah (aa (aj bg rfl) (bD (v:=.int _ _) bo rfl rfl rfl (hk1) (by show 0+4<13;decide) ?_));intro w11 O7_0 P7_0;replace hk2:=hk2.only O7_0 (by omega);replace hk1:Blk w11 b1 25 #[.int .i64 k,.int .i64 f,.int .i64 t,.int .i64 tm,.int .i64 0,.int .i64 lt,.int .i64 cm,.int .i64 rd,.bool ok,.slice E n c,.int .i64 a,.string d,.bool dn]:=P7_0;refine aa (aj bO rfl) (bD (v:=.int _ _) bo rfl rfl rfl (hk1) (by show 0+5<13;decide) ?_);intro w12 O7_1 P7_1;replace hk2:=hk2.only O7_1 (by omega);replace hk1:Blk w12 b1 25 #[.int .i64 k,.int .i64 f,.int .i64 t,.int .i64 tm,.int .i64 0,.int .i64 0,.int .i64 cm,.int .i64 rd,.bool ok,.slice E n c,.int .i64 a,.string d,.bool dn]:=P7_1;refine aa (aj cR rfl) (bD (v:=.int _ _) bo rfl rfl rfl (hk1) (by show 0+6<13;decide) ?_);intro w13 O7_2 P7_2;replace hk2:=hk2.only O7_2 (by omega);replace hk1:Blk w13 b1 25 #[.int .i64 k,.int .i64 f,.int .i64 t,.int .i64 tm,.int .i64 0,.int .i64 0,.int .i64 0,.int .i64 rd,.bool ok,.slice E n c,.int .i64 a,.string d,.bool dn]:=P7_2;refine aa (aj bN rfl) (bD (v:=.int _ _) bo rfl rfl rfl (hk1) (by show 0+7<13;decide) ?_);intro w14 O7_3 P7_3;replace hk2:=hk2.only O7_3 (by omega);replace hk1:Blk w14 b1 25 #[.int .i64 k,.int .i64 f,.int .i64 t,.int .i64 tm,.int .i64 0,.int .i64 0,.int .i64 0,.int .i64 0,.bool ok,.slice E n c,.int .i64 a,.string d,.bool dn]:=P7_3;refine aa (aj bc rfl) (bD (v:=.slice _ _ _) dT rfl rfl rfl (hk1) (by show 0+9<13;decide) ?_);intro w15 O7_4 P7_4;replace hk2:=hk2.only O7_4 (by omega);replace hk1:Blk w15 b1 25 #[.int .i64 k,.int .i64 f,.int .i64 t,.int .i64 tm,.int .i64 0,.int .i64 0,.int .i64 0,.int .i64 0,.bool ok,.slice none 0 0,.int .i64 a,.string d,.bool dn]:=P7_4;refine ak (bG (ag (an (ah (aa (aD (cs:=[_,_,_,_,_,_,_,_,_,_,_,_,_]) ax aq rfl (by exact hk1.whole)) ?_)))));refine aM (vs:=[_,_,_,_,_,_,_,_,_,_,_,_,_]) aq rfl rfl (by simp [Value.oneCell']) (hk2) rfl ?_;intro w16 O14 P14;refine ak (ag (aA (gG rfl (aX (cs:=[_,_,_,_,_,_,_,_,_,_,_,_,_]) ax aq rfl (by exact P14.whole)) ?_)));refine ⟨⟨_,_,_,_,_,_,_,_,_,_,_,rfl,?_⟩,((((((((af.rfl_.next E1).next E2).only O7_0 (hg1)).only O7_1 (hg1)).only O7_2 (hg1)).only O7_3 (hg1)).only O7_4 (hg1)).only O14 (hg2))⟩;unfold ExR
  first
   |(rw [if_pos (by omega)];(try simp only [Bool.toNat_false,bz,true_and,and_true]);first | done | omega)
   |(rw [if_neg (by omega),if_pos (by omega)];(try simp only [Bool.toNat_false,bz,true_and,and_true]);first | done | omega)
   |(rw [if_neg (by omega),if_neg (by omega),if_pos (by omega)];(try simp only [true_and,and_true]);first | done | omega)
   |(rw [if_neg (by omega),if_neg (by omega),if_neg (by omega),if_pos (by omega)];(try simp only [Bool.toNat_false,bz,true_and,and_true]);first | done | omega)
   |(rw [if_neg (by omega),if_neg (by omega),if_neg (by omega),if_neg (by omega),if_pos (by omega)];(try simp only [Bool.toNat_false,bz,true_and,and_true]);first | done | omega)
   |(rw [if_neg (by omega),if_neg (by omega),if_neg (by omega),if_neg (by omega),if_neg (by omega),if_pos (by omega)];(try simp only [Bool.toNat_false,bz,true_and,and_true]);first | done | omega)
   |(rw [if_neg (by omega),if_neg (by omega),if_neg (by omega),if_neg (by omega),if_neg (by omega),if_neg (by omega)];omega)
 refine an (ah (aa (bB rfl rfl) (asb rfl (ak (ag (pq rfl (fun Q17=>?_) (fun Q17=>?_)))))))
 ·refine ah (aa (aj cQ rfl) (bD (v:=.bool _) gC rfl rfl rfl (hk1) (by show 0+8<13;decide) ?_));intro w18 O9_0 P9_0;replace hk2:=hk2.only O9_0 (by omega);replace hk1:Blk w18 b1 25 #[.int .i64 k,.int .i64 f,.int .i64 t,.int .i64 tm,.int .i64 ix,.int .i64 lt,.int .i64 cm,.int .i64 rd,.bool false,.slice E n c,.int .i64 a,.string d,.bool dn]:=P9_0;refine aa (aj bg rfl) (bD (v:=.int _ _) bo rfl rfl rfl (hk1) (by show 0+4<13;decide) ?_);intro w19 O9_1 P9_1;replace hk2:=hk2.only O9_1 (by omega);replace hk1:Blk w19 b1 25 #[.int .i64 k,.int .i64 f,.int .i64 t,.int .i64 tm,.int .i64 0,.int .i64 lt,.int .i64 cm,.int .i64 rd,.bool false,.slice E n c,.int .i64 a,.string d,.bool dn]:=P9_1;refine aa (aj bN rfl) (bD (v:=.int _ _) bo rfl rfl rfl (hk1) (by show 0+7<13;decide) ?_);intro w20 O9_2 P9_2;replace hk2:=hk2.only O9_2 (by omega);replace hk1:Blk w20 b1 25 #[.int .i64 k,.int .i64 f,.int .i64 t,.int .i64 tm,.int .i64 0,.int .i64 lt,.int .i64 cm,.int .i64 0,.bool false,.slice E n c,.int .i64 a,.string d,.bool dn]:=P9_2;refine ak (bG (ag (an (ah (aa (aD (cs:=[_,_,_,_,_,_,_,_,_,_,_,_,_]) ax aq rfl (by exact hk1.whole)) ?_)))));refine aM (vs:=[_,_,_,_,_,_,_,_,_,_,_,_,_]) aq rfl rfl (by simp [Value.oneCell']) (hk2) rfl ?_;intro w21 O14 P14;refine ak (ag (aA (gG rfl (aX (cs:=[_,_,_,_,_,_,_,_,_,_,_,_,_]) ax aq rfl (by exact P14.whole)) ?_)));refine ⟨⟨_,_,_,_,_,_,_,_,_,_,_,rfl,?_⟩,((((((af.rfl_.next E1).next E2).only O9_0 (hg1)).only O9_1 (hg1)).only O9_2 (hg1)).only O14 (hg2))⟩;unfold ExR
  first
   |(rw [if_pos (by omega)];(try simp only [Bool.toNat_false,bz,true_and,and_true]);first | done | omega)
   |(rw [if_neg (by omega),if_pos (by omega)];(try simp only [Bool.toNat_false,bz,true_and,and_true]);first | done | omega)
   |(rw [if_neg (by omega),if_neg (by omega),if_pos (by omega)];(try simp only [Bool.toNat_false,bz,true_and,and_true]);first | done | omega)
   |(rw [if_neg (by omega),if_neg (by omega),if_neg (by omega),if_pos (by omega)];(try simp only [Bool.toNat_false,true_and]);first | done | omega)
   |(rw [if_neg (by omega),if_neg (by omega),if_neg (by omega),if_neg (by omega),if_pos (by omega)];(try simp only [Bool.toNat_false,bz,true_and,and_true]);first | done | omega)
   |(rw [if_neg (by omega),if_neg (by omega),if_neg (by omega),if_neg (by omega),if_neg (by omega),if_pos (by omega)];(try simp only [Bool.toNat_false,bz,true_and,and_true]);first | done | omega)
   |(rw [if_neg (by omega),if_neg (by omega),if_neg (by omega),if_neg (by omega),if_neg (by omega),if_neg (by omega)];omega)
 refine an (ah (aa (bB rfl rfl) (asb rfl (ak (ag (pq rfl (fun Q22=>?_) (fun Q22=>?_)))))))
 ·refine ah (aa (aj bg rfl) (bD (v:=.int _ _) bo rfl rfl rfl (hk1) (by show 0+4<13;decide) ?_));intro w23 O11_0 P11_0;replace hk2:=hk2.only O11_0 (by omega);replace hk1:Blk w23 b1 25 #[.int .i64 k,.int .i64 f,.int .i64 t,.int .i64 tm,.int .i64 0,.int .i64 lt,.int .i64 cm,.int .i64 rd,.bool ok,.slice E n c,.int .i64 a,.string d,.bool dn]:=P11_0;refine aa (aj bO rfl) (bD (v:=.int _ _) bo rfl rfl rfl (hk1) (by show 0+5<13;decide) ?_);intro w24 O11_1 P11_1;replace hk2:=hk2.only O11_1 (by omega);replace hk1:Blk w24 b1 25 #[.int .i64 k,.int .i64 f,.int .i64 t,.int .i64 tm,.int .i64 0,.int .i64 0,.int .i64 cm,.int .i64 rd,.bool ok,.slice E n c,.int .i64 a,.string d,.bool dn]:=P11_1;refine aa (aj bN rfl) (bD (v:=.int _ _) bo rfl rfl rfl (hk1) (by show 0+7<13;decide) ?_);intro w25 O11_2 P11_2;replace hk2:=hk2.only O11_2 (by omega);replace hk1:Blk w25 b1 25 #[.int .i64 k,.int .i64 f,.int .i64 t,.int .i64 tm,.int .i64 0,.int .i64 0,.int .i64 cm,.int .i64 0,.bool ok,.slice E n c,.int .i64 a,.string d,.bool dn]:=P11_2;refine aa (aj bq rfl) (bD (v:=.int _ _) bo rfl rfl rfl (hk1) (by show 0+10<13;decide) ?_);intro w26 O11_3 P11_3;replace hk2:=hk2.only O11_3 (by omega);replace hk1:Blk w26 b1 25 #[.int .i64 k,.int .i64 f,.int .i64 t,.int .i64 tm,.int .i64 0,.int .i64 0,.int .i64 cm,.int .i64 0,.bool ok,.slice E n c,.int .i64 0,.string d,.bool dn]:=P11_3;refine aa (aj bS rfl) (bD (v:=.string _) jB rfl rfl rfl (hk1) (by show 0+11<13;decide) ?_);intro w27 O11_4 P11_4;replace hk2:=hk2.only O11_4 (by omega);replace hk1:Blk w27 b1 25 #[.int .i64 k,.int .i64 f,.int .i64 t,.int .i64 tm,.int .i64 0,.int .i64 0,.int .i64 cm,.int .i64 0,.bool ok,.slice E n c,.int .i64 0,.string ⟨#[]⟩,.bool dn]:=P11_4;refine aa (aj cW rfl) (bD (v:=.bool _) gC rfl rfl rfl (hk1) (by show 0+12<13;decide) ?_);intro w28 O11_5 P11_5;replace hk2:=hk2.only O11_5 (by omega);replace hk1:Blk w28 b1 25 #[.int .i64 k,.int .i64 f,.int .i64 t,.int .i64 tm,.int .i64 0,.int .i64 0,.int .i64 cm,.int .i64 0,.bool ok,.slice E n c,.int .i64 0,.string ⟨#[]⟩,.bool false]:=P11_5;refine ak (bG (ag (an (ah (aa (aD (cs:=[_,_,_,_,_,_,_,_,_,_,_,_,_]) ax aq rfl (by exact hk1.whole)) ?_)))));refine aM (vs:=[_,_,_,_,_,_,_,_,_,_,_,_,_]) aq rfl rfl (by simp [Value.oneCell']) (hk2) rfl ?_;intro w29 O14 P14;refine ak (ag (aA (gG rfl (aX (cs:=[_,_,_,_,_,_,_,_,_,_,_,_,_]) ax aq rfl (by exact P14.whole)) ?_)));refine ⟨⟨_,_,_,_,_,_,_,_,_,_,_,rfl,?_⟩,(((((((((af.rfl_.next E1).next E2).only O11_0 (hg1)).only O11_1 (hg1)).only O11_2 (hg1)).only O11_3 (hg1)).only O11_4 (hg1)).only O11_5 (hg1)).only O14 (hg2))⟩;unfold ExR
  first
   |(rw [if_pos (by omega)];(try simp only [Bool.toNat_false,bz,true_and,and_true]);first | done | omega)
   |(rw [if_neg (by omega),if_pos (by omega)];(try simp only [Bool.toNat_false,bz,true_and,and_true]);first | done | omega)
   |(rw [if_neg (by omega),if_neg (by omega),if_pos (by omega)];(try simp only [Bool.toNat_false,bz,true_and,and_true]);first | done | omega)
   |(rw [if_neg (by omega),if_neg (by omega),if_neg (by omega),if_pos (by omega)];(try simp only [Bool.toNat_false,bz,true_and,and_true]);first | done | omega)
   |(rw [if_neg (by omega),if_neg (by omega),if_neg (by omega),if_neg (by omega),if_pos (by omega)];(try simp only [Bool.toNat_false,bz,true_and]);first | done | omega)
   |(rw [if_neg (by omega),if_neg (by omega),if_neg (by omega),if_neg (by omega),if_neg (by omega),if_pos (by omega)];(try simp only [Bool.toNat_false,bz,true_and,and_true]);first | done | omega)
   |(rw [if_neg (by omega),if_neg (by omega),if_neg (by omega),if_neg (by omega),if_neg (by omega),if_neg (by omega)];omega)
 refine an (ah (aa (bB rfl rfl) (asb rfl (ak (ag (pq rfl (fun Q30=>?_) (fun Q30=>?_)))))))
 ·refine ah (aa (aj bg rfl) (bD (v:=.int _ _) bo rfl rfl rfl (hk1) (by show 0+4<13;decide) ?_));intro w31 O13_0 P13_0;replace hk2:=hk2.only O13_0 (by omega);replace hk1:Blk w31 b1 25 #[.int .i64 k,.int .i64 f,.int .i64 t,.int .i64 tm,.int .i64 0,.int .i64 lt,.int .i64 cm,.int .i64 rd,.bool ok,.slice E n c,.int .i64 a,.string d,.bool dn]:=P13_0;refine aa (aj bq rfl) (bD (v:=.int _ _) bo rfl rfl rfl (hk1) (by show 0+10<13;decide) ?_);intro w32 O13_1 P13_1;replace hk2:=hk2.only O13_1 (by omega);replace hk1:Blk w32 b1 25 #[.int .i64 k,.int .i64 f,.int .i64 t,.int .i64 tm,.int .i64 0,.int .i64 lt,.int .i64 cm,.int .i64 rd,.bool ok,.slice E n c,.int .i64 0,.string d,.bool dn]:=P13_1;refine aa (aj bN rfl) (bD (v:=.int _ _) bo rfl rfl rfl (hk1) (by show 0+7<13;decide) ?_);intro w33 O13_2 P13_2;replace hk2:=hk2.only O13_2 (by omega);replace hk1:Blk w33 b1 25 #[.int .i64 k,.int .i64 f,.int .i64 t,.int .i64 tm,.int .i64 0,.int .i64 lt,.int .i64 cm,.int .i64 0,.bool ok,.slice E n c,.int .i64 0,.string d,.bool dn]:=P13_2;refine ak (bG (ag (an (ah (aa (aD (cs:=[_,_,_,_,_,_,_,_,_,_,_,_,_]) ax aq rfl (by exact hk1.whole)) ?_)))));refine aM (vs:=[_,_,_,_,_,_,_,_,_,_,_,_,_]) aq rfl rfl (by simp [Value.oneCell']) (hk2) rfl ?_;intro w34 O14 P14;refine ak (ag (aA (gG rfl (aX (cs:=[_,_,_,_,_,_,_,_,_,_,_,_,_]) ax aq rfl (by exact P14.whole)) ?_)));refine ⟨⟨_,_,_,_,_,_,_,_,_,_,_,rfl,?_⟩,((((((af.rfl_.next E1).next E2).only O13_0 (hg1)).only O13_1 (hg1)).only O13_2 (hg1)).only O14 (hg2))⟩;unfold ExR
  first
   |(rw [if_pos (by omega)];(try simp only [Bool.toNat_false,bz,true_and,and_true]);first | done | omega)
   |(rw [if_neg (by omega),if_pos (by omega)];(try simp only [Bool.toNat_false,bz,true_and,and_true]);first | done | omega)
   |(rw [if_neg (by omega),if_neg (by omega),if_pos (by omega)];(try simp only [Bool.toNat_false,bz,true_and,and_true]);first | done | omega)
   |(rw [if_neg (by omega),if_neg (by omega),if_neg (by omega),if_pos (by omega)];(try simp only [Bool.toNat_false,bz,true_and,and_true]);first | done | omega)
   |(rw [if_neg (by omega),if_neg (by omega),if_neg (by omega),if_neg (by omega),if_pos (by omega)];(try simp only [Bool.toNat_false,bz,true_and,and_true]);first | done | omega)
   |(rw [if_neg (by omega),if_neg (by omega),if_neg (by omega),if_neg (by omega),if_neg (by omega),if_pos (by omega)];(try simp only [true_and]);first | done | omega)
   |(rw [if_neg (by omega),if_neg (by omega),if_neg (by omega),if_neg (by omega),if_neg (by omega),if_neg (by omega)];omega)
 refine aY (bG (ag (an (ah (aa (aD (cs:=[_,_,_,_,_,_,_,_,_,_,_,_,_]) ax aq rfl (by exact hk1.whole)) ?_)))));refine aM (vs:=[_,_,_,_,_,_,_,_,_,_,_,_,_]) aq rfl rfl (by simp [Value.oneCell']) (hk2) rfl ?_;intro w35 O14 P14;refine ak (ag (aA (gG rfl (aX (cs:=[_,_,_,_,_,_,_,_,_,_,_,_,_]) ax aq rfl (by exact P14.whole)) ?_)));refine ⟨⟨_,_,_,_,_,_,_,_,_,_,_,rfl,?_⟩,(((af.rfl_.next E1).next E2).only O14 (hg2))⟩;unfold ExR
 first
  |(rw [if_pos (by omega)];(try simp only [Bool.toNat_false,bz,true_and,and_true]);first | done | omega)
  |(rw [if_neg (by omega),if_pos (by omega)];(try simp only [Bool.toNat_false,bz,true_and,and_true]);first | done | omega)
  |(rw [if_neg (by omega),if_neg (by omega),if_pos (by omega)];(try simp only [Bool.toNat_false,bz,true_and,and_true]);first | done | omega)
  |(rw [if_neg (by omega),if_neg (by omega),if_neg (by omega),if_pos (by omega)];(try simp only [Bool.toNat_false,bz,true_and,and_true]);first | done | omega)
  |(rw [if_neg (by omega),if_neg (by omega),if_neg (by omega),if_neg (by omega),if_pos (by omega)];(try simp only [Bool.toNat_false,bz,true_and,and_true]);first | done | omega)
  |(rw [if_neg (by omega),if_neg (by omega),if_neg (by omega),if_neg (by omega),if_neg (by omega),if_pos (by omega)];(try simp only [Bool.toNat_false,bz,true_and,and_true]);first | done | omega)
  |(rw [if_neg (by omega),if_neg (by omega),if_neg (by omega),if_neg (by omega),if_neg (by omega),if_neg (by omega)];omega)
theorem kM:aJ prog 31=true:=by kernel_rfl
theorem dy:cw prog 25 1=some 1:=by kernel_rfl
theorem dx:cw prog 25 2=some 2:=by kernel_rfl
theorem dw:cw prog 25 3=some 3:=by kernel_rfl
theorem kP:aJ prog 21=true:=by kernel_rfl
theorem kQ:aJ prog 20=true:=by kernel_rfl
theorem kO:aJ prog 22=true:=by kernel_rfl
theorem kN:aJ prog 23=true:=by kernel_rfl
theorem pb {es:List Ent} (hl:es.length≤512) (h:cq es 0 0=true):bL 0 0 es=true:=by
 simp only [bL,Bool.and_eq_true,decide_eq_true_eq];exact ⟨⟨⟨by decide,by decide⟩,hl⟩,h⟩
theorem mV {p q:Int} {es:List Ent} (hp:0≤p∧p≤1099511627775) (hq:0≤q∧q≤1099511627775) (hl:es.length≤16):(dm 0 0 p q [] es).1=0↔cq es p q=true:=by
 by_cases h:cq es p q=true
 ·refine ⟨fun _=>h,fun _=>?_⟩;unfold dm;rw [if_pos ⟨pb (by simp) rfl,jO (by omega),jO hq,h⟩];split
  ·rfl
  ·rename_i hn;have hP:mgP 0 p=p:=by unfold mgP;rw [if_neg (by omega)]
   have hQ:mgQ 0 0 p q=q:=by unfold mgQ;rw [if_neg (by omega)]
   have hC:dh 0 p es=es:=by unfold dh;rw [if_neg (by omega)]
   rw [hP,hQ] at hn
   have h0:p=0:=by
    simp only [List.length_nil] at hn;omega
   subst h0;have hT:cS 0 0 [] 0=0:=rfl;rw [hT] at hn;have h1:q=0:=by omega
   subst h1;rw [hC]
   have hS:dP 0 0 [] es=es:=by
    cases es with
    |nil=>rfl
    |cons e r=>
     refine fb fun h0=>?_
     have:=(c5 h).1;simp only [List.length_nil] at h0;omega
   have hI:kr 0 [] es=0:=by
    cases es with
    |nil=>rfl
    |cons e r=>
     have:=(c5 h).1;show (e.i-1-0).toNat=0;omega
   rw [hS];unfold mg2;rw [hI,if_neg (by omega),if_pos (by simpa using pb (by omega) h)]
 ·refine ⟨fun h0=>?_,fun h0=>absurd h0 h⟩;unfold dm at h0;rw [if_neg (fun a=>h a.2.2.2)] at h0;cases h0
theorem iQ (k f t tm ix lt cm rd:Int) (ok:Bool) (E:Option Addr) (n c:Nat) (a:Int) (d:ByteArray) (dn:Bool) (w:World) (es:List Ent) (hn:n=es.length) (he:aV w (.slice E n c) es) (hl:es.length≤400000000000) (hi:0≤ix∧ix≤1099511627775) (hlt:0≤lt∧lt≤1099511627775) :
 Rt prog 22 [.agg #[.int .i64 k,.int .i64 f,.int .i64 t,.int .i64 tm,.int .i64 ix,.int .i64 lt,.int .i64 cm,.int .i64 rd,.bool ok,.slice E n c,.int .i64 a,.string d,.bool dn]] w (fun v w'=>v=.bool (decide (kR k ix lt es))∧af w w'):=by
 subst hn;refine enter (n:=29) Tryd.func22 rfl rfl rfl (an (ah (ee (v:=.agg _) rfl ?_)));intro b1 w1 E1 hb1 hk1;refine asb rfl (ak (ag (an (an (ah (aa (aj cC rfl) (aa (av ar rfl (by exact (hk1.from_ af.rfl_).rd 0 rfl)) ?_)))))));refine aa (cj rfl rfl) (ak (ag (aK rfl (fun Q2=>?_) (fun Q2=>?_))))
 ·replace Q2:=cz Q2;replace Q2:=bU Q2;refine an (ah (asb rfl (ak (ag (aA (aI (bX (v:=.bool _) rfl rfl (⟨congrArg Value.bool (decide_eq_true ?_).symm,(af.rfl_.next E1)⟩))))))));intro h;omega
 replace Q2:=cB Q2;replace Q2:=bT Q2;refine aY (ag (an (ah (aa (bf (l:=[]) (cp)) (aa (aj bg rfl) (aa (av ar rfl (by exact (hk1.from_ af.rfl_).rd 4 rfl)) ?_))))));refine aa (aj bO rfl) (aa (av ar rfl (by exact (hk1.from_ af.rfl_).rd 5 rfl)) ?_);refine aa (aj bc rfl) (aa (av cn rfl (by exact (hk1.from_ af.rfl_).rd 9 rfl)) ?_);refine aC kM (mU 0 0 ix lt none E 0 c [] es _ (aV.nil_ _) (he.from_ (af.rfl_.next E1)) (by omega)) ?_;rintro v17 w3 ⟨⟨X,Y,A2,m2,c2,rfl,-,-⟩,E17⟩;refine mvt rfl (aa (ay rfl rfl) (aa (ay rfl rfl) (aa (ay rfl rfl) (bF gb ?_))));intro b3 w4 E3 hb3 hk3;have hg3:w.heap.size≤b3:=by rw [hb3];exact (((af.rfl_.next E1).next E17)).size
 have h13:b1<b3:=by have:=(hk1.from_ E17).lt;omega
 refine aM (vs:=[_,_,_]) aE rfl rfl (by simp [Value.oneCell']) (hk3) rfl ?_;intro w5 O3 P3;replace hk1:=((hk1.from_ (E17.next E3)).only O3 (by omega));refine asb rfl (asi rfl (ak (ag (an (ah (aa (aj bc rfl) (aa (av cn rfl (by exact (hk1.from_ af.rfl_).rd 9 rfl)) ?_)))))));refine aa (cu bl rfl) (aa (gi rfl rfl) (mvb rfl (oU (t:=25) rfl (fun Q6=>?_) (fun Q6=>?_))))
 ·refine ae rfl (mvi rfl (ae rfl (aa (bB rfl rfl) (aa (aG (v:=.bool _) rfl rfl) (asb rfl (ak (ag (aA (bX (v:=.bool _) rfl rfl (⟨congrArg Value.bool ?_,((((af.rfl_.next E1).next E17).next E3).only O3 (hg3))⟩))))))))));have hk3:k=3:=by omega
  by_cases h16:es.length≤16
  ·have hm:=mV hi hlt h16;rw [Bool.eq_iff_iff,decide_eq_true_eq];unfold kR
   first
    |(rw [beq_iff_eq,hm];exact ⟨fun a _=>⟨h16,a⟩,fun a=>(a hk3).2⟩)
    |(exfalso;omega)
  ·rw [eq_comm,Bool.eq_iff_iff,decide_eq_true_eq];unfold kR
   first
    |(refine ⟨fun a=>absurd (a hk3).1 h16,fun a=>by cases a⟩)
    |(exfalso;omega)
 refine ab rfl rfl (ab rfl rfl (aa (ao (v:=.bool _) rfl rfl) (asb rfl (ak (ag (aA (bX (v:=.bool _) rfl rfl (⟨congrArg Value.bool ?_,((((af.rfl_.next E1).next E17).next E3).only O3 (hg3))⟩))))))));have hk3:k=3:=by omega
 by_cases h16:es.length≤16
 ·have hm:=mV hi hlt h16;rw [Bool.eq_iff_iff,decide_eq_true_eq];unfold kR
  first
   |(rw [beq_iff_eq,hm];exact ⟨fun a _=>⟨h16,a⟩,fun a=>(a hk3).2⟩)
   |(exfalso;omega)
 ·rw [eq_comm,Bool.eq_iff_iff,decide_eq_true_eq];unfold kR
  first
   |(refine ⟨fun a=>absurd (a hk3).1 h16,fun a=>by cases a⟩)
   |(exfalso;omega)
theorem j6 (k f t tm ix lt cm rd:Int) (ok:Bool) (E:Option Addr) (n c:Nat) (a:Int) (d:ByteArray) (dn:Bool) (w:World) :
 Rt prog 23 [.agg #[.int .i64 k,.int .i64 f,.int .i64 t,.int .i64 tm,.int .i64 ix,.int .i64 lt,.int .i64 cm,.int .i64 rd,.bool ok,.slice E n c,.int .i64 a,.string d,.bool dn]] w (fun v w'=>v=.bool (decide (ft k ix a d))∧af w w'):=by
 refine enter (n:=23) Tryd.func23 rfl rfl rfl (an (ah (ee (v:=.agg _) rfl ?_)));intro b1 w1 E1 hb1 hk1;refine asb rfl (ak (ag (an (ah (aa (aj cC rfl) (aa (av ar rfl (by exact (hk1.from_ af.rfl_).rd 0 rfl)) ?_))))));refine aa (cj rfl rfl) (mvb rfl (aB (t:=6) rfl (fun Q2=>?_) (fun Q2=>?_)))
 ·replace Q2:=cz Q2;replace Q2:=bU Q2;refine ab rfl rfl (ab rfl rfl (ab rfl rfl (ab rfl rfl (ab rfl rfl (eA rfl (eA rfl (eA rfl (ab rfl rfl ?_))))))));refine ab rfl rfl (eA rfl (eA rfl (eA rfl (eA rfl (ab rfl rfl (aa (aG (v:=.bool _) rfl rfl) (asb rfl (ak (ag (aA ?_))))))))));refine bX (v:=.bool _) rfl rfl (⟨congrArg Value.bool ?_,(af.rfl_.next E1)⟩)
  first
   |(rw [eq_comm,decide_eq_false_iff_not];unfold ft;omega)
   |(rw [decide_eq_decide];unfold ft;omega)
   |(rw [eq_comm,decide_eq_true_eq];unfold ft;omega)
 replace Q2:=cB Q2;replace Q2:=bT Q2;refine ae rfl (aa (aj bg rfl) (ae rfl (aa (av ar rfl (by exact (hk1.from_ af.rfl_).rd 4 rfl)) ?_)));refine ae rfl (ez (v:=.int _ _) bk rfl rfl rfl ?_);intro b9 w3 E9 hb9 hk9;refine ae rfl (aC dr (eh 1 1099511625728 b9 1 1 [ix] _ rfl hk9 (by simp)) ?_);rintro v10 w4 ⟨rfl,rfl⟩;refine ae rfl (mvb rfl (oU (t:=11) rfl (fun Q5=>?_) (fun Q5=>?_)))
 ·simp only [bK,bW,and_true] at Q5;refine ae rfl (aa (aj bq rfl) (ae rfl (aa (av ar rfl (by exact (hk1.from_ (af.rfl_.next E9)).rd 10 rfl)) ?_)));refine ae rfl (aa (gi rfl rfl) (ae rfl (aa (aG (v:=.bool _) rfl rfl) (ae rfl (mvb rfl (oU (t:=16) rfl (fun Q6=>?_) (fun Q6=>?_)))))))
  ·refine ae rfl (aa (aj bS rfl) (ae rfl (aa (av bJ rfl (by exact (hk1.from_ (af.rfl_.next E9)).rd 11 rfl)) ?_)));refine ae rfl (aa (lC (by kernel_rfl) rfl) (ae rfl (aa (gi rfl rfl) (ae rfl (aa (aG (v:=.bool _) rfl rfl) (aa (ao (v:=.bool _) rfl rfl) (asb rfl (ak (ag (aA ?_))))))))));refine bX (v:=.bool _) rfl rfl (⟨congrArg Value.bool ?_,((af.rfl_.next E1).next E9)⟩)
   first
    |(rw [eq_comm,decide_eq_false_iff_not];unfold ft;omega)
    |(rw [decide_eq_decide];unfold ft;omega)
    |(rw [eq_comm,decide_eq_true_eq];unfold ft;omega)
  refine ab rfl rfl (ab rfl rfl (ab rfl rfl (ab rfl rfl (ae rfl (aa (ao (v:=.bool _) rfl rfl) (aa (ao (v:=.bool _) rfl rfl) (asb rfl (ak (ag (aA ?_))))))))));refine bX (v:=.bool _) rfl rfl (⟨congrArg Value.bool ?_,((af.rfl_.next E1).next E9)⟩)
  first
   |(rw [eq_comm,decide_eq_false_iff_not];unfold ft;omega)
   |(rw [decide_eq_decide];unfold ft;omega)
   |(rw [eq_comm,decide_eq_true_eq];unfold ft;omega)
 simp only [bK,bW,and_true] at Q5;refine ab rfl rfl (ab rfl rfl (ab rfl rfl (ae rfl (aa (ao (v:=.bool _) rfl rfl) (ae rfl (mvb rfl (ab rfl rfl (ab rfl rfl ?_))))))));refine ab rfl rfl (ab rfl rfl (ae rfl (aa (ao (v:=.bool _) rfl rfl) (aa (ao (v:=.bool _) rfl rfl) (asb rfl (ak (ag (aA (bX (v:=.bool _) rfl rfl (⟨congrArg Value.bool ?_,((af.rfl_.next E1).next E9)⟩))))))))))
 first
  |(rw [eq_comm,decide_eq_false_iff_not];unfold ft;omega)
  |(rw [decide_eq_decide];unfold ft;omega)
  |(rw [eq_comm,decide_eq_true_eq];unfold ft;omega)
theorem jT (k f t tm ix lt cm rd:Int) (ok:Bool) (E:Option Addr) (n c:Nat) (a:Int) (d:ByteArray) (dn:Bool) (w:World) (es:List Ent) (hn:n=es.length) (he:aV w (.slice E n c) es) (hl:es.length≤400000000000) :
 Rt prog 8 [.agg #[.int .i64 k,.int .i64 f,.int .i64 t,.int .i64 tm,.int .i64 ix,.int .i64 lt,.int .i64 cm,.int .i64 rd,.bool ok,.slice E n c,.int .i64 a,.string d,.bool dn]] w (fun v w'=>v=.int .i64 (if OkR k f t tm ix lt cm rd ok es a d dn then 0 else 1)∧af w w'):=by
 refine enter (n:=47) Tryd.func8 rfl rfl rfl (an (ah (ee (v:=.agg _) rfl ?_)));intro b1 w1 E1 hb1 hk1;refine asi rfl (ak (ag (an (ah (aa (aj cC rfl) (aa (av ar rfl (by exact (hk1.from_ af.rfl_).rd 0 rfl)) ?_))))));refine ez (v:=.int _ _) bk rfl rfl rfl ?_;intro b6 w2 E6 hb6 hk6;refine aC dr (eh 1 6 b6 1 1 [k] _ rfl hk6 (by simp)) ?_;rintro v7 w3 ⟨rfl,rfl⟩;refine mvb rfl (oU (t:=8) rfl (fun Q4=>?_) (fun Q4=>?_))
 ·simp only [bK,bW,and_true] at Q4;have h8:=Q4;refine ae rfl (aa (aj dy rfl) (ae rfl (aa (av ar rfl (by exact (hk1.from_ (af.rfl_.next E6)).rd 1 rfl)) ?_)));refine ae rfl (aa (aj dx rfl) (ae rfl (aa (av ar rfl (by exact (hk1.from_ (af.rfl_.next E6)).rd 2 rfl)) ?_)));refine ae rfl (g_ [.tmp 10,.tmp 12] [.int _ _,.int _ _] bk rfl rfl rfl rfl (by simp [Value.cells]) ?_);intro b13 w5 E13 hb13 hk13;refine ae rfl (aC dr (eh 1 7 b13 2 2 [f,t] _ rfl hk13 (by simp)) ?_);rintro v14 w6 ⟨rfl,rfl⟩;refine aa (aG (v:=.bool _) rfl rfl) (mvb rfl (oU (t:=16) rfl (fun Q7=>?_) (fun Q7=>?_)))
  ·simp only [bK,bW,and_true] at Q7;have h16:=Q7;refine ae rfl (aa (aj dw rfl) (ae rfl (aa (av ar rfl (by exact (hk1.from_ ((af.rfl_.next E6).next E13)).rd 3 rfl)) ?_)));refine ae rfl (aa (aj bg rfl) (ae rfl (aa (av ar rfl (by exact (hk1.from_ ((af.rfl_.next E6).next E13)).rd 4 rfl)) ?_)));refine ae rfl (aa (aj bO rfl) (ae rfl (aa (av ar rfl (by exact (hk1.from_ ((af.rfl_.next E6).next E13)).rd 5 rfl)) ?_)));refine ae rfl (aa (aj cR rfl) (ae rfl (aa (av ar rfl (by exact (hk1.from_ ((af.rfl_.next E6).next E13)).rd 6 rfl)) ?_)));refine ae rfl (aa (aj bN rfl) (ae rfl (aa (av ar rfl (by exact (hk1.from_ ((af.rfl_.next E6).next E13)).rd 7 rfl)) ?_)));refine ae rfl (aa (aj bq rfl) (ae rfl (aa (av ar rfl (by exact (hk1.from_ ((af.rfl_.next E6).next E13)).rd 10 rfl)) ?_)));refine ae rfl (g_ [.tmp 18,.tmp 20,.tmp 22,.tmp 24,.tmp 26,.tmp 28] [.int _ _,.int _ _,.int _ _,.int _ _,.int _ _,.int _ _] bk rfl rfl rfl rfl (by simp [Value.cells]) ?_);intro b29 w8 E29 hb29 hk29;refine ae rfl (aC dr (eh 0 1099511627775 b29 6 6 [tm,ix,lt,cm,rd,a] _ rfl hk29 (by simp)) ?_);rintro v30 w9 ⟨rfl,rfl⟩;refine aa (aG (v:=.bool _) rfl rfl) (mvb rfl (oU (t:=32) rfl (fun Q10=>?_) (fun Q10=>?_)))
   ·simp only [bK,bW,and_true] at Q10;have h32:=Q10;refine ae rfl (aa (aD (cs:=[_,_,_,_,_,_,_,_,_,_,_,_,_]) ax aq rfl (by exact (hk1.from_ (((af.rfl_.next E6).next E13).next E29)).whole)) ?_);refine ae rfl (aC kP (lP k f t tm ix lt cm rd ok E n c a d dn _) ?_);rintro v34 w11 ⟨⟨ix',lt',cm',rd',ok',E',n',c',a',d',dn',rfl,hex⟩,E34⟩;refine ae rfl (aC kQ (n6 k f t tm ix' lt' cm' rd' ok' E' n' c' a' d' dn' _) ?_);rintro v35 w12 ⟨rfl,E35⟩;refine aa (aG (v:=.bool _) rfl rfl) (mvb rfl (oU (t:=37) rfl (fun Q13=>?_) (fun Q13=>?_)))
    ·have hx:=hex.1 Q13;have h37:=Q13;refine ae rfl (aa (aD (cs:=[_,_,_,_,_,_,_,_,_,_,_,_,_]) ax aq rfl (by exact (hk1.from_ (((((af.rfl_.next E6).next E13).next E29).next E34).next E35)).whole)) ?_);refine ae rfl (aC kO (iQ k f t tm ix lt cm rd ok E n c a d dn _ es hn (he.from_ ((((((af.rfl_.next E1).next E6).next E13).next E29).next E34).next E35)) hl (by omega) (by omega)) ?_);rintro v39 w14 ⟨rfl,E39⟩;refine aa (aG (v:=.bool _) rfl rfl) (mvb rfl (oU (t:=41) rfl (fun Q15=>?_) (fun Q15=>?_)))
     ·have h41:=Q15;refine ae rfl (aa (aD (cs:=[_,_,_,_,_,_,_,_,_,_,_,_,_]) ax aq rfl (by exact (hk1.from_ ((((((af.rfl_.next E6).next E13).next E29).next E34).next E35).next E39)).whole)) ?_);refine ae rfl (aC kN (j6 k f t tm ix lt cm rd ok E n c a d dn _) ?_);rintro v43 w16 ⟨rfl,E43⟩;refine aa (aG (v:=.bool _) rfl rfl) (asb rfl (ak (ag (an (an (ah (mvb rfl (aa (ch rfl) (ak (ag (aK rfl (fun Q17=>?_) (fun Q17=>?_))))))))))))
      ·replace Q17:=cz Q17;replace Q17:=dF_ Q17;have hno:¬ (OkR k f t tm ix lt cm rd ok es a d dn):=fun h=>Q17 h.2.2.2
       refine an (ah (asi rfl (ak (ag (aA (aI (bX (v:=.int _ _) rfl rfl (⟨bY (by rw [if_neg hno]),((((((((af.rfl_.next E1).next E6).next E13).next E29).next E34).next E35).next E39).next E43)⟩))))))))
      replace Q17:=cB Q17;replace Q17:=dT_ Q17;have hyes:OkR k f t tm ix lt cm rd ok es a d dn:=⟨by unfold ga;omega,hn ▸ hx,h41,Q17⟩;refine aY (ag (an (ah (asi rfl (ak (ag (aA (bX (v:=.int _ _) rfl rfl (⟨bY (by rw [if_pos hyes]),((((((((af.rfl_.next E1).next E6).next E13).next E29).next E34).next E35).next E39).next E43)⟩)))))))))
     have hno:¬ (OkR k f t tm ix lt cm rd ok es a d dn):=fun h=>Q15 h.2.2.1
     refine ab rfl rfl (ab rfl rfl (aa (ao (v:=.bool _) rfl rfl) (asb rfl (ak (ag (an (an (ah (mvb rfl (aa (ch rfl) (ak (ag (cd rfl ?_)))))))))))));refine an (ah (asi rfl (ak (ag (aA (aI (bX (v:=.int _ _) rfl rfl (⟨bY (by rw [if_neg hno]),(((((((af.rfl_.next E1).next E6).next E13).next E29).next E34).next E35).next E39)⟩))))))))
    have hno:¬ (OkR k f t tm ix lt cm rd ok es a d dn):=fun h=>Q13 (hex.2 (hn ▸ h.2.1))
    refine ab rfl rfl (ab rfl rfl (aa (ao (v:=.bool _) rfl rfl) (mvb rfl (ab rfl rfl (ab rfl rfl (aa (ao (v:=.bool _) rfl rfl) (asb rfl (ak (ag (an (an (ah ?_))))))))))));refine mvb rfl (aa (ch rfl) (ak (ag (cd rfl (an (ah (asi rfl (ak (ag (aA (aI (bX (v:=.int _ _) rfl rfl (⟨bY (by rw [if_neg hno]),((((((af.rfl_.next E1).next E6).next E13).next E29).next E34).next E35)⟩)))))))))))))
   simp only [bK,bW,and_true] at Q10;have hno:¬ (OkR k f t tm ix lt cm rd ok es a d dn):=fun h=>Q10 (by have:=h.1;unfold ga at this;omega)
   refine ab rfl rfl (ab rfl rfl (ab rfl rfl (aa (ao (v:=.bool _) rfl rfl) (mvb rfl (ab rfl rfl (ab rfl rfl (aa (ao (v:=.bool _) rfl rfl) (mvb rfl ?_))))))));refine ab rfl rfl (ab rfl rfl (aa (ao (v:=.bool _) rfl rfl) (asb rfl (ak (ag (an (an (ah (mvb rfl (aa (ch rfl) (ak (ag (cd rfl ?_)))))))))))));refine an (ah (asi rfl (ak (ag (aA (aI (bX (v:=.int _ _) rfl rfl (⟨bY (by rw [if_neg hno]),((((af.rfl_.next E1).next E6).next E13).next E29)⟩))))))))
  simp only [bK,bW,and_true] at Q7;have hno:¬ (OkR k f t tm ix lt cm rd ok es a d dn):=fun h=>Q7 (by have:=h.1;unfold ga at this;omega)
  refine ab rfl rfl (ab rfl rfl (ab rfl rfl (ab rfl rfl (ab rfl rfl (ab rfl rfl (ab rfl rfl (ab rfl rfl (ab rfl rfl ?_))))))));refine ab rfl rfl (ab rfl rfl (ab rfl rfl (ab rfl rfl (ab rfl rfl (aa (ao (v:=.bool _) rfl rfl) (mvb rfl (ab rfl rfl (ab rfl rfl ?_))))))));refine ab rfl rfl (aa (ao (v:=.bool _) rfl rfl) (mvb rfl (ab rfl rfl (ab rfl rfl (aa (ao (v:=.bool _) rfl rfl) (mvb rfl (ab rfl rfl (ab rfl rfl ?_))))))));refine aa (ao (v:=.bool _) rfl rfl) (asb rfl (ak (ag (an (an (ah (mvb rfl (aa (ch rfl) (ak (ag (cd rfl (an (ah (asi rfl ?_))))))))))))));refine ak (ag (aA (aI (bX (v:=.int _ _) rfl rfl (⟨bY (by rw [if_neg hno]),(((af.rfl_.next E1).next E6).next E13)⟩)))))
 simp only [bK,bW,and_true] at Q4;have hno:¬ (OkR k f t tm ix lt cm rd ok es a d dn):=fun h=>Q4 (by have:=h.1;unfold ga at this;omega)
 refine ab rfl rfl (ab rfl rfl (ab rfl rfl (ab rfl rfl (ab rfl rfl (ab rfl rfl (aa (ao (v:=.bool _) rfl rfl) (mvb rfl (ab rfl rfl ?_))))))));refine ab rfl rfl (ab rfl rfl (ab rfl rfl (ab rfl rfl (ab rfl rfl (ab rfl rfl (ab rfl rfl (ab rfl rfl (ab rfl rfl ?_))))))));refine ab rfl rfl (ab rfl rfl (ab rfl rfl (ab rfl rfl (aa (ao (v:=.bool _) rfl rfl) (mvb rfl (ab rfl rfl (ab rfl rfl (ab rfl rfl ?_))))))));refine aa (ao (v:=.bool _) rfl rfl) (mvb rfl (ab rfl rfl (ab rfl rfl (aa (ao (v:=.bool _) rfl rfl) (mvb rfl (ab rfl rfl (ab rfl rfl (aa (ao (v:=.bool _) rfl rfl) ?_))))))));refine asb rfl (ak (ag (an (an (ah (mvb rfl (aa (ch rfl) (ak (ag (cd rfl (an (ah (asi rfl (ak (ag (aA (aI ?_)))))))))))))))));refine bX (v:=.int _ _) rfl rfl (⟨bY (by rw [if_neg hno]),((af.rfl_.next E1).next E6)⟩)
end Go.Proofs.YtmaaljhcojcjhaaDoor
namespace Go.Proofs.YtmaaljhcojcjhaaDoor.CM
abbrev W32:=BitVec 32
def ph:List W32→Nat→W32→W32
 |[],_,_=>0#32
 |c::r,i,x=>(if x.getLsbD i then c else 0#32) ^^^ ph r (i+1) x
structure Add (f:W32→W32):Prop where
 zero:f 0#32=0#32
 add:∀ a b,f (a ^^^ b)=f a ^^^ f b
def px:List W32:=(List.range' 0 32).map fun k=>1#32 <<< k
def od (r:W32×W32) (l:List (W32×W32)) (i:Nat):List (W32×W32):=l.map fun p=>if p.1.getLsbD i then (p.1 ^^^ r.1,p.2 ^^^ r.2) else p
def oo:Nat→Nat→List (W32×W32)→List (W32×W32)→List (W32×W32)
 |0,_,done,_=>done
 |n+1,i,done,todo=>
  match todo.find? (fun p=>p.1.getLsbD i) with
  |none=>done
  |some r=>oo n (i+1) (od r done i++[r]) (od r (todo.filter fun p=>p.1 != r.1) i)
def nU (f:W32→W32):List W32:=(oo 32 0 [] (px.map fun e=>(f e,e))).map (·.2)
def pE:List W32:=[0,498536548,997073096,651767980,1994146192,1802195444,1303535960,1342533948,3988292384,4027552580,3604390888,3412177804,2607071920,2262029012,2685067896,3183342108]
def tab (i:Nat):W32:=pE.getD i 0
def iC (c:W32):W32:=(c >>> 4) ^^^ tab (c &&& 15#32).toNat
def pt (c:W32):W32:=if c &&& 1#32=1#32 then (c >>> 1) ^^^ 3988292384#32 else c >>> 1
theorem pG (a:W32):(a &&& 15#32).toNat<16:=by
 rw [BitVec.toNat_and];exact Nat.lt_of_le_of_lt Nat.and_le_right (by decide)
def j7 (c:W32):W32:=iC (iC c)
def p1:W32→W32:=ph (nU j7) 0
def reg:W32→List Nat→W32
 |c,[]=>c
 |c,b::r=>reg (j7 (c ^^^ BitVec.ofNat 32 b)) r
theorem lE:∀ (l m:List Nat) (c:W32),reg c (l++m)=reg (reg c l) m
 |[],_,_=>rfl
 |x::r,m,c=>by simp only [List.cons_append,reg];exact lE r m _
end Go.Proofs.YtmaaljhcojcjhaaDoor.CM
