/- texts that the claim stands on. -/
import Derived.WalkKit
import Derived.WalkSpells
import Derived.OwnWalk
import Derived.Lib.Hide
import Derived.Still
import Derived.Deep.Draws
import Derived.Deep.LoopGhost
import Derived.Deep.MidRow
import Derived.Great.BuildSlice
import Derived.Test.YtaohnmneccbljaaGreatDoorProg
import Derived.WalkLawsBesides
import Derived.Deep.QuietTactic
import Derived.BigQuiet
import Derived.Deep.RegionHeld3
import Derived.KernelRfl
import Derived.Laws.AppendOwnNone
import Derived.Test.YtaohnmneccbljaaGreatDoorRows
import Derived.ProofKit
import Derived.Deep.Slices
import Derived.Deep.Fields
import Derived.ChangeSame
import Derived.SizedLaws
import Derived.Deep.DeepHandedRow
import Derived.Lib.LaidTab
import Derived.OpenShut
import Derived.Laws.CopyRow
import Derived.Lib.LazyBuf
import Derived.Lib.AppendZerosOnto
import Derived.Lib.Overlaps
import Derived.Sort.Walk0
set_option maxRecDepth 100000
set_option maxHeartbeats 4000000
namespace Go.Proofs.YtaohnmneccbljaaGreatDoor
open Go.Proofs.Tryz (prog)
open Go.RowKit
def aT:List (Nat×Value)→Nat→Value
 |[],_=>undef
 |(k,v)::r,i=>bif Nat.beq i k then v else aT r i
theorem bF (k:Nat) (v:Value) (r:List (Nat×Value)) (i:Nat):aT ((k,v)::r) i=if i=k then v else aT r i:=by
 show cond (Nat.beq i k) v (aT r i)=_;by_cases h:i=k
 ·subst h;simp
 ·have:Nat.beq i k=false:=by rw [←Bool.not_eq_true,Nat.beq_eq];exact h
  rw [this,if_neg h];rfl
def mkT (n:Nat) (L:List (Nat×Value)):Array Value:=Array.ofFn (n:=n) fun i=>aT L i
structure Fr where
 n:Nat
 ds:List Deferred
instance (k:Nat):OfNat Fr k:=⟨⟨k,[]⟩⟩
def mkA (n:Fr) (L:List (Nat×Value)):Act:={ tmps:=mkT n.n L,defers:=n.ds }
theorem ja (n:Nat) (L:List (Nat×Value)) (t:Nat):(mkT n L)[t]? =if t<n then some (aT L t) else none:=by
 unfold mkT;rw [Array.getElem?_ofFn];rfl
def ev (n:Fr) (L:List (Nat×Value)):Operand→Value
 | .tmp t=>bif Nat.blt t n.n then aT L t else undef
 | .const v=>v
 | .global g=>.pointer (some ⟨g,0,none⟩)
 | .func f=>.func (.func f) #[] #[]
theorem qB (t n:Nat):Nat.blt t n=decide (t<n):=by
 by_cases h:t<n
 ·rw [decide_eq_true h];exact Nat.ble_eq_true_of_le h
 ·rw [decide_eq_false h,←Bool.not_eq_true];intro h2;exact h (Nat.le_of_ble_eq_true h2)
theorem f_ (n:Nat) (L:List (Nat×Value)) (t:Nat):(mkT n L).getD t undef=bif Nat.blt t n then aT L t else undef:=by
 rw [Array.getD_eq_getD_getElem?,ja,qB];by_cases h:t<n
 ·simp [h]
 ·simp [h]
theorem cg (n:Fr) (L:List (Nat×Value)):(mkA n L).eval=ev n L:=by
 funext x
 cases x with
 |tmp t=>exact f_ n.n L t
 |_=>rfl
theorem kb {n:Nat} {L L':List (Nat×Value)} (h:∀ t,t<n→aT L t=aT L' t):mkT n L=mkT n L':=by
 unfold mkT
 congr 1
 funext i
 exact h i i.2
theorem fD {n:Fr} {L L':List (Nat×Value)} (h:∀ t,t<n.n→aT L t=aT L' t):mkA n L=mkA n L':=by
 unfold mkA;rw [kb h]
theorem ej (n:Fr) (L:List (Nat×Value)) (d:Nat) (v:Value):(mkA n L).put (some d) v=mkA n ((d,v)::L):=by
 show (⟨(mkT n.n L).setIfInBounds d v,n.ds⟩:Act)=⟨mkT n.n ((d,v)::L),n.ds⟩;obtain ⟨n,ds⟩:=n;show (⟨(mkT n L).setIfInBounds d v,ds⟩:Act)=⟨mkT n ((d,v)::L),ds⟩
 congr 1
 apply Array.ext_getElem?;intro i;rw [Array.getElem?_setIfInBounds,ja,ja,bF];by_cases h:i<n
 ·by_cases hd:d=i
  ·subst hd;have hs:(mkT n L).size=n:=by simp [mkT]
   simp [h,hs]
  ·have hd':¬ i=d:=fun e=>hd e.symm
   simp [hd,hd',h]
 ·by_cases hd:d=i
  ·subst hd;have hs:(mkT n L).size=n:=by simp [mkT]
   simp [h,hs]
  ·simp [hd,h]
def Ck:Option Nat→Value→List (Nat×Value)→List (Nat×Value)
 |some d,v,L=>(d,v)::L
 |none,_,L=>L
def pJ:Nat→List Value→List (Nat×Value)
 |_,[]=>[]
 |i,v::r=>(i,v)::pJ (i+1) r
theorem ta (l:List Value):∀ (i t:Nat),aT (pJ i l) t=if i≤t then (l[t-i]?).getD undef else undef:=by
 induction l with
 |nil=>intro i t;simp [pJ,aT]
 |cons v r ih=>
  intro i t;rw [pJ,bF,ih];by_cases h:t=i
  ·subst h;simp
  ·by_cases h2:i≤t
   ·have:t-i=(t-(i+1))+1:=by omega
    rw [if_neg h,if_pos h2,if_pos (by omega),this,List.getElem?_cons_succ]
   ·rw [if_neg h,if_neg h2,if_neg (by omega)]
theorem yz (n:Nat) (l:List Value) (h:l.length≤n):l.toArray++Array.replicate (n-l.toArray.size) undef=mkT n (pJ 0 l):=by
 apply Array.ext_getElem?;intro i;rw [ja,ta,Array.getElem?_append];simp only [List.size_toArray,List.getElem?_toArray,Nat.zero_le,if_true,Nat.sub_zero,Array.getElem?_replicate];by_cases h1:i<l.length
 ·rw [if_pos h1,if_pos (by omega),List.getElem?_eq_getElem h1];rfl
 ·rw [if_neg h1];by_cases h2:i<n
  ·rw [if_pos h2,if_pos (by omega),List.getElem?_eq_none (by omega)];rfl
  ·rw [if_neg h2,if_neg (by omega)]
theorem bD {k:IntKind} {a b:Int} (h:a=b):Value.int k a=Value.int k b:=by rw [h]
theorem gA {b:Bool} (h:(!b)=true):b=false:=by cases b <;> simp_all
theorem gB {b:Bool} (h:(!b)=false):b=true:=by cases b <;> simp_all
theorem iz {α:Type} [BEq α] [LawfulBEq α] {a b:α} (h:(a==b)=true):a=b:=eq_of_beq h
theorem iA {α:Type} [BEq α] [LawfulBEq α] {a b:α} (h:(a==b)=false):¬ a=b:=ne_of_beq_false h
theorem fI {α:Type} [BEq α] [LawfulBEq α] {a b:α} (h:(a != b)=true):¬ a=b:=by simpa using h
theorem fJ {α:Type} [BEq α] [LawfulBEq α] {a b:α} (h:(a != b)=false):a=b:=by simpa using h
structure Cd (P:Program) (c:Code) (Q:Exit→Act→World→Prop) (n:Fr) (L:List (Nat×Value)) (w:World):Prop where
 out:c.wp P Q (mkA n L) w
structure St (P:Program) (ops:Array Oper) (Q:Exit→Act→World→Prop) (rest:List Oper) (n:Fr) (L:List (Nat×Value)) (w:World):Prop where
 out:wpList P ops Q rest (mkA n L) w
def Rt (P:Program) (f:FuncId) (l:List Value) (w:World) (R:Value→World→Prop):Prop:=Calls P f l.toArray w fun e w'=>∃ v,e=.returned v∧R v w'
theorem Rt.mono {P:Program} {f:FuncId} {l:List Value} {w:World} {R R':Value→World→Prop} (h:Rt P f l w R) (hr:∀ v w',R v w'→R' v w'):Rt P f l w R':=
 Calls.mono h fun _ _ ⟨v,e,r⟩=>⟨v,e,hr v _ r⟩
theorem Rt.of {P:Program} {f:FuncId} {l:List Value} {w:World} {v:Value} {R:World→Prop} (h:Calls P f l.toArray w fun e w'=>e=.returned v∧R w'):Rt P f l w fun v' w'=>v'=v∧R w':=
 Calls.mono h fun _ _ ⟨e,r⟩=>⟨v,e,rfl,r⟩
theorem Rt.to {P:Program} {f:FuncId} {l:List Value} {w:World} {v:Value} {R:World→Prop} (h:Rt P f l w fun v' w'=>v'=v∧R w'):Calls P f l.toArray w fun e w'=>e=.returned v∧R w':=
 Calls.mono h fun _ _ ⟨_,e,e2,r⟩=>⟨by rw [e,e2],r⟩
section control
variable {P:Program} {Q:Exit→Act→World→Prop} {n:Fr} {L:List (Nat×Value)} {w:World}
theorem enter {f:FuncId} {fn:Func} {c:Code} {l:List Value} {R:Value→World→Prop} {n:Nat} (hf:P.funcs[f]? =some fn) (hb:fn.body=some c) (hn:fn.ntmps=n) (hl:Nat.ble l.length n=true)
 (h:Cd P c (bodyPost P fn fun e w'=>∃ v,e=.returned v∧R v w') ⟨n,[]⟩ (pJ 0 l) w):Rt P f l w R:=by
 refine calls_of_wp hf hb ?_;rw [hn,yz n l (Nat.le_of_ble_eq_true hl)];exact h.out
theorem aE (h:Q .normal (mkA n L) w):Cd P .skip Q n L w:=⟨wp_skip h⟩
theorem af {x y:Code} (h:Cd P x (Exit.then (fun a w=>y.wp P Q a w) Q) n L w):Cd P (.seq x y) Q n L w:=⟨wp_seq h.out⟩
theorem aP {id:Nat} {c:Code} (h:Cd P c (Exit.inBlock id Q) n L w):Cd P (.block id c) Q n L w:=⟨wp_block h.out⟩
theorem cx {id:Nat} (h:Q (.exit id) (mkA n L) w):Cd P (.exit id) Q n L w:=⟨wp_exit h⟩
theorem aC (h:Q .ret (mkA n L) w):Cd P .ret Q n L w:=⟨wp_ret h⟩
theorem aM {c:Operand} {x y:Code} {t:Bool} (hc:ev n L c=.bool t) (ht:t=true→Cd P x Q n L w) (hf:t=false→Cd P y Q n L w):Cd P (.cond c x y) Q n L w:=
 ⟨wp_cond_split (by rw [cg];exact hc) (fun h=>(ht h).out) (fun h=>(hf h).out)⟩
theorem BM {c:Operand} {x y:Code} {p:Prop} [Decidable p] (hc:ev n L c=.bool (decide p)) (ht:p→Cd P x Q n L w) (hf:¬ p→Cd P y Q n L w):Cd P (.cond c x y) Q n L w:=aM hc (fun h=>ht (of_decide_eq_true h)) (fun h=>hf (of_decide_eq_false h))
theorem BL {c:Operand} {x y:Code} {α:Type} [BEq α] [LawfulBEq α] {a b:α} (hc:ev n L c=.bool (a==b)) (ht:a=b→Cd P x Q n L w) (hf:¬ a=b→Cd P y Q n L w):Cd P (.cond c x y) Q n L w:=aM hc (fun h=>ht (iz h)) (fun h=>hf (iA h))
theorem BJ {c:Operand} {x y:Code} {α:Type} [BEq α] [LawfulBEq α] {a b:α} (hc:ev n L c=.bool (a != b)) (ht:¬ a=b→Cd P x Q n L w) (hf:a=b→Cd P y Q n L w):Cd P (.cond c x y) Q n L w:=aM hc (fun h=>ht (fI h)) (fun h=>hf (fJ h))
theorem BK {c:Operand} {x y:Code} {b:Bool} (hc:ev n L c=.bool (!b)) (ht:b=false→Cd P x Q n L w) (hf:b=true→Cd P y Q n L w):Cd P (.cond c x y) Q n L w:=aM hc (fun h=>ht (gA h)) (fun h=>hf (gB h))
theorem aY {c:Operand} {x y:Code} (hc:ev n L c=.bool true) (ht:Cd P x Q n L w):Cd P (.cond c x y) Q n L w:=
 ⟨wp_cond_true (by rw [cg];exact hc) ht.out⟩
theorem aI {c:Operand} {x y:Code} (hc:ev n L c=.bool false) (ht:Cd P y Q n L w):Cd P (.cond c x y) Q n L w:=
 ⟨wp_cond_false (by rw [cg];exact hc) ht.out⟩
theorem ab {id:Nat} {l:List Oper} (h:St P l.toArray Q l n L w):Cd P (.region id l.toArray false) Q n L w:=⟨wp_region_lit h.out⟩
theorem ah {ops:Array Oper} (h:Q .normal (mkA n L) w):St P ops Q [] n L w:=⟨h⟩
variable {y:Code} {K:Act→World→Prop} {a:Act}
theorem ae (h:Cd P y Q n L w):Exit.then (fun a w=>y.wp P Q a w) Q .normal (mkA n L) w:=h.out
theorem bI {id:Nat} (h:Q .normal a w):Exit.inBlock id Q .normal a w:=h
theorem bc {id:Nat} (h:Q (.exit id) a w):Exit.then K Q (.exit id) a w:=h
theorem bX {id:Nat} (h:Q .normal a w):Exit.inBlock id Q (.exit id) a w:=by
 show (if id=id then Q .normal a w else Q (.exit id) a w);rw [if_pos rfl];exact h
theorem aF (h:Q .ret a w):Exit.then K Q .ret a w:=h
theorem aW {id:Nat} (h:Q .ret a w):Exit.inBlock id Q .ret a w:=h
theorem bz {fn:Func} {m:Nat} {t:Nat} {R:Value→World→Prop} {v:Value} (hr:fn.results=#[.tmp t]) (hv:ev ⟨m,[]⟩ L (.tmp t)=v) (h:R v w) :
 bodyPost P fn (fun e w'=>∃ v,e=.returned v∧R v w') .ret (mkA ⟨m,[]⟩ L) w:=
 bodyPost_ret (results_tmp hr _ _ _) rfl ⟨v,by rw [←hv];exact congrArg Ending.returned (f_ m L t),h⟩
theorem gj {fn:Func} {m:Nat} {t u:Nat} {R:Value→World→Prop} {v v':Value} (hr:fn.results=#[.tmp t,.tmp u]) (hv:ev ⟨m,[]⟩ L (.tmp t)=v) (hv':ev ⟨m,[]⟩ L (.tmp u)=v') (h:R (.tuple #[v,v']) w) :
 bodyPost P fn (fun e w'=>∃ v,e=.returned v∧R v w') .ret (mkA ⟨m,[]⟩ L) w:=
 bodyPost_ret (results_tmp2 hr _ _ _) rfl ⟨.tuple #[v,v'],by rw [←hv,←hv'];show Ending.returned (.tuple #[(mkT m L).getD t undef,(mkT m L).getD u undef])=_;rw [f_,f_];rfl,h⟩
theorem xg {fn:Func} {m:Nat} {t u s:Nat} {R:Value→World→Prop} {v v' v'':Value} (hr:fn.results=#[.tmp t,.tmp u,.tmp s]) (hv:ev ⟨m,[]⟩ L (.tmp t)=v) (hv':ev ⟨m,[]⟩ L (.tmp u)=v') (hv'':ev ⟨m,[]⟩ L (.tmp s)=v'') (h:R (.tuple #[v,v',v'']) w) :
 bodyPost P fn (fun e w'=>∃ v,e=.returned v∧R v w') .ret (mkA ⟨m,[]⟩ L) w:=
 bodyPost_ret (results_tmp3 hr _ _ _) rfl ⟨.tuple #[v,v',v''],by rw [←hv,←hv',←hv''];show Ending.returned (.tuple #[(mkT m L).getD t undef,(mkT m L).getD u undef,(mkT m L).getD s undef])=_;rw [f_,f_,f_];rfl,h⟩
theorem zf {fn:Func} {m:Nat} {R:Value→World→Prop} (hr:fn.results=#[]) (h:R (.tuple #[]) w) :
 bodyPost P fn (fun e w'=>∃ v,e=.returned v∧R v w') .ret (mkA ⟨m,[]⟩ L) w:=
 bodyPost_ret (results_none hr _ _ _) rfl ⟨_,rfl,h⟩
theorem m_ {fn:Func} {R:Ending→World→Prop} (h:bodyPost P fn R .ret a w):bodyPost P fn R .normal a w:=h
end control
def Agr (Wr:List Nat) (L' L:List (Nat×Value)):Prop:=∀ t,Wr.elem t=false→aT L' t=aT L t
theorem bw {Wr:List Nat} {L:List (Nat×Value)}:Agr Wr L L:=fun _ _=>rfl
theorem bg {Wr:List Nat} {L' L:List (Nat×Value)} {d:Nat} {v:Value} (hd:Wr.elem d=true) (h:Agr Wr L' L):Agr Wr ((d,v)::L') L:=fun t ht=>by
 rw [bF,if_neg (fun e=>by subst e;rw [hd] at ht;cases ht)];exact h t ht
def wy (L':List (Nat×Value)):List (Nat×Value)→Prop
 |[]=>True
 |(t,v)::r=>aT L' t=v∧wy L' r
def Be (J:List Nat) (ρ:Nat→Value) (L:List (Nat×Value)):List (Nat×Value):=J.foldr (fun t r=>(t,ρ t)::r) L
theorem vB (J:List Nat) (ρ:Nat→Value) (L:List (Nat×Value)) (t:Nat):aT (Be J ρ L) t=if J.elem t then ρ t else aT L t:=by
 induction J with
 |nil=>rfl
 |cons j J ih=>
  show aT ((j,ρ j)::Be J ρ L) t=_;rw [bF,ih];by_cases h:t=j
  ·subst h;simp
  ·have:(j::J).elem t=J.elem t:=by simp [h]
   rw [if_neg h,this]
theorem xI (V L:List (Nat×Value)) (t:Nat):aT (V++L) t=if (V.map (·.1)).elem t then aT V t else aT L t:=by
 induction V with
 |nil=>rfl
 |cons x V ih=>
  obtain ⟨k,v⟩:=x;show aT ((k,v)::(V++L)) t=if ((k::V.map (·.1)).elem t) then aT ((k,v)::V) t else _
  rw [bF,bF,ih];by_cases h:t=k
  ·subst h;simp
  ·have:(k::V.map (·.1)).elem t=(V.map (·.1)).elem t:=by simp [h]
   rw [if_neg h,this,if_neg h]
theorem pL {L':List (Nat×Value)}:∀ {V:List (Nat×Value)},wy L' V→∀ t,(V.map (·.1)).elem t=true→aT L' t=aT V t
 |[],_,t,h=>by simp at h
 |(k,v)::V,⟨h1,h2⟩,t,h=>by
  rw [bF];by_cases e:t=k
  ·subst e;rw [if_pos rfl];exact h1
  ·rw [if_neg e];exact pL h2 t (by simpa [List.elem_cons,e] using h)
def hd (V:List (Nat×Value)) (J:List Nat) (ρ:Nat→Value) (L:List (Nat×Value)):List (Nat×Value):=V++Be J ρ L
theorem Ay {n:Fr} {V:List (Nat×Value)} {J:List Nat} {L' L:List (Nat×Value)} (hv:wy L' V) (hj:Agr (V.map (·.1)++J) L' L):mkA n L'=mkA n (hd V J (aT L') L):=by
 refine fD fun t _=>?_
 unfold hd;rw [xI,vB];by_cases h1:(V.map (·.1)).elem t=true
 ·rw [if_pos h1];exact pL hv t h1
 ·rw [if_neg h1];by_cases h2:J.elem t=true
  ·rw [if_pos h2]
  ·rw [if_neg h2];refine hj t ?_;rw [Bool.not_eq_true] at h1 h2;simp only [List.elem_eq_mem,decide_eq_false_iff_not] at h1 h2 ⊢;simp only [List.mem_append,not_or];exact ⟨h1,h2⟩
def At (n:Fr) (L:List (Nat×Value)) (J:List Nat) {G:Type} (V:G→List (Nat×Value)) (F:G→World→Prop) (a:Act) (w:World):Prop:=∃ g ρ,a=mkA n (hd (V g) J ρ L)∧F g w
theorem BP {n:Fr} {L L':List (Nat×Value)} {J:List Nat} {G:Type} {V:G→List (Nat×Value)} {F:G→World→Prop} {w:World} (g:G) (hv:wy L' (V g)) (hj:Agr ((V g).map (·.1)++J) L' L) (hF:F g w) :
 At n L J V F (mkA n L') w:=⟨g,aT L',Ay hv hj,hF⟩
section
variable {P:Program} {Q:Exit→Act→World→Prop} {n:Fr} {L:List (Nat×Value)} {w:World} {G:Type}
theorem kH {x y:Code} (J:List Nat) (V:G→List (Nat×Value)) (F:G→World→Prop) (hx:Cd P x (Exit.then (At n L J V F) Q) n L w)
 (hy:∀ g ρ w',F g w'→Cd P y Q n (hd (V g) J ρ L) w'):Cd P (.seq x y) Q n L w:=by
 refine ⟨wp_seq (wp_mono hx.out fun e a w' q=>?_)⟩
 cases e <;> first
  |exact q
  |(obtain ⟨g,ρ,rfl,hF⟩:=q;exact (hy g ρ w' hF).out)
theorem bW {L0:List (Nat×Value)} {J:List Nat} {V:G→List (Nat×Value)} {F:G→World→Prop} (g:G) (hv:wy L (V g)) (hj:Agr ((V g).map (·.1)++J) L L0) (hF:F g w):Exit.then (At n L0 J V F) Q .normal (mkA n L) w:=
 BP g hv hj hF
theorem cH {c:Code} (J:List Nat) (V:G→List (Nat×Value)) (F:G→World→Prop) (μ:G→Nat) (g0:G) (hv:wy L (V g0)) (hF:F g0 w)
 (round:∀ g ρ w',F g w'→Cd P c (Exit.then (At n L J V (fun g' w''=>F g' w''∧μ g'<μ g)) Q) n (hd (V g) J ρ L) w'):Cd P (.loop c) Q n L w:=by
 refine ⟨wp_loop_ghost (fun m a w=>At n L J V (fun g w=>F g w∧μ g=m) a w) (μ g0) ⟨g0,aT L,Ay hv fun t _=>rfl,hF,rfl⟩ ?_⟩;rintro m a w ⟨g,ρ,rfl,hF,rfl⟩;refine wp_mono (round g ρ w hF).out fun e a' w' q=>?_
 cases e <;> first
  |exact q
  |(obtain ⟨g',ρ',rfl,hF',hlt⟩:=q;exact ⟨μ g',hlt,g',ρ',rfl,hF',rfl⟩)
end
end Go.Proofs.YtaohnmneccbljaaGreatDoor
namespace Go.Proofs.YtaohnmneccbljaaGreatDoor
open Go.Proofs.Tryz (prog)
open Go.RowKit
def RO (P:Program) (ρ:Operand→Value) (op:Op) (w:World) (v:Value) (w':World):Prop:=
 ∀ dst ty pos after g,(execOp ρ ⟨dst,op,ty,pos,after,g⟩).run P w=.ok (.value v) w'
def RS (P:Program) (ρ:Operand→Value) (op:Op) (w w':World):Prop:=
 ∀ dst ty pos after g,(execOp ρ ⟨dst,op,ty,pos,after,g⟩).run P w=.ok .skip w'
def fK (P:Program) (t:TypeId):Option Bool:=(P.underlying t).map fun | .struct _ | .array _ _=>true | _=>false
def cS (P:Program) (t:TypeId):Option Nat:=(P.info? t).map (·.size)
def dq (P:Program) (t:TypeId):Option (Nat×Nat):=match P.underlying t with | some (.slice e)=>(P.info? e).map fun i=>(e,i.size) | _=>none
def Ac (P:Program) (t:TypeId):Option (Nat×Nat):=match P.underlying t with | some (.array n e)=>(P.info? e).map fun i=>(n,i.size) | _=>none
def ch (P:Program) (t:TypeId) (f:Nat):Option Nat:=match P.underlying t with
 |some (.struct fs)=>match fs[f]? with
  |some fl=>match P.info? fl.type with
   |some i=>if i.size=0 then none else some fl.offset
   |none=>none
  |none=>none
 |_=>none
def ij (P:Program) (t:TypeId):Option Value:=(P.info? t).bind (·.zero)
section
variable {P:Program} {ρ:Operand→Value} {w:World}
theorem nT {t:TypeId} {b:Bool} (h:fK P t=some b):(isAgg t).run P w=.ok b w:=by
 unfold fK at h;cases hu:P.underlying t with
 |none=>simp [hu] at h
 |some d=>
  rw [hu] at h;simp only [Option.map_some,Option.some.injEq] at h;subst h;unfold isAgg;rw [Sem.run_bind,run_underlying hu w];cases d <;> rfl
theorem dD {t:TypeId} {s:Nat} (h:cS P t=some s):(sizeOf t).run P w=.ok s w:=by
 unfold cS at h;cases hi:P.info? t with
 |none=>simp [hi] at h
 |some i=>
  simp only [hi,Option.map_some,Option.some.injEq] at h;simp [sizeOf,typeInfo,hi,h]
theorem yI {t:TypeId} {z:Value} (h:ij P t=some z):(zeroValue t).run P w=.ok z w:=by
 unfold ij at h;cases hi:P.info? t with
 |none=>simp [hi] at h
 |some i=>
  simp only [hi,Option.bind_some] at h;simp [zeroValue,typeInfo,hi,h]
theorem fS {t e s:Nat} (h:dq P t=some (e,s)):P.underlying t=some (.slice e)∧cS P e=some s:=by
 unfold dq at h;split at h
 ·rename_i e' hu;cases hi:P.info? e' with
  |none=>simp [hi] at h
  |some i=>
   simp only [hi,Option.map_some,Option.some.injEq,Prod.mk.injEq] at h;obtain ⟨rfl,rfl⟩:=h;exact ⟨hu,by simp [cS,hi]⟩
 ·cases h
theorem Bm {t n s:Nat} (h:Ac P t=some (n,s)):∃ e,P.underlying t=some (.array n e)∧cS P e=some s:=by
 unfold Ac at h;split at h
 ·rename_i n' e' hu;cases hi:P.info? e' with
  |none=>simp [hi] at h
  |some i=>
   simp only [hi,Option.map_some,Option.some.injEq,Prod.mk.injEq] at h;obtain ⟨rfl,rfl⟩:=h;exact ⟨e',hu,by simp [cS,hi]⟩
 ·cases h
theorem aB {x:Operand} {v:Value} (hx:ρ x=v):RO P ρ (.move x) w v w:=fun _ _ _ _ _=>by subst hx;rfl
theorem bn {x:Operand} {v:Value} (hx:ρ x=v):RO P ρ (.assign x) w v w:=fun _ _ _ _ _=>by subst hx;rfl
theorem aO {c x y:Operand} {v:Value} (hc:ρ c=.bool true) (hv:ρ x=v):RO P ρ (.pick c x y) w v w:=fun _ _ _ _ _=>by subst hv;simp [execOp,hc,asBool]
theorem aQ {c x y:Operand} {v:Value} (hc:ρ c=.bool false) (hv:ρ y=v):RO P ρ (.pick c x y) w v w:=fun _ _ _ _ _=>by subst hv;simp [execOp,hc,asBool]
variable {t yt:TypeId} {x y:Operand} {k:IntKind} {a b:Int}
theorem iX {op:BinOp} {u v r:Value} (hx:ρ x=u) (hy:ρ y=v) (hg:(eqGuard op t x y u v).run P w=.ok () w) (hr:(binOp op t u v).run P w=.ok r w):RO P ρ (.binOp op t x y yt) w r w:=fun _ _ _ _ _=>by
 subst hx;subst hy;simp [execOp,hg,hr]
theorem vG (op:BinOp):(eqGuard op t x y (.int k a) (.int k b)).run P w=.ok () w:=by unfold eqGuard;split <;> rfl
theorem fm {op:BinOp} {r:Value} (hx:ρ x=.int k a) (hy:ρ y=.int k b) (hr:(binOp op t (.int k a) (.int k b)).run P w=.ok r w):RO P ρ (.binOp op t x y yt) w r w:=
 iX hx hy (vG op) hr
theorem xf (hx:ρ x=.int k a) (hy:ρ y=.int k b):RO P ρ (.binOp .add t x y yt) w (.int k (k.wrap (a+b))) w:=fm hx hy (by simp [binOp,Op.intArith])
theorem AJ (hx:ρ x=.int k a) (hy:ρ y=.int k b):RO P ρ (.binOp .sub t x y yt) w (.int k (k.wrap (a-b))) w:=fm hx hy (by simp [binOp,Op.intArith])
theorem AM (hx:ρ x=.int k a) (hy:ρ y=.int k b):RO P ρ (.binOp .mul t x y yt) w (.int k (k.wrap (a*b))) w:=fm hx hy (by simp [binOp,Op.intArith])
theorem br (hx:ρ x=.int .i64 a) (hy:ρ y=.int .i64 b) (h:-9223372036854775808≤a+b∧a+b≤9223372036854775807):RO P ρ (.binOp .add t x y yt) w (.int .i64 (a+b)) w:=by
 have:=xf (P:=P) (ρ:=ρ) (w:=w) (t:=t) (yt:=yt) hx hy;rwa [IntWalk.i64_in _ h] at this
theorem dv (hx:ρ x=.int .i64 a) (hy:ρ y=.int .i64 b) (h:-9223372036854775808≤a-b∧a-b≤9223372036854775807):RO P ρ (.binOp .sub t x y yt) w (.int .i64 (a-b)) w:=by
 have:=AJ (P:=P) (ρ:=ρ) (w:=w) (t:=t) (yt:=yt) hx hy;rwa [IntWalk.i64_in _ h] at this
theorem nA (hx:ρ x=.int .i64 a) (hy:ρ y=.int .i64 b) (h:-9223372036854775808≤a*b∧a*b≤9223372036854775807):RO P ρ (.binOp .mul t x y yt) w (.int .i64 (a*b)) w:=by
 have:=AM (P:=P) (ρ:=ρ) (w:=w) (t:=t) (yt:=yt) hx hy;rwa [IntWalk.i64_in _ h] at this
theorem va {r:Int} (hx:ρ x=.int .i64 a) (hy:ρ y=.int .i64 b) (he:a+b=r) (h:-9223372036854775808≤r∧r≤9223372036854775807):RO P ρ (.binOp .add t x y yt) w (.int .i64 r) w:=by
 subst he;exact br hx hy h
theorem u4 {r:Int} (hx:ρ x=.int .i64 a) (hy:ρ y=.int .i64 b) (he:a-b=r) (h:-9223372036854775808≤r∧r≤9223372036854775807):RO P ρ (.binOp .sub t x y yt) w (.int .i64 r) w:=by
 subst he;exact dv hx hy h
theorem u6 {r:Int} (hx:ρ x=.int .i64 a) (hy:ρ y=.int .i64 b) (he:a*b=r) (h:-9223372036854775808≤r∧r≤9223372036854775807):RO P ρ (.binOp .mul t x y yt) w (.int .i64 r) w:=by
 subst he;exact nA hx hy h
theorem sS (hx:ρ x=.int k a) (hy:ρ y=.int k b) (hb:b≠0):RO P ρ (.binOp .quo t x y yt) w (.int k (k.wrap (a.tdiv b))) w:=fm hx hy (by simp [binOp,Op.intDiv,hb])
theorem w_ (hx:ρ x=.int k a) (hy:ρ y=.int k b) (hb:b≠0):RO P ρ (.binOp .rem t x y yt) w (.int k (a.tmod b)) w:=fm hx hy (by simp [binOp,Op.intDiv,hb])
theorem xa (hx:ρ x=.int .i64 a) (hy:ρ y=.int .i64 b) (h:0≤a∧a≤9223372036854775807∧0<b):RO P ρ (.binOp .quo t x y yt) w (.int .i64 (a/b)) w:=by
 have:=sS (P:=P) (ρ:=ρ) (w:=w) (t:=t) (yt:=yt) hx hy (by omega);have h2:a/b≤a:=Int.ediv_le_self b h.1;have h3:0≤a/b:=Int.ediv_nonneg h.1 (by omega)
 rwa [Int.tdiv_eq_ediv_of_nonneg h.1,IntWalk.i64_in _ (by omega)] at this
theorem AP (hx:ρ x=.int k a) (hy:ρ y=.int k b):RO P ρ (.binOp .and t x y yt) w (.int k (bits .and k a b)) w:=fm hx hy (by simp [binOp,intBits_and])
theorem Bz (hx:ρ x=.int k a) (hy:ρ y=.int k b):RO P ρ (.binOp .or t x y yt) w (.int k (bits .or k a b)) w:=fm hx hy (by simp [binOp,intBits_or])
theorem u_ (hx:ρ x=.int k a) (hy:ρ y=.int k b):RO P ρ (.binOp .andNot t x y yt) w (.int k (bits .andNot k a b)) w:=fm hx hy (by simp [binOp,intBits_andNot])
theorem AL {k':IntKind} (hx:ρ x=.int k a) (hy:ρ y=.int k' b) (h:0≤b):RO P ρ (.binOp .shl t x y yt) w (.int k (k.wrap (a*2 ^ (min b.toNat k.bits)))) w:=
 iX hx hy (by unfold eqGuard;rfl) (by
  have:¬ b<0:=by omega
  simp [binOp,Op.shift,this])
theorem AK {k':IntKind} (hx:ρ x=.int k a) (hy:ρ y=.int k' b) (h:0≤b):RO P ρ (.binOp .shr t x y yt) w (.int k (a.fdiv (2 ^ (min b.toNat k.bits)))) w:=
 iX hx hy (by unfold eqGuard;rfl) (by
  have:¬ b<0:=by omega
  simp [binOp,Op.shift,this])
theorem a7 (hx:ρ x=.int k a) (hy:ρ y=.int k b):RO P ρ (.binOp .eql t x y yt) w (.bool (a==b)) w:=fm hx hy (by simp [binOp,Op.intCmp])
theorem cv (hx:ρ x=.int k a) (hy:ρ y=.int k b):RO P ρ (.binOp .neq t x y yt) w (.bool (a != b)) w:=fm hx hy (by simp [binOp,Op.intCmp])
theorem cl (hx:ρ x=.int k a) (hy:ρ y=.int k b):RO P ρ (.binOp .lss t x y yt) w (.bool (decide (a<b))) w:=fm hx hy (by simp [binOp,Op.intCmp])
theorem kC (hx:ρ x=.int k a) (hy:ρ y=.int k b):RO P ρ (.binOp .leq t x y yt) w (.bool (decide (a≤b))) w:=fm hx hy (by simp [binOp,Op.intCmp])
theorem cn (hx:ρ x=.int k a) (hy:ρ y=.int k b):RO P ρ (.binOp .gtr t x y yt) w (.bool (decide (a>b))) w:=fm hx hy (by simp [binOp,Op.intCmp])
theorem gQ (hx:ρ x=.int k a) (hy:ρ y=.int k b):RO P ρ (.binOp .geq t x y yt) w (.bool (decide (a≥b))) w:=fm hx hy (by simp [binOp,Op.intCmp])
variable {p q:Bool} {s s':ByteArray}
theorem iW (hx:ρ x=.string s) (hy:ρ y=.string s'):RO P ρ (.binOp .eql t x y yt) w (.bool (s.toList==s'.toList)) w:=
 iX hx hy (by unfold eqGuard;rfl) (by simp [binOp,Op.stringOp])
theorem fb {r:Option Addr} (ht:P.underlying t=some (.pointer (P.pointee t))) (hx:ρ x=.pointer r) (hy:ρ y=.pointer none):RO P ρ (.binOp .eql t x y yt) w (.bool r.isNone) w:=
 iX hx hy (by unfold eqGuard;cases r <;> rfl) (run_eql_pointer_nil w t r ht)
theorem CN {r:Option Addr} (ht:P.underlying t=some (.pointer (P.pointee t))) (hx:ρ x=.pointer r) (hy:ρ y=.pointer none):RO P ρ (.binOp .neq t x y yt) w (.bool (!r.isNone)) w:=
 iX hx hy (by unfold eqGuard;cases r <;> rfl) (run_neq_pointer_nil w t r ht)
theorem bG (hx:ρ x=.bool p):RO P ρ (.unOp .not t x) w (.bool (!p)) w:=fun _ _ _ _ _=>by simp [execOp,hx,Op.unary]
theorem ui {src dst:TypeId} {k':IntKind} (hs:(P.underlying src).isSome=true) (hd:P.underlying dst=some (.int k')) (hx:ρ x=.int k a):RO P ρ (.convert src dst x) w (.int k' (k'.wrap a)) w:=fun _ _ _ _ _=>by
 obtain ⟨d,hd'⟩:=Option.isSome_iff_exists.mp hs;simp [execOp,hx,convert,run_underlying hd',run_underlying hd,Conv.intToInt]
theorem k6 {src dst:TypeId} {k':IntKind} {r:Int} (hs:(P.underlying src).isSome=true) (hd:P.underlying dst=some (.int k')) (hx:ρ x=.int k a) (hr:k'.wrap a=r):RO P ρ (.convert src dst x) w (.int k' r) w:=by
 subst hr;exact ui hs hd hx
theorem cf {a b:Nat} (hx:ρ x=.int .i64 (a:Nat)) (hy:ρ y=.int .i64 (b:Nat)) (h:a+b≤9223372036854775807):RO P ρ (.binOp .add t x y yt) w (.int .i64 ((a+b:Nat):Int)) w:=
 va hx hy (by omega) (by omega)
theorem kZ {a b:Nat} (hx:ρ x=.int .i64 (a:Nat)) (hy:ρ y=.int .i64 (b:Nat)) (h:b≤a∧a≤9223372036854775807):RO P ρ (.binOp .sub t x y yt) w (.int .i64 ((a-b:Nat):Int)) w:=
 u4 hx hy (by omega) (by omega)
theorem p8 {a b:Nat} (hx:ρ x=.int .i64 (a:Nat)) (hy:ρ y=.int .i64 (b:Nat)) (h:a*b≤9223372036854775807):RO P ρ (.binOp .mul t x y yt) w (.int .i64 ((a*b:Nat):Int)) w:=
 u6 hx hy (by rw [Int.natCast_mul]) (by omega)
theorem za {a b:Nat} (hx:ρ x=.int .i64 (a:Nat)) (hy:ρ y=.int .i64 (b:Nat)) (h:0<b∧a≤9223372036854775807):RO P ρ (.binOp .quo t x y yt) w (.int .i64 ((a/b:Nat):Int)) w:=by
 have:=xa (P:=P) (ρ:=ρ) (w:=w) (t:=t) (yt:=yt) hx hy (by omega)
 rwa [←Int.natCast_ediv] at this
theorem ug {a b:Nat} {k k':IntKind} (hx:ρ x=.int k (a:Nat)) (hy:ρ y=.int k' (b:Nat)) (h:b≤k.bits):RO P ρ (.binOp .shr t x y yt) w (.int k ((a/2 ^ b:Nat):Int)) w:=by
 have:=AK (P:=P) (ρ:=ρ) (w:=w) (t:=t) (yt:=yt) hx hy (by omega);have e:min ((b:Nat):Int).toNat k.bits=b:=by rw [Int.toNat_natCast];omega
 rw [e] at this
 have e2:((a:Nat):Int).fdiv (2 ^ b)=((a/2 ^ b:Nat):Int):=by
  rw [Int.fdiv_eq_ediv_of_nonneg _ (Int.pow_nonneg (by decide)),Int.natCast_ediv]
  norm_cast
 rwa [e2] at this
theorem pg {src dst:TypeId} {a:Nat} {k:IntKind} (hs:(P.underlying src).isSome=true) (hd:P.underlying dst=some (.int .u64)) (hx:ρ x=.int k (a:Nat)) (h:a<2 ^ 64):RO P ρ (.convert src dst x) w (.int .u64 (a:Nat)) w:=
 k6 hs hd hx (IntWalk.u64_in _ (by omega))
theorem jE {src dst:TypeId} {a:Nat} {k:IntKind} (hs:(P.underlying src).isSome=true) (hd:P.underlying dst=some (.int .i64)) (hx:ρ x=.int k (a:Nat)) (h:a≤9223372036854775807):RO P ρ (.convert src dst x) w (.int .i64 (a:Nat)) w:=
 k6 hs hd hx (IntWalk.i64_in _ (by omega))
theorem xe {src dst:TypeId} {a:Nat} {k:IntKind} (hs:(P.underlying src).isSome=true) (hd:P.underlying dst=some (.int .u8)) (hx:ρ x=.int k (a:Nat)):RO P ρ (.convert src dst x) w (.int .u8 ((a%256:Nat):Int)) w:=
 k6 hs hd hx (by rw [IntKind.wrap_u8];omega)
variable {A:Option Addr} {ad:Addr} {n c:Nat}
theorem bb (ht:(dq P t).isSome=true) (hx:ρ x=.slice A n c):RO P ρ (.call { callee:=.builtin .len,args:=#[x],argTypes:=#[t] }) w (.int .i64 n) w:=fun _ _ _ _ _=>by
 obtain ⟨⟨e,sz⟩,he⟩:=Option.isSome_iff_exists.mp ht;obtain ⟨hu,_⟩:=fS he;simp [BigFrame.execOp_builtin,BigFrame.builtin_len,Builtin.len_,run_underlying hu,hx,goInt]
theorem im (ht:P.underlying t=some .string) (hx:ρ x=.string s):RO P ρ (.call { callee:=.builtin .len,args:=#[x],argTypes:=#[t] }) w (.int .i64 s.size) w:=fun _ _ _ _ _=>by
 simp [BigFrame.execOp_builtin,BigFrame.builtin_len,Builtin.len_,run_underlying ht,hx,goInt]
theorem au (hx:ρ x=.pointer (some ad)):RO P ρ (.nilCheck x) w (.pointer (some ad)) w:=fun _ _ _ _ _=>by simp [execOp,hx]
theorem ai {f o b off:Nat} (hf:ch P t f=some o) (hx:ρ x=.pointer (some ⟨b,off,none⟩)):RO P ρ (.fieldAddr t x f) w (.pointer (some ⟨b,off+o,none⟩)) w:=fun _ _ _ _ _=>by
 unfold ch at hf;split at hf
 ·rename_i fs hu;split at hf
  ·rename_i fl hfl;split at hf
   ·rename_i i hi;split at hf
    ·cases hf
    ·rename_i hs;obtain rfl:=Option.some.inj hf;simp [execOp,hx,Instr.fieldAt,run_underlying hu,hfl,Instr.sureAddr,fieldPlace,sizeOf,typeInfo,hi,hs,Addr.add_mid]
   ·cases hf
  ·cases hf
 ·cases hf
theorem cm {e sz b off:Nat} {i:Int} {k:IntKind} (ht:dq P t=some (e,sz)) (hx:ρ x=.slice (some ⟨b,off,none⟩) n c) (hy:ρ y=.int k i) (h:0≤i∧i<n) :
 RO P ρ (.indexAddr t x y) w (.pointer (some ⟨b,off+i.toNat*sz,none⟩)) w:=fun _ _ _ _ _=>by
 obtain ⟨hu,hs⟩:=fS ht;simp [execOp,hx,hy,Instr.indexAt,asIntOf,run_underlying hu,h,dD hs,Addr.add_mid]
theorem bf {e sz b off i:Nat} {k:IntKind} (ht:dq P t=some (e,sz)) (hx:ρ x=.slice (some ⟨b,off,none⟩) n c) (hy:ρ y=.int k (i:Nat)) (h:i<n) :
 RO P ρ (.indexAddr t x y) w (.pointer (some ⟨b,off+i*sz,none⟩)) w:=cm ht hx hy ⟨by omega,by omega⟩
theorem dM {e b off i:Nat} {k:IntKind} (ht:dq P t=some (e,1)) (hx:ρ x=.slice (some ⟨b,off,none⟩) n c) (hy:ρ y=.int k (i:Nat)) (h:i<n) :
 RO P ρ (.indexAddr t x y) w (.pointer (some ⟨b,off+i,none⟩)) w:=by
 have:=bf (P:=P) (ρ:=ρ) (w:=w) ht hx hy h
 rwa [Nat.mul_one] at this
theorem kr {m sz b off:Nat} {i:Int} {k:IntKind} (ht:Ac P t=some (m,sz)) (hx:ρ x=.pointer (some ⟨b,off,none⟩)) (hy:ρ y=.int k i) (h:0≤i∧i<m) :
 RO P ρ (.indexAddr t x y) w (.pointer (some ⟨b,off+i.toNat*sz,none⟩)) w:=fun _ _ _ _ _=>by
 obtain ⟨e,hu,hs⟩:=Bm ht;simp [execOp,hx,hy,Instr.indexAt,asIntOf,run_underlying hu,Instr.sureAddr,h,dD hs,Addr.add_mid]
theorem u7 {i:Int} {k:IntKind} (ht:P.underlying t=some .string) (hx:ρ x=.string s) (hy:ρ y=.int k i) (h0:0≤i) {u:UInt8} (hu:s[i.toNat]? =some u) :
 RO P ρ (.index t x y) w (.int .u8 u.toNat) w:=fun _ _ _ _ _=>by
 simp [execOp,hx,hy,Instr.index,asIntOf,run_underlying ht,h0,hu]
theorem ao {v:Value} (ht:fK P t=some false) (hx:ρ x=.pointer (some ad)) (hc:w.cell? ad=some v):RO P ρ (.load t x) w v w:=fun _ _ _ _ _=>by
 simp [execOp,hx,Instr.loadAt,Instr.sureAddr,loadVar,nT ht,hc]
theorem aG {b off:Nat} {cs:List Value} (ht:fK P t=some true) (hs:cS P t=some cs.length) (hx:ρ x=.pointer (some ⟨b,off,none⟩)) (hc:w.rangeAt b off cs):RO P ρ (.load t x) w (.agg cs.toArray) w:=fun _ _ _ _ _=>by
 have hl:(loadCells ⟨b,off,none⟩ cs.length).run P w=.ok cs.toArray w:=
  run_loadCells_list (P:=P) w ⟨b,off,none⟩ cs (fun j v hv=>by rw [Addr.add_mid];exact hc j v hv)
 simp [execOp,hx,Instr.loadAt,Instr.sureAddr,loadVar,nT ht,dD hs,hl]
theorem kX {v u:Value} (ht:cS P t=some 1) (hx:ρ x=.pointer (some ad)) (hy:ρ y=v) (h1:v.oneCell'=true) (hc:w.cell? ad=some u) (hf:w.frozen? ad=false):RS P ρ (.store t x y) w (w.setCell ad v):=fun _ _ _ _ _=>by
 have hcs:v.cells=#[v]:=by cases v <;> first | rfl | (simp [Value.oneCell'] at h1)
 have hst:=run_store P w ad v .plain h1;rw [hc] at hst;simp only [hf] at hst;have e0:ad.add 0=ad:=by unfold Addr.add;simp
 simp [execOp,hx,hy,Instr.storeAt,Instr.sureAddr,storeVar,dD ht,hcs,storeCells,e0,hst]
theorem pf {b off:Nat} {cs:List Value} (hs:cS P t=some cs.length) (hx:ρ x=.pointer (some ⟨b,off,none⟩)) (hy:ρ y=.agg cs.toArray) (h1:∀ v∈cs,v.oneCell'=true) (hc:w.there b off cs.length) :
 RS P ρ (.store t x y) w (w.setCells b off cs):=fun _ _ _ _ _=>by
 have hr:=run_storeAt_mid (P:=P) w b off t cs.toArray (by simpa using hc) (by simpa [cS] using hs) (all_oneCell_toArray h1);simp [execOp,hx,hy,hr]
theorem k7 {z:Value} (hz:ij P t=some z):RO P ρ (.alloc t) w (.pointer (some ⟨w.heap.size,0,none⟩)) (w.alloc (.cells z.cells t)):=fun _ _ _ _ _=>by
 simp [execOp,Instr.alloc,yI hz,newVar,newRow]
theorem AO {v:Value} (hx:ρ x=v):RO P ρ (.box t x) w (.pointer (some ⟨w.heap.size,0,none⟩)) (w.alloc (.cells v.cells t)):=fun _ _ _ _ _=>by
 simp [execOp,Instr.box,hx,newVar,newRow]
theorem bN {l:List (Nat×Operand)} {cells:Array Value} (h:P.built t (l.map fun p=>(p.1,ρ p.2))=some cells):RO P ρ (.build t l.toArray) w (.agg cells) w:=fun _ _ _ _ _=>by
 have:=run_build (P:=P) w t ((l.map fun p=>(p.1,ρ p.2)).toArray) cells (by simpa using h);simp only [execOp,List.map_toArray,Sem.run_bind];rw [this];rfl
theorem oQ {e m:Nat} {l:List (Nat×Operand)} {cells:Array Value} {ie:TypeInfo} {z:Value} (hu:P.underlying t=some (.slice e)) (hie:P.info? e=some ie) (hz:ie.zero=some z) (hsmall:¬ m*ie.size>2 ^ 24) (hpos:¬ m*ie.size=0)
 (hf:Instr.fill (fun i=>some (i*ie.size,ie.size)) ((Array.range (m*ie.size)).map (z.cells[·%z.cells.size]!)) (l.map fun p=>(p.1,ρ p.2))=some cells) :
 RO P ρ (.buildSlice t m l.toArray) w (.slice (some ⟨w.heap.size,0,none⟩) m m) (w.alloc (.cells cells e)):=fun _ _ _ _ _=>by
 have:=run_buildSlice (P:=P) w t e m ((l.map fun p=>(p.1,ρ p.2)).toArray) cells ie z hu hie hz hsmall hpos (by simpa using hf);simp only [execOp,List.map_toArray,Sem.run_bind];rw [this];rfl
theorem ar {i:Nat} {l:List Value} {v:Value} (hx:ρ x=.tuple l.toArray) (hv:l[i]? =some v):RO P ρ (.extract x i) w v w:=fun _ _ _ _ _=>by
 simp [execOp,hx,Instr.extract,hv]
end
section steps
variable {P:Program} {ops:Array Oper} {Q:Exit→Act→World→Prop} {rest:List Oper} {n:Fr} {L:List (Nat×Value)} {w w':World} {op:Op} {ty:TypeId} {pos:String} {after:Array Edge} {d:Nat}
theorem aa {v:Value} (hr:RO P (ev n L) op w v w') (k:St P ops Q rest n ((d,v)::L) w'):St P ops Q (⟨some d,op,ty,pos,after,none⟩::rest) n L w:=by
 refine ⟨wpList_plain rfl fun K hK=>?_⟩;unfold Oper.wp;rw [cg,hr];rw [Oper.upon_value,ej];exact hK _ _ k.out
theorem nn (hr:RS P (ev n L) op w w') (k:St P ops Q rest n L w'):St P ops Q (⟨none,op,ty,pos,after,none⟩::rest) n L w:=by
 refine ⟨wpList_plain rfl fun K hK=>?_⟩;unfold Oper.wp;rw [cg,hr];rw [Oper.upon_skip];exact hK _ _ k.out
def jH:List Oper→Nat→Option Nat
 |[],_=>none
 |o::_,0=>o.dst
 |_::r,j+1=>jH r j
theorem lX:∀ (l:List Oper) (j:Nat),jH l j=(l[j]?).bind (·.dst)
 |[],_=>by simp [jH]
 |o::_,0=>by simp [jH]
 |_::r,j+1=>by simpa [jH] using lX r j
def iH (ops:Array Oper) (n:Fr) (L:List (Nat×Value)) (j:Nat):Value:=match jH ops.toList j with | some t=>ev n L (.tmp t) | none=>undef
theorem fa {j:Nat} {b:Bool} (h:iH ops n L j=.bool b):yielded ops (mkT n.n L) j=some b:=by
 unfold iH at h;rw [lX,Array.getElem?_toList] at h;unfold yielded;cases hd:(ops[j]?).bind (·.dst) with
 |none=>rw [hd] at h;simp [undef] at h
 |some t=>
  rw [hd] at h;simp only [Option.bind_some,ja];simp only [ev,qB] at h;by_cases ht:t<n.n
  ·simp only [ht,decide_true,cond_true] at h;simp [ht,h]
  ·simp [ht,undef] at h
theorem mvi {x:Operand} {k:IntKind} {a:Int} (hx:ev n L x=.int k a) (h:St P ops Q rest n ((d,.int k a)::L) w):St P ops Q (⟨some d,.move x,ty,pos,after,none⟩::rest) n L w:=aa (aB hx) h
theorem mvs {x:Operand} {A:Option Addr} {m c:Nat} (hx:ev n L x=.slice A m c) (h:St P ops Q rest n ((d,.slice A m c)::L) w):St P ops Q (⟨some d,.move x,ty,pos,after,none⟩::rest) n L w:=aa (aB hx) h
theorem mvb {x:Operand} {b:Bool} (hx:ev n L x=.bool b) (h:St P ops Q rest n ((d,.bool b)::L) w):St P ops Q (⟨some d,.move x,ty,pos,after,none⟩::rest) n L w:=aa (aB hx) h
theorem mvp {x:Operand} {A:Option Addr} (hx:ev n L x=.pointer A) (h:St P ops Q rest n ((d,.pointer A)::L) w):St P ops Q (⟨some d,.move x,ty,pos,after,none⟩::rest) n L w:=aa (aB hx) h
theorem mvt {x:Operand} {l:Array Value} (hx:ev n L x=.tuple l) (h:St P ops Q rest n ((d,.tuple l)::L) w):St P ops Q (⟨some d,.move x,ty,pos,after,none⟩::rest) n L w:=aa (aB hx) h
theorem mvg {x:Operand} {s:ByteArray} (hx:ev n L x=.string s) (h:St P ops Q rest n ((d,.string s)::L) w):St P ops Q (⟨some d,.move x,ty,pos,after,none⟩::rest) n L w:=aa (aB hx) h
theorem asi {x:Operand} {k:IntKind} {a:Int} (hx:ev n L x=.int k a) (h:St P ops Q rest n ((d,.int k a)::L) w):St P ops Q (⟨some d,.assign x,ty,pos,after,none⟩::rest) n L w:=aa (bn hx) h
theorem ass {x:Operand} {A:Option Addr} {m c:Nat} (hx:ev n L x=.slice A m c) (h:St P ops Q rest n ((d,.slice A m c)::L) w):St P ops Q (⟨some d,.assign x,ty,pos,after,none⟩::rest) n L w:=aa (bn hx) h
theorem asb {x:Operand} {b:Bool} (hx:ev n L x=.bool b) (h:St P ops Q rest n ((d,.bool b)::L) w):St P ops Q (⟨some d,.assign x,ty,pos,after,none⟩::rest) n L w:=aa (bn hx) h
theorem asp {x:Operand} {A:Option Addr} (hx:ev n L x=.pointer A) (h:St P ops Q rest n ((d,.pointer A)::L) w):St P ops Q (⟨some d,.assign x,ty,pos,after,none⟩::rest) n L w:=aa (bn hx) h
theorem asg {x:Operand} {s:ByteArray} (hx:ev n L x=.string s) (h:St P ops Q rest n ((d,.string s)::L) w):St P ops Q (⟨some d,.assign x,ty,pos,after,none⟩::rest) n L w:=aa (bn hx) h
theorem aA {j:Nat} {b b':Bool} (hg:iH ops n L j=.bool b') (hb:(b'==b)=false) (k:St P ops Q rest n ((d,undef)::L) w):St P ops Q (⟨some d,op,ty,pos,after,some (j,b)⟩::rest) n L w:=by
 refine ⟨wpList_step fun K hK=>?_⟩
 have hw:Region.wanted ⟨some d,op,ty,pos,after,some (j,b)⟩ (yielded ops (mkA n L).tmps)=false:=by
  show (yielded ops (mkT n.n L) j==some b)=false;rw [fa hg];simpa using hb
 rw [if_neg (by rw [hw];simp),ej];exact hK _ _ k.out
theorem kp {j:Nat} (h:iH ops n L j=undef):yielded ops (mkT n.n L) j=none:=by
 unfold iH at h;rw [lX,Array.getElem?_toList] at h;unfold yielded;cases hd:(ops[j]?).bind (·.dst) with
 |none=>rfl
 |some t=>
  rw [hd] at h;simp only [Option.bind_some,ja];simp only [ev,qB] at h;by_cases ht:t<n.n
  ·simp only [ht,decide_true,cond_true] at h;rw [if_pos ht,h];rfl
  ·simp [ht]
theorem dC {j:Nat} {b:Bool} (hg:iH ops n L j=undef) (k:St P ops Q rest n ((d,undef)::L) w):St P ops Q (⟨some d,op,ty,pos,after,some (j,b)⟩::rest) n L w:=by
 refine ⟨wpList_step fun K hK=>?_⟩
 have hw:Region.wanted ⟨some d,op,ty,pos,after,some (j,b)⟩ (yielded ops (mkA n L).tmps)=false:=by
  show (yielded ops (mkT n.n L) j==some b)=false;rw [kp hg];rfl
 rw [if_neg (by rw [hw];simp),ej];exact hK _ _ k.out
theorem ak {dst:Option Tmp} {j:Nat} {b:Bool} (hg:iH ops n L j=.bool b) (k:St P ops Q (⟨dst,op,ty,pos,after,none⟩::rest) n L w):St P ops Q (⟨dst,op,ty,pos,after,some (j,b)⟩::rest) n L w:=by
 have hw:Region.wanted ⟨dst,op,ty,pos,after,some (j,b)⟩ (yielded ops (mkA n L).tmps)=true:=by
  show (yielded ops (mkT n.n L) j==some b)=true;rw [fa hg];simp
 have hk:=k.out;constructor;unfold wpList at hk ⊢;rw [if_pos hw];exact hk
theorem a_ {t:Nat} {e:Bool} (h:aT L t=.bool e) (hT:e=true→St P ops Q rest n ((t,.bool true)::L) w) (hF:e=false→St P ops Q rest n ((t,.bool false)::L) w):St P ops Q rest n L w:=by
 have key:∀ v,aT L t=v→mkA n ((t,v)::L)=mkA n L:=fun v hv=>fD fun i _=>by
  rw [bF];split
  ·rename_i hi;subst hi;exact hv.symm
  ·rfl
 cases e with
 |true=>have:=(hT rfl).out;rw [key _ h] at this;exact ⟨this⟩
 |false=>have:=(hF rfl).out;rw [key _ h] at this;exact ⟨this⟩
theorem Bs {t:Nat} {p:Prop} [Decidable p] (hc:aT L t=.bool (decide p)) (ht:p→St P ops Q rest n ((t,.bool true)::L) w) (hf:¬ p→St P ops Q rest n ((t,.bool false)::L) w):St P ops Q rest n L w:=a_ hc (fun h=>ht (of_decide_eq_true h)) (fun h=>hf (of_decide_eq_false h))
theorem Br {t:Nat} {α:Type} [BEq α] [LawfulBEq α] {a b:α} (hc:aT L t=.bool (a==b)) (ht:a=b→St P ops Q rest n ((t,.bool true)::L) w) (hf:¬ a=b→St P ops Q rest n ((t,.bool false)::L) w):St P ops Q rest n L w:=a_ hc (fun h=>ht (iz h)) (fun h=>hf (iA h))
theorem Bp {t:Nat} {α:Type} [BEq α] [LawfulBEq α] {a b:α} (hc:aT L t=.bool (a != b)) (ht:¬ a=b→St P ops Q rest n ((t,.bool true)::L) w) (hf:a=b→St P ops Q rest n ((t,.bool false)::L) w):St P ops Q rest n L w:=a_ hc (fun h=>ht (fI h)) (fun h=>hf (fJ h))
theorem Bq {t:Nat} {b:Bool} (hc:aT L t=.bool (!b)) (ht:b=false→St P ops Q rest n ((t,.bool true)::L) w) (hf:b=true→St P ops Q rest n ((t,.bool false)::L) w):St P ops Q rest n L w:=a_ hc (fun h=>ht (gA h)) (fun h=>hf (gB h))
theorem iI {t:Nat} {v v':Value} (h:aT L t=v) (he:v=v') (k:St P ops Q rest n ((t,v')::L) w):St P ops Q rest n L w:=by
 have key:mkA n ((t,v')::L)=mkA n L:=fD fun i _=>by
  rw [bF];split
  ·rename_i hi;subst hi;rw [h,he]
  ·rfl
 have:=k.out;rw [key] at this;exact ⟨this⟩
def aH (P : Program) (f : FuncId) : Bool := match P.funcs[f]? with | some fn => !(fn.name == "runtime.NumGoroutine") && fn.body.isSome | none => false
theorem fk {f:FuncId} (hf:aH P f=true) (args:Array Value):(callFunc f args).run P w=.ok (.enter f args) w:=by
 unfold aH at hf;cases h:P.funcs[f]? with
 |none=>simp [h] at hf
 |some fn=>
  simp only [h,Bool.and_eq_true,Bool.not_eq_true'] at hf;have hb:fn.body.isNone=false:=by cases hb:fn.body <;> simp_all
  simp only [callFunc,Sem.run_bind,run_program,Result.andThen_ok,h,hf.1,hb,Bool.false_eq_true,if_false];rfl
theorem fc {ρ:Operand→Value} (hρ:∀ f,ρ (.func f)=.func (.func f) #[] #[]) {f:FuncId} {l:List Operand} {ats:Array TypeId} {g:Option (Nat×Bool)} {dst:Option Tmp} :
 execOp ρ ⟨dst,.call { callee:=.value (.func f),args:=l.toArray,argTypes:=ats },ty,pos,after,g⟩=callFunc f (l.map ρ).toArray:=by
 have:execOp ρ ⟨dst,.call { callee:=.value (.func f),args:=l.toArray,argTypes:=ats },ty,pos,after,g⟩=(do let d ←Deferred.ofValue (ρ (.func f)) (l.toArray.map ρ);invoke d.target d.args):=rfl;rw [this,hρ];show callFunc f (#[]++l.toArray.map ρ++#[])=_;simp
theorem av {f:FuncId} {l:List Operand} {ats:Array TypeId} {R:Value→World→Prop} (hf:aH P f=true) (hc:Rt P f (l.map (ev n L)) w R) (k:∀ v w',R v w'→St P ops Q rest n ((d,v)::L) w') :
 St P ops Q (⟨some d,.call { callee:=.value (.func f),args:=l.toArray,argTypes:=ats },ty,pos,after,none⟩::rest) n L w:=by
 refine ⟨wpList_plain rfl fun K hK=>?_⟩;unfold Oper.wp;rw [cg,fc (fun _=>rfl),fk hf,Oper.upon_enter];refine Calls.mono hc fun e w' ⟨v,he,hR⟩=>?_
 subst he;show K ((mkA n L).put (some d) v) w';rw [ej];exact hK _ _ (k v w' hR).out
end steps
end Go.Proofs.YtaohnmneccbljaaGreatDoor
namespace Go.Proofs.YtaohnmneccbljaaGreatDoor
open Go.Proofs.Tryz (prog)
open Go.RowKit
theorem dT_ {p:Prop} [i:Decidable p]:decide p=true→p:=of_decide_eq_true
theorem dF_ {p:Prop} [i:Decidable p]:decide p=false→¬p:=of_decide_eq_false
abbrev ag (a w:World):Prop:=Below a.heap.size a w
section
variable {a b w w':World}
theorem ag.rfl_:ag a a:=Below.refl _ _
theorem ag.new (h:ag a w) (o:Obj):ag a (w.alloc o):=Below.alloc h h.size o
theorem ag.dn (h:ag a w) (n:Nat):ag a (w.drewN n):=below_drewN h n
theorem ag.d1 (h:ag a w):ag a w.drew:=Below.drew h
theorem ag.next (h:ag a w) (k:ag w w'):ag a w':=Below.trans h (Below.mono k h.size)
theorem ag.set_ (h:ag a w) {p:Addr} (hp:a.heap.size≤p.block) (u:Value):ag a (w.setCell p u):=Below.setCell h hp u
theorem ag.grew (h:ag a w) {row:Option Nat} (hg:w.grownBy w' row) (hr:∀ k,row=some k→a.heap.size≤k):ag a w':=Below.grown h hg h.size hr
theorem ag.cells (h:ag a w):∀ k o,k<a.heap.size→w.cell? ⟨k,o,none⟩=a.cell? ⟨k,o,none⟩:=fun k o hk=>Below.cell (p:=⟨k,o,none⟩) h hk
end
theorem uj {k:IntKind} {a b:Int} (h:a=b):Ending.returned (.int k a)=.returned (.int k b):=by rw [h]
def Blk (w:World) (g:Nat) (t:TypeId) (cs:Array Value):Prop:=w.heap[g]? =some (.cells cs t (0,0))
section
variable {w w':World} {g:Nat} {t:TypeId} {cs:Array Value}
theorem Blk.lt (h:Blk w g t cs):g<w.heap.size:=by
 rcases Nat.lt_or_ge g w.heap.size with hlt | hge
 ·exact hlt
 ·unfold Blk at h;rw [Array.getElem?_eq_none hge] at h;cases h
theorem Blk.cell (h:Blk w g t cs) (i:Nat):w.cell? ⟨g,i,none⟩=cs[i]? :=cell_of_row w g i cs t (0,0) h
theorem Blk.frozen (h:Blk w g t cs) (i:Nat):w.frozen? ⟨g,i,none⟩=false:=by
 unfold Blk at h;simp [World.frozen?,h]
theorem Blk.new (w:World) (t:TypeId) (cs:Array Value):Blk (w.alloc (.cells cs t)) w.heap.size t cs:=heap_alloc_new w _
theorem Blk.alloc (h:Blk w g t cs) (o:Obj):Blk (w.alloc o) g t cs:=(Below.heap_alloc w o g h.lt).trans h
theorem Blk.set_ (h:Blk w g t cs) (i:Nat) (u:Value):Blk (w.setCell ⟨g,i,none⟩ u) g t (cs.setIfInBounds i u):=by
 unfold Blk at h ⊢;simp [World.setCell,Array.getElem?_modify,h]
theorem Blk.far (h:Blk w g t cs) {p:Addr} (hp:g≠p.block) (u:Value):Blk (w.setCell p u) g t cs:=(Below.heap_setCell w p u g hp).trans h
theorem Blk.below {B:Nat} (h:Blk w g t cs) (hb:Below B w w') (hg:g<B):Blk w' g t cs:=(hb.block g hg).trans h
theorem Blk.from_ (h:Blk w g t cs) (hb:ag w w'):Blk w' g t cs:=h.below hb h.lt
end
def Row (w:World) (v:Value) (vs:List Value):Prop:=
 ∃ (A:Option Addr) (cap:Nat),v=.slice A vs.length cap∧(0<vs.length→∃ b o,A=some ⟨b,o,none⟩∧b<w.heap.size∧∀ i u,vs[i]? =some u→w.cell? ⟨b,o+i,none⟩=some u)
theorem Row.nil_ (w:World):Row w (.slice none 0 0) []:=⟨none,0,rfl,fun h=>absurd h (by simp)⟩
theorem Row.of_own {w:World} {base:Nat} {e:TypeId} {v:Value} {n:Nat} {xs:List Value} (h:w.ownsRow base e 1 v n xs):Row w v xs:=by
 have hl:xs.length=n:=by simpa using h.1
 rcases h.2 with ⟨rfl,rfl⟩ | ⟨g,cap,cur,rfl,hg,hh,_⟩
 ·have:xs=[]:=List.eq_nil_of_length_eq_zero hl;subst this;exact Row.nil_ w
 ·subst hl;refine ⟨some ⟨g,0,none⟩,cap,rfl,fun _=>⟨g,0,rfl,?_,fun i u hu=>?_⟩⟩
  ·rcases Nat.lt_or_ge g w.heap.size with hlt | hge
   ·exact hlt
   ·rw [Array.getElem?_eq_none hge] at hh;cases hh
  ·have:=h.cells (g:=g) rfl i u hu;rw [Addr.add_lit] at this;exact this
theorem q9 {α:Type} {f:α→Value} {w:World} {v:Value} {xs:List α} (hr:Row w v (xs.map f)):∃ A cap,v=.slice A xs.length cap∧
 (0<xs.length→∃ b o,A=some ⟨b,o,none⟩∧b<w.heap.size∧∀ i (h:i<xs.length),w.cell? ⟨b,o+i,none⟩=some (f xs[i])):=by
 obtain ⟨A,cap,rfl,hp⟩:=hr;rw [List.length_map] at hp ⊢;refine ⟨A,cap,rfl,fun h0=>?_⟩;obtain ⟨b,o,hA,hb,hc⟩:=hp h0;refine ⟨b,o,hA,hb,fun i hi=>hc i _ ?_⟩;rw [List.getElem?_map,List.getElem?_eq_getElem hi];rfl
theorem fp {w:World} {base:Nat} {e:TypeId} {size:Nat} {v:Value} {n:Nat} {xs:List Value} (h:w.ownsRow base e size v n xs):∃ A cap,v=.slice A n cap:=by
 rcases h.2 with ⟨rfl,rfl⟩ | ⟨g,cap,cur,rfl,_⟩
 ·exact ⟨none,0,rfl⟩
 ·exact ⟨_,cap,rfl⟩
theorem _root_.Go.World.ownsRow.kept_from {w w':World} {base:Nat} {e:TypeId} {size:Nat} {v:Value} {n:Nat} {xs:List Value} (h:w.ownsRow base e size v n xs) (hw:ag w w'):w'.ownsRow base e size v n xs:=by
 refine ⟨h.1,?_⟩;rcases h.2 with h2 | ⟨g,cap,cur,hv,hg,hh,r⟩
 ·exact .inl h2
 ·refine .inr ⟨g,cap,cur,hv,hg,?_,r⟩
  rw [hw.block g (by
   rcases Nat.lt_or_ge g w.heap.size with hlt | hge
   ·exact hlt
   ·rw [Array.getElem?_eq_none hge] at hh;cases hh)]
  exact hh
end Go.Proofs.YtaohnmneccbljaaGreatDoor
namespace Go.Proofs.YtaohnmneccbljaaGreatDoor
open Go.Proofs.Tryz (prog)
open Go.RowKit
def eqp (x:Value):Value→World→Prop:=fun v _=>v=x
def fz:List (Nat×(Value→World→Prop))→Nat→Value→World→Prop
 |[],_=>fun _ _=>True
 |(k,R)::r,i=>bif Nat.beq i k then R else fz r i
def pP:List (Nat×(Value→World→Prop))→Prop
 |[]=>True
 |(_,R)::r=>(∀ v w1 w2,ag w1 w2→R v w1→R v w2)∧pP r
theorem aj (x:Value):∀ v w1 w2,ag w1 w2→eqp x v w1→eqp x v w2:=fun _ _ _ _ h=>h
theorem fF:∀ {l:List (Nat×(Value→World→Prop))},pP l→∀ t v w1 w2,ag w1 w2→fz l t v w1→fz l t v w2
 |[],_,_,_,_,_,_,_=>trivial
 |(k,R)::r,⟨h1,h2⟩,t,v,w1,w2,hF,h=>by
  have e:fz ((k,R)::r) t=bif Nat.beq t k then R else fz r t:=rfl
  rw [e] at h ⊢;cases hb:Nat.beq t k with
  |true=>rw [hb] at h;exact h1 _ _ _ hF h
  |false=>rw [hb] at h;exact fF h2 t v w1 w2 hF h
def ig (R:Nat→Value→World→Prop) (w:World):List Nat→(List (Nat×Value)→Prop)→Prop
 |[],K=>K []
 |d::r,K=>∀ v,R d v w→ig R w r fun M=>K ((d,v)::M)
theorem eP {R:Nat→Value→World→Prop} {w:World} (ρ:Nat→Value):∀ (l:List Nat) {K:List (Nat×Value)→Prop},(∀ d∈l,R d (ρ d) w)→ig R w l K→K (l.map fun d=>(d,ρ d))
 |[],_,_,h=>h
 |d::r,_,hr,h=>eP ρ r (fun e he=>hr e (List.mem_cons_of_mem _ he)) (h (ρ d) (hr d (List.mem_cons_self ..)))
theorem iL (ρ:Nat→Value) (l:List Nat) (L:List (Nat×Value)) (t:Nat):aT (l.map (fun d=>(d,ρ d))++L) t=if l.elem t then ρ t else aT L t:=by
 induction l with
 |nil=>rfl
 |cons d l ih=>
  show aT ((d,ρ d)::(l.map (fun d=>(d,ρ d))++L)) t=_;rw [bF,ih];by_cases h:t=d
  ·subst h;simp
  ·have:(d::l).elem t=l.elem t:=by simp [h]
   rw [if_neg h,this]
def aw (P:Program) (ops:Array Oper) (n:Fr) (L:List (Nat×Value)) (o:Oper) (w:World) (R:Value→World→Prop):Prop:=
 (Region.wanted o (yielded ops (mkT n.n L))=true∧((∃ v w',(execOp (ev n L) o).run P w=.ok (.value v) w'∧ag w w'∧R v w')∨
  (∃ f l,(execOp (ev n L) o).run P w=.ok (.enter f (List.toArray l)) w∧Rt P f l w fun v w'=>ag w w'∧R v w')))∨
 (Region.wanted o (yielded ops (mkT n.n L))=false∧R undef w)
section
variable {P:Program} {ops:Array Oper} {n:Fr} {L:List (Nat×Value)} {w w':World} {op:Op} {ty:TypeId} {pos:String} {after:Array Edge} {d:Option Nat} {R:Value→World→Prop}
theorem fC {v:Value} (hr:RO P (ev n L) op w v w') (hF:ag w w') (hR:R v w'):aw P ops n L ⟨d,op,ty,pos,after,none⟩ w R:=
 .inl ⟨rfl,.inl ⟨v,w',hr _ _ _ _ _,hF,hR⟩⟩
theorem an {v:Value} (hr:RO P (ev n L) op w v w) (hR:R v w):aw P ops n L ⟨d,op,ty,pos,after,none⟩ w R:=fC hr ag.rfl_ hR
theorem cX {f:FuncId} {l:List Operand} {ats:Array TypeId} (hf:aH P f=true) (hc:Rt P f (l.map (ev n L)) w fun v w'=>ag w w'∧R v w') :
 aw P ops n L ⟨d,.call { callee:=.value (.func f),args:=l.toArray,argTypes:=ats },ty,pos,after,none⟩ w R:=
 .inl ⟨rfl,.inr ⟨f,l.map (ev n L),by rw [fc (fun _=>rfl),fk hf],hc⟩⟩
theorem aL {v:Value} {j:Nat} {b:Bool} (hg:iH ops n L j=.bool b) (hr:RO P (ev n L) op w v w) (hR:R v w):aw P ops n L ⟨d,op,ty,pos,after,some (j,b)⟩ w R:=
 .inl ⟨by show (yielded ops (mkT n.n L) j==some b)=true;rw [fa hg];simp,.inl ⟨v,w,hr _ _ _ _ _,ag.rfl_,hR⟩⟩
theorem nN {f:FuncId} {l:List Operand} {ats:Array TypeId} {j:Nat} {b:Bool} (hg:iH ops n L j=.bool b) (hf:aH P f=true) (hc:Rt P f (l.map (ev n L)) w fun v w'=>ag w w'∧R v w') :
 aw P ops n L ⟨d,.call { callee:=.value (.func f),args:=l.toArray,argTypes:=ats },ty,pos,after,some (j,b)⟩ w R:=
 .inl ⟨by show (yielded ops (mkT n.n L) j==some b)=true;rw [fa hg];simp,.inr ⟨f,l.map (ev n L),by rw [fc (fun _=>rfl),fk hf],hc⟩⟩
theorem ec {j:Nat} {b b':Bool} (hg:iH ops n L j=.bool b') (hb:(b'==b)=false) (hR:R undef w):aw P ops n L ⟨d,op,ty,pos,after,some (j,b)⟩ w R:=
 .inr ⟨by show (yielded ops (mkT n.n L) j==some b)=false;rw [fa hg];simpa using hb,hR⟩
end
def mX (ops:Array Oper) (pre:List Nat) (o:Oper):List Nat:=(pre.filter fun t=>(o.looksAt ops).elem t)
def cK:Op→Bool | .select _ _=>true | _=>false
def gx (o:Oper) (i:Nat):Bool:=o.after.toList.any fun e=>Region.binds .any e&&e.on==i
def xH (l:List Oper) (K:Nat):Bool:=
 let ops:=l.toArray
 let dst (i:Nat):Option Nat:=(l[i]?).bind (·.dst)
 decide (K≤l.length)&&
 (List.range l.length).all fun i=>match l[i]? with
  |none=>false
  |some o=>
   (o.after.toList.all fun e=> !Region.binds .any e||decide (e.on<i))&&!cK o.op&&
   (if i<K then
    (match o.dst with
     |none=>false
     |some d=>(List.range K).all (fun j=>j==i||dst j != some d)&&!((o.looksAt ops).elem d))&&
    (List.range K).all (fun j=>match dst j with
     |none=>false
     |some d=> !(o.looksAt ops).elem d||(decide (j<i)&&gx o j))
    else (List.range i).all (fun j=>gx o j))
def uM (P:Program) (ops:Array Oper) (n:Fr) (L:List (Nat×Value)) (w:World) (R:Nat→Value→World→Prop) (pre:List Nat):List Oper→Prop
 |[]=>True
 |o::r=>(∀ w',ag w w'→ig R w' (mX ops pre o) fun M=>aw P ops n (M++L) o w' (R (o.dst.getD 0)))∧uM P ops n L w R pre r
theorem rr {P:Program} {ops:Array Oper} {n:Fr} {L:List (Nat×Value)} {w:World} {R:Nat→Value→World→Prop} {pre:List Nat}:∀ {l:List Oper},uM P ops n L w R pre l→∀ (i:Nat) (o:Oper),l[i]? =some o→
 ∀ w',ag w w'→ig R w' (mX ops pre o) fun M=>aw P ops n (M++L) o w' (R (o.dst.getD 0))
 |[],_,i,o,h=>by simp at h
 |x::r,⟨h1,h2⟩,0,o,h=>by
  simp only [List.getElem?_cons_zero,Option.some.injEq] at h;subst h;exact h1
 |x::r,⟨h1,h2⟩,i+1,o,h=>rr h2 i o (by simpa using h)
def eI (l:List Oper) (K:Nat):List Nat:=(l.take K).filterMap (·.dst)
theorem dO:∀ {l:List Bool} {i:Nat},l[i]? =some false→(l.set i true).count false+1=l.count false
 |[],i,h=>by simp at h
 |x::r,0,h=>by
  simp only [List.getElem?_cons_zero,Option.some.injEq] at h;subst h;simp
 |x::r,i+1,h=>by
  have:=dO (l:=r) (i:=i) (by simpa using h);simp only [List.set_cons_succ,List.count_cons];omega
section main
variable {P:Program} {Q:Exit→Act→World→Prop} {n:Fr} {L:List (Nat×Value)} {w:World} {l:List Oper} {K:Nat} {R:Nat→Value→World→Prop}
theorem aU {listed:Array Bool} {i:Nat} (h:i<listed.size):listed.getD i true=listed.getD i false:=by
 simp [Array.getD,h]
theorem ni (hc:xH l K=true):∀ (m k:Nat) (listed:Array Bool) (a:Act) (w':World),k+m=l.length→K≤k→listed.size=l.length→(∀ j,j<l.length→listed.getD j true=decide (j<k))→
 wpList P l.toArray Q (l.drop k) a w'→wpAny P .any l.toArray Q m listed a w'
 |0,k,listed,a,w',hk,hK,hs,hl,h=>by
  have hd:l.drop k=[]:=List.drop_eq_nil_of_le (by omega);rw [hd] at h;refine ⟨?_,h⟩;rw [List.eq_nil_iff_forall_not_mem];intro j hj;obtain ⟨h0,o,ho,_⟩:=mem_ready.1 hj
  have hjl:j<l.length:=by
   rw [List.getElem?_toArray] at ho;exact (List.getElem?_eq_some_iff.1 ho).1
  rw [hl j hjl] at h0;simp at h0;omega
 |m+1,k,listed,a,w',hk,hK,hs,hl,h=>by
  have hkl:k<l.length:=by omega
  have hdrop:l.drop k=l[k]::l.drop (k+1):=List.drop_eq_getElem_cons hkl;have hck:=(List.all_eq_true.1 (Bool.and_eq_true_iff.1 hc).2)
  have hrk:k∈Region.ready .any l.toArray listed:=by
   refine mem_ready.2 ⟨by rw [hl k hkl];simp,l[k],by rw [List.getElem?_toArray,List.getElem?_eq_getElem hkl],fun e he hb=>?_⟩;have hx:=hck k (List.mem_range.2 hkl);rw [List.getElem?_eq_getElem hkl] at hx;simp only [Bool.and_eq_true] at hx;have he2:=List.all_eq_true.1 hx.1.1 e (by simpa using he);rw [hb] at he2;simp at he2;rw [←aU (by omega),hl _ (by omega)];simpa using he2
  refine ⟨fun h0=>(by rw [h0] at hrk;cases hrk),fun j hj=>?_⟩;obtain ⟨h0,o,ho,hall⟩:=mem_ready.1 hj;rw [List.getElem?_toArray] at ho;have hjl:j<l.length:=(List.getElem?_eq_some_iff.1 ho).1;rw [hl j hjl] at h0
  have hjk:j=k:=by
   simp at h0;rcases Nat.eq_or_lt_of_le h0 with e | hlt
   ·exact e.symm
   ·exfalso;have hx:=hck j (List.mem_range.2 hjl);rw [ho] at hx;simp only [Bool.and_eq_true] at hx;have h3:=hx.2;rw [if_neg (by omega)] at h3;have h4:=List.all_eq_true.1 h3 k (List.mem_range.2 hlt);obtain ⟨e,he,he2⟩:=List.any_eq_true.1 h4;simp only [Bool.and_eq_true,beq_iff_eq] at he2;have h5:=hall e (by simpa using he) he2.1;rw [he2.2,←aU (by omega),hl k hkl] at h5;simp at h5
  subst hjk;rw [hdrop] at h
  have hk2:wpOp P l.toArray Q j (wpList P l.toArray Q (l.drop (j+1))) a w':=by
   unfold wpOp;rw [List.getElem?_toArray,List.getElem?_eq_getElem hkl];exact h
  refine wpOp_mono (fun a'' w'' h''=>ni hc m (j+1) _ a'' w'' (by omega) (by omega) (by simpa using hs) (fun i hi=>?_) h'') hk2;by_cases e:j=i
  ·subst e;simp [hs,hkl]
  ·rw [getD_set_ne true e,hl i hi];have:(i<j+1)↔(i<j):=by omega
   simp [this]
theorem eF {ops:Array Oper} {o:Oper} {L1 L2:List (Nat×Value)} (hs:cK o.op=false) (h:∀ t,(o.looksAt ops).elem t=true→aT L1 t=aT L2 t) :
 execOp (ev n L1) o=execOp (ev n L2) o∧Region.wanted o (yielded ops (mkT n.n L1))=Region.wanted o (yielded ops (mkT n.n L2)):=by
 constructor
 ·refine execOp_congr o (fun cs b e=>by rw [e] at hs;simp [cK] at hs) fun x hx=>?_
  cases x with
  |tmp t=>
   have:aT L1 t=aT L2 t:=h t (by
    simp only [List.elem_eq_mem,decide_eq_true_eq];exact List.mem_append_left _ (List.mem_filterMap.2 ⟨.tmp t,by simpa using hx,rfl⟩))
   simp only [ev,this]
  |_=>rfl
 ·unfold Region.wanted;cases hg:o.guard with
  |none=>rfl
  |some gw=>
   obtain ⟨g,want⟩:=gw
   have hy:yielded ops (mkT n.n L1) g=yielded ops (mkT n.n L2) g:=by
    unfold yielded;cases ht:(ops[g]?).bind (·.dst) with
    |none=>rfl
    |some t=>
     have:aT L1 t=aT L2 t:=h t (by
      simp only [List.elem_eq_mem,decide_eq_true_eq];exact List.mem_append_right _ (by simp [hg,ht]))
     simp only [Option.bind_some,ja,this]
   simp only [hy]
theorem xF (hc:xH l K=true) (hmono:∀ t v w1 w2,ag w1 w2→R t v w1→R t v w2) (hop:uM P l.toArray n L w R (eI l K) (l.take K))
 (hend:∀ w',ag w w'→ig R w' (eI l K) fun M=>St P l.toArray Q (l.drop K) n (M++L) w') :
 ∀ (m:Nat) (listed:Array Bool) (L':List (Nat×Value)) (w':World),listed.toList.count false=m→listed.size=l.length→(∀ j,K≤j→j<l.length→listed.getD j true=false)→ag w w'→
  (∀ t,(∀ i o,i<K→l[i]? =some o→listed.getD i true=true→o.dst≠some t)→aT L' t=aT L t)→
  (∀ i o d,i<K→l[i]? =some o→listed.getD i true=true→o.dst=some d→R d (aT L' d) w')→wpAny P .any l.toArray Q m listed (mkA n L') w':=by
 have hKl:K≤l.length:=dT_ (Bool.and_eq_true_iff.1 hc).1;have hck:=(List.all_eq_true.1 (Bool.and_eq_true_iff.1 hc).2);intro m
 induction m with
 |zero=>
  intro listed L' w' hcount hs htail hF hfr hR
  have hall:∀ j,j<l.length→listed.getD j true=true:=by
   intro j hj;have hm:listed[j]'(by omega)∈listed.toList:=by simp
   cases hb:listed[j]'(by omega) with
   |true=>simp [Array.getD,show j<listed.size by omega,hb]
   |false=>
    rw [hb] at hm;exact absurd hcount (Nat.pos_iff_ne_zero.1 (List.count_pos_iff.2 hm))
  have hKe:K=l.length:=by
   rcases Nat.lt_or_ge K l.length with h | h
   ·have h1:=htail K (Nat.le_refl _) h;rw [hall K h] at h1;cases h1
   ·omega
  have he:=eP (aT L') (eI l K) (fun d hd=>by
   obtain ⟨o,ho,hod⟩:=List.mem_filterMap.1 hd;obtain ⟨i,hi⟩:=List.mem_iff_getElem?.1 ho;rw [List.getElem?_take] at hi;split at hi
   ·exact hR i o d (by assumption) hi (hall i (List.getElem?_eq_some_iff.1 hi).1) hod
   ·cases hi) (hend w' hF)
  have hL:mkA n ((eI l K).map (fun d=>(d,aT L' d))++L)=mkA n L':=fD fun t _=>by
   rw [iL];split
   ·rfl
   ·rename_i hne;refine (hfr t fun i o hi ho _ hod=>hne ?_).symm;simp only [List.elem_eq_mem,decide_eq_true_eq];exact List.mem_filterMap.2 ⟨o,List.mem_iff_getElem?.2 ⟨i,by rw [List.getElem?_take,if_pos hi];exact ho⟩,hod⟩
  replace he:=he.out;rw [hL] at he;exact ni hc 0 l.length listed _ w' (by omega) (by omega) hs (fun j hj=>by rw [hall j hj];simp [hj]) (by rw [hKe] at he;exact he)
 |succ m ih=>
  intro listed L' w' hcount hs htail hF hfr hR;by_cases hpre:∀ i,i<K→listed.getD i true=true
  ·
   have he:=eP (aT L') (eI l K) (fun d hd=>by
    obtain ⟨o,ho,hod⟩:=List.mem_filterMap.1 hd;obtain ⟨i,hi⟩:=List.mem_iff_getElem?.1 ho;rw [List.getElem?_take] at hi;split at hi
    ·exact hR i o d (by assumption) hi (hpre i (by assumption)) hod
    ·cases hi) (hend w' hF)
   have hL:mkA n ((eI l K).map (fun d=>(d,aT L' d))++L)=mkA n L':=fD fun t _=>by
    rw [iL];split
    ·rfl
    ·rename_i hne;refine (hfr t fun i o hi ho _ hod=>hne ?_).symm;simp only [List.elem_eq_mem,decide_eq_true_eq];exact List.mem_filterMap.2 ⟨o,List.mem_iff_getElem?.2 ⟨i,by rw [List.getElem?_take,if_pos hi];exact ho⟩,hod⟩
   replace he:=he.out;rw [hL] at he
   have hcnt:m+1=l.length-K:=by
    have:listed.toList=List.replicate K true++List.replicate (l.length-K) false:=by
     apply List.ext_getElem?;intro j;rw [Array.getElem?_toList];rw [List.getElem?_append];simp only [List.length_replicate,List.getElem?_replicate];by_cases hj:j<l.length
     ·have hjs:j<listed.size:=by omega
      by_cases hjK:j<K
      ·have:=hpre j hjK;simp [Array.getD,hjs] at this;simp [hjs,hjK,this]
      ·have:=htail j (by omega) hj;simp [Array.getD,hjs] at this;rw [if_neg hjK,if_pos (by omega),Array.getElem?_eq_getElem hjs,this]
     ·rw [Array.getElem?_eq_none (by omega),if_neg (by omega),if_neg (by omega)]
    rw [this,List.count_append,List.count_replicate,List.count_replicate] at hcount;simp at hcount;exact hcount.symm
   refine ni hc (m+1) K listed _ w' (by omega) (Nat.le_refl _) hs (fun j hj=>?_) he;by_cases hjK:j<K
   ·rw [hpre j hjK];simp [hjK]
   ·rw [htail j (by omega) hj];simp [hjK]
  ·
   have hex:∃ i,i<K∧listed.getD i true=false:=by
    refine Classical.byContradiction fun hno=>hpre fun i hi=>?_
    cases hb:listed.getD i true with
    |true=>rfl
    |false=>exact absurd ⟨i,hi,hb⟩ hno
   obtain ⟨i0,hi0,hmin⟩:=exists_least hex;have hi0l:i0<l.length:=by omega
   have hready:i0∈Region.ready .any l.toArray listed:=by
    refine mem_ready.2 ⟨hi0.2,l[i0],by rw [List.getElem?_toArray,List.getElem?_eq_getElem hi0l],fun e he hb=>?_⟩;have hx:=hck i0 (List.mem_range.2 hi0l);rw [List.getElem?_eq_getElem hi0l] at hx;simp only [Bool.and_eq_true] at hx;have he2:=List.all_eq_true.1 hx.1.1 e (by simpa using he);rw [hb] at he2;simp at he2;rw [←aU (by omega)];cases hb2:listed.getD e.on true with
    |true=>rfl
    |false=>exact absurd (hmin e.on ⟨by omega,hb2⟩) (by omega)
   refine ⟨fun h0=>(by rw [h0] at hready;cases hready),fun i hi=>?_⟩;obtain ⟨h0,o,ho,hall⟩:=mem_ready.1 hi;rw [List.getElem?_toArray] at ho;have hil:i<l.length:=(List.getElem?_eq_some_iff.1 ho).1;have hx:=hck i (List.mem_range.2 hil);rw [ho] at hx;simp only [Bool.and_eq_true] at hx
   have hiK:i<K:=by
    rcases Nat.lt_or_ge i K with h | h
    ·exact h
    ·exfalso;have h3:=hx.2;rw [if_neg (by omega)] at h3;have h4:=List.all_eq_true.1 h3 i0 (List.mem_range.2 (by omega));obtain ⟨e,he,he2⟩:=List.any_eq_true.1 h4;simp only [Bool.and_eq_true,beq_iff_eq] at he2;have h5:=hall e (by simpa using he) he2.1;rw [he2.2,←aU (by omega),hi0.2] at h5;cases h5
   have h3:=hx.2;rw [if_pos hiK] at h3;simp only [Bool.and_eq_true] at h3;obtain ⟨h3a,h3b⟩:=h3;cases hod:o.dst with
   |none=>rw [hod] at h3a;cases h3a
   |some d=>
    rw [hod] at h3a;simp only [Bool.and_eq_true] at h3a
    have hlooks:∀ t,(o.looksAt l.toArray).elem t=true→aT ((mX l.toArray (eI l K) o).map (fun d=>(d,aT L' d))++L) t=aT L' t:=by
     intro t ht;rw [iL];split
     ·rfl
     ·rename_i hne;refine (hfr t fun j oj hj hoj hlj hd=>hne ?_).symm;simp only [List.elem_eq_mem,decide_eq_true_eq];refine List.mem_filter.2 ⟨List.mem_filterMap.2 ⟨oj,List.mem_iff_getElem?.2 ⟨j,by rw [List.getElem?_take,if_pos hj];exact hoj⟩,hd⟩,ht⟩
    have hfact:∀ t∈mX l.toArray (eI l K) o,R t (aT L' t) w':=by
     intro t ht;obtain ⟨ht1,ht2⟩:=List.mem_filter.1 ht;obtain ⟨oj,hoj,hd⟩:=List.mem_filterMap.1 ht1;obtain ⟨j,hj⟩:=List.mem_iff_getElem?.1 hoj;rw [List.getElem?_take] at hj;split at hj
     ·rename_i hjK;have h5:=List.all_eq_true.1 h3b j (List.mem_range.2 hjK);rw [hj] at h5;simp only [Option.bind_some,hd,ht2,Bool.not_true,Bool.false_or,Bool.and_eq_true,decide_eq_true_eq] at h5;obtain ⟨e,he,he2⟩:=List.any_eq_true.1 h5.2;simp only [Bool.and_eq_true,beq_iff_eq] at he2;have h6:=hall e (by simpa using he) he2.1;rw [he2.2] at h6;exact hR j oj t hjK hj (by rw [aU (by omega)];exact h6) hd
     ·cases hj
    have hok:=eP (aT L') _ hfact (rr hop i o (by rw [List.getElem?_take,if_pos hiK];exact ho) w' hF);have hsel:cK o.op=false:=by simpa using hx.1.2
    obtain ⟨hE,hW⟩:=eF (n:=n) (ops:=l.toArray) (o:=o) hsel hlooks;rw [hod] at hok;simp only [Option.getD_some] at hok
    have next:∀ v w'',ag w' w''→R d v w''→wpAny P .any l.toArray Q m (listed.setIfInBounds i true) ((mkA n L').put (some d) v) w'':=by
     intro v w'' hF' hRv;rw [ej]
     have hne:∀ j oj d',j<K→l[j]? =some oj→j≠i→oj.dst=some d'→d'≠d:=by
      intro j oj d' hj hoj hji hd e;have h5:=List.all_eq_true.1 h3a.1 j (List.mem_range.2 hj);rw [hoj] at h5;simp [hji,hd,e] at h5
     refine ih _ _ w'' ?_ (by simpa using hs) (fun j hj1 hj2=>?_) (hF.next hF') (fun t ht=>?_) (fun j oj d' hj hoj hlj hd=>?_)
     ·have hil':i<listed.size:=by omega
      have hfalse:listed.toList[i]? =some false:=by
       rw [Array.getElem?_toList,Array.getElem?_eq_getElem hil'];simp [Array.getD,hil'] at h0;rw [h0]
      rw [Array.toList_setIfInBounds];have:=dO (l:=listed.toList) (i:=i) hfalse;omega
     ·rw [getD_set_ne true (by omega)];exact htail j hj1 hj2
     ·have htd:t≠d:=fun e=>ht i o hiK ho (by simp [show i<listed.size by omega]) (by rw [hod,e])
      rw [bF,if_neg htd];refine hfr t fun j oj hj hoj hlj=>ht j oj hj hoj ?_
      by_cases e:i=j
      ·subst e;rw [h0] at hlj;cases hlj
      ·rw [getD_set_ne true e];exact hlj
     ·rw [bF];by_cases e:j=i
      ·subst e;rw [ho] at hoj;cases hoj;rw [hod] at hd;cases hd;rw [if_pos rfl];exact hRv
      ·rw [if_neg (hne j oj d' hj hoj e hd)];rw [getD_set_ne true (Ne.symm e)] at hlj;exact hmono _ _ _ _ hF' (hR j oj d' hj hoj hlj hd)
    unfold wpOp;rw [List.getElem?_toArray,ho];show if Region.wanted o (yielded l.toArray (mkT n.n L'))=true then _ else _
    unfold aw at hok;rw [hE,hW] at hok;rcases hok with ⟨hw,⟨v,w'',hr,hF',hRv⟩ | ⟨f,args,hr,hcall⟩⟩ | ⟨hw,hRv⟩
    ·rw [if_pos hw];refine .inl ?_;unfold Oper.wp;rw [cg,hr,Oper.upon_value,hod];exact next v w'' hF' hRv
    ·rw [if_pos hw];refine .inl ?_;unfold Oper.wp;rw [cg,hr,Oper.upon_enter,hod];refine Calls.mono hcall fun e w'' ⟨v,he,hF',hRv⟩=>?_
     subst he;exact next v w'' hF' hRv
    ·rw [if_neg (by rw [hw];simp),hod];exact next undef w' ag.rfl_ hRv
theorem lA {id:Nat} (K:Nat) (RL:List (Nat×(Value→World→Prop))) (hm:P.follows .mixedOrders=true) (hc:xH l K=true) (hmono:pP RL)
 (hop:uM P l.toArray n L w (fz RL) (eI l K) (l.take K)) (hend:∀ w',ag w w'→ig (fz RL) w' (eI l K) fun M=>St P l.toArray Q (l.drop K) n (M++L) w'):Cd P (.region id l.toArray true) Q n L w:=by
 refine ⟨wp_region_any hm ?_⟩;have hKl:K≤l.length:=dT_ (Bool.and_eq_true_iff.1 hc).1
 have:=xF (Q:=Q) (w:=w) hc (fF hmono) hop hend l.length (Array.replicate l.length false) L { w with drawn:=w.drawn+1 } (by simp) (by simp)
  (fun j _ hj=>by simp [Array.getD,hj]) (ag.rfl_.d1) (fun _ _=>rfl) (fun i o d hi _ hl=>by
   have:i<l.length:=by omega
   simp [Array.getD,this] at hl)
 simpa using this
end main
end Go.Proofs.YtaohnmneccbljaaGreatDoor
namespace Go.Proofs.YtaohnmneccbljaaGreatDoor
open Go.Proofs.Tryz (prog)
open Go.RowKit
structure cY (g:Nat) (w w':World):Prop where
 os:w'.os=w.os
 tape:w'.tape=w.tape
 output:w'.output=w.output
 size:w'.heap.size=w.heap.size
 block:∀ k,k≠g→w'.heap[k]? =w.heap[k]?
theorem cY.setCell (w:World) (g i:Nat) (v:Value):cY g w (w.setCell ⟨g,i,none⟩ v):=⟨rfl,rfl,rfl,by simp,fun k hk=>Below.heap_setCell w ⟨g,i,none⟩ v k hk⟩
theorem cY.trans {g:Nat} {w w1 w2:World} (h:cY g w w1) (k:cY g w1 w2):cY g w w2:=⟨k.os.trans h.os,k.tape.trans h.tape,k.output.trans h.output,k.size.trans h.size,fun i hi=>(k.block i hi).trans (h.block i hi)⟩
theorem cY.rfl_ {g:Nat} {w:World}:cY g w w:=⟨rfl,rfl,rfl,rfl,fun _ _=>rfl⟩
theorem ag.only {a w w':World} {g:Nat} (h:ag a w) (o:cY g w w') (hg:a.heap.size≤g):ag a w':=
 ⟨o.os.trans h.os,o.tape.trans h.tape,o.output.trans h.output,by rw [o.size];exact h.size,fun k hk=>(o.block k (by omega)).trans (h.block k hk)⟩
theorem Blk.only {w w':World} {k g:Nat} {t:TypeId} {cs:Array Value} (h:Blk w k t cs) (o:cY g w w') (hk:k≠g):Blk w' k t cs:=(o.block k hk).trans h
theorem cY.cell {w w':World} {g b i:Nat} (o:cY g w w') (hb:b≠g):w'.cell? ⟨b,i,none⟩=w.cell? ⟨b,i,none⟩:=World.cell?_of_block (w:=w) (o.block b hb)
theorem Ct {w w':World} {a:Addr} {v:Value} (h:ag w w') (hc:w.cell? a=some v):w'.cell? a=some v:=
 (Below.cell h (World.block_lt_of_cell? w a hc)).trans hc
theorem Blk.rd {w:World} {g:Nat} {t:TypeId} {cs:Array Value} (h:Blk w g t cs) (i:Nat) {v:Value} (hv:cs[i]? =some v):w.cell? ⟨g,i,none⟩=some v:=by rw [h.cell i];exact hv
def over (cs:List Value) (o:Nat) (vs:List Value):List Value:=cs.take o++vs++cs.drop (o+vs.length)
theorem wT (cs:List Value) (o:Nat) (v:Value) (vs:List Value) (h:o<cs.length):over (cs.set o v) (o+1) vs=over cs o (v::vs):=by
 unfold over
 have h1:(cs.set o v).take (o+1)=cs.take o++[v]:=by
  rw [List.take_set];have:cs.take (o+1)=cs.take o++[cs[o]]:=(List.take_append_getElem h).symm;rw [this,List.set_append_right _ _ (by simp;omega)];have hm:min o cs.length=o:=by omega
  simp [hm]
 have h2:(cs.set o v).drop (o+1+vs.length)=cs.drop (o+(v::vs).length):=by
  rw [List.drop_set_of_lt (by omega)];simp only [List.length_cons]
  congr 1
  omega
 rw [h1,h2];simp
theorem Blk.sets {t:TypeId} {g:Nat}:∀ (vs:List Value) (o:Nat) {w:World} {cs:List Value},Blk w g t cs.toArray→o+vs.length≤cs.length→Blk (w.setCells g o vs) g t (over cs o vs).toArray
 |[],o,w,cs,h,_=>by
  have:over cs o []=cs:=by simp [over]
  rw [this];exact h
 |v::vs,o,w,cs,h,hl=>by
  simp only [List.length_cons] at hl;have h1:=h.set_ o v;rw [List.setIfInBounds_toArray] at h1;have:=Blk.sets vs (o+1) h1 (by simp;omega);rw [wT cs o v vs (by omega)] at this;exact this
theorem cY.sets {g:Nat}:∀ (vs:List Value) (o:Nat) (w:World),cY g w (w.setCells g o vs)
 |[],_,_=>cY.rfl_
 |v::vs,o,w=>(cY.setCell w g o v).trans (cY.sets vs (o+1) _)
theorem Blk.there {w:World} {g:Nat} {t:TypeId} {cs:Array Value} (h:Blk w g t cs) (o n:Nat) (hl:o+n≤cs.size):w.there g o n:=fun j hj=>
 ⟨by rw [h.cell];simp [show o+j<cs.size by omega],h.frozen _⟩
theorem Blk.range {w:World} {g:Nat} {t:TypeId} {cs:List Value} (h:Blk w g t cs.toArray) (o:Nat) (vs:List Value) (hl:∀ j v,vs[j]? =some v→cs[o+j]? =some v):w.rangeAt g o vs:=fun j v hv=>by
 rw [h.cell];simpa using hl j v hv
theorem Blk.whole {w:World} {g:Nat} {t:TypeId} {cs:List Value} (h:Blk w g t cs.toArray):w.rangeAt g 0 cs:=h.range 0 cs fun j v hv=>by rw [Nat.zero_add];exact hv
theorem dU {w w':World} {b o:Nat} {cs:List Value} (h:ag w w') (hc:w.rangeAt b o cs):w'.rangeAt b o cs:=fun j v hv=>Ct h (hc j v hv)
section
variable {P:Program} {ops:Array Oper} {Q:Exit→Act→World→Prop} {rest:List Oper} {n:Fr} {L:List (Nat×Value)} {w:World} {ty:TypeId} {pos:String} {after:Array Edge} {d:Nat} {t:TypeId} {x y:Operand}
theorem bu {v:Value} (hx:ev n L x=v) (k:∀ b w',ag w w'→b=w.heap.size→Blk w' b t v.cells→St P ops Q rest n ((d,.pointer (some ⟨b,0,none⟩))::L) w') :
 St P ops Q (⟨some d,.box t x,ty,pos,after,none⟩::rest) n L w:=
 aa (AO hx) (k _ _ (ag.rfl_.new _) rfl (Blk.new w t _))
theorem aZ {z:Value} (hz:ij P t=some z) (k:∀ b w',ag w w'→b=w.heap.size→Blk w' b t z.cells→St P ops Q rest n ((d,.pointer (some ⟨b,0,none⟩))::L) w') :
 St P ops Q (⟨some d,.alloc t,ty,pos,after,none⟩::rest) n L w:=
 aa (k7 hz) (k _ _ (ag.rfl_.new _) rfl (Blk.new w t _))
theorem cT {g i:Nat} {u:TypeId} {cs:Array Value} {v:Value} (ht:cS P t=some 1) (hx:ev n L x=.pointer (some ⟨g,i,none⟩)) (hy:ev n L y=v) (h1:v.oneCell'=true) (hb:Blk w g u cs) (hi:i<cs.size)
 (k:∀ w',cY g w w'→Blk w' g u (cs.setIfInBounds i v)→St P ops Q rest n L w'):St P ops Q (⟨none,.store t x y,ty,pos,after,none⟩::rest) n L w:=by
 have hc:w.cell? ⟨g,i,none⟩=some (cs[i]'hi):=by rw [hb.cell];simp [hi]
 exact nn (kX ht hx hy h1 hc (hb.frozen i)) (k _ (cY.setCell w g i v) (hb.set_ i v))
theorem ik {g i:Nat} {u:TypeId} {cs vs:List Value} (ht:cS P t=some vs.length) (hx:ev n L x=.pointer (some ⟨g,i,none⟩)) (hy:ev n L y=.agg vs.toArray) (h1:∀ v∈vs,v.oneCell'=true) (hb:Blk w g u cs.toArray) (hi:i+vs.length≤cs.length)
 (k:∀ w',cY g w w'→Blk w' g u (over cs i vs).toArray→St P ops Q rest n L w'):St P ops Q (⟨none,.store t x y,ty,pos,after,none⟩::rest) n L w:=
 nn (pf ht hx hy h1 (hb.there i vs.length (by simpa using hi))) (k _ (cY.sets vs i w) (Blk.sets vs i hb hi))
theorem rq (cs vs:List Value) (h:vs.length=cs.length):over cs 0 vs=vs:=by
 unfold over;simp [h]
theorem aV {g:Nat} {u:TypeId} {cs:Array Value} {vs:List Value} (ht:cS P t=some vs.length) (hx:ev n L x=.pointer (some ⟨g,0,none⟩)) (hy:ev n L y=.agg vs.toArray) (h1:∀ v∈vs,v.oneCell'=true) (hb:Blk w g u cs) (hi:vs.length=cs.size)
 (k:∀ w',cY g w w'→Blk w' g u vs.toArray→St P ops Q rest n L w'):St P ops Q (⟨none,.store t x y,ty,pos,after,none⟩::rest) n L w:=by
 refine ik (cs:=cs.toList) (u:=u) ht hx hy h1 (by simpa using hb) (by simp;omega) fun w' o b=>?_
 rw [rq cs.toList vs (by simp;omega)] at b;exact k w' o b
def rC (P:Program) (t:TypeId):Option (TypeId×Nat×Value):=match P.underlying t with | some (.slice e)=>(P.info? e).bind fun i=>if i.size=1 then i.zero.map fun z=>(e,i.bytes,z) else none | _=>none
theorem yY {e by_ m:Nat} {z:Value} {kl kc:IntKind} (ht:rC P t=some (e,by_,z)) (hz:z.cells=#[z]) (hx:ev n L x=.int kl (m:Nat)) (hy:ev n L y=.int kc (m:Nat)) (hm:m≤9223372036854775807) (hb:by_*m≤281474976710656)
 (k:∀ g w',ag w w'→g=w.heap.size→Blk w' g e (List.replicate m z).toArray→St P ops Q rest n ((d,.slice (some ⟨g,0,none⟩) m m)::L) w'):St P ops Q (⟨some d,.makeSlice t x y,ty,pos,after,none⟩::rest) n L w:=by
 unfold rC at ht;split at ht
 ·rename_i e' hu;cases hi:P.info? e' with
  |none=>simp [hi] at ht
  |some i=>
   rw [hi] at ht;simp only [Option.bind_some] at ht;split at ht
   ·rename_i hs;cases hzz:i.zero with
    |none=>simp [hzz] at ht
    |some z'=>
     simp only [hzz,Option.map_some,Option.some.injEq,Prod.mk.injEq] at ht;obtain ⟨rfl,rfl,rfl⟩:=ht
     have hr:=run_make (P:=P) w t e' i z' hu hi hzz kl kc (m:Int) (m:Int) (by omega) (Int.le_refl _) (by
      have:((i.bytes*m:Nat):Int)≤281474976710656:=by omega
      rwa [Int.natCast_mul] at this) (by omega)
     have hcells:madeCells z'.cells ((m:Int).toNat*i.size)=(List.replicate m z').toArray:=by
      rw [hs,Int.toNat_natCast,Nat.mul_one,hz];apply Array.ext_getElem?;intro j;simp only [madeCells,Array.getElem?_map];by_cases hj:j<m
      ·simp [hj,Nat.mod_one]
      ·simp [hj]
     rw [hcells,Int.toNat_natCast] at hr;refine aa (v:=.slice (some ⟨w.heap.size,0,none⟩) m m) (w':=w.alloc (.cells (List.replicate m z').toArray e')) (fun _ _ _ _ _=>?_) (k _ _ (ag.rfl_.new _) rfl (Blk.new w e' _));simp [execOp,hx,hy,hr]
   ·cases ht
 ·cases ht
end
end Go.Proofs.YtaohnmneccbljaaGreatDoor
namespace Go.Proofs.YtaohnmneccbljaaGreatDoor
open Go.Proofs.Tryz (prog)
open Go.RowKit
def d_ {α:Type} (f:α→Value) (w:World) (A:Option Addr) (l:List α):Prop:=
 0<l.length→∃ b o,A=some ⟨b,o,none⟩∧∀ i (h:i<l.length),w.cell? ⟨b,o+i,none⟩=some (f l[i])
theorem d_.from_ {α:Type} {f:α→Value} {w w':World} {A:Option Addr} {l:List α} (h:d_ f w A l) (hw:ag w w'):d_ f w' A l:=fun h0=>
 let ⟨b,o,hA,hc⟩:=h h0
 ⟨b,o,hA,fun i hi=>Ct hw (hc i hi)⟩
theorem d_.of_row {α:Type} {f:α→Value} {w:World} {A:Option Addr} {n cap:Nat} {l:List α} (h:Row w (.slice A n cap) (l.map f)):n=l.length∧d_ f w A l:=by
 obtain ⟨A',c',he,hp⟩:=q9 h;simp only [Value.slice.injEq] at he;obtain ⟨rfl,rfl,rfl⟩:=he;exact ⟨rfl,fun h0=>let ⟨b,o,hA,_,hc⟩:=hp h0;⟨b,o,hA,hc⟩⟩
theorem d_.own {α:Type} {f:α→Value} {w:World} {base:Nat} {e:TypeId} {A:Option Addr} {n cap:Nat} {l:List α} (h:w.ownsRow base e 1 (.slice A n cap) n (l.map f)):n=l.length∧d_ f w A l:=d_.of_row (Row.of_own h)
structure But (g:Nat) (w w':World):Prop where
 os:w'.os=w.os
 tape:w'.tape=w.tape
 output:w'.output=w.output
 size:w.heap.size≤w'.heap.size
 block:∀ k,k<w.heap.size→k≠g→w'.heap[k]? =w.heap[k]?
abbrev bV (x:Nat):Value:=.int .u8 x
abbrev uV (x:Nat):Value:=.int .u64 x
abbrev iV (x:Int):Value:=.int .i64 x
def eU (P:Program) (t:TypeId):Option (TypeId×Nat×Nat×Value):=match P.underlying t with | some (.slice e)=>(P.info? e).bind fun i=>i.zero.map fun z=>(e,i.size,i.bytes,z) | _=>none
theorem jd {P:Program} {t e size by_:Nat} {z:Value} (h:eU P t=some (e,size,by_,z)):∃ i,P.underlying t=some (.slice e)∧P.info? e=some i∧i.size=size∧i.bytes=by_∧i.zero=some z:=by
 unfold eU at h;split at h
 ·rename_i e' hu;cases hi:P.info? e' with
  |none=>simp [hi] at h
  |some i=>
   rw [hi] at h;cases hz:i.zero with
   |none=>simp [hz] at h
   |some z'=>
    simp only [Option.bind_some,hz,Option.map_some,Option.some.injEq,Prod.mk.injEq] at h;obtain ⟨rfl,rfl,rfl,rfl⟩:=h;exact ⟨i,hu,hi,rfl,rfl,hz⟩
 ·cases h
section
variable {P:Program} {ops:Array Oper} {Q:Exit→Act→World→Prop} {rest:List Oper} {n:Fr} {L:List (Nat×Value)} {w:World} {ty:TypeId} {pos:String} {after:Array Edge} {d:Nat} {t:TypeId} {x s:Operand}
theorem qa {ρ:Operand→Value} {e m size by_:Nat} {l:List (Nat×Operand)} {cells:Array Value} {z:Value} (hq:eU P t=some (e,size,by_,z)) (hsmall:Nat.ble (m*size) 16777216=true) (hpos:Nat.beq (m*size) 0=false)
 (hf:Instr.fill (fun i=>some (i*size,size)) ((Array.range (m*size)).map (z.cells[·%z.cells.size]!)) (l.map fun p=>(p.1,ρ p.2))=some cells) :
 RO P ρ (.buildSlice t m l.toArray) w (.slice (some ⟨w.heap.size,0,none⟩) m m) (w.alloc (.cells cells e)):=by
 obtain ⟨i,hu,hi,hs,_,hz⟩:=jd hq;subst hs;refine oQ hu hi hz ?_ ?_ hf
 ·have:=Nat.le_of_ble_eq_true hsmall;omega
 ·intro h0;rw [h0] at hpos;cases hpos
theorem gi {e m size by_:Nat} {l:List (Nat×Operand)} {cells:Array Value} {z:Value} (hq:eU P t=some (e,size,by_,z)) (hsmall:Nat.ble (m*size) 16777216=true) (hpos:Nat.beq (m*size) 0=false)
 (hf:Instr.fill (fun i=>some (i*size,size)) ((Array.range (m*size)).map (z.cells[·%z.cells.size]!)) (l.map fun p=>(p.1,ev n L p.2))=some cells)
 (k:∀ g w',ag w w'→g=w.heap.size→Blk w' g e cells→St P ops Q rest n ((d,.slice (some ⟨g,0,none⟩) m m)::L) w'):St P ops Q (⟨some d,.buildSlice t m l.toArray,ty,pos,after,none⟩::rest) n L w:=
 aa (qa hq hsmall hpos hf) (k _ _ (ag.rfl_.new _) rfl (Blk.new w e _))
theorem j5 {e by_:Nat} {z v:Value} (hq:eU P t=some (e,1,by_,z)) (_:z.cells.size=1) (hx:ev n L x=v) (hv:v.cells=#[v])
 (k:∀ g w',ag w w'→g=w.heap.size→Blk w' g e #[v]→St P ops Q rest n ((d,.slice (some ⟨g,0,none⟩) 1 1)::L) w'):St P ops Q (⟨some d,.buildSlice t 1 #[(0,x)],ty,pos,after,none⟩::rest) n L w:=by
 refine gi (l:=[(0,x)]) (cells:=#[v]) hq rfl rfl ?_ k
 have e1:(Array.range (1*1)).map (z.cells[·%z.cells.size]!)=#[z.cells[0]!]:=by
  rw [show Array.range (1*1)=#[0] from rfl];simp
 rw [e1];simp [Instr.fill,hx,hv]
def gU {α:Type}:Nat→List α→List (Nat×α)
 |_,[]=>[]
 |i,x::r=>(i,x)::gU (i+1) r
theorem lp {α β:Type} (f:α→β):∀ (i:Nat) (l:List α),(gU i l).map (fun p=>(p.1,f p.2))=gU i (l.map f)
 |_,[]=>rfl
 |i,x::r=>by simp [gU,lp f (i+1) r]
theorem nX:∀ (vs:List Value) (k:Nat) (cells:Array Value),(∀ v∈vs,v.cells=#[v])→k+vs.length≤cells.size→
 ∃ R:Array Value,Instr.fill (fun i=>some (i*1,1)) cells (gU k vs)=some R∧R.size=cells.size∧∀ j,R[j]? =if k≤j∧j<k+vs.length then vs[j-k]? else cells[j]?
 |[],k,cells,_,_=>⟨cells,rfl,rfl,fun j=>by rw [if_neg (by simp only [List.length_nil];omega)]⟩
 |v::r,k,cells,h,hl=>by
  simp only [List.length_cons] at hl;have hv:v.cells=#[v]:=h v (List.mem_cons_self ..);obtain ⟨R,hR,hs,hc⟩:=nX r (k+1) (cells.setIfInBounds k v) (fun u hu=>h u (List.mem_cons_of_mem _ hu)) (by rw [Array.size_setIfInBounds];omega);have hcond:¬ (cells.size<k+1):=by omega
  refine ⟨R,?_,by simpa using hs,fun j=>?_⟩
  ·simp only [gU,Instr.fill,Nat.mul_one,hv];simpa [hcond] using hR
  ·rw [hc];by_cases hj:j=k
   ·subst hj;rw [if_neg (by omega),if_pos (by simp)];simp [show j<cells.size by omega]
   ·by_cases h2:k+1≤j∧j<k+1+r.length
    ·rw [if_pos h2,if_pos (by simp;omega)];obtain ⟨d,hd⟩:∃ d,j-k=d+1:=⟨j-k-1,by omega⟩;rw [hd,show j-(k+1)=d by omega,List.getElem?_cons_succ]
    ·rw [if_neg h2,if_neg (by simp;omega),Array.getElem?_setIfInBounds_ne (fun e=>hj e.symm)]
theorem yZ {e by_ m:Nat} {z:Value} (xs:List Operand) (vs:List Value) (hq:eU P t=some (e,1,by_,z)) (hm:xs.length=m) (hsmall:Nat.ble m 16777216=true) (hpos:Nat.beq m 0=false) (hx:xs.map (ev n L)=vs) (hv:∀ v∈vs,v.cells=#[v])
 (k:∀ g w',ag w w'→g=w.heap.size→Blk w' g e vs.toArray→St P ops Q rest n ((d,.slice (some ⟨g,0,none⟩) m m)::L) w'):St P ops Q (⟨some d,.buildSlice t m (gU 0 xs).toArray,ty,pos,after,none⟩::rest) n L w:=by
 have hlen:vs.length=m:=by rw [←hx,List.length_map,hm]
 obtain ⟨R,hR,hs,hc⟩:=nX vs 0 ((Array.range (m*1)).map (z.cells[·%z.cells.size]!)) hv (by simp;omega)
 have hRe:R=vs.toArray:=by
  apply Array.ext_getElem?;intro j;rw [hc];by_cases hj:j<m
  ·rw [if_pos ⟨by omega,by omega⟩,Nat.sub_zero,List.getElem?_toArray]
  ·rw [if_neg (by omega),Array.getElem?_eq_none (by rw [Array.size_map,Array.size_range];omega),Array.getElem?_eq_none (by rw [List.size_toArray];omega)]
 subst hRe;refine gi hq (by rw [Nat.mul_one];exact hsmall) (by rw [Nat.mul_one];exact hpos) ?_ k;rw [lp,hx];exact hR
theorem kB {base:Nat} {A A2:Option Addr} {m j cap c2 e size by_:Nat} {z:Value} {xs news:List Value} (hq:eU P t=some (e,size,by_,z)) (hzs:z.cells.size=size) (hs0:0<size)
 (hs:ev n L s=.slice A m cap) (hown:w.ownsRow base e size (.slice A m cap) m xs) (hB:base≤w.heap.size)
 (hx:ev n L x=.slice A2 j c2) (hl:news.length=j*size) (hsrc:0<j→∃ b o,A2=some ⟨b,o,none⟩∧w.rangeAt b o news) (hnil:A2=none→c2=0) (h1:∀ u∈news,u.oneCell'=true) (h63:m+j≤9223372036854775807) (hby:(m+j)*by_≤140737488355328)
 (k:∀ A' cap' w',w'.ownsRow base e size (.slice A' (m+j) cap') (m+j) (xs++news)→w.grownBy w' (A.map (·.block))→St P ops Q rest n ((d,.slice A' (m+j) cap')::L) w') :
 St P ops Q (⟨some d,.call { callee:=.builtin .append,args:=#[s,x],argTypes:=#[t,t] },ty,pos,after,none⟩::rest) n L w:=by
 obtain ⟨i,hu,hi,hsz,hb,hz⟩:=jd hq;have hobl:(Value.slice A m cap).ownBlock=A.map (·.block):=by cases A <;> rfl
 cases A2 with
 |none=>
  have hj:j=0:=by
   rcases Nat.eq_zero_or_pos j with h | h
   ·exact h
   ·obtain ⟨b,o,hA,_⟩:=hsrc h;cases hA
  subst hj;have hnn:news=[]:=List.eq_nil_of_length_eq_zero (by simpa using hl);subst hnn;have hc:=hnil rfl;subst hc;refine ⟨wpList_append_own_none (P:=P) (a:=mkA n L) rfl s x t rfl base e i size hu hi _ m xs (by rw [cg];exact hs) hown (by rw [cg];exact hx) ?_⟩;rw [ej];have:=k A cap w (by simpa using hown) (World.grownBy.refl _ _);simpa using this.out
 |some ad=>
  by_cases hj:j=0
  ·subst hj;have hnn:news=[]:=List.eq_nil_of_length_eq_zero (by simpa using hl);subst hnn;refine ⟨wpList_append_own (P:=P) w (a:=mkA n L) rfl s x t rfl base e i z size by_ hu hi hz hsz hb hzs hs0 _ m xs (by rw [cg];exact hs) hown ad 0 c2 [] (by rw [cg];exact hx) (by simp) (by simp) (by simp) (by unfold maxLen;omega) hby hB ?_⟩;intro v' w' hown' hg _;obtain ⟨A',cap',rfl⟩:=fp hown';rw [ej];exact (k A' cap' w' hown' (by rw [←hobl];exact hg)).out
  ·obtain ⟨b,o,hA,hr⟩:=hsrc (by omega);cases hA;refine ⟨wpList_append_own (P:=P) w (a:=mkA n L) rfl s x t rfl base e i z size by_ hu hi hz hsz hb hzs hs0 _ m xs (by rw [cg];exact hs) hown ⟨b,o,none⟩ j c2 news (by rw [cg];exact hx) hl (fun i u hu=>by rw [Addr.add_mid];exact hr i u hu) h1 (by unfold maxLen;omega) hby hB ?_⟩;intro v' w' hown' hg _;obtain ⟨A',cap',rfl⟩:=fp hown';rw [ej];exact (k A' cap' w' hown' (by rw [←hobl];exact hg)).out
theorem dk {a0:World} {A A2:Option Addr} {m j cap c2 e size by_:Nat} {z:Value} {xs news:List Value} (hq:eU P t=some (e,size,by_,z)) (hzs:z.cells.size=size) (hs0:0<size)
 (hs:ev n L s=.slice A m cap) (hown:w.ownsRow a0.heap.size e size (.slice A m cap) m xs) (hB:ag a0 w)
 (hx:ev n L x=.slice A2 j c2) (hl:news.length=j*size) (hsrc:0<j→∃ b o,A2=some ⟨b,o,none⟩∧w.rangeAt b o news) (hnil:A2=none→c2=0) (h1:∀ u∈news,u.oneCell'=true) (h63:m+j≤9223372036854775807) (hby:(m+j)*by_≤140737488355328)
 (k:∀ A' cap' w',w'.ownsRow a0.heap.size e size (.slice A' (m+j) cap') (m+j) (xs++news)→ag a0 w'→w.grownBy w' (A.map (·.block))→St P ops Q rest n ((d,.slice A' (m+j) cap')::L) w') :
 St P ops Q (⟨some d,.call { callee:=.builtin .append,args:=#[s,x],argTypes:=#[t,t] },ty,pos,after,none⟩::rest) n L w:=
 kB hq hzs hs0 hs hown hB.size hx hl hsrc hnil h1 h63 hby fun A' cap' w' ho hg=>k A' cap' w' ho (hB.grew hg (fun k' hk=>(hown.lt k' (by rw [←hk];cases A <;> rfl)).1)) hg
theorem wP {a0:World} {A:Option Addr} {m cap e by_ b:Nat} {z v:Value} {xs:List Value} (hq:eU P t=some (e,1,by_,z)) (hzs:z.cells.size=1)
 (hs:ev n L s=.slice A m cap) (hown:w.ownsRow a0.heap.size e 1 (.slice A m cap) m xs) (hB:ag a0 w)
 (hx:ev n L x=.slice (some ⟨b,0,none⟩) 1 1) (hb:Blk w b e #[v]) (h1:v.oneCell'=true) (h63:m+1≤9223372036854775807) (hby:(m+1)*by_≤140737488355328)
 (k:∀ A' cap' w',w'.ownsRow a0.heap.size e 1 (.slice A' (m+1) cap') (m+1) (xs++[v])→ag a0 w'→w.grownBy w' (A.map (·.block))→St P ops Q rest n ((d,.slice A' (m+1) cap')::L) w') :
 St P ops Q (⟨some d,.call { callee:=.builtin .append,args:=#[s,x],argTypes:=#[t,t] },ty,pos,after,none⟩::rest) n L w:=
 dk hq hzs (by decide) hs hown hB hx rfl (fun _=>⟨b,0,rfl,fun i u hu=>by
  cases i with
  |zero=>simp at hu;subst hu;rw [hb.cell];rfl
  |succ i=>simp at hu⟩) (fun h=>by cases h) (by simpa using h1) h63 hby k
end
theorem rm {w:World} {base e s n c:Nat} {A:Option Addr} {xs:List Value} (h:w.ownsRow base e s (.slice A n c) n xs) (hn:0<n):∃ g,A=some ⟨g,0,none⟩:=by
 rcases h.2 with ⟨_,h0⟩ | ⟨g,cap,cur,hv,_⟩
 ·omega
 ·simp only [Value.slice.injEq] at hv;exact ⟨g,hv.1⟩
theorem dw {w w1 w2:World} {r:Option Nat} (h:w.grownBy w1 r) (k:w1.grownBy w2 r):w.grownBy w2 r:=
 ⟨k.os.trans h.os,k.tape.trans h.tape,k.output.trans h.output,Nat.le_trans h.size k.size,fun i hi hg=>(k.block i (Nat.lt_of_lt_of_le hi h.size) hg).trans (h.block i hi hg)⟩
theorem cY.grown {g:Nat} {w w':World} (h:cY g w w'):w.grownBy w' (some g):=⟨h.os,h.tape,h.output,by rw [h.size];exact Nat.le_refl _,fun k _ hk=>h.block k (fun e=>hk (by rw [e]))⟩
theorem ag.grown {w w':World} (h:ag w w') (r:Option Nat):w.grownBy w' r:=⟨h.os,h.tape,h.output,h.size,fun k hk _=>h.block k hk⟩
end Go.Proofs.YtaohnmneccbljaaGreatDoor
namespace Go.Proofs.YtaohnmneccbljaaGreatDoor
open Go.Proofs.Tryz (prog)
open Go.RowKit
structure RV (P:Program) (n:Fr) (L:List (Nat×Value)) (w:World) (r:ResultVar) (v:Value):Prop where
 out:match r with
  | .tmp t=>(mkT n.n L)[t]?.getD undef=v
  | .cell a t=>∃ ad,(mkT n.n L)[a]?.getD undef=.pointer (some ad)∧(loadVar t ad).run P w=.ok v w
section
variable {P:Program} {n:Fr} {L:List (Nat×Value)} {w:World} {fn:Func}
theorem AC {t:Nat} {v:Value} (h:ev n L (.tmp t)=v):(mkT n.n L)[t]?.getD undef=v:=by
 have:=f_ n.n L t;rw [←Array.getD_eq_getD_getElem?,this];exact h
theorem cD {t:Nat} {v:Value} (h:ev n L (.tmp t)=v):RV P n L w (.tmp t) v:=⟨AC h⟩
theorem bx {t ty b off:Nat} {cs:List Value} (ht:fK P ty=some true) (hs:cS P ty=some cs.length) (hx:ev n L (.tmp t)=.pointer (some ⟨b,off,none⟩)) (hc:w.rangeAt b off cs):RV P n L w (.cell t ty) (.agg cs.toArray):=⟨_,AC hx,by
 have hl:(loadCells ⟨b,off,none⟩ cs.length).run P w=.ok cs.toArray w:=
  run_loadCells_list (P:=P) w ⟨b,off,none⟩ cs (fun j v hv=>by rw [Addr.add_mid];exact hc j v hv)
 simp [loadVar,nT ht,dD hs,hl]⟩
theorem bH {ρ:Operand→Value} {op:Op} {w':World} {v v':Value} (h:RO P ρ op w v w') (he:v=v'):RO P ρ op w v' w':=he ▸ h
theorem cU {ρ:Operand→Value} {op:Op} {w':World} {b:Bool} (h:RO P ρ op w (.bool b) w') (he:b=true):RO P ρ op w (.bool true) w':=he ▸ h
theorem bh {ρ:Operand→Value} {op:Op} {w':World} {b:Bool} (h:RO P ρ op w (.bool b) w') (he:b=false):RO P ρ op w (.bool false) w':=he ▸ h
theorem xc {ρ:Operand→Value} {x y:Operand} {k:IntKind} {a b:Int} {ats:Array TypeId} (hx:ρ x=.int k a) (hy:ρ y=.int k b):RO P ρ (.call { callee:=.builtin .min,args:=#[x,y],argTypes:=ats }) w (.int k (min a b)) w:=fun _ _ _ _ _=>by
 have h:(if b<a then b else a)=min a b:=by split <;> omega
 simp [BigFrame.execOp_builtin,BigFrame.builtin_min,hx,hy,run_min_int2,h]
theorem p_ {ρ:Operand→Value} {x y:Operand} {k:IntKind} {a b:Int} {ats:Array TypeId} (hx:ρ x=.int k a) (hy:ρ y=.int k b):RO P ρ (.call { callee:=.builtin .max,args:=#[x,y],argTypes:=ats }) w (.int k (max a b)) w:=fun _ _ _ _ _=>by
 have h:(if a<b then b else a)=max a b:=by split <;> omega
 simp [BigFrame.execOp_builtin,BigFrame.builtin_max,hx,hy,run_max_int2,h]
def dm (A:Option Addr) (c l sz:Nat):Option Addr:=if c=l then A else A.map fun x=>x.add (l*sz)
theorem bk {ρ:Operand→Value} {x:Operand} {t e sz l h m c:Nat} {A:Option Addr} (ht:dq P t=some (e,sz)) {lo hi:Option Operand} (hx:ρ x=.slice A m c)
 (hl:(lo=none∧l=0)∨∃ y k i,lo=some y∧ρ y=.int k i∧i=(l:Int)) (hh:(hi=none∧h=m)∨∃ y k i,hi=some y∧ρ y=.int k i∧i=(h:Int)) (h1:l≤h) (h2:h≤c) :
 RO P ρ (.slice t x lo hi none) w (.slice (dm A c l sz) (h-l) (c-l)) w:=fun _ _ _ _ _=>by
 obtain ⟨hu,hs⟩:=fS ht;have hE:P.elem t=e:=by simp [Program.elem,hu]
 have hu':P.underlying t=some (.slice (P.elem t)):=by rw [hE];exact hu
 have fin:(Result.ok (sliced A l h c sz) w:Result Value)=.ok (.slice (dm A c l sz) (h-l) (c-l)) w:=by
  simp only [sliced,dm]
 rcases hl with ⟨rfl,rfl⟩ | ⟨y1,k1,_,rfl,hy1,rfl⟩ <;> rcases hh with ⟨rfl,rfl⟩ | ⟨y2,k2,_,rfl,hy2,rfl⟩
 ·simp only [execOp,hx,Option.map_none,Sem.run_bind];rw [run_sliceAt_slice w t _ _ _ _ hu',run_slice_all w t _ _ c hu',hE,dD hs,Result.andThen_ok,fin];rfl
 ·simp only [execOp,hx,hy2,Option.map_none,Option.map_some,Sem.run_bind];rw [run_sliceAt_slice w t _ _ _ _ hu',run_slice_h w t _ m c hu' k2 (h:Int) (by omega) (by omega),hE,dD hs,Result.andThen_ok,Int.toNat_natCast,fin];rfl
 ·simp only [execOp,hx,hy1,Option.map_none,Option.map_some,Sem.run_bind];rw [run_sliceAt_slice w t _ _ _ _ hu',run_slice_l w t _ _ c hu' k1 (l:Int) (by omega) (by omega),hE,dD hs,Result.andThen_ok,Int.toNat_natCast,fin];rfl
 ·simp only [execOp,hx,hy1,hy2,Option.map_none,Option.map_some,Sem.run_bind];rw [run_sliceAt_slice w t _ _ _ _ hu',run_slice_lh w t _ m c hu' k1 k2 (l:Int) (h:Int) (by omega) (by omega) (by omega),hE,dD hs,Result.andThen_ok,Int.toNat_natCast,Int.toNat_natCast,fin];rfl
theorem rh {m:Nat} {r:ResultVar} {R:Value→World→Prop} {v:Value} (hr:fn.results=#[r]) (h1:RV P ⟨m,[]⟩ L w r v) (h:R v w) :
 bodyPost P fn (fun e w'=>∃ v,e=.returned v∧R v w') .ret (mkA ⟨m,[]⟩ L) w:=by
 refine bodyPost_ret (v:=v) ?_ rfl ⟨v,rfl,h⟩;have e1:=h1.out;show (results fn (mkT m L)).run P w=_;cases r <;> simp_all only [] <;> (try obtain ⟨_,_,_⟩:=e1) <;> simp_all [results,asAddr]
theorem dN {m:Nat} {r r':ResultVar} {R:Value→World→Prop} {v v':Value} (hr:fn.results=#[r,r']) (h1:RV P ⟨m,[]⟩ L w r v) (h2:RV P ⟨m,[]⟩ L w r' v') (h:R (.tuple #[v,v']) w) :
 bodyPost P fn (fun e w'=>∃ v,e=.returned v∧R v w') .ret (mkA ⟨m,[]⟩ L) w:=by
 refine bodyPost_ret (v:=.tuple #[v,v']) ?_ rfl ⟨_,rfl,h⟩;have e1:=h1.out;have e2:=h2.out;show (results fn (mkT m L)).run P w=_;cases r <;> cases r' <;> simp_all only [] <;> (try obtain ⟨_,_,_⟩:=e1) <;> (try obtain ⟨_,_,_⟩:=e2) <;> simp_all [results,asAddr]
end
end Go.Proofs.YtaohnmneccbljaaGreatDoor
namespace Go.Proofs.YtaohnmneccbljaaGreatDoor
open Go.Proofs.Tryz (prog)
open Go.RowKit
structure PQ (Q:Exit→Act→World→Prop):Prop where
 out:∀ (d:Option Nat) (v:Value) (c:List PanicEntry) (a:Act) (w:World),Q (.panic c) (a.put d v) w→Q (.panic c) a w
theorem cq {K:Act→World→Prop} {Q:Exit→Act→World→Prop} (h:PQ Q):PQ (Exit.then K Q):=⟨fun d v c a w hq=>h.out d v c a w hq⟩
theorem bU {id:Nat} {Q:Exit→Act→World→Prop} (h:PQ Q):PQ (Exit.inBlock id Q):=⟨fun d v c a w hq=>h.out d v c a w hq⟩
theorem cr {P:Program} {fn:Func} {R:Ending→World→Prop}:PQ (bodyPost P fn R):=⟨fun d v c a w hq=>by
 cases d with
 |none=>exact hq
 |some d=>exact hq⟩
def nR:Op→Bool | .move _=>true | .assign _=>true | .extract _ _=>true | _=>false
theorem rH {P:Program} {ρ:Operand→Value} {o:Oper} (h:nR o.op=true) {w w':World} {r:Next} (hr:(execOp ρ o).run P w=.ok r w'):w'=w∧∀ w2,(execOp ρ o).run P w2=.ok r w2:=by
 obtain ⟨dst,op,ty,pos,after,guard⟩:=o;cases op <;> simp only [nR,Bool.false_eq_true] at h
 ·simp only [execOp,Sem.run_pure,Result.ok.injEq] at hr ⊢;exact ⟨hr.2.symm,fun w2=>⟨hr.1,trivial⟩⟩
 ·simp only [execOp,Sem.run_pure,Result.ok.injEq] at hr ⊢;exact ⟨hr.2.symm,fun w2=>⟨hr.1,trivial⟩⟩
 ·rename_i x i;simp only [execOp,Sem.run_bind] at hr ⊢;cases hx:ρ x <;> simp only [hx,Instr.extract] at hr ⊢ <;> (try (simp at hr;done))
  rename_i vs;cases hv:vs[i]? <;> simp [hv] at hr ⊢
  exact ⟨hr.2.symm,hr.1⟩
def xP (l:List Oper) (K j:Nat):Bool:=(List.range l.length).any fun i=>decide (K≤i)&&(match l[i]? with | some o=> !gx o j | none=>false)
def BD (l:List Oper) (K:Nat):Bool:=
 (List.range K).all fun j=> !xP l K j||match l[j]? with
  |none=>false
  |some o=>nR o.op&&o.guard.isNone&&o.dst.isSome&&(List.range l.length).all fun i=>i==j||match l[i]? with
   |none=>false
   |some y=>(if i<K then !xP l K i else gx y j)||o.apart l.toArray y
def Ce (l:List Oper) (K:Nat):Bool:=
 let ops:=l.toArray
 let dst (i:Nat):Option Nat:=(l[i]?).bind (·.dst)
 (decide (K≤l.length)&&
 (List.range l.length).all fun i=>match l[i]? with
  |none=>false
  |some o=>
   (o.after.toList.all fun e=> !Region.binds .any e||decide (e.on<i))&&!cK o.op&&
   (if i<K then
    (match o.dst with
     |none=>false
     |some d=>(List.range K).all (fun j=>j==i||dst j != some d)&&!((o.looksAt ops).elem d))&&
    (List.range K).all (fun j=>match dst j with
     |none=>false
     |some d=> !(o.looksAt ops).elem d||(decide (j<i)&&gx o j))
    else (List.range i).all (fun j=>gx o j||decide (j<K))))&&BD l K
section late
variable {P:Program} {Q:Exit→Act→World→Prop} {n:Fr} {L:List (Nat×Value)} {w:World} {l:List Oper} {K:Nat} {R:Nat→Value→World→Prop}
def gu (l:List Oper) (f:Nat→Value):List Nat→Act→Act
 |[],a=>a
 |i::r,a=>(gu l f r a).put ((l[i]?).bind (·.dst)) (f i)
theorem rl {f:Nat→Value} {x:Option Nat} {v:Value}:∀ (U:List Nat) (a:Act),(∀ i∈U,∀ d,x=some d→(l[i]?).bind (·.dst)≠some d)→gu l f U (a.put x v)=(gu l f U a).put x v
 |[],_,_=>rfl
 |i::r,a,h=>by
  show (gu l f r (a.put x v)).put _ _=((gu l f r a).put _ _).put _ _;rw [rl r a (fun j hj=>h j (List.mem_cons_of_mem _ hj))];exact Act.put_comm _ _ _ (h i (List.mem_cons_self ..))
theorem nH {f:Nat→Value} {i:Nat}:∀ (U:List Nat) (a:Act),i∈U→U.Nodup→(∀ j∈U,j≠i→∀ d,(l[i]?).bind (·.dst)=some d→(l[j]?).bind (·.dst)≠some d)→gu l f (U.erase i) (a.put ((l[i]?).bind (·.dst)) (f i))=gu l f U a
 |[],_,h,_,_=>by cases h
 |j::r,a,h,hn,hd=>by
  obtain ⟨hn1,hn2⟩:=List.nodup_cons.1 hn;by_cases e:j=i
  ·subst e;rw [List.erase_cons_head];exact rl r a (fun k hk=>hd k (List.mem_cons_of_mem _ hk) (fun e=>hn1 (e ▸ hk)))
  ·rw [List.erase_cons_tail (by simpa using e)];show (gu l f (r.erase i) _).put _ _=(gu l f r a).put _ _;rw [nH r a ((List.mem_cons.1 h).resolve_left (fun h=>e h.symm)) hn2 (fun k hk=>hd k (List.mem_cons_of_mem _ hk))]
theorem nc {o y:Oper} {v u:Value} {a:Act} (hs:cK o.op=false) (hap:o.apart l.toArray y=true):Yields P l.toArray o v (a.put y.dst u)↔Yields P l.toArray o v a:=by
 have h3:=(Oper.apart_spec hap).2.2;have hs':∀ cs b,o.op≠.select cs b:=fun cs b e=>by rw [e] at hs;simp [cK] at hs
 exact ⟨fun h=>h.of_same (execOp_put o hs' a y.dst u h3).symm (wanted_put o a y.dst u h3).symm,fun h=>h.of_same (execOp_put o hs' a y.dst u h3) (wanted_put o a y.dst u h3)⟩
theorem jC {f:Nat→Value} {o:Oper} {v:Value} (hs:cK o.op=false):∀ (U:List Nat) (a:Act),(∀ i∈U,∃ y,l[i]? =some y∧o.apart l.toArray y=true)→(Yields P l.toArray o v (gu l f U a)↔Yields P l.toArray o v a)
 |[],_,_=>Iff.rfl
 |i::r,a,h=>by
  obtain ⟨y,hy,hap⟩:=h i (List.mem_cons_self ..);show Yields P l.toArray o v ((gu l f r a).put _ _)↔_;rw [hy];exact (nc hs hap).trans (jC hs r a (fun j hj=>h j (List.mem_cons_of_mem _ hj)))
theorem o4 (hQ:PQ Q) {f:Nat→Value} {k:Nat} {o:Oper} (ho:l[k]? =some o) (hs:cK o.op=false):∀ (U:List Nat) (Kk:Act→World→Prop) (a:Act),U.Nodup→
 (∀ i∈U,∃ y,l[i]? =some y∧cK y.op=false∧y.apart l.toArray o=true∧Yields P l.toArray y (f i) a∧∀ j∈U,j≠i→∃ z,l[j]? =some z∧y.apart l.toArray z=true)→
 wpOp P l.toArray Q k Kk (gu l f U a) w→wpOp P l.toArray Q k (fun a' w'=>(∀ i∈U,∀ y,l[i]? =some y→Yields P l.toArray y (f i) a')∧Kk (gu l f U a') w') a w
 |[],Kk,a,_,_,h=>wpOp_mono (fun a w h=>⟨by simp,h⟩) h
 |i::r,Kk,a,hn,hU,h=>by
  obtain ⟨hn1,hn2⟩:=List.nodup_cons.1 hn;obtain ⟨y,hy,hsy,hap,hyl,hoth⟩:=hU i (List.mem_cons_self ..);have hr:∀ j∈r,∃ z,l[j]? =some z∧y.apart l.toArray z=true:=fun j hj=>hoth j (List.mem_cons_of_mem _ hj) (fun e=>hn1 (e ▸ hj))
  have hsel:∀ {x:Oper},cK x.op=false→∀ cs b,x.op≠.select cs b:=fun hs cs b e=>by rw [e] at hs;simp [cK] at hs
  have e0:gu l f (i::r) a=(gu l f r a).put y.dst (f i):=by
   show (gu l f r a).put _ _=_;rw [hy];rfl
  rw [e0] at h;have h1:=wpOp_put (P:=P) (ops:=l.toArray) (by rw [List.getElem?_toArray];exact ho) hap (hsel hsy) (hsel hs) (fun c a w=>hQ.out _ _ c a w) ((jC hsy r a hr).2 hyl) h
  have h2:=o4 hQ ho hs r _ a hn2 (fun j hj=>by
   obtain ⟨z,h1,h2,h3,h4,h5⟩:=hU j (List.mem_cons_of_mem _ hj);exact ⟨z,h1,h2,h3,h4,fun k hk=>h5 k (List.mem_cons_of_mem _ hk)⟩) h1
  refine wpOp_mono (fun a' w' hh=>?_) h2;obtain ⟨g1,g2,g3⟩:=hh;refine ⟨fun j hj z hz=>?_,?_⟩
  ·rcases List.mem_cons.1 hj with rfl | hj
   ·rw [hy] at hz;cases hz;exact (jC hsy r a' hr).1 g2
   ·exact g1 j hj z hz
  ·show Kk ((gu l f r a').put _ _) w';rw [hy];exact g3
theorem nG {f:Nat→Value}:∀ (U:List Nat) (L':List (Nat×Value)),gu l f U (mkA n L')=mkA n ((U.filterMap fun i=>((l[i]?).bind (·.dst)).map fun d=>(d,f i))++L')
 |[],_=>rfl
 |i::r,L'=>by
  show (gu l f r (mkA n L')).put _ _=_;rw [nG r L',List.filterMap_cons];cases hd:(l[i]?).bind (·.dst) with
  |none=>rfl
  |some d=>
   rw [ej];rfl
theorem gL {f:Nat→Value} {L':List (Nat×Value)} {t:Nat}:∀ (U:List Nat),(∀ i∈U,(l[i]?).bind (·.dst)≠some t)→aT ((U.filterMap fun i=>((l[i]?).bind (·.dst)).map fun d=>(d,f i))++L') t=aT L' t
 |[],_=>rfl
 |i::r,h=>by
  rw [List.filterMap_cons];have h1:=h i (List.mem_cons_self ..);cases hd:(l[i]?).bind (·.dst) with
  |none=>exact gL r (fun j hj=>h j (List.mem_cons_of_mem _ hj))
  |some d=>
   simp only [Option.map_some,List.cons_append];rw [bF,if_neg (fun e=>h1 (by rw [hd,e]))];exact gL r (fun j hj=>h j (List.mem_cons_of_mem _ hj))
theorem jc {f:Nat→Value} {L':List (Nat×Value)} {i d:Nat}:∀ (U:List Nat),i∈U→(l[i]?).bind (·.dst)=some d→(∀ j∈U,j≠i→(l[j]?).bind (·.dst)≠some d)→aT ((U.filterMap fun i=>((l[i]?).bind (·.dst)).map fun d=>(d,f i))++L') d=f i
 |[],h,_,_=>by cases h
 |j::r,h,hd,hne=>by
  rw [List.filterMap_cons];by_cases e:j=i
  ·subst e;rw [hd];simp only [Option.map_some,List.cons_append];rw [bF,if_pos rfl]
  ·have h1:=hne j (List.mem_cons_self ..) e;have ih:=jc (f:=f) (L':=L') r ((List.mem_cons.1 h).resolve_left (fun h=>e h.symm)) hd (fun k hk=>hne k (List.mem_cons_of_mem _ hk));cases hdj:(l[j]?).bind (·.dst) with
   |none=>exact ih
   |some d'=>
    simp only [Option.map_some,List.cons_append];rw [bF,if_neg (fun e=>h1 (by rw [hdj,e]))];exact ih
end late
end Go.Proofs.YtaohnmneccbljaaGreatDoor
namespace Go.Proofs.YtaohnmneccbljaaGreatDoor
open Go.Proofs.Tryz (prog)
open Go.RowKit
def jJ (Ex:List Nat) (RL:List (Nat×(Value→World→Prop))) (t:Nat):Value→World→Prop:=bif Ex.elem t then fun _ _=>True else fz RL t
theorem tc {Ex:List Nat} {l:List (Nat×(Value→World→Prop))} (h:pP l):∀ t v w1 w2,ag w1 w2→jJ Ex l t v w1→jJ Ex l t v w2:=by
 intro t v w1 w2 hF h1;unfold jJ at h1 ⊢;cases hb:Ex.elem t with
 |true=>trivial
 |false=>rw [hb] at h1;exact fF h t v w1 w2 hF h1
theorem xJ {Ex:List Nat} {l:List (Nat×(Value→World→Prop))}:∀ t v w,fz l t v w→jJ Ex l t v w:=by
 intro t v w h;unfold jJ;cases hb:Ex.elem t with
 |true=>trivial
 |false=>exact h
def MuR (Ex:List Nat) (d:Nat) (w1 w2:World):List (Nat×(Value→World→Prop))→Prop
 |[]=>True
 |(k,R)::r=>((Ex.elem k||Nat.beq k d)=true∨∀ u,R u w1→R u w2)∧MuR Ex d w1 w2 r
theorem lj {Ex:List Nat} {d:Nat} {w1 w2:World}:∀ {RL:List (Nat×(Value→World→Prop))},MuR Ex d w1 w2 RL→∀ t u,t≠d→fz RL t u w1→jJ Ex RL t u w2
 |[],_,t,u,_,_=>by unfold jJ;cases Ex.elem t <;> trivial
 |(k,R)::r,⟨h1,h2⟩,t,u,hd,h=>by
  have e:fz ((k,R)::r) t=bif Nat.beq t k then R else fz r t:=rfl
  have ih:=lj h2 t u hd;unfold jJ at ih ⊢;rw [e] at h ⊢;cases hx:Ex.elem t with
  |true=>trivial
  |false=>
   rw [hx] at ih;simp only [cond_false] at ih ⊢;cases hb:Nat.beq t k with
   |true=>
    have hk:t=k:=Nat.eq_of_beq_eq_true hb;subst hk;rw [hb] at h;rcases h1 with h1 | h1
    ·rw [hx,Bool.false_or] at h1;exact absurd (Nat.eq_of_beq_eq_true h1) hd
    ·exact h1 u h
   |false=>rw [hb] at h;exact ih h
def lx (l:List Oper) (o:Oper) (j:Nat):Bool:=gx o j||o.after.toList.any fun e=>Region.binds .any e&&match l[e.on]? with | some o'=>gx o' j | none=>false
def fY (l:List Oper) (listed:Array Bool):Prop:=∀ i o,l[i]? =some o→listed.getD i false=true→∀ e∈o.after,Region.binds .any e=true→listed.getD e.on false=true
theorem eu {l:List Oper} {listed:Array Bool} (hcl:fY l listed) {o:Oper} {j:Nat} (hall:∀ e∈o.after,Region.binds .any e=true→listed.getD e.on false=true) (h:lx l o j=true):listed.getD j false=true:=by
 have direct:∀ (x:Oper),(∀ e∈x.after,Region.binds .any e=true→listed.getD e.on false=true)→gx x j=true→listed.getD j false=true:=by
  intro x hx he;obtain ⟨e,he,he2⟩:=List.any_eq_true.1 he;simp only [Bool.and_eq_true,beq_iff_eq] at he2;have:=hx e (by simpa using he) he2.1
  rwa [he2.2] at this
 unfold lx at h;rcases Bool.or_eq_true_iff.1 h with h | h
 ·exact direct o hall h
 ·obtain ⟨e,he,he2⟩:=List.any_eq_true.1 h;simp only [Bool.and_eq_true] at he2;have h1:=hall e (by simpa using he) he2.1;cases ho:l[e.on]? with
  |none=>rw [ho] at he2;cases he2.2
  |some o'=>
   rw [ho] at he2;exact direct o' (hcl e.on o' ho h1) he2.2
theorem jj {l:List Oper} {listed:Array Bool} (hcl:fY l listed) {i:Nat} {o:Oper} (ho:l[i]? =some o) (hall:∀ e∈o.after,Region.binds .any e=true→listed.getD e.on false=true):fY l (listed.setIfInBounds i true):=by
 have up:∀ k,listed.getD k false=true→(listed.setIfInBounds i true).getD k false=true:=by
  intro k hk;by_cases e:i=k
  ·subst e
   have:i<listed.size:=by
    rcases Nat.lt_or_ge i listed.size with h | h
    ·exact h
    ·simp [Array.getD,show ¬ i<listed.size by omega] at hk
   simp [this]
  ·rw [getD_set_ne false e];exact hk
 intro k x hx hk e he hb;by_cases h:i=k
 ·subst h;rw [ho] at hx;cases hx;exact up _ (hall e he hb)
 ·rw [getD_set_ne false h] at hk;exact up _ (hcl k x hx hk e he hb)
theorem mz (l:List Oper) (n:Nat):fY l (Array.replicate n false):=by
 intro i o _ h;simp [Array.getD] at h
def zp (l:List Oper) (K i t:Nat):Bool:=(List.range K).any fun j=>match l[j]? with | some oj=>(oj.dst==some t)&&lx l oj i | none=>false
def eK (l:List Oper) (K i:Nat) (o:Oper):List Nat:=(eI l K).filter fun t=>(o.looksAt l.toArray).elem t&&!zp l K i t
def me (P:Program) (ops:Array Oper) (n:Fr) (L:List (Nat×Value)) (I2:World→Prop) (R1 R2:Nat→Value→World→Prop) (l0:List Oper) (K:Nat) (mu:Nat):Nat→List Oper→Prop
 |_,[]=>True
 |i,o::r=>(Nat.beq i mu=false→∀ w',I2 w'→ig R2 w' (eK l0 K i o) fun M=>aw P ops n (M++L) o w' (R1 (o.dst.getD 0)))∧me P ops n L I2 R1 R2 l0 K mu (i+1) r
theorem pt {P:Program} {ops:Array Oper} {n:Fr} {L:List (Nat×Value)} {I2:World→Prop} {R1 R2:Nat→Value→World→Prop} {l0:List Oper} {K mu:Nat}:∀ {l:List Oper} {k:Nat},me P ops n L I2 R1 R2 l0 K mu k l→∀ (i:Nat) (o:Oper),l[i]? =some o→k+i≠mu→
 ∀ w',I2 w'→ig R2 w' (eK l0 K (k+i) o) fun M=>aw P ops n (M++L) o w' (R1 (o.dst.getD 0))
 |[],_,_,i,o,h,_=>by simp at h
 |x::r,k,⟨h1,h2⟩,0,o,h,hne=>by
  simp only [List.getElem?_cons_zero,Option.some.injEq] at h;subst h;rw [Nat.add_zero] at hne ⊢;refine h1 ?_;rw [←Bool.not_eq_true];intro hb;exact hne (Nat.eq_of_beq_eq_true hb)
 |x::r,k,⟨h1,h2⟩,i+1,o,h,hne=>by
  have:=pt h2 i o (by simpa using h) (by omega)
  rwa [show k+1+i=k+(i+1) by omega] at this
theorem nM {P:Program} {ops:Array Oper} {n:Fr} {L:List (Nat×Value)} {I2:World→Prop} {R1 R2:Nat→Value→World→Prop} {l0:List Oper} {K mu:Nat} {l:List Oper} (h:me P ops n L I2 R1 R2 l0 K mu 0 l) (i:Nat) (o:Oper) (ho:l[i]? =some o) (hne:i≠mu)
 (w':World) (hw:I2 w'):ig R2 w' (eK l0 K i o) fun M=>aw P ops n (M++L) o w' (R1 (o.dst.getD 0)):=by
 have:=pt h i o ho (by rw [Nat.zero_add];exact hne) w' hw
 rwa [Nat.zero_add] at this
def qO (P:Program) (ops:Array Oper) (n:Fr) (L:List (Nat×Value)) (o:Oper) (w:World) (post:Value→World→Prop):Prop:=
 Region.wanted o (yielded ops (mkT n.n L))=true∧((∃ v w',(execOp (ev n L) o).run P w=.ok (.value v) w'∧post v w')∨(∃ f l,(execOp (ev n L) o).run P w=.ok (.enter f (List.toArray l)) w∧Rt P f l w post))
def Ak (P:Program) (ops:Array Oper) (n:Fr) (L:List (Nat×Value)) (I1 I2:World→Prop) (R1 R2:Nat→Value→World→Prop) (l0:List Oper) (K mu:Nat):Option Oper→Prop
 |none=>True
 |some o=>∀ w',I1 w'→ig R1 w' (eK l0 K mu o) fun M=>qO P ops n (M++L) o w' fun v w''=>I2 w''∧R2 (o.dst.getD 0) v w''∧∀ t u,t≠o.dst.getD 0→R1 t u w'→R2 t u w''
def dE (l:List Oper) (K j:Nat):Bool:=(List.range l.length).any fun i=>decide (K≤i)&&(match l[i]? with | some o=> !lx l o j | none=>false)
def Au (l:List Oper) (K:Nat):Bool:=
 (List.range K).all fun j=> !dE l K j||match l[j]? with
  |none=>false
  |some o=>nR o.op&&o.guard.isNone&&o.dst.isSome&&(List.range l.length).all fun i=>i==j||match l[i]? with
   |none=>false
   |some y=>(if i<K then !dE l K i else lx l y j)||o.apart l.toArray y
def kv (l:List Oper) (K:Nat):Bool:=
 let ops:=l.toArray
 let dst (i:Nat):Option Nat:=(l[i]?).bind (·.dst)
 (decide (K≤l.length)&&
 (List.range l.length).all fun i=>match l[i]? with
  |none=>false
  |some o=>
   (o.after.toList.all fun e=> !Region.binds .any e||decide (e.on<i))&&!cK o.op&&
   (if i<K then
    (match o.dst with
     |none=>false
     |some d=>(List.range K).all (fun j=>j==i||dst j != some d)&&!((o.looksAt ops).elem d))&&
    (List.range K).all (fun j=>match dst j with
     |none=>false
     |some d=> !(o.looksAt ops).elem d||zp l K i d||(decide (j<i)&&lx l o j))
    else (List.range i).all (fun j=>lx l o j||decide (j<K))))&&Au l K
section late
variable {P:Program} {Q:Exit→Act→World→Prop} {n:Fr} {L:List (Nat×Value)} {w:World} {l:List Oper} {K:Nat} {R:Nat→Value→World→Prop}
theorem gV (hc:Au l K=true) {j:Nat} {o:Oper} (hj:j<K) (ho:l[j]? =some o) (hl:dE l K j=true) :
 nR o.op=true∧o.guard=none∧∀ i y,l[i]? =some y→i≠j→((i<K∧dE l K i=true)∨(K≤i∧lx l y j=false))→o.apart l.toArray y=true:=by
 have h:=List.all_eq_true.1 hc j (List.mem_range.2 hj);rw [hl,ho] at h;simp only [Bool.not_true,Bool.false_or,Bool.and_eq_true] at h;refine ⟨h.1.1.1,by simpa using h.1.1.2,fun i y hi hne hcase=>?_⟩;have h2:=List.all_eq_true.1 h.2 i (List.mem_range.2 (List.getElem?_eq_some_iff.1 hi).1);rw [hi] at h2;simp only [beq_iff_eq,hne,Bool.or_eq_true,false_or] at h2;rcases hcase with ⟨h3,h4⟩ | ⟨h3,h4⟩
 ·simp [h3,h4] at h2;exact h2
 ·simp [show ¬ i<K by omega,h4] at h2;exact h2
theorem ku {i j:Nat} {o:Oper} (hl:dE l K j=false) (ho:l[i]? =some o) (hi:K≤i):lx l o j=true:=by
 unfold dE at hl;have:=List.any_eq_false.1 hl i (List.mem_range.2 (List.getElem?_eq_some_iff.1 ho).1);rw [ho] at this;simpa [hi] using this
theorem nj (hQ:PQ Q) (hc:kv l K=true) {f:Nat→Value}:∀ (m k:Nat) (listed:Array Bool) (U:List Nat) (a:Act) (w':World),fY l listed→listed.toList.count false=m→listed.size=l.length→K≤k→k≤l.length→
 (∀ j,K≤j→j<l.length→listed.getD j true=decide (j<k))→U.Nodup→(∀ j,j<K→(listed.getD j true=false↔j∈U))→(∀ j∈U,j<K∧dE l K j=true∧∃ o,l[j]? =some o∧Yields P l.toArray o (f j) a)→
 wpList P l.toArray Q (l.drop k) (gu l f U a) w'→wpAny P .any l.toArray Q m listed a w':=by
 have hc1:=(Bool.and_eq_true_iff.1 hc).1;have hlate:=(Bool.and_eq_true_iff.1 hc).2;have hKl:K≤l.length:=dT_ (Bool.and_eq_true_iff.1 hc1).1;have hck:=(List.all_eq_true.1 (Bool.and_eq_true_iff.1 hc1).2);intro m
 induction m with
 |zero=>
  intro k listed U a w' hcl hcount hs hK hkl htail hn hU hUl h
  have hall:∀ j,j<l.length→listed.getD j true=true:=by
   intro j hj;have hm:listed[j]'(by omega)∈listed.toList:=by simp
   cases hb:listed[j]'(by omega) with
   |true=>simp [Array.getD,show j<listed.size by omega,hb]
   |false=>
    rw [hb] at hm;exact absurd hcount (Nat.pos_iff_ne_zero.1 (List.count_pos_iff.2 hm))
  have hU0:U=[]:=by
   rw [List.eq_nil_iff_forall_not_mem];intro j hj;have h1:=(hU j (hUl j hj).1).2 hj;rw [hall j (by have:=(hUl j hj).1;omega)] at h1;cases h1
  have hke:k=l.length:=by
   rcases Nat.lt_or_ge k l.length with hlt | hge
   ·have h1:=htail k hK hlt;rw [hall k hlt] at h1;simp at h1
   ·omega
  subst hU0 hke;refine ⟨?_,by simpa [gu,wpList] using h⟩;rw [List.eq_nil_iff_forall_not_mem];intro j hj;obtain ⟨h0,o,ho,_⟩:=mem_ready.1 hj;rw [List.getElem?_toArray] at ho;rw [hall j (List.getElem?_eq_some_iff.1 ho).1] at h0;cases h0
 |succ m ih=>
  intro k listed U a w' hcl hcount hs hK hkl htail hn hU hUl h
  have hex:∃ i,i<l.length∧listed.getD i true=false:=by
   obtain ⟨i,hi,hb⟩:=List.mem_iff_getElem.1 (List.count_pos_iff.1 (by rw [hcount];omega:0<listed.toList.count false));have hi':i<listed.size:=by simpa using hi
   exact ⟨i,by omega,by simpa [Array.getD,hi'] using hb⟩
  obtain ⟨i0,hi0,hmin⟩:=exists_least hex
  have hready:i0∈Region.ready .any l.toArray listed:=by
   refine mem_ready.2 ⟨hi0.2,l[i0]'hi0.1,by rw [List.getElem?_toArray,List.getElem?_eq_getElem hi0.1],fun e he hb=>?_⟩;have hx:=hck i0 (List.mem_range.2 hi0.1);rw [List.getElem?_eq_getElem hi0.1] at hx;simp only [Bool.and_eq_true] at hx;have he2:=List.all_eq_true.1 hx.1.1 e (by simpa using he);rw [hb] at he2;simp at he2;rw [←aU (by omega)];cases hb2:listed.getD e.on true with
   |true=>rfl
   |false=>exact absurd (hmin e.on ⟨by omega,hb2⟩) (by omega)
  refine ⟨fun h0=>(by rw [h0] at hready;cases hready),fun i hi=>?_⟩;obtain ⟨h0,o,ho,hall⟩:=mem_ready.1 hi;rw [List.getElem?_toArray] at ho;have hil:i<l.length:=(List.getElem?_eq_some_iff.1 ho).1;have hx:=hck i (List.mem_range.2 hil);rw [ho] at hx;simp only [Bool.and_eq_true] at hx;have hsel:cK o.op=false:=by simpa using hx.1.2
  have hcnt:(listed.setIfInBounds i true).toList.count false=m:=by
   have hil':i<listed.size:=by omega
   have hfalse:listed.toList[i]? =some false:=by
    rw [Array.getElem?_toList,Array.getElem?_eq_getElem hil'];simp [Array.getD,hil'] at h0;rw [h0]
   rw [Array.toList_setIfInBounds];have:=dO (l:=listed.toList) (i:=i) hfalse;omega
  by_cases hiK:i<K
  ·
   have hiU:=(hU i hiK).1 h0;obtain ⟨_,hil8,o',ho',hy⟩:=hUl i hiU;rw [ho] at ho';cases ho';obtain ⟨_,_,hap⟩:=gV hlate hiK ho hil8;refine Yields.wpOp (by rw [List.getElem?_toArray];exact ho) hy ?_;have he:a.put o.dst (f i)=a.put ((l[i]?).bind (·.dst)) (f i):=by rw [ho];rfl
   refine ih k _ (U.erase i) _ w' (jj hcl ho hall) hcnt (by simpa using hs) hK hkl (fun j h1 h2=>by rw [getD_set_ne true (by omega)];exact htail j h1 h2) (hn.erase i) (fun j hj=>?_) (fun j hj=>?_) ?_
   ·by_cases e:i=j
    ·subst e;simp [hs,hil,hn.not_mem_erase]
    ·rw [getD_set_ne true e,hU j hj];exact (List.mem_erase_of_ne (Ne.symm e)).symm
   ·have hjU:=List.mem_of_mem_erase hj;obtain ⟨h1,h2,oj,h3,h4⟩:=hUl j hjU;have hne:i≠j:=fun e=>by subst e;exact (hn.not_mem_erase) hj
    obtain ⟨_,_,hapj⟩:=gV hlate h1 h3 h2;have hxj:=hck j (List.mem_range.2 (by omega));rw [h3] at hxj;simp only [Bool.and_eq_true] at hxj;exact ⟨h1,h2,oj,h3,(nc (by simpa using hxj.1.2) (hapj i o ho hne (.inl ⟨hiK,hil8⟩))).2 h4⟩
   ·rw [he,nH U a hiU hn (fun j hj hne d hd=>?_)]
    ·exact h
    ·obtain ⟨h1,h2,oj,h3,h4⟩:=hUl j hj;have h5:=(Oper.apart_spec (hap j oj h3 hne (.inl ⟨h1,h2⟩))).2.1 d (by rw [ho] at hd;exact hd);rw [h3];exact h5
  ·
   have hik:i=k:=by
    rw [htail i (by omega) hil] at h0;have h0':k≤i:=by simpa using h0
    rcases Nat.eq_or_lt_of_le h0' with e | hlt
    ·exact e.symm
    ·exfalso;have h3:=hx.2;rw [if_neg hiK] at h3;have h4:=List.all_eq_true.1 h3 k (List.mem_range.2 hlt);simp only [show ¬ k<K by omega,decide_false,Bool.or_false] at h4;have h5:=eu hcl hall h4;rw [←aU (by omega),htail k hK (by omega)] at h5;simp at h5
   subst hik
   have hdrop:l.drop i=o::l.drop (i+1):=by
    rw [List.drop_eq_getElem_cons hil];rw [List.getElem?_eq_getElem hil] at ho;cases ho;rfl
   rw [hdrop] at h
   have hk2:wpOp P l.toArray Q i (wpList P l.toArray Q (l.drop (i+1))) (gu l f U a) w':=by
    unfold wpOp;rw [List.getElem?_toArray,ho];exact h
   have hne:∀ j∈U,j≠i:=fun j hj e=>by have:=(hUl j hj).1;omega
   have hk3:=o4 hQ ho hsel U _ a hn (fun j hj=>by
    obtain ⟨h1,h2,oj,h3,h4⟩:=hUl j hj;obtain ⟨_,_,hapj⟩:=gV hlate h1 h3 h2;have hxj:=hck j (List.mem_range.2 (by omega));rw [h3] at hxj;simp only [Bool.and_eq_true] at hxj;refine ⟨oj,h3,by simpa using hxj.1.2,hapj i o ho (Ne.symm (hne j hj)) (.inr ⟨by omega,?_⟩),h4,fun j' hj' hne'=>?_⟩
    ·cases hE:lx l o j with
     |false=>rfl
     |true=>
      have h5:=eu hcl hall hE;rw [←aU (by omega),(hU j h1).2 hj] at h5;cases h5
    ·obtain ⟨h1',h2',oj',h3',_⟩:=hUl j' hj';exact ⟨oj',h3',hapj j' oj' h3' hne' (.inl ⟨h1',h2'⟩)⟩) hk2
   refine wpOp_mono (fun a' w'' hh=>?_) hk3;refine ih (i+1) _ U a' w'' (jj hcl ho hall) hcnt (by simpa using hs) (by omega) (by omega) (fun j h1 h2=>?_) hn (fun j hj=>?_) (fun j hj=>?_) hh.2
   ·by_cases e:i=j
    ·subst e;simp [hs,hil]
    ·rw [getD_set_ne true e,htail j h1 h2];have:(j<i+1)↔(j<i):=by omega
     simp [this]
   ·rw [getD_set_ne true (by omega)];exact hU j hj
   ·obtain ⟨h1,h2,oj,h3,_⟩:=hUl j hj;exact ⟨h1,h2,oj,h3,hh.1 j hj oj h3⟩
end late
section late
variable {P:Program} {Q:Exit→Act→World→Prop} {n:Fr} {L:List (Nat×Value)} {w:World} {l:List Oper} {K mu:Nat} {I1 I2:World→Prop} {R1 R:Nat→Value→World→Prop}
theorem Bu (hc:kv l K=true) {j j':Nat} {oj oj':Oper} {t:Nat} (hj:j<K) (hj':j'<K) (hoj:l[j]? =some oj) (hoj':l[j']? =some oj') (hd:oj.dst=some t) (hd':oj'.dst=some t):j=j':=by
 have hc1:=(Bool.and_eq_true_iff.1 hc).1;have hck:=(List.all_eq_true.1 (Bool.and_eq_true_iff.1 hc1).2);have hx:=hck j' (List.mem_range.2 (List.getElem?_eq_some_iff.1 hoj').1);rw [hoj'] at hx;simp only [Bool.and_eq_true] at hx;have h3:=hx.2;rw [if_pos hj'] at h3;simp only [Bool.and_eq_true] at h3;have h3a:=h3.1;rw [hd'] at h3a;simp only [Bool.and_eq_true] at h3a;have h5:=List.all_eq_true.1 h3a.1 j (List.mem_range.2 hj);rw [hoj] at h5;simpa [hd] using h5
theorem vu {i t:Nat} (h:zp l K i t=true):∃ j oj,j<K∧l[j]? =some oj∧oj.dst=some t∧lx l oj i=true:=by
 obtain ⟨j,hj,h2⟩:=List.any_eq_true.1 h;cases hoj:l[j]? with
 |none=>rw [hoj] at h2;cases h2
 |some oj=>
  rw [hoj] at h2;simp only [Bool.and_eq_true,beq_iff_eq] at h2;exact ⟨j,oj,List.mem_range.1 hj,hoj,h2.1,h2.2⟩
theorem il (hc:kv l K=true) {i t:Nat} {o:Oper} (hi:i<K) (ho:l[i]? =some o) (ht:t∈eK l K i o):(o.looksAt l.toArray).elem t=true∧∃ j oj,j<K∧l[j]? =some oj∧oj.dst=some t∧j<i∧lx l o j=true:=by
 obtain ⟨ht1,ht2⟩:=List.mem_filter.1 ht;simp only [Bool.and_eq_true,Bool.not_eq_true'] at ht2;obtain ⟨oj,hoj,hdj⟩:=List.mem_filterMap.1 ht1;obtain ⟨j,hj⟩:=List.mem_iff_getElem?.1 hoj;rw [List.getElem?_take] at hj;split at hj
 ·rename_i hjK;refine ⟨ht2.1,j,oj,hjK,hj,hdj,?_⟩;have hc1:=(Bool.and_eq_true_iff.1 hc).1;have hck:=(List.all_eq_true.1 (Bool.and_eq_true_iff.1 hc1).2);have hx:=hck i (List.mem_range.2 (List.getElem?_eq_some_iff.1 ho).1);rw [ho] at hx;simp only [Bool.and_eq_true] at hx;have h3:=hx.2;rw [if_pos hi] at h3;simp only [Bool.and_eq_true] at h3;have h5:=List.all_eq_true.1 h3.2 j (List.mem_range.2 hjK);rw [hj] at h5;have h6:t∈o.looksAt l.toArray:=by simpa using ht2.1
  simpa [hdj,h6,ht2.2] using h5
 ·cases hj
theorem qk (hc:kv l K=true) {listed:Array Bool} (hcl:fY l listed) (hs:listed.size=l.length) {i:Nat} {o:Oper} (_ho:l[i]? =some o) (hil:i<l.length) (h0:listed.getD i true=false) {L':List (Nat×Value)}
 (hfr:∀ t,(∀ i o,i<K→l[i]? =some o→listed.getD i true=true→o.dst≠some t)→aT L' t=aT L t):∀ t,(o.looksAt l.toArray).elem t=true→aT ((eK l K i o).map (fun d=>(d,aT L' d))++L) t=aT L' t:=by
 intro t ht;rw [iL];split
 ·rfl
 ·rename_i hne;refine (hfr t fun j oj hj hoj hlj hd=>?_).symm;have hmem:t∈eI l K:=List.mem_filterMap.2 ⟨oj,List.mem_iff_getElem?.2 ⟨j,by rw [List.getElem?_take,if_pos hj];exact hoj⟩,hd⟩;cases hb:zp l K i t with
  |false=>
   apply hne;simp only [List.elem_eq_mem,decide_eq_true_eq];exact List.mem_filter.2 ⟨hmem,by rw [ht,hb];rfl⟩
  |true=>
   obtain ⟨j',oj',hj',hoj',hd',hdep⟩:=vu hb;have hjj:=Bu hc hj hj' hoj hoj' hd hd';subst hjj;rw [hoj] at hoj';cases hoj';have hjl:j<l.length:=(List.getElem?_eq_some_iff.1 hoj).1;have h1:=eu hcl (hcl j oj hoj (by rw [←aU (by omega)];exact hlj)) hdep;rw [←aU (by omega),h0] at h1;cases h1
theorem py (hQ:PQ Q) (hc:kv l K=true) (hop:me P l.toArray n L I2 R1 R l K mu 0 (l.take K)) (h12:∀ t v w,R1 t v w→R t v w) (hmuL:mu<K→dE l K mu=false)
 (hend:∀ w',I2 w'→ig R w' (eI l K) fun M=>St P l.toArray Q (l.drop K) n (M++L) w') (m:Nat) (listed:Array Bool) (L':List (Nat×Value)) (w':World) (hcl:fY l listed) (hcount:listed.toList.count false=m) (hs:listed.size=l.length)
 (htail:∀ j,K≤j→j<l.length→listed.getD j true=false) (hF:I2 w')
 (hfr:∀ t,(∀ i o,i<K→l[i]? =some o→listed.getD i true=true→o.dst≠some t)→aT L' t=aT L t)
 (hR:∀ i o d,i<K→l[i]? =some o→listed.getD i true=true→o.dst=some d→R d (aT L' d) w') (hpre:∀ i,i<K→listed.getD i true=false→dE l K i=true):wpAny P .any l.toArray Q m listed (mkA n L') w':=by
 have hc1:=(Bool.and_eq_true_iff.1 hc).1;have hlate:=(Bool.and_eq_true_iff.1 hc).2;have hKl:K≤l.length:=dT_ (Bool.and_eq_true_iff.1 hc1).1;have hck:=(List.all_eq_true.1 (Bool.and_eq_true_iff.1 hc1).2)
 have hhead:∀ i,i<K→∃ o d,l[i]? =some o∧o.dst=some d∧cK o.op=false∧(∀ j oj,j<K→j≠i→l[j]? =some oj→oj.dst≠some d):=by
  intro i hi;have hil:i<l.length:=by omega
  have hx:=hck i (List.mem_range.2 hil);rw [List.getElem?_eq_getElem hil] at hx;simp only [Bool.and_eq_true] at hx;have h3:=hx.2;rw [if_pos hi] at h3;simp only [Bool.and_eq_true] at h3;obtain ⟨h3a,h3b⟩:=h3;cases hod:(l[i]).dst with
  |none=>rw [hod] at h3a;cases h3a
  |some d=>
   rw [hod] at h3a;simp only [Bool.and_eq_true] at h3a;refine ⟨l[i],d,List.getElem?_eq_getElem hil,hod,by simpa using hx.1.2,fun j oj hj hne hoj e=>?_⟩;have h5:=List.all_eq_true.1 h3a.1 j (List.mem_range.2 hj);rw [hoj] at h5;simp [hne,e] at h5
 have hval:∀ i,i<K→listed.getD i true=false→∃ v,∀ o d,l[i]? =some o→o.dst=some d→Yields P l.toArray o v (mkA n L')∧R d v w':=by
  intro i hi hf;have hil8:=hpre i hi hf;obtain ⟨o,d,ho,hd,hsel,_⟩:=hhead i hi;obtain ⟨hk,hg,hap⟩:=gV hlate hi ho hil8
  have hfact:∀ t∈eK l K i o,R t (aT L' t) w':=by
   intro t ht;obtain ⟨ht2,j,oj,hjK,hj,hdj,hji,_⟩:=il hc hi ho ht;refine hR j oj t hjK hj ?_ hdj;cases hb:listed.getD j true with
   |true=>rfl
   |false=>
    have h6:=hpre j hjK hb;have h7:=(Oper.apart_spec (hap j oj hj (by omega) (.inl ⟨hjK,h6⟩))).2.2 t hdj;exact absurd (by simpa using ht2) h7
  have hlooks:=qk (L:=L) hc hcl hs ho (by omega) hf hfr;have hok:=eP (aT L') _ hfact (nM hop i o (by rw [List.getElem?_take,if_pos hi];exact ho) (by intro e;rw [e,hmuL (by omega)] at hil8;cases hil8) w' hF);obtain ⟨hE,hW⟩:=eF (n:=n) (ops:=l.toArray) (o:=o) hsel hlooks;rw [hd] at hok;simp only [Option.getD_some] at hok
  have hyl:∃ v,Yields P l.toArray o v (mkA n L')∧R d v w':=by
   unfold aw at hok;rw [hE,hW] at hok;rcases hok with ⟨hw,⟨v,w'',hr,hF',hRv⟩ | ⟨f,args,hr,hcall⟩⟩ | ⟨hw,hRv⟩
   ·obtain ⟨rfl,hall⟩:=rH hk hr;refine ⟨v,.inl ⟨hw,fun w2=>?_⟩,h12 _ _ _ hRv⟩;rw [cg];exact hall w2
   ·exfalso;obtain ⟨dst,op,ty,pos,after,guard⟩:=o;cases op <;> simp only [nR,Bool.false_eq_true] at hk <;> simp only [execOp,Sem.run_pure,Sem.run_bind,Result.ok.injEq] at hr
    ·cases hr.1
    ·cases hr.1
    ·rename_i x i';cases hx:ev n L' x <;> simp only [hx,Instr.extract] at hr <;> (try (simp at hr;done))
     rename_i vs;cases hv:vs[i']? <;> simp [hv] at hr
   ·exact ⟨undef,.inr ⟨hw,rfl⟩,h12 _ _ _ hRv⟩
  obtain ⟨v,hv1,hv2⟩:=hyl;refine ⟨v,fun o' d' ho' hd'=>?_⟩;rw [ho] at ho';cases ho';rw [hd] at hd';cases hd';exact ⟨hv1,hv2⟩
 obtain ⟨f,hf⟩:∃ f:Nat→Value,∀ i,i<K→listed.getD i true=false→∀ o d,l[i]? =some o→o.dst=some d→Yields P l.toArray o (f i) (mkA n L')∧R d (f i) w':=by
  refine ⟨fun i=>open Classical in if h:∃ v,∀ o d,l[i]? =some o→o.dst=some d→Yields P l.toArray o v (mkA n L')∧R d v w' then h.choose else undef,fun i hi hl=>?_⟩;have h:=hval i hi hl;simp only [dif_pos h];exact h.choose_spec
 have hUm:∀ i,i∈(List.range K).filter (fun i=> !listed.getD i true)↔i<K∧listed.getD i true=false:=fun i=>by
  rw [List.mem_filter,List.mem_range];simp
 obtain ⟨U,hU,hUn⟩:∃ U:List Nat,(∀ i,i∈U↔i<K∧listed.getD i true=false)∧U.Nodup:=⟨_,hUm,List.nodup_range.sublist (List.filter_sublist ..)⟩;have hbind:∀ {i:Nat} {o:Oper},l[i]? =some o→(l[i]?).bind (·.dst)=o.dst:=fun h=>by rw [h];rfl
 have hRall:∀ d∈eI l K,R d (aT ((U.filterMap fun i=>((l[i]?).bind (·.dst)).map fun d=>(d,f i))++L') d) w':=by
  intro d hd;obtain ⟨o,ho,hod⟩:=List.mem_filterMap.1 hd;obtain ⟨i,hi⟩:=List.mem_iff_getElem?.1 ho;rw [List.getElem?_take] at hi;split at hi
  ·rename_i hiK;obtain ⟨o',d',ho',hd',_,hdist⟩:=hhead i hiK;rw [hi] at ho';cases ho';rw [hod] at hd';cases hd'
   have hne:∀ j∈U,j≠i→(l[j]?).bind (·.dst)≠some d:=fun j hj hji=>by
    have hjK:=((hU j).1 hj).1;obtain ⟨oj,dj,hoj,_⟩:=hhead j hjK;rw [hbind hoj];exact hdist j oj hjK hji hoj
   cases hb:listed.getD i true with
   |true=>
    rw [gL U fun j hj=>hne j hj (fun e=>by subst e;have:=((hU j).1 hj).2;rw [hb] at this;cases this)];exact hR i o d hiK hi hb hod
   |false=>
    rw [jc U ((hU i).2 ⟨hiK,hb⟩) ((hbind hi).trans hod) hne];exact (hf i hiK hb o d hi hod).2
  ·cases hi
 have he:=eP _ (eI l K) hRall (hend w' hF)
 have hL:mkA n ((eI l K).map (fun d=>(d,aT ((U.filterMap fun i=>((l[i]?).bind (·.dst)).map fun d=>(d,f i))++L') d))++L)=gu l f U (mkA n L'):=by
  rw [nG];refine fD fun t _=>?_
  rw [iL];split
  ·rfl
  ·rename_i hne
   have hnd:∀ i,i<K→∀ o,l[i]? =some o→o.dst≠some t:=fun i hi o ho hod=>hne (by
    simp only [List.elem_eq_mem,decide_eq_true_eq];exact List.mem_filterMap.2 ⟨o,List.mem_iff_getElem?.2 ⟨i,by rw [List.getElem?_take,if_pos hi];exact ho⟩,hod⟩)
   rw [gL U fun j hj=>by
    have hjK:=((hU j).1 hj).1;obtain ⟨oj,dj,hoj,_⟩:=hhead j hjK;rw [hbind hoj];exact hnd j hjK oj hoj]
   exact (hfr t fun i o hi ho _ hod=>hnd i hi o ho hod).symm
 replace he:=he.out;rw [hL] at he;refine nj hQ hc m K listed U _ w' hcl hcount hs (Nat.le_refl _) hKl (fun j h1 h2=>by rw [htail j h1 h2];simp [h1]) hUn (fun j hj=>⟨fun h=>(hU j).2 ⟨hj,h⟩,fun h=>((hU j).1 h).2⟩) (fun j hj=>?_) he;obtain ⟨h1,h2⟩:=(hU j).1 hj;obtain ⟨oj,dj,hoj,hdj,_⟩:=hhead j h1;exact ⟨h1,hpre j h1 h2,oj,hoj,(hf j h1 h2 oj dj hoj hdj).1⟩
theorem zw (hQ:PQ Q) (hc:kv l K=true) (hm1:∀ w1 w2,ag w1 w2→I1 w1→I1 w2) (hm2:∀ w1 w2,ag w1 w2→I2 w1→I2 w2) (hmono1:∀ t v w1 w2,ag w1 w2→R1 t v w1→R1 t v w2) (hmono:∀ t v w1 w2,ag w1 w2→R t v w1→R t v w2)
 (hop:me P l.toArray n L I2 R1 R l K mu 0 (l.take K)) (h12:∀ t v w,R1 t v w→R t v w) (hmuL:mu<K→dE l K mu=false) (hmu:Ak P l.toArray n L I1 I2 R1 R l K mu l[mu]?)
 (hend:∀ w',I2 w'→ig R w' (eI l K) fun M=>St P l.toArray Q (l.drop K) n (M++L) w') :
 ∀ (m:Nat) (listed:Array Bool) (L':List (Nat×Value)) (w':World),fY l listed→listed.toList.count false=m→listed.size=l.length→(∀ j,K≤j→j<l.length→listed.getD j true=false)→I2 w'→(listed.getD mu true=false→I1 w')→
  (∀ t,(∀ i o,i<K→l[i]? =some o→listed.getD i true=true→o.dst≠some t)→aT L' t=aT L t)→
  (∀ i o d,i<K→l[i]? =some o→listed.getD i true=true→o.dst=some d→R d (aT L' d) w')→(listed.getD mu true=false→∀ i o d,i<K→l[i]? =some o→listed.getD i true=true→o.dst=some d→R1 d (aT L' d) w')→wpAny P .any l.toArray Q m listed (mkA n L') w':=by
 have hc1:=(Bool.and_eq_true_iff.1 hc).1;have hlate:=(Bool.and_eq_true_iff.1 hc).2;have hKl:K≤l.length:=dT_ (Bool.and_eq_true_iff.1 hc1).1;have hck:=(List.all_eq_true.1 (Bool.and_eq_true_iff.1 hc1).2);intro m
 induction m with
 |zero=>
  intro listed L' w' hcl hcount hs htail hF hF1 hfr hR hR1
  exact py hQ hc hop h12 hmuL hend 0 listed L' w' hcl hcount hs htail hF hfr hR (fun i hi h=>by
   have hm:listed[i]'(by omega)∈listed.toList:=by simp
   have hb:listed[i]'(by omega)=false:=by simpa [Array.getD,show i<listed.size by omega] using h
   rw [hb] at hm;exact absurd hcount (Nat.pos_iff_ne_zero.1 (List.count_pos_iff.2 hm)))
 |succ m ih=>
  intro listed L' w' hcl hcount hs htail hF hF1 hfr hR hR1;by_cases hpre:∀ i,i<K→listed.getD i true=false→dE l K i=true
  ·exact py hQ hc hop h12 hmuL hend (m+1) listed L' w' hcl hcount hs htail hF hfr hR hpre
  ·
   have hn0:∃ i,i<K∧listed.getD i true=false∧dE l K i=false:=by
    refine Classical.byContradiction fun hno=>hpre fun i hi hf=>?_
    cases hb:dE l K i with
    |true=>rfl
    |false=>exact absurd ⟨i,hi,hf,hb⟩ hno
   obtain ⟨n0,hn0⟩:=hn0;obtain ⟨i0,hi0,hmin⟩:=exists_least (p:=fun i=>i<K∧listed.getD i true=false) ⟨n0,hn0.1,hn0.2.1⟩;have hi0l:i0<l.length:=by omega
   have hready:i0∈Region.ready .any l.toArray listed:=by
    refine mem_ready.2 ⟨hi0.2,l[i0],by rw [List.getElem?_toArray,List.getElem?_eq_getElem hi0l],fun e he hb=>?_⟩;have hx:=hck i0 (List.mem_range.2 hi0l);rw [List.getElem?_eq_getElem hi0l] at hx;simp only [Bool.and_eq_true] at hx;have he2:=List.all_eq_true.1 hx.1.1 e (by simpa using he);rw [hb] at he2;simp at he2;rw [←aU (by omega)];cases hb2:listed.getD e.on true with
    |true=>rfl
    |false=>exact absurd (hmin e.on ⟨by omega,hb2⟩) (by omega)
   refine ⟨fun h0=>(by rw [h0] at hready;cases hready),fun i hi=>?_⟩;obtain ⟨h0,o,ho,hall⟩:=mem_ready.1 hi;rw [List.getElem?_toArray] at ho;have hil:i<l.length:=(List.getElem?_eq_some_iff.1 ho).1;have hx:=hck i (List.mem_range.2 hil);rw [ho] at hx;simp only [Bool.and_eq_true] at hx
   have hiK:i<K:=by
    rcases Nat.lt_or_ge i K with h | h
    ·exact h
    ·exfalso;have h5:=eu hcl hall (ku hn0.2.2 ho h);rw [←aU (by omega),hn0.2.1] at h5;cases h5
   have h3:=hx.2;rw [if_pos hiK] at h3;simp only [Bool.and_eq_true] at h3;obtain ⟨h3a,h3b⟩:=h3;cases hod:o.dst with
   |none=>rw [hod] at h3a;cases h3a
   |some d=>
    rw [hod] at h3a;simp only [Bool.and_eq_true] at h3a;have hlooks:=qk (L:=L) hc hcl hs ho hil h0 hfr
    have hfactG:∀ (RR:Nat→Value→World→Prop),(∀ i o d,i<K→l[i]? =some o→listed.getD i true=true→o.dst=some d→RR d (aT L' d) w')→∀ t∈eK l K i o,RR t (aT L' t) w':=by
     intro RR hRR t ht;obtain ⟨_,j,oj,hjK,hj,hd,_,hdep⟩:=il hc hiK ho ht;have h6:=eu hcl hall hdep;exact hRR j oj t hjK hj (by rw [aU (by omega)];exact h6) hd
    have hsel:cK o.op=false:=by simpa using hx.1.2
    obtain ⟨hE,hW⟩:=eF (n:=n) (ops:=l.toArray) (o:=o) hsel hlooks
    have next:∀ v w'',I2 w''→(i≠mu→listed.getD mu true=false→I1 w'')→R d v w''→(i≠mu→R1 d v w'')→(∀ t u,t≠d→R t u w'→(i=mu→R1 t u w')→R t u w'')→(i≠mu→∀ t u,R1 t u w'→R1 t u w'')→wpAny P .any l.toArray Q m (listed.setIfInBounds i true) ((mkA n L').put (some d) v) w'':=by
     intro v w'' hI2' hI1' hRv hR1v hst hst1;rw [ej]
     have hne:∀ j oj d',j<K→l[j]? =some oj→j≠i→oj.dst=some d'→d'≠d:=by
      intro j oj d' hj hoj hji hd e;have h5:=List.all_eq_true.1 h3a.1 j (List.mem_range.2 hj);rw [hoj] at h5;simp [hji,hd,e] at h5
     refine ih _ _ w'' (jj hcl ho hall) ?_ (by simpa using hs) (fun j hj1 hj2=>?_) hI2' (fun hml=>?_) (fun t ht=>?_) (fun j oj d' hj hoj hlj hd=>?_) (fun hml j oj d' hj hoj hlj hd=>?_)
     ·have hil':i<listed.size:=by omega
      have hfalse:listed.toList[i]? =some false:=by
       rw [Array.getElem?_toList,Array.getElem?_eq_getElem hil'];simp [Array.getD,hil'] at h0;rw [h0]
      rw [Array.toList_setIfInBounds];have:=dO (l:=listed.toList) (i:=i) hfalse;omega
     ·rw [getD_set_ne true (by omega)];exact htail j hj1 hj2
     ·have him:i≠mu:=fun e=>by subst e;simp [show i<listed.size by omega] at hml
      rw [getD_set_ne true him] at hml;exact hI1' him hml
     ·have htd:t≠d:=fun e=>ht i o hiK ho (by simp [show i<listed.size by omega]) (by rw [hod,e])
      rw [bF,if_neg htd];refine hfr t fun j oj hj hoj hlj=>ht j oj hj hoj ?_
      by_cases e:i=j
      ·subst e;rw [h0] at hlj;cases hlj
      ·rw [getD_set_ne true e];exact hlj
     ·rw [bF];by_cases e:j=i
      ·subst e;rw [ho] at hoj;cases hoj;rw [hod] at hd;cases hd;rw [if_pos rfl];exact hRv
      ·have hdd:=hne j oj d' hj hoj e hd;rw [if_neg hdd];rw [getD_set_ne true (Ne.symm e)] at hlj;refine hst _ _ hdd (hR j oj d' hj hoj hlj hd) (fun e2=>?_);subst e2;exact hR1 h0 j oj d' hj hoj hlj hd
     ·have him:i≠mu:=fun e=>by subst e;simp [show i<listed.size by omega] at hml
      rw [getD_set_ne true him] at hml;rw [bF];by_cases e:j=i
      ·subst e;rw [ho] at hoj;cases hoj;rw [hod] at hd;cases hd;rw [if_pos rfl];exact hR1v him
      ·rw [if_neg (hne j oj d' hj hoj e hd)];rw [getD_set_ne true (Ne.symm e)] at hlj;exact hst1 him _ _ (hR1 hml j oj d' hj hoj hlj hd)
    unfold wpOp;rw [List.getElem?_toArray,ho];show if Region.wanted o (yielded l.toArray (mkT n.n L'))=true then _ else _
    by_cases him:i=mu
    ·subst him;rw [ho] at hmu;have hok:=eP (aT L') _ (hfactG R1 (hR1 h0)) (hmu w' (hF1 h0));rw [hod] at hok;simp only [Option.getD_some] at hok;unfold qO at hok;rw [hE,hW] at hok;obtain ⟨hw,⟨v,w'',hr,hI,hRv,hst⟩ | ⟨f,args,hr,hcall⟩⟩:=hok
     ·rw [if_pos hw];refine .inl ?_;unfold Oper.wp;rw [cg,hr,Oper.upon_value,hod];exact next v w'' hI (fun h=>absurd rfl h) hRv (fun h=>absurd rfl h) (fun t u ht _ h1=>hst t u ht (h1 rfl)) (fun h=>absurd rfl h)
     ·rw [if_pos hw];refine .inl ?_;unfold Oper.wp;rw [cg,hr,Oper.upon_enter,hod];refine Calls.mono hcall fun e w'' ⟨v,he,hI,hRv,hst⟩=>?_
      subst he;exact next v w'' hI (fun h=>absurd rfl h) hRv (fun h=>absurd rfl h) (fun t u ht _ h1=>hst t u ht (h1 rfl)) (fun h=>absurd rfl h)
    ·have hok:=eP (aT L') _ (hfactG R hR) (nM hop i o (by rw [List.getElem?_take,if_pos hiK];exact ho) him w' hF);rw [hod] at hok;simp only [Option.getD_some] at hok;unfold aw at hok;rw [hE,hW] at hok
     have next':∀ v w'',ag w' w''→R1 d v w''→wpAny P .any l.toArray Q m (listed.setIfInBounds i true) ((mkA n L').put (some d) v) w'':=fun v w'' hF' hRv=>
      next v w'' (hm2 _ _ hF' hF) (fun _ h=>hm1 _ _ hF' (hF1 h)) (h12 _ _ _ hRv) (fun _=>hRv) (fun t u _ h _=>hmono _ _ _ _ hF' h) (fun _ t u h=>hmono1 _ _ _ _ hF' h)
     rcases hok with ⟨hw,⟨v,w'',hr,hF',hRv⟩ | ⟨f,args,hr,hcall⟩⟩ | ⟨hw,hRv⟩
     ·rw [if_pos hw];refine .inl ?_;unfold Oper.wp;rw [cg,hr,Oper.upon_value,hod];exact next' v w'' hF' hRv
     ·rw [if_pos hw];refine .inl ?_;unfold Oper.wp;rw [cg,hr,Oper.upon_enter,hod];refine Calls.mono hcall fun e w'' ⟨v,he,hF',hRv⟩=>?_
      subst he;exact next' v w'' hF' hRv
     ·rw [if_neg (by rw [hw];simp),hod];exact next' undef w' ag.rfl_ hRv
theorem bO {id:Nat} (K:Nat) (RL:List (Nat×(Value→World→Prop))) (hQ:PQ Q) (hm:P.follows .mixedOrders=true) (hc:kv l K=true) (hmono:pP RL)
 (hop:me P l.toArray n L (ag w) (fz RL) (fz RL) l K l.length 0 (l.take K)) (hend:∀ w',ag w w'→ig (fz RL) w' (eI l K) fun M=>St P l.toArray Q (l.drop K) n (M++L) w'):Cd P (.region id l.toArray true) Q n L w:=by
 refine ⟨wp_region_any hm ?_⟩;have hKl:K≤l.length:=dT_ (Bool.and_eq_true_iff.1 (Bool.and_eq_true_iff.1 hc).1).1
 have:=zw (Q:=Q) (mu:=l.length) (I1:=ag w) (I2:=ag w) (R1:=fz RL) hQ hc (fun _ _ hF h=>h.next hF) (fun _ _ hF h=>h.next hF) (fF hmono) (fF hmono) hop (fun _ _ _ h=>h) (fun h=>absurd h (by omega)) (by simp [Ak]) hend l.length (Array.replicate l.length false) L { w with drawn:=w.drawn+1 } (mz l _) (by simp) (by simp)
  (fun j _ hj=>by simp [Array.getD,hj]) ag.rfl_.d1 (fun _=>ag.rfl_.d1) (fun _ _=>rfl) (fun i o d hi _ hl=>by
   have:i<l.length:=by omega
   simp [Array.getD,this] at hl) (fun _ i o d hi _ hl=>by
   have:i<l.length:=by omega
   simp [Array.getD,this] at hl)
 simpa using this
end late
end Go.Proofs.YtaohnmneccbljaaGreatDoor
namespace Go.Proofs.YtaohnmneccbljaaGreatDoor
open Go.Proofs.Tryz (prog)
open Go.RowKit
section
variable {P:Program} {ops:Array Oper} {n:Fr} {L:List (Nat×Value)} {w:World} {ty:TypeId} {pos:String} {after:Array Edge} {dst:Option Nat} {t:TypeId} {x s:Operand}
theorem k5 {ρ:Operand→Value} {e by_:Nat} {z v:Value} (hq:eU P t=some (e,1,by_,z)) (_:z.cells.size=1) (hx:ρ x=v) (hv:v.cells=#[v]):RO P ρ (.buildSlice t 1 #[(0,x)]) w (.slice (some ⟨w.heap.size,0,none⟩) 1 1) (w.alloc (.cells #[v] e)):=by
 refine qa (l:=[(0,x)]) (cells:=#[v]) hq rfl rfl ?_
 have e1:(Array.range (1*1)).map (z.cells[·%z.cells.size]!)=#[z.cells[0]!]:=by
  rw [show Array.range (1*1)=#[0] from rfl];simp
 rw [e1];simp [Instr.fill,hx,hv]
end
theorem gl {w:World} {bs e s n c m:Nat} {A:Option Addr} {l:List Value} (h:w.ownsRow bs e s (.slice A n c) m l):∀ k,A.map (·.block)=some k→bs≤k∧k<w.heap.size:=fun k hk=>h.lt k (by rw [←hk];cases A <;> rfl)
end Go.Proofs.YtaohnmneccbljaaGreatDoor
namespace Go.Proofs.YtaohnmneccbljaaGreatDoor
open Go.Proofs.Tryz (prog)
open Go.RowKit
section
variable {P:Program} {ops:Array Oper} {Q:Exit→Act→World→Prop} {rest:List Oper} {n:Fr} {L:List (Nat×Value)} {w:World} {ty:TypeId} {pos:String} {after:Array Edge} {d:Nat} {x:Operand}
theorem ra {ρ:Operand→Value} {f:FuncId} {l1 l2:List Operand}:RO P ρ (.makeFunc (.func f) l1.toArray l2.toArray) w (.func (.func f) (l1.map ρ).toArray (l2.map ρ).toArray) w:=fun _ _ _ _ _=>by
 simp [execOp,Instr.makeFunc]
theorem ti {ρ:Operand→Value} {f:FuncId} {l:List Operand} {caps:List Value} {ats:Array TypeId} {g:Option (Nat×Bool)} {dst:Option Tmp} (hx:ρ x=.func (.func f) #[] caps.toArray) :
 execOp ρ ⟨dst,.call { callee:=.value x,args:=l.toArray,argTypes:=ats },ty,pos,after,g⟩=callFunc f (l.map ρ++caps).toArray:=by
 have:execOp ρ ⟨dst,.call { callee:=.value x,args:=l.toArray,argTypes:=ats },ty,pos,after,g⟩=(do let d ←Deferred.ofValue (ρ x) (l.toArray.map ρ);invoke d.target d.args):=rfl;rw [this,hx];show callFunc f (#[]++l.toArray.map ρ++caps.toArray)=_;simp
theorem nq {f:FuncId} {l:List Operand} {caps:List Value} {ats:Array TypeId} {R:Value→World→Prop} (hx:ev n L x=.func (.func f) #[] caps.toArray) (hf:aH P f=true) (hc:Rt P f (l.map (ev n L)++caps) w R) (k:∀ v w',R v w'→St P ops Q rest n ((d,v)::L) w') :
 St P ops Q (⟨some d,.call { callee:=.value x,args:=l.toArray,argTypes:=ats },ty,pos,after,none⟩::rest) n L w:=by
 refine ⟨wpList_plain rfl fun K hK=>?_⟩;unfold Oper.wp;rw [cg,ti hx,fk hf,Oper.upon_enter];refine Calls.mono hc fun e w' ⟨v,he,hR⟩=>?_
 subst he;show K ((mkA n L).put (some d) v) w';rw [ej];exact hK _ _ (k v w' hR).out
end
end Go.Proofs.YtaohnmneccbljaaGreatDoor
namespace Go.Proofs.YtaohnmneccbljaaGreatDoor
open Go.Proofs.Tryz (prog)
open Go.ChangeShapes Go.WideShapes Go.ChangeAt Go.RowKit
theorem Tryz.own:ownKnob prog.godebug=none:=by kernel_rfl
theorem Tryz.laidOut:laidOutB prog=true:=by kernel_rfl
section
variable {H:Type} {enc:TypeId×Value→H} {P:Program}
theorem oS {f:Func} {s:ChangeSpec} {apart fresh handsOn again:Bool} {W W':World} {args:Array Value} {v:Value} {ds gs:List (DataW H)} {before pa pv:List MemPlace}
 (hW:DataW.Whole enc P f.params.toList s.vars apart W args.toList ds gs before)
 (hres:∀ (b:Nat) (sp:Nat→Bool) (hd:Bool),DataW.TrodAll enc P W' b sp hd f.resultTypes.toList (v.resultList f.resultTypes.size) (s.fn H (ds++gs)).results [])
 (hargs:∀ sp:Nat→Bool,(∀ p∈before,sp p.block=true)→DataW.TrodAll enc P W' 0 sp true f.params.toList args.toList (s.fn H (ds++gs)).args pa)
 (hvars:∀ sp:Nat→Bool,(∀ p∈before,sp p.block=true)→DataW.TrodVars enc P W' sp s.vars (s.fn H (ds++gs)).vars pv)
 (hps:before=pa++pv) (hb:Below W.heap.size W W')
 (hok:∀ (j:Nat) (t:TypeId) (r:Value),f.resultTypes[j]? =some t→(v.resultList f.resultTypes.size)[j]? =some r→Value.okWide P W' .any 0 t r) :
 s.post enc P f apart fresh handsOn again W args v W':=by
 have hlt:∀ p∈before,p.block<W.heap.size:=fun p hp=>hW.lt p hp
 have hold:∀ p∈before,(fun b=>decide (b<W.heap.size)) p.block=true:=fun p hp=>by simpa using hlt p hp
 refine ⟨ds,gs,before,[],pa,pv,hW,hres _ _ _,hargs _ hold,hvars _ hold,World.keptBut_mono (fun p hp=>⟨hp,?_⟩) (hb.frame (·∈before)),fun _=>?_⟩
 ·rw [hps,List.mem_append] at hp;exact Or.inr hp
 ·obtain ⟨_,_,_,_,_,hz,hn⟩:=hW;refine ⟨hok,_,_,([]++pa)++pv,⟨[]++pa,pv,trodAll_append (hargs _ (fun _ _=>rfl)) (hres _ _ _),hvars _ (fun _ _=>rfl),rfl,?_,?_⟩,?_⟩
  ·intro b off hp;have hin:MemPlace.cell b off∈before:=by rw [hps];simpa using hp
   rw [hb.frozen (hlt _ hin)];exact hz b off hin
  ·intro ha;have:=hn ha;rw [hps] at this;simpa using this
  ·intro p hp _;rw [hps];simpa using hp
end
theorem oU {H:Type} {enc:TypeId×Value→H} (F:FuncId) (f:Func) (T Tb:TypeId) (s:ChangeSpec) (hp:f.params=#[T]) (hr:f.resultTypes=#[Tb]) (hTb:prog.underlying Tb=some .bool)
 (hvars:s.vars=[]) (hfn:∀ d:DataW H,s.fn H [d]={ results:=[.lit (.bool true)],args:=[d] }) (hrec:prog.readableRec T=true) (hrow:T<prog.types.size) (laid:List (String×DataW Unit))
 (walk:∀ (W:World) (base:Nat) (v:Value) (d:DataW H) (p:List MemPlace),laidMetH prog laid W→W.ShapedOpen prog→Value.okWide prog W .any base T v→DataW.Trod enc prog W 0 (fun _=>true) true T v d p→(∀ n∈d.weights prog T,n≤140737488351232)→
  Calls prog F #[v] W fun e W'=>e=.returned (.bool true)∧ag W W')
 (W:World) (base:Nat) (args:Array Value) (ds gs:List (DataW H)) (before:List MemPlace)
 (hval0:∀ (j:Nat) t v,f.params[j]? =some t→args[j]? =some v→Value.okWide prog W .any base t v)
 (hW:DataW.Whole enc prog f.params.toList s.vars false W args.toList ds gs before)
 (hsz:(DataW.weightsEach prog (f.params.toList++s.plain.varTypes prog) (ds++gs)).all (·≤reachBytes)=true)
 (hL:laidMetH prog laid W) (hS:W.ShapedOpen prog) :
 Calls prog F args W fun e W'=>∃ v,e=.returned v∧s.post enc prog f false true false false W args v W':=by
 have hlt:∀ x∈before,x.block<W.heap.size:=fun x hx=>hW.lt x hx
 have hW':=hW;obtain ⟨p,q,hA,hV,rfl,hfz,hnd⟩:=hW;rw [hp] at hA hval0 hsz;rw [hvars] at hV;obtain ⟨v0,d0,rfl,rfl,h0⟩:=trodAll_one hA;obtain ⟨rfl,rfl⟩:=trodVars_none hV;simp only [List.append_nil] at hW' hlt;refine (walk W base v0 d0 p hL hS (hval0 0 T v0 rfl rfl) h0 (fun n hn=>Nat.le_trans (by simpa using List.all_eq_true.1 hsz n (DataW.weights_mem_each (j:=0) (t:=T) (d:=d0) rfl rfl n hn)) (show reachBytes≤140737488351232 by decide))).mono fun e W' ⟨he,hb⟩=>?_
 subst he;refine ⟨_,rfl,oS (pa:=p) (pv:=[]) hW' ?_ ?_ ?_ (by simp) hb ?_⟩
 ·intro b sp hd;rw [List.append_nil,hfn,hr];exact trodAll_mk1 (shut_bool hTb _)
 ·intro sp hsp;rw [List.append_nil,hfn,hp];exact trodAll_mk1 (WideElems.Trod_stays Tryz.laidOut hrec hrow h0 (fun x hx=>hb.same (hlt x hx)) hsp)
 ·intro sp hsp;rw [List.append_nil,hfn,hvars];simp [DataW.TrodVars]
 ·exact ok_one hr rfl (okWide_bool_mk hTb _)
end Go.Proofs.YtaohnmneccbljaaGreatDoor
namespace Go.Proofs.YtaohnmneccbljaaGreatDoor
open Go.Proofs.Tryz (prog)
open Go.ChangeShapes Go.WideShapes Go.ChangeAt Go.RowKit
inductive Ty where
 |int (k:IntKind) | bool | str | sl (t:Ty) | pr (t u:Ty) | unit
def Ty.den:Ty→Type
 | .int _=>Int | .bool=>Bool | .str=>ByteArray | .sl t=>List t.den | .pr t u=>t.den×u.den | .unit=>Unit
def Ty.size:Ty→Nat
 | .pr t u=>t.size+u.size | .unit=>0 | _=>1
def Ty.bytes:Ty→Nat
 | .int .i8 | .int .u8 | .bool=>1 | .int .i16 | .int .u16=>2 | .int .i32 | .int .u32=>4 | .int _=>8 | .str=>16 | .sl _=>24 | .pr t u=>t.bytes+u.bytes | .unit=>0
def Ty.fits (P:Program):Ty→TypeId ⊕ (List Field×Nat)→Bool
 | .int k,.inl T=>match P.underlying T with | some (.int k')=>decide (k'=k) | _=>false
 | .bool,.inl T=>match P.underlying T with | some .bool=>true | _=>false
 | .str,.inl T=>match P.underlying T with | some .string=>true | _=>false
 | .sl t,.inl T=>match P.underlying T with | some (.slice e)=>t.fits P (.inl e)&&P.cellsOf e==t.size&&decide (0<t.size)&&decide (t.bytes≤P.bytesOf e) | _=>false
 | .pr t u,.inl T=>match P.underlying T with
  |some (.struct fs)=>match fs.toList with
   |f::r=>f.offset==0&&P.cellsOf f.type==t.size&&t.fits P (.inl f.type)&&u.fits P (.inr (r,t.size))&&P.cellsOf T==t.size+u.size
   |[]=>false
  |_=>false
 | .pr t u,.inr (f::r,o)=>f.offset==o&&P.cellsOf f.type==t.size&&t.fits P (.inl f.type)&&u.fits P (.inr (r,o+t.size))
 | .unit,.inr _=>true
 |_,_=>false
def Ty.At (w:World):(t:Ty)→(Nat→Option Value)→t.den→Prop
 | .int k,c,n=>c 0=some (.int k n)∧(Lit.int k n).wf=true
 | .bool,c,b=>c 0=some (.bool b)
 | .str,c,s=>c 0=some (.string s)∧ByteArray.size s≤140737488351232
 | .sl t,c,xs=>∃ (A:Option Addr) (cap:Nat),c 0=some (.slice A (List.length xs) cap)∧List.length xs*t.bytes≤140737488351232∧(List.length xs≤cap∧cap≤9223372036854775807∧(A=none→cap=0))∧
  (0<List.length xs→∃ b o,A=some ⟨b,o,none⟩∧b<w.heap.size∧∀ (i:Nat) (x:t.den),@getElem? (List t.den) Nat t.den _ _ xs i=some x→Ty.At w t (fun j=>w.cell? ⟨b,o+i*t.size+j,none⟩) x)
 | .pr t u,c,x=>Ty.At w t c x.1∧Ty.At w u (fun j=>c (t.size+j)) x.2
 | .unit,_,_=>True
theorem Ty.At.congr {w:World}:∀ (t:Ty) {c c':Nat→Option Value} {x:t.den},(∀ j,j<t.size→c' j=c j)→t.At w c x→t.At w c' x
 | .int k,c,c',n,hc,h=>⟨(hc 0 (by simp [Ty.size])).trans h.1,h.2⟩
 | .bool,c,c',n,hc,h=>(hc 0 (by simp [Ty.size])).trans h
 | .str,c,c',n,hc,h=>⟨(hc 0 (by simp [Ty.size])).trans h.1,h.2⟩
 | .sl t,c,c',n,hc,h=>by
  obtain ⟨A,cap,h0,r⟩:=h;exact ⟨A,cap,(hc 0 (by simp [Ty.size])).trans h0,r⟩
 | .pr t u,c,c',x,hc,h=>⟨Ty.At.congr t (fun j hj=>hc j (by simp only [Ty.size];omega)) h.1,Ty.At.congr u (fun j hj=>hc _ (by simp only [Ty.size];omega)) h.2⟩
 | .unit,_,_,_,_,_=>trivial
theorem s_ {w:World} {a:Addr} {v:Value} (h:w.cell? a=some v):a.block<w.heap.size:=by
 rcases Nat.lt_or_ge a.block w.heap.size with hlt | hge
 ·exact hlt
 ·unfold World.cell? at h;rw [Array.getElem?_eq_none hge] at h;cases h
section
variable {H:Type} {enc:TypeId×Value→H} {P:Program} {w:World} {base:Nat} {spare:Nat→Bool} {held:Bool}
theorem rR {α:Type} {n:Nat} {p:Nat→α→Prop} (h:∀ i,i<n→∃ x,p i x):∃ xs:List α,xs.length=n∧∀ i x,xs[i]? =some x→p i x:=by
 induction n with
 |zero=>exact ⟨[],rfl,fun i x hx=>by simp at hx⟩
 |succ n ih=>
  obtain ⟨xs,hl,hx⟩:=ih fun i hi=>h i (by omega)
  obtain ⟨x,hp⟩:=h n (by omega);refine ⟨xs++[x],by simp [hl],fun i y hy=>?_⟩;rcases Nat.lt_or_ge i xs.length with hlt | hge
  ·rw [List.getElem?_append_left hlt] at hy;exact hx i y hy
  ·rw [List.getElem?_append_right hge] at hy
   have h0:i-xs.length=0:=by
    rcases Nat.eq_zero_or_pos (i-xs.length) with h0 | h0
    ·exact h0
    ·rw [List.getElem?_eq_none (by simp;omega)] at hy;cases hy
   rw [h0] at hy;simp at hy;subst hy;obtain rfl:i=n:=by omega
   exact hp
theorem mi {H:Type} {P:Program} {e:TypeId}:∀ (l:List (DataW H)) (d:DataW H),d∈l→∀ q∈d.weights P e,q∈DataW.weightsAll P e l
 |x::r,d,h,q,hq=>by
  simp only [DataW.weightsAll,List.mem_append];rcases List.mem_cons.1 h with rfl | h
  ·exact .inl hq
  ·exact .inr (mi r d h q hq)
theorem Ty.of_trod:∀ (t:Ty),
 (∀ (T:TypeId),t.fits P (.inl T)=true→∀ (fuel:Nat) (cs:List Value) (y:DataW H×List MemPlace),DataW.trod enc P w base spare held fuel T cs=some y→(∀ n∈y.1.weights P T,n≤140737488351232)→∃ x,t.At w (fun j=>cs[j]?) x)∧
 (∀ (fs:List Field) (o:Nat),t.fits P (.inr (fs,o))=true→∀ (cs:List Value),cs.length=o+t.size→(∀ (j:Nat) (f:Field),fs[j]? =some f→∃ (fuel:Nat) (y:DataW H×List MemPlace),DataW.trod enc P w base spare held fuel f.type ((cs.drop f.offset).take (P.cellsOf f.type))=some y∧∀ n∈y.1.weights P f.type,n≤140737488351232)→
  ∃ x,t.At w (fun j=>cs[o+j]?) x)
 | .int k=>by
  refine ⟨fun T hf fuel cs y h hsz=>?_,fun fs o hf=>by simp [Ty.fits] at hf⟩;simp only [Ty.fits] at hf;split at hf
  ·rename_i k' hu;obtain rfl:k'=k:=by simpa using hf
   obtain ⟨n,rfl,_,hn⟩:=DataW.trod_int hu h;exact ⟨n,rfl,hn⟩
  ·cases hf
 | .bool=>by
  refine ⟨fun T hf fuel cs y h hsz=>?_,fun fs o hf=>by simp [Ty.fits] at hf⟩;simp only [Ty.fits] at hf;split at hf
  ·rename_i hu;obtain ⟨n,rfl,_⟩:=DataW.trod_bool hu h;exact ⟨n,rfl⟩
  ·cases hf
 | .str=>by
  refine ⟨fun T hf fuel cs y h hsz=>?_,fun fs o hf=>by simp [Ty.fits] at hf⟩;simp only [Ty.fits] at hf;split at hf
  ·rename_i hu;obtain ⟨n,rfl,rfl,hn⟩:=DataW.trod_string hu h;exact ⟨n,rfl,by have:=hsz n.data.toList.length (by simp [DataW.weights]);simpa using this⟩
  ·cases hf
 | .sl t=>by
  refine ⟨fun T hf fuel cs y h hsz=>?_,fun fs o hf=>by simp [Ty.fits] at hf⟩;simp only [Ty.fits] at hf;split at hf
  ·rename_i e hu;simp only [Bool.and_eq_true,beq_iff_eq,decide_eq_true_eq] at hf;obtain ⟨⟨⟨hft,hC⟩,hpos⟩,hby⟩:=hf;rcases Go.Deep.open_slice hu h with ⟨rfl,_⟩ | ⟨a,len,cap,m,n,D,Pl,rfl,hb,hl,hm,hmm,rfl,hi⟩
   ·exact ⟨[],none,0,rfl,by simp,by simp,fun h0=>absurd h0 (by simp)⟩
   ·have hlm:len≤m:=by rw [hmm];split <;> omega
    have key:∀ i,i<len→∃ x,t.At w (fun j=>w.cell? ((a.add (i*t.size)).add j)) x:=by
     intro i hil;obtain ⟨cs',hc,ht'⟩:=hi i (by omega);obtain ⟨_,hcl,hat⟩:=World.cells?_some hc
     obtain ⟨x,hx⟩:=(Ty.of_trod t).1 e hft n cs' _ ht' (fun q hq=>hsz q (by
      simp only [DataW.weights,hu,List.mem_cons,List.mem_append];exact .inr (.inl (mi ((List.range len).map D) (D i) (List.mem_map.2 ⟨i,List.mem_range.2 hil,rfl⟩) q hq))))
     rw [hC] at hat hcl;exact ⟨x,Ty.At.congr t (fun j hj=>hat j hj) hx⟩
    obtain ⟨xs,hxl,hxs⟩:=rR key;have hwt:=hsz ((((List.range len).map D).length+((List.range (m-len)).map fun j=>D (len+j)).length)*P.bytesOf e) (by simp [DataW.weights,hu])
    have hwt2:len*t.bytes≤140737488351232:=by
     refine Nat.le_trans (Nat.mul_le_mul ?_ hby) hwt;simp
    unfold maxLen at hm;refine ⟨xs,some a,cap,by rw [hxl];rfl,by rw [hxl];exact hwt2,⟨by omega,by omega,fun hn=>by cases hn⟩,fun h0=>?_⟩
    have hc0:∃ v,w.cell? (a.add 0)=some v:=by
     obtain ⟨cs',hc,_⟩:=hi 0 (by omega);obtain ⟨_,hcl,hat⟩:=World.cells?_some hc;have h1:=hat 0 (by omega);rw [Go.Deep.add_add] at h1;simp only [Nat.zero_mul,Nat.add_zero] at h1;exact ⟨cs'[0]'(by omega),by rw [h1,List.getElem?_eq_getElem (by omega)]⟩
    obtain ⟨v,hv⟩:=hc0;obtain ⟨b,o,spot⟩:=a;have hspot:spot=none:=by simpa [Addr.add] using World.cell?_spot hv
    subst hspot;have hblt:b<w.heap.size:=by simpa [Addr.add] using s_ hv
    refine ⟨b,o,rfl,hblt,fun i x hx=>?_⟩;refine Ty.At.congr t (fun j hj=>?_) (hxs i x hx);rw [Go.Deep.add_add,Go.WideShapes.add_plain,Nat.add_assoc]
  ·cases hf
 | .pr t u=>by
  have main:∀ (f:Field) (r:List Field) (o:Nat),(f.offset==o&&P.cellsOf f.type==t.size&&t.fits P (.inl f.type)&&u.fits P (.inr (r,o+t.size)))=true→∀ (cs:List Value),cs.length=o+(t.size+u.size)→
   (∀ (j:Nat) (g:Field),(f::r)[j]? =some g→∃ (fuel:Nat) (y:DataW H×List MemPlace),DataW.trod enc P w base spare held fuel g.type ((cs.drop g.offset).take (P.cellsOf g.type))=some y∧∀ n∈y.1.weights P g.type,n≤140737488351232)→
   ∃ x,Ty.At w (.pr t u) (fun j=>cs[o+j]?) x:=by
   intro f r o hf cs hcs hall;simp only [Bool.and_eq_true,beq_iff_eq] at hf;obtain ⟨⟨⟨ho,hc⟩,ht⟩,hu⟩:=hf;obtain ⟨fuel,y,hy,hyw⟩:=hall 0 f rfl;obtain ⟨x1,h1⟩:=(Ty.of_trod t).1 _ ht _ _ _ hy hyw;obtain ⟨x2,h2⟩:=(Ty.of_trod u).2 r (o+t.size) hu cs (by omega) (fun j g hg=>hall (j+1) g (by simpa using hg));refine ⟨(x1,x2),Ty.At.congr t (fun j hj=>?_) h1,Ty.At.congr u (fun j hj=>?_) h2⟩
   ·simp only [hc,ho];rw [List.getElem?_take,if_pos hj,List.getElem?_drop]
   ·simp only [Nat.add_assoc]
  refine ⟨fun T hf fuel cs y h hsz=>?_,fun fs o hf cs hcs hall=>?_⟩
  ·simp only [Ty.fits] at hf;split at hf
   ·rename_i fs hu;split at hf
    ·rename_i f r hfs;simp only [Bool.and_eq_true,beq_iff_eq] at hf;obtain ⟨⟨⟨⟨ho,hc⟩,ht⟩,hu'⟩,hsz⟩:=hf;obtain ⟨ys,n',_,rfl,hlen,_,hall⟩:=DataW.trod_struct hu h
     have hm:=main f r 0 (by simp [ho,hc,ht,hu']) cs (by omega) (fun j g hg=>by
      have hg':fs[j]? =some g:=by rw [←hfs] at hg;simpa using hg
      have:=hall j g hg'
      have hjl:j<ys.length:=by
       have:j<fs.size:=(Array.getElem?_eq_some_iff.1 hg').1;omega
      refine ⟨n',ys[j],by rw [hall j g hg',List.getElem?_eq_getElem hjl],fun q hq=>hsz q ?_⟩;simp only [DataW.weights,hu];exact DataW.weights_mem_each (j:=j) (t:=g.type) (d:=ys[j].1) (by rw [List.getElem?_map,Array.getElem?_toList,hg'];rfl) (by rw [List.getElem?_map,List.getElem?_eq_getElem hjl];rfl) q hq)
     simpa using hm
    ·cases hf
   ·cases hf
  ·match fs,hf with
   |f::r,hf=>
    simp only [Ty.fits] at hf;exact main f r o hf cs (by simpa [Ty.size] using hcs) hall
   |[],hf=>simp [Ty.fits] at hf
 | .unit=>by
  refine ⟨fun T hf=>by simp [Ty.fits] at hf,fun fs o hf cs hcs hall=>⟨(),trivial⟩⟩
end
theorem Bn {H:Type} {enc:TypeId×Value→H} {w:World} {base:Nat} {T:TypeId} {v:Value} {d:DataW H} {p:List MemPlace} (t u:Ty) (hf:(Ty.pr t u).fits prog (.inl T)=true)
 (hv:Value.okWide prog w .any base T v) (h:DataW.Trod enc prog w 0 (fun _=>true) true T v d p) (hsz:∀ n∈d.weights prog T,n≤140737488351232) :
 ∃ (cs:Array Value) (x:(Ty.pr t u).den),v=.agg cs∧cs.size=(Ty.pr t u).size∧(Ty.pr t u).At w (fun j=>cs[j]?) x:=by
 have hu:∃ fs,prog.underlying T=some (.struct fs)∧prog.cellsOf T=(Ty.pr t u).size:=by
  have hf':=hf;simp only [Ty.fits] at hf';split at hf'
  ·rename_i fs hu;split at hf'
   ·simp only [Bool.and_eq_true,beq_iff_eq] at hf';exact ⟨fs,hu,hf'.2⟩
   ·cases hf'
  ·cases hf'
 obtain ⟨fs,hu,hC⟩:=hu;obtain ⟨cs,rfl,hcs⟩:=okWide_struct hu hv;obtain ⟨fuel,hfu⟩:=h;obtain ⟨x,hx⟩:=(Ty.of_trod (.pr t u)).1 T hf fuel _ _ hfu hsz;refine ⟨cs,x,rfl,hcs.trans hC,?_⟩;simpa [Value.cells] using hx
theorem Aa {w:World} {k:IntKind} {c:Nat→Option Value} {xs:List Int} (h:(Ty.sl (.int k)).At w c xs) :
 ∃ (A:Option Addr) (cap:Nat),c 0=some (.slice A xs.length cap)∧Row w (.slice A xs.length cap) (xs.map fun x=>.int k x)∧(∀ x∈xs,(Lit.int k x).wf=true)∧xs.length*(Ty.int k).bytes≤140737488351232∧(xs.length≤cap∧cap≤9223372036854775807):=by
 obtain ⟨A,cap,h0,h1,h2,h3⟩:=h;refine ⟨A,cap,h0,⟨A,cap,by rw [List.length_map],fun hp=>?_⟩,?_,h1,⟨h2.1,h2.2.1⟩⟩
 ·obtain ⟨b,o,hA,hb,hi⟩:=h3 (by rw [List.length_map] at hp;exact hp);refine ⟨b,o,hA,hb,fun i u hu=>?_⟩;rw [List.getElem?_map] at hu;cases hx:xs[i]? with
  |none=>rw [hx] at hu;cases hu
  |some x=>
   rw [hx] at hu;simp only [Option.map_some,Option.some.injEq] at hu;subst hu;have:=(hi i x hx).1;simpa [Ty.size] using this
 ·intro x hx;obtain ⟨i,hi,rfl⟩:=List.mem_iff_getElem.1 hx;obtain ⟨b,o,hA,hb,hii⟩:=h3 (Nat.lt_of_le_of_lt (Nat.zero_le _) hi);exact (hii i _ (List.getElem?_eq_getElem hi)).2
end Go.Proofs.YtaohnmneccbljaaGreatDoor
namespace Go.Proofs.YtaohnmneccbljaaGreatDoor
open Go.Proofs.Tryz (prog)
open Go.RowKit Go.ChangeShapes Go.WideShapes Go.ChangeAt
theorem uN {k:IntKind} {x:Int} (h:(Lit.int k x).wf=true):k.min≤x∧x≤k.max:=by simpa [Lit.wf] using h
theorem AF {x:Int} (h:(Lit.int .i64 x).wf=true):-9223372036854775808≤x∧x≤9223372036854775807:=by
 have:=uN h;have e1:IntKind.i64.min=-9223372036854775808:=by decide
 have e2:IntKind.i64.max=9223372036854775807:=by decide
 omega
theorem z_ {w:World} {c:Nat→Option Value} {xs:List Int} (h:(Ty.sl (.int .i64)).At w c xs) :
 ∃ (A:Option Addr) (cap:Nat),c 0=some (.slice A xs.length cap)∧d_ iV w A xs∧(∀ x∈xs,-9223372036854775808≤x∧x≤9223372036854775807)∧xs.length*8≤140737488351232∧xs.length≤cap:=by
 obtain ⟨A,cap,h0,hr,hw,hb,hc⟩:=Aa h;exact ⟨A,cap,h0,(d_.of_row hr).2,fun x hx=>AF (hw x hx),hb,hc.1⟩
theorem Blk.grown {w w':World} {g:Nat} {t:TypeId} {cs:Array Value} {r:Option Nat} (h:Blk w g t cs) (hg:w.grownBy w' r) (hne:∀ k,r=some k→k≠g):Blk w' g t cs:=
 (hg.block g h.lt (fun e=>hne g e.symm rfl)).trans h
end Go.Proofs.YtaohnmneccbljaaGreatDoor
namespace Go.Proofs.YtaohnmneccbljaaGreatDoor
open Go.Proofs.Tryz (prog)
open Go.RowKit Go.ChangeShapes Go.WideShapes Go.ChangeAt
end Go.Proofs.YtaohnmneccbljaaGreatDoor
namespace Go.Proofs.YtaohnmneccbljaaGreatDoor
open Go.Proofs.Tryz (prog)
open Go.RowKit Go.ChangeShapes Go.WideShapes Go.ChangeAt
theorem dR {P:Program} {ops:Array Oper} {n:Fr} {L:List (Nat×Value)} {w:World} {op:Op} {ty:TypeId} {pos:String} {after:Array Edge} {d:Option Nat} {R:Value→World→Prop} {j:Nat} {b:Bool} (hg:iH ops n L j=undef) (hR:R undef w):aw P ops n L ⟨d,op,ty,pos,after,some (j,b)⟩ w R:=
 .inr ⟨by show (yielded ops (mkT n.n L) j==some b)=false;rw [kp hg];rfl,hR⟩
theorem lf {w:World} {base e s n c m g t:Nat} {A:Option Addr} {xs:List Value} {cs:Array Value} (h:w.ownsRow base e s (.slice A n c) m xs) (hb:Blk w g t cs) (hne:t≠e):∀ k,A.map (·.block)=some k→k≠g:=by
 rintro k hk rfl;rcases h.2 with ⟨h0,_⟩ | ⟨g',cap,cur,hv,hg,hh,r⟩
 ·simp only [Value.slice.injEq] at h0;rw [h0.1] at hk;cases hk
 ·simp only [Value.slice.injEq] at hv;rw [hv.1] at hk;simp only [Option.map_some,Option.some.injEq] at hk;subst hk;unfold Blk at hb;rw [hh] at hb;simp only [Option.some.injEq,Obj.cells.injEq] at hb;exact hne hb.2.1.symm
theorem eE {w w':World} {base e s n c g:Nat} {A:Option Addr} {xs:List Value} (h:w.ownsRow base e s (.slice A n c) n xs) (o:cY g w w') (hne:∀ k,A.map (·.block)=some k→k≠g):w'.ownsRow base e s (.slice A n c) n xs:=by
 refine ⟨h.1,?_⟩;rcases h.2 with h2 | ⟨g',cap,cur,hv,hg,hh,r⟩
 ·exact .inl h2
 ·refine .inr ⟨g',cap,cur,hv,hg,?_,r⟩;simp only [Value.slice.injEq] at hv;rw [o.block g' (hne g' (by rw [hv.1];rfl))];exact hh
theorem dI {w:World} {base base' size n:Nat} {e:TypeId} {v:Value} {xs:List Value} (h:w.ownsRow base e size v n xs) (hb:base'≤base):w.ownsRow base' e size v n xs:=by
 refine ⟨h.1,?_⟩;rcases h.2 with h0 | ⟨g,cap,cur,hv,hg,r⟩
 ·exact .inl h0
 ·exact .inr ⟨g,cap,cur,hv,by omega,r⟩
end Go.Proofs.YtaohnmneccbljaaGreatDoor
namespace Go.Proofs.YtaohnmneccbljaaGreatDoor
open Go.Proofs.Tryz (prog)
open Go.RowKit
section
variable {α:Type} {f:α→List Value} {s:Nat}
theorem lr (hf:∀ x,(f x).length=s):∀ (L:List α),(L.flatMap f).length=L.length*s
 |[]=>by simp
 |x::r=>by rw [List.flatMap_cons,List.length_append,hf,lr hf r,List.length_cons,Nat.succ_mul];omega
theorem l6 (hf:∀ x,(f x).length=s):∀ (L:List α) (k:Nat),(L.flatMap f).take (k*s)=(L.take k).flatMap f
 |[],k=>by simp
 |x::r,0=>by simp
 |x::r,k+1=>by
  rw [List.flatMap_cons,List.take_succ_cons,List.flatMap_cons,←l6 hf r k,List.take_append,hf];rw [show (k+1)*s-s=k*s by rw [Nat.succ_mul];omega,List.take_of_length_le (by rw [hf,Nat.succ_mul];omega)]
theorem kd (hf:∀ x,(f x).length=s):∀ (L:List α) (k:Nat),(L.flatMap f).drop (k*s)=(L.drop k).flatMap f
 |[],k=>by simp
 |x::r,0=>by simp
 |x::r,k+1=>by
  rw [List.flatMap_cons,List.drop_succ_cons,←kd hf r k,List.drop_append,hf];rw [show (k+1)*s-s=k*s by rw [Nat.succ_mul];omega,List.drop_of_length_le (by rw [hf,Nat.succ_mul];omega),List.nil_append]
theorem zH (hf:∀ x,(f x).length=s) (L:List α) (i:Nat) (hi:i<L.length) (j:Nat) (hj:j<s):(L.flatMap f)[i*s+j]? =(f L[i])[j]? :=by
 have h1:((L.flatMap f).drop (i*s))[j]? =(L.flatMap f)[i*s+j]? :=by rw [List.getElem?_drop]
 rw [←h1,kd hf,List.drop_eq_getElem_cons hi,List.flatMap_cons,List.getElem?_append_left (by rw [hf];exact hj)]
theorem rO {L:List α} (h:∀ x∈L,∀ u∈f x,u.oneCell'=true):∀ u∈L.flatMap f,u.oneCell'=true:=fun u hu=>by
 obtain ⟨x,hx,hu⟩:=List.mem_flatMap.1 hu;exact h x hx u hu
def gH (s:Nat) (f:α→List Value) (w:World) (A:Option Addr) (L:List α):Prop:=0<L.length→∃ b o,A=some ⟨b,o,none⟩∧∀ i (h:i<L.length),w.rangeAt b (o+i*s) (f L[i])
theorem gH.from_ {w w':World} {A:Option Addr} {L:List α} (h:gH s f w A L) (hF:ag w w'):gH s f w' A L:=fun h0=>
 let ⟨b,o,hA,hc⟩:=h h0
 ⟨b,o,hA,fun i hi=>dU hF (hc i hi)⟩
theorem gH.own (hf:∀ x,(f x).length=s) (hs:0<s) {w:World} {base e n c:Nat} {A:Option Addr} {L:List α} (h:w.ownsRow base e s (.slice A n c) n (L.flatMap f)):L.length=n∧gH s f w A L:=by
 have hn:L.length=n:=by
  have:=h.1;rw [lr hf] at this;exact Nat.eq_of_mul_eq_mul_right hs this
 refine ⟨hn,fun h0=>?_⟩;obtain ⟨g,rfl⟩:=rm h (by omega);refine ⟨g,0,rfl,fun i hi j v hv=>?_⟩
 have hj:j<s:=by
  rw [←hf L[i]];rcases Nat.lt_or_ge j (f L[i]).length with a | a
  ·exact a
  ·rw [List.getElem?_eq_none a] at hv;cases hv
 have hlt:i*s+j<n*s:=by
  have:(i+1)*s≤n*s:=Nat.mul_le_mul_right s (by omega);rw [Nat.succ_mul] at this;omega
 rw [Nat.zero_add,h.cellAt _ hlt,zH hf L i hi j hj];exact hv
end
theorem ka {w:World} {base e size n c:Nat} {A:Option Addr} {xs:List Value} (h:w.ownsRow base e size (.slice A n c) n xs) (hn:0<n) :
 ∃ g cur,A=some ⟨g,0,none⟩∧base≤g∧Blk w g e (List.toArray cur)∧n≤c∧c≤maxLen∧cur.length=c*size∧cur.take (n*size)=xs:=by
 rcases h.2 with ⟨_,h0⟩ | ⟨g,cap,cur,hv,hg,hh,h1,h2,h3,h4⟩
 ·omega
 ·simp only [Value.slice.injEq,true_and] at hv;obtain ⟨rfl,rfl⟩:=hv;exact ⟨g,cur.toList,rfl,hg,by simpa [Blk] using hh,h1,h2,by simpa using h3,h4⟩
theorem nI {w:World} {base e size n c g:Nat} {cur xs:List Value} (hg:base≤g) (hb:Blk w g e cur.toArray) (h1:n≤c) (h2:c≤maxLen) (h3:cur.length=c*size) (h4:cur.take (n*size)=xs) :
 w.ownsRow base e size (.slice (some ⟨g,0,none⟩) n c) n xs:=by
 refine ⟨?_,.inr ⟨g,c,cur.toArray,rfl,hg,hb,h1,h2,by simpa using h3,by simpa using h4⟩⟩;rw [←h4,List.length_take,h3];exact Nat.min_eq_left (Nat.mul_le_mul_right _ h1)
theorem cZ (cs vs:List Value) (o:Nat) (h:o+vs.length≤cs.length):(over cs o vs).length=cs.length:=by simp [over];omega
theorem vr (cs vs:List Value) (o k:Nat) (h:o+vs.length≤k) (hk:k≤cs.length):(over cs o vs).take k=over (cs.take k) o vs:=by
 unfold over;rw [List.take_append,List.take_of_length_le (by simp;omega)];rw [List.take_take,Nat.min_eq_left (by omega),List.drop_take]
 congr 2
 simp;omega
theorem qg (cs vs:List Value) (o k:Nat) (h:k≤o) (ho:o≤cs.length):(over cs o vs).take k=cs.take k:=by
 unfold over;rw [List.append_assoc,List.take_append_of_le_length (by simp;omega),List.take_take,Nat.min_eq_left h]
theorem rp (cs:List Value) (o:Nat):over cs o []=cs:=by simp [over]
theorem fR (cs vs:List Value) (o j:Nat) (h:o+vs.length≤cs.length):(over cs o vs)[j]? =if o≤j∧j<o+vs.length then vs[j-o]? else cs[j]? :=by
 unfold over;by_cases h1:j<o
 ·rw [if_neg (by omega),List.append_assoc,List.getElem?_append_left (by simp;omega),List.getElem?_take_of_lt h1]
 ·by_cases h2:j<o+vs.length
  ·rw [if_pos ⟨by omega,h2⟩,List.append_assoc,List.getElem?_append_right (by simp;omega),List.getElem?_append_left (by simp;omega)]
   congr 1
   simp;omega
  ·rw [if_neg (by omega),List.getElem?_append_right (by simp;omega),List.getElem?_drop]
   congr 1
   simp;omega
section
variable {P:Program} {ρ:Operand→Value} {w:World}
theorem wG {t s:Nat} (h:cS P t=some s):∃ i,P.info? t=some i∧i.size=s:=by
 unfold cS at h;cases hi:P.info? t with
 |none=>simp [hi] at h
 |some i=>exact ⟨i,rfl,by simpa [hi] using h⟩
theorem lR {g o:Nat} {u:TypeId} {cur vs:List Value} {A:Option Addr} (hA:0<vs.length→A=some ⟨g,o,none⟩) (hb:Blk w g u cur.toArray) (hfit:o+vs.length≤cur.length) (h1:∀ v∈vs,v.oneCell'=true) :
 ∃ w',(match A with | some a=>storeCells a vs | none=>(pure ():Sem Unit)).run P w=.ok () w'∧cY g w w'∧Blk w' g u (over cur o vs).toArray:=by
 cases vs with
 |nil=>
  refine ⟨w,?_,cY.rfl_,by rw [rp];exact hb⟩;cases A <;> simp [storeCells]
 |cons v vs=>
  obtain rfl:=hA (by simp);have:=run_storeCells_at P g o u (v::vs) 0 cur.toArray w hb (by simpa using hfit) h1;refine ⟨_,this,?_,?_⟩
  ·exact ⟨rfl,rfl,rfl,by simp [World.setRow],fun k hk=>setRow_other w g k _ hk⟩
  ·have h2:=setRow_heap w g cur.toArray ((cur.toArray.toList.take (o+0)++(v::vs)++cur.toArray.toList.drop (o+0+(v::vs).length)).toArray) u (0,0) hb;exact h2
theorem j8 {cs:List Value} {n:Nat} {A:Option Addr} (hn:cs.length=n) (h:0<cs.length→∃ b o,A=some ⟨b,o,none⟩∧w.rangeAt b o cs) :
 (match A with | some a=>loadCells a n | none=>(pure #[]:Sem (Array Value))).run P w=.ok cs.toArray w:=by
 subst hn;cases cs with
 |nil=>cases A <;> simp [loadCells,loadCellsFrom]
 |cons c cs=>
  obtain ⟨b,o,rfl,hr⟩:=h (by simp);exact run_loadCells_list (P:=P) w ⟨b,o,none⟩ (c::cs) (fun j v hv=>by rw [Addr.add_mid];exact hr j v hv)
theorem xd {d s:Operand} {dT sT e size g o m c j c2:Nat} {A A2:Option Addr} {u:TypeId} {cur news:List Value} (ht:dq P dT=some (e,size)) (hd:ρ d=.slice A m c) (hs:ρ s=.slice A2 j c2) (hn:news.length=min j m*size)
 (hA:0<news.length→A=some ⟨g,o,none⟩) (hsrc:0<news.length→∃ b o,A2=some ⟨b,o,none⟩∧w.rangeAt b o news) (hb:Blk w g u cur.toArray) (hfit:o+news.length≤cur.length) (h1:∀ v∈news,v.oneCell'=true) :
 ∃ w',RO P ρ (.call { callee:=.builtin .copy,args:=#[d,s],argTypes:=#[dT,sT] }) w (.int .i64 (min j m:Nat)) w'∧cY g w w'∧Blk w' g u (over cur o news).toArray:=by
 obtain ⟨hu,hsz⟩:=fS ht;obtain ⟨i,hi,hs2⟩:=wG hsz;subst hs2;obtain ⟨w',hst,ho,hbl⟩:=lR (P:=P) (A:=A) hA hb hfit h1;have hl:=j8 (P:=P) (n:=min j m*i.size) hn hsrc
 have key:∀ ty,(Builtin.copy_ #[dT,sT] ty #[.slice A m c,.slice A2 j c2]).run P w=.ok (.int .i64 (min j m:Nat)) w':=fun ty=>by
  have e1:Nat.min j m=min j m:=rfl;cases A2 with
  |none=>
   cases A with
   |none=>simp_all [Builtin.copy_,run_underlying hu,Builtin.lenOf,Builtin.firstCells,sizeOf,typeInfo,goInt]
   |some a=>simp_all [Builtin.copy_,run_underlying hu,Builtin.lenOf,Builtin.firstCells,sizeOf,typeInfo,goInt]
  |some a2=>
   simp only at hl;cases A with
   |none=>simp_all [Builtin.copy_,run_underlying hu,Builtin.lenOf,Builtin.firstCells,sizeOf,typeInfo,goInt]
   |some a=>simp_all [Builtin.copy_,run_underlying hu,Builtin.lenOf,Builtin.firstCells,sizeOf,typeInfo,goInt]
 refine ⟨w',fun dst ty pos after gg=>?_,ho,hbl⟩;unfold execOp;simp only [resolve,invoke,builtin,Sem.run_bind,Sem.run_pure,Result.andThen_ok,List.map_toArray,List.map_cons,List.map_nil,hd,hs,key]
theorem u9 {s:Operand} {t e size by_ g o n c:Nat} {A:Option Addr} {u:TypeId} {z:Value} {cur:List Value} (hq:eU P t=some (e,size,by_,z)) (hzs:z.cells.size=size) (hs:ρ s=.slice A n c)
 (hA:0<n*size→A=some ⟨g,o,none⟩) (hb:Blk w g u cur.toArray) (hfit:o+n*size≤cur.length) (h1:∀ v∈z.cells.toList,v.oneCell'=true) :
 ∃ w' zs,RO P ρ (.call { callee:=.builtin .clear,args:=#[s],argTypes:=#[t] }) w (.tuple #[]) w'∧cY g w w'∧zs.length=n*size∧Blk w' g u (over cur o zs).toArray:=by
 obtain ⟨i,hu,hi,hsz,_,hz⟩:=jd hq;have hzc:(Builtin.zeroCells z.cells n).toList.length=n*size:=by simp [Builtin.zeroCells,hzs]
 have hz1:∀ v∈(Builtin.zeroCells z.cells n).toList,v.oneCell'=true:=fun v hv=>by
  simp only [Builtin.zeroCells,Array.toList_map,List.mem_map,Array.toList_range,List.mem_range] at hv;obtain ⟨k,hk,rfl⟩:=hv
  have hz0:0<z.cells.size:=by
   rcases Nat.eq_zero_or_pos z.cells.size with h | h
   ·rw [h] at hk;omega
   ·exact h
  refine h1 _ ?_;rw [getElem!_pos z.cells (k%z.cells.size) (Nat.mod_lt _ hz0)];exact Array.mem_toList_iff.2 (Array.getElem_mem _)
 obtain ⟨w',hst,ho,hbl⟩:=lR (P:=P) (A:=A) (vs:=(Builtin.zeroCells z.cells n).toList) (by rw [hzc];exact hA) hb (by rw [hzc];exact hfit) hz1;have hzv:(zeroValue e).run P w=.ok z w:=by simp [zeroValue,typeInfo,hi,hz]
 by_cases h0:n=0
 ·subst h0;refine ⟨w,[],fun dst ty pos after gg=>?_,cY.rfl_,by simp,by rw [rp];exact hb⟩;unfold execOp;cases A <;> simp [resolve,invoke,builtin,hs,Builtin.clear_,run_underlying hu]
 ·obtain ⟨k,rfl⟩:∃ k,n=k+1:=⟨n-1,by omega⟩;refine ⟨w',_,fun dst ty pos after gg=>?_,ho,hzc,hbl⟩;unfold execOp;cases A with
  |none=>simp_all [resolve,invoke,builtin,Builtin.clear_,run_underlying hu]
  |some a=>simp_all [resolve,invoke,builtin,Builtin.clear_,run_underlying hu]
theorem nD {s x:Operand} {t e size g m cap j c2:Nat} {A2:Option Addr} {cur news:List Value} (ht:dq P t=some (e,size)) (hs:ρ s=.slice (some ⟨g,0,none⟩) m cap) (hx:ρ x=.slice A2 j c2) (hl:news.length=j*size)
 (hsrc:0<news.length→∃ b o,A2=some ⟨b,o,none⟩∧w.rangeAt b o news) (hb:Blk w g e cur.toArray) (h1:∀ v∈news,v.oneCell'=true) (hroom:m+j≤cap) (hfit:m*size+news.length≤cur.length) :
 ∃ w',RO P ρ (.call { callee:=.builtin .append,args:=#[s,x],argTypes:=#[t,t] }) w (.slice (some ⟨g,0,none⟩) (m+j) cap) w'∧cY g w w'∧Blk w' g e (over cur (m*size) news).toArray:=by
 obtain ⟨hu,hsz⟩:=fS ht;obtain ⟨i,hi,hs2⟩:=wG hsz;subst hs2;obtain ⟨w',hst,ho,hbl⟩:=lR (P:=P) (A:=some ⟨g,m*i.size,none⟩) (o:=m*i.size) (fun _=>rfl) hb hfit h1;have hld:=j8 (P:=P) (n:=j*i.size) hl hsrc
 have key:∀ ty,(Builtin.append_ #[t,t] ty #[.slice (some ⟨g,0,none⟩) m cap,.slice A2 j c2]).run P w=.ok (.slice (some ⟨g,0,none⟩) (m+j) cap) w':=fun ty=>by
  have hf:(Builtin.firstCells i.size j (.slice A2 j c2)).run P w=.ok news.toArray w:=by cases A2 <;> exact hld
  simp only at hst;simp [Builtin.append_,run_underlying hu,sizeOf,typeInfo,hi,Builtin.lenOf,hroom,hf,Addr.add_lit,hst]
 refine ⟨w',fun dst ty pos after gg=>?_,ho,hbl⟩;unfold execOp;simp only [resolve,invoke,builtin,Sem.run_bind,Sem.run_pure,Result.andThen_ok,List.map_toArray,List.map_cons,List.map_nil,hs,hx,key]
theorem sU {s x:Operand} {t tn e size by_ m cap k:Nat} {A:Option Addr} {z:Value} {kn:IntKind} {olds:List Value} (hq:eU P t=some (e,size,by_,z)) (htn:P.underlying tn=some (.int kn)) (hzs:z.cells.size=size) (hs0:0<size)
 (hs:ρ s=.slice A m cap) (hx:ρ x=.int .i64 (k:Nat)) (hol:olds.length=m*size) (hold:0<olds.length→∃ b o,A=some ⟨b,o,none⟩∧w.rangeAt b o olds) (h0:0<k) (hg:cap<m+k) (h63:m+k≤maxLen) (hby:(m+k)*by_≤140737488355328) (_:m≤cap) :
 ∃ c' w' cur,RO P ρ (.call { callee:=.builtin .append,args:=#[s,x],argTypes:=#[t,tn] }) w (.slice (some ⟨w.heap.size,0,none⟩) (m+k) c') w'∧ag w w'∧Blk w' w.heap.size e (List.toArray cur)∧m+k≤c'∧c'≤maxLen∧cur.length=c'*size∧cur.take (m*size)=olds:=by
 obtain ⟨i,hu,hi,hsz,hb,hz⟩:=jd hq;subst hsz;subst hb
 have hld:(Builtin.firstCells i.size m (.slice A m cap)).run P w.drew=.ok olds.toArray w.drew:=by
  have:=j8 (P:=P) (w:=w.drew) (n:=m*i.size) hol (fun h=>let ⟨b,o,h1,h2⟩:=hold h;⟨b,o,h1,fun j v hv=>h2 j v hv⟩);cases A <;> exact this
 have hnx:Builtin.nextslicecap (m+k) cap*i.bytes≤281474976710656:=growslice_fits hg hby
 have hrun:=fun ty=>Lib.run_append_grow_zeros (P:=P) w t tn ty e i z .i64 kn hu htn hi hz A m cap olds hld k h0 hs0 hg (by unfold maxLen at h63;omega) (by
  have:k*i.bytes≤(m+k)*i.bytes:=Nat.mul_le_mul_right _ (by omega);omega) hnx
 have hcge:=grownCap_ge w (m+k) cap e;have hcle:=grownCap_le_maxLen w (m+k) cap e h63
 generalize grownCap w (m+k) cap e=c' at hrun hcge hcle
 refine ⟨c',w.drew.alloc (.cells (olds.toArray++Builtin.zeroCells z.cells k++Builtin.zeroCells z.cells (c'-(m+k))) e),olds++(Builtin.zeroCells z.cells k).toList++(Builtin.zeroCells z.cells (c'-(m+k))).toList,fun dst ty pos after gg=>?_,ag.rfl_.d1.new _,?_,hcge,hcle,?_,?_⟩
 ·unfold execOp;simp only [resolve,invoke,builtin,Sem.run_bind,Sem.run_pure,Result.andThen_ok,List.map_toArray,List.map_cons,List.map_nil,hs,hx,hrun]
 ·have:=Blk.new w.drew e (olds.toArray++Builtin.zeroCells z.cells k++Builtin.zeroCells z.cells (c'-(m+k)))
  have e1:(olds++(Builtin.zeroCells z.cells k).toList++(Builtin.zeroCells z.cells (c'-(m+k))).toList).toArray=olds.toArray++Builtin.zeroCells z.cells k++Builtin.zeroCells z.cells (c'-(m+k)):=by
   apply Array.toList_inj.1;simp
  rw [e1];exact this
 ·simp only [List.length_append,Array.length_toList,size_zeroCells,hzs,hol,←Nat.add_mul]
  congr 1
  omega
 ·rw [List.append_assoc,List.take_append_of_le_length (by omega),List.take_of_length_le (by omega)]
end
end Go.Proofs.YtaohnmneccbljaaGreatDoor
namespace Go.Proofs.YtaohnmneccbljaaGreatDoor
open Go.Proofs.Tryz (prog)
open Go.RowKit
section
variable {P:Program} {ops:Array Oper} {Q:Exit→Act→World→Prop} {rest:List Oper} {n:Fr} {L:List (Nat×Value)} {w:World} {ty:TypeId} {pos:String} {after:Array Edge} {d:Nat} {t:TypeId} {x s:Operand}
theorem yW {op:Op} {v:Value} {w':World} (hr:RO P (ev n L) op w v w') (k:St P ops Q rest n L w'):St P ops Q (⟨none,op,ty,pos,after,none⟩::rest) n L w:=by
 refine ⟨wpList_plain rfl fun K hK=>?_⟩;unfold Oper.wp;rw [cg,hr,Oper.upon_value];exact hK _ _ k.out
theorem gP {dT sT e size g o m c j c2:Nat} {A A2:Option Addr} {u:TypeId} {cur news:List Value} (ht:dq P dT=some (e,size)) (hd:ev n L x=.slice A m c) (hs:ev n L s=.slice A2 j c2) (hn:news.length=min j m*size)
 (hA:0<news.length→A=some ⟨g,o,none⟩) (hsrc:0<news.length→∃ b o,A2=some ⟨b,o,none⟩∧w.rangeAt b o news) (hb:Blk w g u cur.toArray) (hfit:o+news.length≤cur.length) (h1:∀ v∈news,v.oneCell'=true)
 (k:∀ w',cY g w w'→Blk w' g u (over cur o news).toArray→St P ops Q rest n ((d,.int .i64 (min j m:Nat))::L) w') :
 St P ops Q (⟨some d,.call { callee:=.builtin .copy,args:=#[x,s],argTypes:=#[dT,sT] },ty,pos,after,none⟩::rest) n L w:=
 let ⟨w',hr,ho,hb'⟩:=xd (sT:=sT) ht hd hs hn hA hsrc hb hfit h1
 aa hr (k w' ho hb')
theorem uY {e size by_ g o m c:Nat} {A:Option Addr} {u:TypeId} {z:Value} {cur:List Value} (hq:eU P t=some (e,size,by_,z)) (hzs:z.cells.size=size) (hs:ev n L s=.slice A m c)
 (hA:0<m*size→A=some ⟨g,o,none⟩) (hb:Blk w g u cur.toArray) (hfit:o+m*size≤cur.length) (h1:∀ v∈z.cells.toList,v.oneCell'=true)
 (k:∀ w' zs,cY g w w'→zs.length=m*size→Blk w' g u (over cur o zs).toArray→St P ops Q rest n L w') :
 St P ops Q (⟨none,.call { callee:=.builtin .clear,args:=#[s],argTypes:=#[t] },ty,pos,after,none⟩::rest) n L w:=
 let ⟨w',zs,hr,ho,hl,hb'⟩:=u9 hq hzs hs hA hb hfit h1
 yW hr (k w' zs ho hl hb')
theorem sJ {e size g m cap j c2:Nat} {A2:Option Addr} {cur news:List Value} (ht:dq P t=some (e,size)) (hs:ev n L s=.slice (some ⟨g,0,none⟩) m cap) (hx:ev n L x=.slice A2 j c2) (hl:news.length=j*size)
 (hsrc:0<news.length→∃ b o,A2=some ⟨b,o,none⟩∧w.rangeAt b o news) (hb:Blk w g e cur.toArray) (h1:∀ v∈news,v.oneCell'=true) (hroom:m+j≤cap) (hfit:m*size+news.length≤cur.length)
 (k:∀ w',cY g w w'→Blk w' g e (over cur (m*size) news).toArray→St P ops Q rest n ((d,.slice (some ⟨g,0,none⟩) (m+j) cap)::L) w') :
 St P ops Q (⟨some d,.call { callee:=.builtin .append,args:=#[s,x],argTypes:=#[t,t] },ty,pos,after,none⟩::rest) n L w:=
 let ⟨w',hr,ho,hb'⟩:=nD ht hs hx hl hsrc hb h1 hroom hfit
 aa hr (k w' ho hb')
theorem sH {tn e size by_ m cap k0:Nat} {A:Option Addr} {z:Value} {kn:IntKind} {olds:List Value} (hq:eU P t=some (e,size,by_,z)) (htn:P.underlying tn=some (.int kn)) (hzs:z.cells.size=size) (hs0:0<size)
 (hs:ev n L s=.slice A m cap) (hx:ev n L x=.int .i64 (k0:Nat)) (hol:olds.length=m*size) (hold:0<olds.length→∃ b o,A=some ⟨b,o,none⟩∧w.rangeAt b o olds) (h0:0<k0) (hg:cap<m+k0) (h63:m+k0≤maxLen) (hby:(m+k0)*by_≤140737488355328) (hmc:m≤cap)
 (k:∀ g c' w' cur,g=w.heap.size→ag w w'→Blk w' g e (List.toArray cur)→m+k0≤c'→c'≤maxLen→cur.length=c'*size→cur.take (m*size)=olds→St P ops Q rest n ((d,.slice (some ⟨g,0,none⟩) (m+k0) c')::L) w') :
 St P ops Q (⟨some d,.call { callee:=.builtin .append,args:=#[s,x],argTypes:=#[t,tn] },ty,pos,after,none⟩::rest) n L w:=
 let ⟨c',w',cur,hr,hF,hb,h1,h2,h3,h4⟩:=sU hq htn hzs hs0 hs hx hol hold h0 hg h63 hby hmc
 aa hr (k _ c' w' cur rfl hF hb h1 h2 h3 h4)
theorem AN {ρ:Operand→Value} {A:Option Addr} {m c:Nat} (ht:(dq P t).isSome=true) (hx:ρ x=.slice A m c):RO P ρ (.call { callee:=.builtin .cap,args:=#[x],argTypes:=#[t] }) w (.int .i64 c) w:=fun _ _ _ _ _=>by
 obtain ⟨⟨e,sz⟩,he⟩:=Option.isSome_iff_exists.mp ht;obtain ⟨hu,_⟩:=fS he;simp [BigFrame.execOp_builtin,BigFrame.builtin_cap,Builtin.cap_,run_underlying hu,hx,goInt]
theorem u5 {ρ:Operand→Value} {e sz l h mx m c:Nat} {A:Option Addr} {y1 y2 y3:Operand} {k1 k2 k3:IntKind} (ht:dq P t=some (e,sz)) (hx:ρ x=.slice A m c) (hl:ρ y1=.int k1 (l:Nat)) (hh:ρ y2=.int k2 (h:Nat)) (hm:ρ y3=.int k3 (mx:Nat)) (h1:l≤h) (h2:h≤mx) (h3:mx≤c) :
 RO P ρ (.slice t x (some y1) (some y2) (some y3)) w (.slice (dm A mx l sz) (h-l) (mx-l)) w:=fun _ _ _ _ _=>by
 obtain ⟨hu,hs⟩:=fS ht;have hE:P.elem t=e:=by simp [Program.elem,hu]
 have hu':P.underlying t=some (.slice (P.elem t)):=by rw [hE];exact hu
 simp only [execOp,hx,hl,hh,hm,Option.map_some,Sem.run_bind];rw [run_sliceAt_slice w t _ _ _ _ hu',run_slice_lhm w t _ m c hu' k1 k2 k3 (l:Int) (h:Int) (mx:Int) (by omega) (by omega) (by omega) (by omega),hE,dD hs,Result.andThen_ok];simp only [Int.toNat_natCast,sliced,dm];rfl
theorem q_ {f : FuncId} {fn : Func} {tS tR e size : Nat} {a b : Operand} {ats : Array TypeId} {g1 o1 g2 o2 la ca lb cb : Nat} {t1 t2 : TypeId} {cs1 cs2 : Array Value} (hf : P.funcs[f]? = some fn) (hname : (fn.name == "runtime.NumGoroutine") = false)
 (hb:fn.body.isNone=true) (hnx:Extern.findNext fn=none) (he:Extern.find fn=some (Extern.SlicesOverlaps.overlaps #[tS,tS] #[tR])) (ht:dq P tS=some (e,size)) (ha:ev n L a=.slice (some ⟨g1,o1,none⟩) la ca) (hb2:ev n L b=.slice (some ⟨g2,o2,none⟩) lb cb) (hne:g1≠g2)
 (hA:Blk w g1 t1 cs1) (hB:Blk w g2 t2 cs2) (h0:cs2.size≠0):RO P (ev n L) (.call { callee:=.value (.func f),args:=#[a,b],argTypes:=ats }) w (.bool false) w:=fun dst ty pos after g=>by
 obtain ⟨hu,hs⟩:=fS ht;have h1:=Lib.run_overlaps_apart (P:=P) w tS tR e hu size (fun w=>dD hs) ⟨g1,o1,none⟩ ⟨g2,o2,none⟩ la ca lb cb hne t1 t2 cs1.size cs2.size (by unfold Blk at hA;simp [World.shape?,hA]) (by unfold Blk at hB;simp [World.shape?,hB]) h0 (hA.frozen _) (hA.frozen _);rw [show (#[a,b]:Array Operand)=[a,b].toArray from rfl,fc (fun _=>rfl)];simp only [List.map_cons,List.map_nil,ha,hb2];rw [run_callFunc_extern hf hname hb hnx he,h1];rfl
theorem zb {ρ:Operand→Value} {e size by_:Nat} {z:Value} (hq:eU P t=some (e,size,by_,z)):RO P ρ (.buildSlice t 0 #[]) w (.slice (some ⟨w.heap.size,0,none⟩) 0 0) (w.alloc (.cells #[] e)):=fun _ _ _ _ _=>by
 obtain ⟨i,hu,hi,hs,_,hz⟩:=jd hq;simp [execOp,Instr.buildSlice,run_underlying hu,sizeOf,typeInfo,hi,Instr.fill,newRow];have:(Array.range 0)=#[]:=by simp [Array.range]
 rw [this,Array.map_empty]
theorem ud {e size by_:Nat} {z:Value} (hq:eU P t=some (e,size,by_,z)) (base:Nat) (hbs:base≤w.heap.size) (k:∀ g w',ag w w'→g=w.heap.size→w'.ownsRow base e size (.slice (some ⟨g,0,none⟩) 0 0) 0 []→St P ops Q rest n ((d,.slice (some ⟨g,0,none⟩) 0 0)::L) w') :
 St P ops Q (⟨some d,.buildSlice t 0 #[],ty,pos,after,none⟩::rest) n L w:=
 aa (zb hq) (k _ _ (ag.rfl_.new _) rfl ⟨by simp,.inr ⟨w.heap.size,0,#[],rfl,hbs,heap_alloc_new w _,Nat.le_refl _,by decide,by simp,by simp⟩⟩)
theorem nC {ρ:Operand→Value} {e yt:TypeId} {y:Operand} {a:Option Addr} {m c:Nat} (ht:P.underlying t=some (.slice e)) (hx:ρ x=.slice a m c) (hy:ρ y=.slice none 0 0):RO P ρ (.binOp .eql t x y yt) w (.bool a.isNone) w:=
 iX hx hy (by unfold eqGuard;cases a <;> rfl) (run_eql_slice_nil w t e a m c ht)
end
section
variable {P:Program} {ops:Array Oper} {Q:Exit→Act→World→Prop} {rest:List Oper} {n:Fr} {L:List (Nat×Value)} {w:World} {ty:TypeId} {pos:String} {after:Array Edge} {t:TypeId} {x y:Operand}
theorem kA {base e size m c g o:Nat} {xs:List Value} {v:Value} (ht:cS P t=some 1) (hx:ev n L x=.pointer (some ⟨g,o,none⟩)) (hy:ev n L y=v) (h1:v.oneCell'=true)
 (ho:w.ownsRow base e size (.slice (some ⟨g,0,none⟩) m c) m xs) (hi:o<m*size)
 (k:∀ w',cY g w w'→w'.ownsRow base e size (.slice (some ⟨g,0,none⟩) m c) m (xs.set o v)→St P ops Q rest n L w'):St P ops Q (⟨none,.store t x y,ty,pos,after,none⟩::rest) n L w:=by
 have hlen:xs.length=m*size:=ho.1;have hc:w.cell? ⟨g,o,none⟩=some (xs[o]'(by omega)):=by rw [ho.cellAt o hi];simp [hlen,hi]
 exact nn (kX ht hx hy h1 hc (ho.frozenAt o)) (k _ (cY.setCell w g o v) (ho.stored o v).1)
end
section
variable {α:Type} {f:α→List Value} {s:Nat}
theorem q7 (hf:∀ x,(f x).length=s) (L:List α) (i j:Nat) (hi:i<L.length) (hj:j<s) (x:α) (v:Value) (hx:f x=(f L[i]).set j v):(L.flatMap f).set (i*s+j) v=(L.set i x).flatMap f:=by
 have hL:L.flatMap f=(L.take i).flatMap f++(f L[i]++(L.drop (i+1)).flatMap f):=by
  have h0:L=L.take i++L[i]::L.drop (i+1):=by rw [←List.drop_eq_getElem_cons hi,List.take_append_drop]
  exact (congrArg (List.flatMap f) h0).trans (by rw [List.flatMap_append,List.flatMap_cons])
 have ht:((L.take i).flatMap f).length=i*s:=by rw [lr hf,List.length_take,Nat.min_eq_left (by omega)]
 rw [hL,List.set_append_right _ _ (by omega),ht,Nat.add_sub_cancel_left,List.set_append_left _ _ (by rw [hf];exact hj),←hx]
 conv=>rhs;rw [List.set_eq_take_append_cons_drop,if_pos hi]
 simp
theorem yi {cur xs zs:List Value} {n i j c:Nat} (hij:i≤j) (hj:j≤n) (hc:n≤c) (h3:cur.length=c*s) (h4:cur.take (n*s)=xs) (_:zs.length=(j-i)*s) :
 (over (over cur (i*s) (xs.drop (j*s))) ((i+(n-j))*s) zs).take ((i+(n-j))*s)=xs.take (i*s)++xs.drop (j*s):=by
 have hxl:xs.length=n*s:=by rw [←h4,List.length_take,h3];exact Nat.min_eq_left (Nat.mul_le_mul_right _ hc)
 have hd:(xs.drop (j*s)).length=(n-j)*s:=by rw [List.length_drop,hxl,Nat.sub_mul]
 have e1:(i+(n-j))*s=i*s+(n-j)*s:=Nat.add_mul ..;have e2:n*s≤c*s:=Nat.mul_le_mul_right _ hc;have e3:(i+(n-j))*s≤n*s:=Nat.mul_le_mul_right _ (by omega);rw [qg _ _ _ _ (Nat.le_refl _) (by rw [cZ _ _ _ (by omega)];omega),vr _ _ _ _ (by omega) (by omega)];unfold over;rw [List.drop_of_length_le (l:=List.take ((i+(n-j))*s) cur) (by rw [List.length_take];omega),List.append_nil,List.take_take,Nat.min_eq_left (by omega)]
 congr 1
 rw [←h4,List.take_take,Nat.min_eq_left];exact Nat.mul_le_mul_right _ (by omega)
theorem rI {cur xs vs:List Value} {n i m c:Nat} (hi:i≤n) (hc:n+m≤c) (h3:cur.length=c*s) (hx:xs.length=n*s) (h4:cur.take (i*s)=xs.take (i*s)) (hv:vs.length=m*s) :
 (over (over cur ((i+m)*s) (xs.drop (i*s))) (i*s) vs).take ((n+m)*s)=xs.take (i*s)++vs++xs.drop (i*s)∧(over (over cur (i*s) vs) ((i+m)*s) (xs.drop (i*s))).take ((n+m)*s)=xs.take (i*s)++vs++xs.drop (i*s):=by
 have hd:(xs.drop (i*s)).length=(n-i)*s:=by rw [List.length_drop,hx,Nat.sub_mul]
 have e1:(i+m)*s=i*s+m*s:=Nat.add_mul ..;have e4:(n+m)*s=(i+m)*s+(n-i)*s:=by rw [←Nat.add_mul];congr 1;omega
 have e5:(n+m)*s≤c*s:=Nat.mul_le_mul_right _ hc;have e6:i*s≤n*s:=Nat.mul_le_mul_right _ hi;have ht:(cur.take (i*s)).length=i*s:=by rw [List.length_take];omega
 have key:∀ l:List Value,l.length=c*s→(∀ k,k<i*s→l[k]? =xs[k]?)→(∀ k,k<m*s→l[i*s+k]? =vs[k]?)→(∀ k,k<(n-i)*s→l[(i+m)*s+k]? =(xs.drop (i*s))[k]?)→l.take ((n+m)*s)=xs.take (i*s)++vs++xs.drop (i*s):=by
  intro l hl k1 k2 k3;apply List.ext_getElem?;intro k;rw [List.getElem?_take];by_cases h1:k<i*s
  ·rw [if_pos (by omega),k1 k h1,List.append_assoc,List.getElem?_append_left (by rw [List.length_take];omega),List.getElem?_take_of_lt h1]
  ·by_cases h2:k<(i+m)*s
   ·have:=k2 (k-i*s) (by omega);rw [show i*s+(k-i*s)=k by omega] at this;rw [if_pos (by omega),this,List.append_assoc,List.getElem?_append_right (by rw [List.length_take];omega),List.length_take,Nat.min_eq_left (by omega),List.getElem?_append_left (by omega)]
   ·by_cases h5:k<(n+m)*s
    ·have:=k3 (k-(i+m)*s) (by omega);rw [show (i+m)*s+(k-(i+m)*s)=k by omega] at this;rw [if_pos h5,this,List.getElem?_append_right (by rw [List.length_append,List.length_take];omega)]
     congr 1
     rw [List.length_append,List.length_take];omega
    ·rw [if_neg h5,List.getElem?_eq_none (by rw [List.length_append,List.length_append,List.length_take];omega)]
 have hk:∀ k,k<i*s→cur[k]? =xs[k]? :=fun k hk=>by
  have:=congrArg (fun l=>l[k]?) h4;simpa [List.getElem?_take_of_lt hk] using this
 have l1:(over cur ((i+m)*s) (xs.drop (i*s))).length=cur.length:=cZ _ _ _ (by omega);have l2:(over cur (i*s) vs).length=cur.length:=cZ _ _ _ (by omega);refine ⟨key _ (by rw [cZ _ _ _ (by omega),l1,h3]) ?_ ?_ ?_,key _ (by rw [cZ _ _ _ (by omega),l2,h3]) ?_ ?_ ?_⟩
 ·intro k hk';rw [fR _ _ _ _ (by omega),if_neg (by omega),fR _ _ _ _ (by omega),if_neg (by omega)];exact hk k hk'
 ·intro k hk';rw [fR _ _ _ _ (by omega),if_pos (by omega)]
  congr 1
  omega
 ·intro k hk';rw [fR _ _ _ _ (by omega),if_neg (by omega),fR _ _ _ _ (by omega),if_pos (by omega)]
  congr 1
  omega
 ·intro k hk';rw [fR _ _ _ _ (by omega),if_neg (by omega),fR _ _ _ _ (by omega),if_neg (by omega)];exact hk k hk'
 ·intro k hk';rw [fR _ _ _ _ (by omega),if_neg (by omega),fR _ _ _ _ (by omega),if_pos (by omega)]
  congr 1
  omega
 ·intro k hk';rw [fR _ _ _ _ (by omega),if_pos (by omega)]
  congr 1
  omega
end
end Go.Proofs.YtaohnmneccbljaaGreatDoor
namespace Go.Proofs.YtaohnmneccbljaaGreatDoor
open Go.Proofs.Tryz (prog)
open Go.RowKit
theorem ep {A:Option Addr} {c s:Nat}:dm A c 0 s=A:=by
 unfold dm;split
 ·rfl
 ·cases A with
  |none=>rfl
  |some a=>simp [Addr.add_zero']
theorem bT {g o c l s:Nat} (h:l<c):dm (some ⟨g,o,none⟩) c l s=some ⟨g,o+l*s,none⟩:=by
 unfold dm;rw [if_neg (by omega)];simp [Addr.add_mid]
theorem zn {w:World} {base e s n c m:Nat} {A:Option Addr} {xs:List Value} (h:w.ownsRow base e s (.slice A n c) m xs):m≤c:=by
 rcases h.2 with ⟨_,h0⟩ | ⟨g,cap,cur,hv,_,_,h3,_⟩
 ·omega
 ·simp only [Value.slice.injEq] at hv;omega
theorem nz {w:World} {g e n o:Nat} {cur xs:List Value} (hb:Blk w g e cur.toArray) (hct:cur.take n=xs):w.rangeAt g o (xs.drop o):=hb.range o _ fun j v hv=>by
 rw [List.getElem?_drop,←hct,List.getElem?_take] at hv;split at hv
 ·exact hv
 ·cases hv
theorem ny {w:World} {g e n o:Nat} {cur xs:List Value} (hb:Blk w g e cur.toArray) (hct:cur.take n=xs):w.rangeAt g 0 (xs.take o):=hb.range 0 _ fun j v hv=>by
 rw [List.getElem?_take] at hv;rw [Nat.zero_add];split at hv
 ·rw [←hct,List.getElem?_take] at hv;split at hv
  ·exact hv
  ·cases hv
 ·cases hv
theorem pA {w w1 w2:World} {r:Option Nat} {g:Nat} (h:w.grownBy w1 r) (o:cY g w1 w2) (hg:w.heap.size≤g):w.grownBy w2 r:=
 ⟨o.os.trans h.os,o.tape.trans h.tape,o.output.trans h.output,by rw [o.size];exact h.size,fun k hk hr=>(o.block k (by omega)).trans (h.block k hk hr)⟩
end Go.Proofs.YtaohnmneccbljaaGreatDoor
namespace Go.Proofs.YtaohnmneccbljaaGreatDoor
open Go.Proofs.Tryz (prog)
open Go.RowKit Go.ChangeShapes Go.WideShapes Go.ChangeAt
def sLt (a b:ByteArray):Prop:=a.toList<b.toList
theorem ue (a b:ByteArray):Op.bytesLess a.toList b.toList=true↔sLt a b:=by
 rw [Go.Proofs.bytesLess_eq];exact decide_eq_true_iff
theorem sM (a:ByteArray):¬ sLt a a:=List.lt_irrefl _
theorem j6 {a b c:ByteArray} (h:sLt a b) (k:sLt b c):sLt a c:=List.lt_trans h k
theorem gr {a b:ByteArray} (h:a.toList=b.toList):a=b:=by
 have:=congrArg List.toArray h;rw [Lib.toList_data,Lib.toList_data] at this;exact ByteArray.ext (by simpa using this)
theorem AI {a b:ByteArray}:(a.toList==b.toList)=true↔a=b:=⟨fun h=>gr (eq_of_beq h),fun h=>by rw [h];exact beq_self_eq_true _⟩
theorem y9 (a b:ByteArray):sLt a b∨a=b∨sLt b a:=by
 by_cases h:sLt a b
 ·exact .inl h
 ·by_cases k:sLt b a
  ·exact .inr (.inr k)
  ·exact .inr (.inl (gr (List.le_antisymm (List.not_lt.1 k) (List.not_lt.1 h))))
theorem qV (a:ByteArray):a.toList.length=a.size:=by rw [Lib.toList_data];rfl
abbrev Dc:=ByteArray×ByteArray
def dV (d:Dc):List Value:=[.string d.1,.string d.2]
def txt (s:ByteArray):List Nat:=s.toList.map fun b=>b.toNat+1
def BZ:List Dc→List Nat
 |[]=>[]
 |d::ds=>txt d.2++0::BZ ds
def dsz:List Dc→Nat
 |[]=>0
 |d::ds=>d.2.size+dsz ds
def ks (t q:List Nat):List Nat:=(List.range (t.length+1)).filter fun i=>q.isPrefixOf (t.drop i)
def loc:List Dc→Nat→Nat×Nat
 |[],at_=>(0,at_)
 |d::ds,at_=>if at_≤d.2.size then (0,at_) else ((loc ds (at_-(d.2.size+1))).1+1,(loc ds (at_-(d.2.size+1))).2)
abbrev Ht:=ByteArray×Int
def hV (h:Ht):List Value:=[.string h.1,.int .i64 h.2]
def B2:List Dc→ByteArray→List Ht
 |[],_=>[]
 |d::ds,p=>(ks (txt d.2) (txt p)).map (fun k=>(d.1,((k:Nat):Int)))++B2 ds p
def Cg (ds:List Dc) (at_:Nat):Ht:=((ds.getD (loc ds at_).1 (⟨#[]⟩,⟨#[]⟩)).1,(((loc ds at_).2:Nat):Int))
end Go.Proofs.YtaohnmneccbljaaGreatDoor
