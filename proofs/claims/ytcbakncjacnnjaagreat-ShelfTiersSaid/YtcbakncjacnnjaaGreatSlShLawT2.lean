/- texts that the claim stands on. -/
import Derived.Test.YtcbakncjacnnjaaGreatSlShLawT1
import Derived.Sort.Walk0
import Derived.Deep.AppendLies
import Derived.Lib.Bytealg
import Derived.Laws.StructEq
set_option maxRecDepth 100000
set_option maxHeartbeats 4000000
namespace Go.Proofs.YtcbakncjacnnjaaGreat
open Go.Proofs.Tryz (prog)
open Go.RowKit
section
variable {P:Program} {ops:Array Oper} {Q:Exit→Act→World→Prop} {rest:List Oper} {n:Fr} {L:List (Nat×Value)} {w:World} {ty:TypeId} {pos:String} {after:Array Edge} {d:Nat} {t:TypeId} {x s:Operand}
theorem Fh {op:Op} {v:Value} {w':World} (hr:RO P (ev n L) op w v w') (k:St P ops Q rest n L w'):St P ops Q (⟨none,op,ty,pos,after,none⟩::rest) n L w:=by
 refine ⟨wpList_plain rfl fun K hK=>?_⟩;unfold Oper.wp;rw [bU,hr,Oper.upon_value];exact hK _ _ k.out
theorem gX {dT sT e size g o m c j c2:Nat} {A A2:Option Addr} {u:TypeId} {cur news:List Value} (ht:cN P dT=some (e,size)) (hd:ev n L x=.slice A m c) (hs:ev n L s=.slice A2 j c2) (hn:news.length=min j m*size)
 (hA:0<news.length→A=some ⟨g,o,none⟩) (hsrc:0<news.length→∃ b o,A2=some ⟨b,o,none⟩∧w.rangeAt b o news) (hb:Blk w g u cur.toArray) (hfit:o+news.length≤cur.length) (h1:∀ v∈news,v.oneCell'=true)
 (k:∀ w',cH g w w'→Blk w' g u (dp cur o news).toArray→St P ops Q rest n ((d,.int .i64 (min j m:Nat))::L) w') :
 St P ops Q (⟨some d,.call { callee:=.builtin .copy,args:=#[x,s],argTypes:=#[dT,sT] },ty,pos,after,none⟩::rest) n L w:=
 let ⟨w',hr,ho,hb'⟩:=qV (sT:=sT) ht hd hs hn hA hsrc hb hfit h1
 ae hr (k w' ho hb')
theorem jx {e size by_ g o m c:Nat} {A:Option Addr} {u:TypeId} {z:Value} {cur:List Value} (hq:fH P t=some (e,size,by_,z)) (hzs:z.cells.size=size) (hs:ev n L s=.slice A m c)
 (hA:0<m*size→A=some ⟨g,o,none⟩) (hb:Blk w g u cur.toArray) (hfit:o+m*size≤cur.length) (h1:∀ v∈z.cells.toList,v.oneCell'=true)
 (k:∀ w' zs,cH g w w'→zs.length=m*size→Blk w' g u (dp cur o zs).toArray→St P ops Q rest n L w') :
 St P ops Q (⟨none,.call { callee:=.builtin .clear,args:=#[s],argTypes:=#[t] },ty,pos,after,none⟩::rest) n L w:=
 let ⟨w',zs,hr,ho,hl,hb'⟩:=AQ hq hzs hs hA hb hfit h1
 Fh hr (k w' zs ho hl hb')
theorem m_ {e size g m cap j c2:Nat} {A2:Option Addr} {cur news:List Value} (ht:cN P t=some (e,size)) (hs:ev n L s=.slice (some ⟨g,0,none⟩) m cap) (hx:ev n L x=.slice A2 j c2) (hl:news.length=j*size)
 (hsrc:0<news.length→∃ b o,A2=some ⟨b,o,none⟩∧w.rangeAt b o news) (hb:Blk w g e cur.toArray) (h1:∀ v∈news,v.oneCell'=true) (hroom:m+j≤cap) (hfit:m*size+news.length≤cur.length)
 (k:∀ w',cH g w w'→Blk w' g e (dp cur (m*size) news).toArray→St P ops Q rest n ((d,.slice (some ⟨g,0,none⟩) (m+j) cap)::L) w') :
 St P ops Q (⟨some d,.call { callee:=.builtin .append,args:=#[s,x],argTypes:=#[t,t] },ty,pos,after,none⟩::rest) n L w:=
 let ⟨w',hr,ho,hb'⟩:=xJ ht hs hx hl hsrc hb h1 hroom hfit
 ae hr (k w' ho hb')
theorem mZ {tn e size by_ m cap k0:Nat} {A:Option Addr} {z:Value} {kn:IntKind} {olds:List Value} (hq:fH P t=some (e,size,by_,z)) (htn:P.underlying tn=some (.int kn)) (hzs:z.cells.size=size) (hs0:0<size)
 (hs:ev n L s=.slice A m cap) (hx:ev n L x=.int .i64 (k0:Nat)) (hol:olds.length=m*size) (hold:0<olds.length→∃ b o,A=some ⟨b,o,none⟩∧w.rangeAt b o olds) (h0:0<k0) (hg:cap<m+k0) (h63:m+k0≤maxLen) (hby:(m+k0)*by_≤140737488355328) (hmc:m≤cap)
 (k:∀ g c' w' cur,g=w.heap.size→aj w w'→Blk w' g e (List.toArray cur)→m+k0≤c'→c'≤maxLen→cur.length=c'*size→cur.take (m*size)=olds→St P ops Q rest n ((d,.slice (some ⟨g,0,none⟩) (m+k0) c')::L) w') :
 St P ops Q (⟨some d,.call { callee:=.builtin .append,args:=#[s,x],argTypes:=#[t,tn] },ty,pos,after,none⟩::rest) n L w:=
 let ⟨c',w',cur,hr,hF,hb,h1,h2,h3,h4⟩:=xI hq htn hzs hs0 hs hx hol hold h0 hg h63 hby hmc
 ae hr (k _ c' w' cur rfl hF hb h1 h2 h3 h4)
theorem qX {ρ:Operand→Value} {A:Option Addr} {m c:Nat} (ht:(cN P t).isSome=true) (hx:ρ x=.slice A m c):RO P ρ (.call { callee:=.builtin .cap,args:=#[x],argTypes:=#[t] }) w (.int .i64 c) w:=fun _ _ _ _ _=>by
 obtain ⟨⟨e,sz⟩,he⟩:=Option.isSome_iff_exists.mp ht;obtain ⟨hu,_⟩:=jj he;simp [BigFrame.execOp_builtin,BigFrame.builtin_cap,Builtin.cap_,run_underlying hu,hx,goInt]
theorem s9 {ρ:Operand→Value} {e sz l h mx m c:Nat} {A:Option Addr} {y1 y2 y3:Operand} {k1 k2 k3:IntKind} (ht:cN P t=some (e,sz)) (hx:ρ x=.slice A m c) (hl:ρ y1=.int k1 (l:Nat)) (hh:ρ y2=.int k2 (h:Nat)) (hm:ρ y3=.int k3 (mx:Nat)) (h1:l≤h) (h2:h≤mx) (h3:mx≤c) :
 RO P ρ (.slice t x (some y1) (some y2) (some y3)) w (.slice (iZ A mx l sz) (h-l) (mx-l)) w:=fun _ _ _ _ _=>by
 obtain ⟨hu,hs⟩:=jj ht;have hE:P.elem t=e:=by simp [Program.elem,hu]
 have hu':P.underlying t=some (.slice (P.elem t)):=by rw [hE];exact hu
 simp only [execOp,hx,hl,hh,hm,Option.map_some,Sem.run_bind];rw [run_sliceAt_slice w t _ _ _ _ hu',run_slice_lhm w t _ m c hu' k1 k2 k3 (l:Int) (h:Int) (mx:Int) (by omega) (by omega) (by omega) (by omega),hE,dG hs,Result.andThen_ok];simp only [Int.toNat_natCast,sliced,iZ];rfl
theorem pE {f : FuncId} {fn : Func} {tS tR e size : Nat} {a b : Operand} {ats : Array TypeId} {g1 o1 g2 o2 la ca lb cb : Nat} {t1 t2 : TypeId} {cs1 cs2 : Array Value} (hf : P.funcs[f]? = some fn) (hname : (fn.name == "runtime.NumGoroutine") = false)
 (hb:fn.body.isNone=true) (hnx:Extern.findNext fn=none) (he:Extern.find fn=some (Extern.SlicesOverlaps.overlaps #[tS,tS] #[tR])) (ht:cN P tS=some (e,size)) (ha:ev n L a=.slice (some ⟨g1,o1,none⟩) la ca) (hb2:ev n L b=.slice (some ⟨g2,o2,none⟩) lb cb) (hne:g1≠g2)
 (hA:Blk w g1 t1 cs1) (hB:Blk w g2 t2 cs2) (h0:cs2.size≠0):RO P (ev n L) (.call { callee:=.value (.func f),args:=#[a,b],argTypes:=ats }) w (.bool false) w:=fun dst ty pos after g=>by
 obtain ⟨hu,hs⟩:=jj ht;have h1:=Lib.run_overlaps_apart (P:=P) w tS tR e hu size (fun w=>dG hs) ⟨g1,o1,none⟩ ⟨g2,o2,none⟩ la ca lb cb hne t1 t2 cs1.size cs2.size (by unfold Blk at hA;simp [World.shape?,hA]) (by unfold Blk at hB;simp [World.shape?,hB]) h0 (hA.frozen _) (hA.frozen _);rw [show (#[a,b]:Array Operand)=[a,b].toArray from rfl,jz (fun _=>rfl)];simp only [List.map_cons,List.map_nil,ha,hb2];rw [run_callFunc_extern hf hname hb hnx he,h1];rfl
theorem FL {ρ:Operand→Value} {e size by_:Nat} {z:Value} (hq:fH P t=some (e,size,by_,z)):RO P ρ (.buildSlice t 0 #[]) w (.slice (some ⟨w.heap.size,0,none⟩) 0 0) (w.alloc (.cells #[] e)):=fun _ _ _ _ _=>by
 obtain ⟨i,hu,hi,hs,_,hz⟩:=lY hq;simp [execOp,Instr.buildSlice,run_underlying hu,sizeOf,typeInfo,hi,Instr.fill,newRow];have:(Array.range 0)=#[]:=by simp [Array.range]
 rw [this,Array.map_empty]
theorem tE {e size by_:Nat} {z:Value} (hq:fH P t=some (e,size,by_,z)) (base:Nat) (hbs:base≤w.heap.size) (k:∀ g w',aj w w'→g=w.heap.size→w'.ownsRow base e size (.slice (some ⟨g,0,none⟩) 0 0) 0 []→St P ops Q rest n ((d,.slice (some ⟨g,0,none⟩) 0 0)::L) w') :
 St P ops Q (⟨some d,.buildSlice t 0 #[],ty,pos,after,none⟩::rest) n L w:=
 ae (FL hq) (k _ _ (aj.rfl_.new _) rfl ⟨by simp,.inr ⟨w.heap.size,0,#[],rfl,hbs,heap_alloc_new w _,Nat.le_refl _,by decide,by simp,by simp⟩⟩)
theorem nb {ρ:Operand→Value} {e yt:TypeId} {y:Operand} {a:Option Addr} {m c:Nat} (ht:P.underlying t=some (.slice e)) (hx:ρ x=.slice a m c) (hy:ρ y=.slice none 0 0):RO P ρ (.binOp .eql t x y yt) w (.bool a.isNone) w:=
 kg hx hy (by unfold eqGuard;cases a <;> rfl) (run_eql_slice_nil w t e a m c ht)
end
theorem vT {w w':World} {base e size n c g o:Nat} {xs vs:List Value} (h:w.ownsRow base e size (.slice (some ⟨g,0,none⟩) n c) n xs) (hn:0<n) (hv:o+vs.length≤n*size) (hb:∀ cur,Blk w g e (List.toArray cur)→o+vs.length≤cur.length→Blk w' g e (dp cur o vs).toArray) :
 w'.ownsRow base e size (.slice (some ⟨g,0,none⟩) n c) n (dp xs o vs):=by
 obtain ⟨g',cur,hA,hg,hbk,h1,h2,h3,h4⟩:=fa h hn;simp only [Option.some.injEq,Addr.mk.injEq,and_true] at hA;subst hA;have hle:n*size≤cur.length:=by rw [h3];exact Nat.mul_le_mul_right _ h1
 refine gv hg (hb cur hbk (by omega)) h1 h2 ?_ ?_
 ·rw [br _ _ _ (by omega),h3]
 ·rw [o3 _ _ _ _ hv hle,h4]
section
variable {P:Program} {ops:Array Oper} {Q:Exit→Act→World→Prop} {rest:List Oper} {n:Fr} {L:List (Nat×Value)} {w:World} {ty:TypeId} {pos:String} {after:Array Edge} {t:TypeId} {x y:Operand}
theorem qJ {base e size m c g o:Nat} {xs vs:List Value} (ht:dK P t=some vs.length) (hx:ev n L x=.pointer (some ⟨g,o,none⟩)) (hy:ev n L y=.agg vs.toArray) (h1:∀ v∈vs,v.oneCell'=true)
 (ho:w.ownsRow base e size (.slice (some ⟨g,0,none⟩) m c) m xs) (hm:0<m) (hi:o+vs.length≤m*size)
 (k:∀ w',cH g w w'→w'.ownsRow base e size (.slice (some ⟨g,0,none⟩) m c) m (dp xs o vs)→St P ops Q rest n L w'):St P ops Q (⟨none,.store t x y,ty,pos,after,none⟩::rest) n L w:=by
 obtain ⟨g',cur,hA,hg,hbk,h2,h3,h4,h5⟩:=fa ho hm;simp only [Option.some.injEq,Addr.mk.injEq,and_true] at hA;subst hA;have hle:m*size≤cur.length:=by rw [h4];exact Nat.mul_le_mul_right _ h2
 refine nI (oQ ht hx hy h1 (hbk.there o vs.length (by simp;omega))) (k _ (cH.sets vs o w) ?_);exact vT ho hm hi fun cur' hb' hl=>Blk.sets vs o hb' hl
theorem xA {base e size m c g o:Nat} {xs:List Value} {v:Value} (ht:dK P t=some 1) (hx:ev n L x=.pointer (some ⟨g,o,none⟩)) (hy:ev n L y=v) (h1:v.oneCell'=true)
 (ho:w.ownsRow base e size (.slice (some ⟨g,0,none⟩) m c) m xs) (hi:o<m*size)
 (k:∀ w',cH g w w'→w'.ownsRow base e size (.slice (some ⟨g,0,none⟩) m c) m (xs.set o v)→St P ops Q rest n L w'):St P ops Q (⟨none,.store t x y,ty,pos,after,none⟩::rest) n L w:=by
 have hlen:xs.length=m*size:=ho.1;have hc:w.cell? ⟨g,o,none⟩=some (xs[o]'(by omega)):=by rw [ho.cellAt o hi];simp [hlen,hi]
 exact nI (qP ht hx hy h1 hc (ho.frozenAt o)) (k _ (cH.setCell w g o v) (ho.stored o v).1)
end
section
variable {α:Type} {f:α→List Value} {s:Nat}
theorem o4 (hf:∀ x,(f x).length=s) (L:List α) (i:Nat) (hi:i<L.length) (x:α):dp (L.flatMap f) (i*s) (f x)=(L.set i x).flatMap f:=by
 unfold dp;rw [gP hf,hf,←Nat.succ_mul,iG hf]
 conv=>rhs;rw [List.set_eq_take_append_cons_drop,if_pos hi]
 simp
theorem CA (hf:∀ x,(f x).length=s) (L:List α) (i j:Nat) (hi:i<L.length) (hj:j<s) (x:α) (v:Value) (hx:f x=(f L[i]).set j v):(L.flatMap f).set (i*s+j) v=(L.set i x).flatMap f:=by
 have hL:L.flatMap f=(L.take i).flatMap f++(f L[i]++(L.drop (i+1)).flatMap f):=by
  have h0:L=L.take i++L[i]::L.drop (i+1):=by rw [←List.drop_eq_getElem_cons hi,List.take_append_drop]
  exact (congrArg (List.flatMap f) h0).trans (by rw [List.flatMap_append,List.flatMap_cons])
 have ht:((L.take i).flatMap f).length=i*s:=by rw [eW hf,List.length_take,Nat.min_eq_left (by omega)]
 rw [hL,List.set_append_right _ _ (by omega),ht,Nat.add_sub_cancel_left,List.set_append_left _ _ (by rw [hf];exact hj),←hx]
 conv=>rhs;rw [List.set_eq_take_append_cons_drop,if_pos hi]
 simp
theorem wG {cur xs zs:List Value} {n i j c:Nat} (hij:i≤j) (hj:j≤n) (hc:n≤c) (h3:cur.length=c*s) (h4:cur.take (n*s)=xs) (_:zs.length=(j-i)*s) :
 (dp (dp cur (i*s) (xs.drop (j*s))) ((i+(n-j))*s) zs).take ((i+(n-j))*s)=xs.take (i*s)++xs.drop (j*s):=by
 have hxl:xs.length=n*s:=by rw [←h4,List.length_take,h3];exact Nat.min_eq_left (Nat.mul_le_mul_right _ hc)
 have hd:(xs.drop (j*s)).length=(n-j)*s:=by rw [List.length_drop,hxl,Nat.sub_mul]
 have e1:(i+(n-j))*s=i*s+(n-j)*s:=Nat.add_mul ..;have e2:n*s≤c*s:=Nat.mul_le_mul_right _ hc;have e3:(i+(n-j))*s≤n*s:=Nat.mul_le_mul_right _ (by omega);rw [gZ _ _ _ _ (Nat.le_refl _) (by rw [br _ _ _ (by omega)];omega),o3 _ _ _ _ (by omega) (by omega)];unfold dp;rw [List.drop_of_length_le (l:=List.take ((i+(n-j))*s) cur) (by rw [List.length_take];omega),List.append_nil,List.take_take,Nat.min_eq_left (by omega)]
 congr 1
 rw [←h4,List.take_take,Nat.min_eq_left];exact Nat.mul_le_mul_right _ (by omega)
theorem n3 {cur xs vs:List Value} {n i m c:Nat} (hi:i≤n) (hc:n+m≤c) (h3:cur.length=c*s) (hx:xs.length=n*s) (h4:cur.take (i*s)=xs.take (i*s)) (hv:vs.length=m*s) :
 (dp (dp cur ((i+m)*s) (xs.drop (i*s))) (i*s) vs).take ((n+m)*s)=xs.take (i*s)++vs++xs.drop (i*s)∧(dp (dp cur (i*s) vs) ((i+m)*s) (xs.drop (i*s))).take ((n+m)*s)=xs.take (i*s)++vs++xs.drop (i*s):=by
 have hd:(xs.drop (i*s)).length=(n-i)*s:=by rw [List.length_drop,hx,Nat.sub_mul]
 have e1:(i+m)*s=i*s+m*s:=Nat.add_mul ..;have e4:(n+m)*s=(i+m)*s+(n-i)*s:=by rw [←Nat.add_mul];congr 1;omega
 have e5:(n+m)*s≤c*s:=Nat.mul_le_mul_right _ hc;have e6:i*s≤n*s:=Nat.mul_le_mul_right _ hi;have ht:(cur.take (i*s)).length=i*s:=by rw [List.length_take];omega
 have key:∀ l:List Value,l.length=c*s→(∀ k,k<i*s→l[k]? =xs[k]?)→(∀ k,k<m*s→l[i*s+k]? =vs[k]?)→(∀ k,k<(n-i)*s→l[(i+m)*s+k]? =(xs.drop (i*s))[k]?)→l.take ((n+m)*s)=xs.take (i*s)++vs++xs.drop (i*s):=by
  intro l hl k1 k2 k3;apply List.ext_getElem?;intro k;rw [List.getElem?_take];by_cases h1:k<i*s
  ·rw [if_pos (by omega),k1 k h1,List.append_assoc,List.getElem?_append_left (by rw [List.length_take];omega),List.getElem?_take_of_lt h1]
  ·by_cases h2:k<(i+m)*s
   ·have:=k2 (k-i*s) (by omega);rw [show i*s+(k-i*s)=k by omega] at this;rw [if_pos (by omega),this,List.append_assoc,List.getElem?_append_right (by rw [List.length_take];omega),List.length_take,Nat.min_eq_left (by omega),List.getElem?_append_left (by omega)]
   ·by_cases h5:k<(n+m)*s
    ·have:=k3 (k-(i+m)*s) (by omega);rw [show (i+m)*s+(k-(i+m)*s)=k by omega] at this;rw [if_pos h5,this,List.getElem?_append_right (by rw [List.length_append,List.length_take];omega)]
     congr 1
     rw [List.length_append,List.length_take];omega
    ·rw [if_neg h5,List.getElem?_eq_none (by rw [List.length_append,List.length_append,List.length_take];omega)]
 have hk:∀ k,k<i*s→cur[k]? =xs[k]? :=fun k hk=>by
  have:=congrArg (fun l=>l[k]?) h4;simpa [List.getElem?_take_of_lt hk] using this
 have l1:(dp cur ((i+m)*s) (xs.drop (i*s))).length=cur.length:=br _ _ _ (by omega);have l2:(dp cur (i*s) vs).length=cur.length:=br _ _ _ (by omega);refine ⟨key _ (by rw [br _ _ _ (by omega),l1,h3]) ?_ ?_ ?_,key _ (by rw [br _ _ _ (by omega),l2,h3]) ?_ ?_ ?_⟩
 ·intro k hk';rw [iN _ _ _ _ (by omega),if_neg (by omega),iN _ _ _ _ (by omega),if_neg (by omega)];exact hk k hk'
 ·intro k hk';rw [iN _ _ _ _ (by omega),if_pos (by omega)]
  congr 1
  omega
 ·intro k hk';rw [iN _ _ _ _ (by omega),if_neg (by omega),iN _ _ _ _ (by omega),if_pos (by omega)]
  congr 1
  omega
 ·intro k hk';rw [iN _ _ _ _ (by omega),if_neg (by omega),iN _ _ _ _ (by omega),if_neg (by omega)];exact hk k hk'
 ·intro k hk';rw [iN _ _ _ _ (by omega),if_neg (by omega),iN _ _ _ _ (by omega),if_pos (by omega)]
  congr 1
  omega
 ·intro k hk';rw [iN _ _ _ _ (by omega),if_pos (by omega)]
  congr 1
  omega
end
end Go.Proofs.YtcbakncjacnnjaaGreat
namespace Go.Proofs.YtcbakncjacnnjaaGreat
open Go.Proofs.Tryz (prog)
open Go.RowKit
theorem di {A:Option Addr} {c s:Nat}:iZ A c 0 s=A:=by
 unfold iZ;split
 ·rfl
 ·cases A with
  |none=>rfl
  |some a=>simp [Addr.add_zero']
theorem bT {g o c l s:Nat} (h:l<c):iZ (some ⟨g,o,none⟩) c l s=some ⟨g,o+l*s,none⟩:=by
 unfold iZ;rw [if_neg (by omega)];simp [Addr.add_mid]
theorem nU {w:World} {base e s n c m:Nat} {A:Option Addr} {xs:List Value} (h:w.ownsRow base e s (.slice A n c) m xs):m≤c:=by
 rcases h.2 with ⟨_,h0⟩ | ⟨g,cap,cur,hv,_,_,h3,_⟩
 ·omega
 ·simp only [Value.slice.injEq] at hv;omega
theorem jD {w:World} {g e n o:Nat} {cur xs:List Value} (hb:Blk w g e cur.toArray) (hct:cur.take n=xs):w.rangeAt g o (xs.drop o):=hb.range o _ fun j v hv=>by
 rw [List.getElem?_drop,←hct,List.getElem?_take] at hv;split at hv
 ·exact hv
 ·cases hv
theorem vF {w:World} {g e n o:Nat} {cur xs:List Value} (hb:Blk w g e cur.toArray) (hct:cur.take n=xs):w.rangeAt g 0 (xs.take o):=hb.range 0 _ fun j v hv=>by
 rw [List.getElem?_take] at hv;rw [Nat.zero_add];split at hv
 ·rw [←hct,List.getElem?_take] at hv;split at hv
  ·exact hv
  ·cases hv
 ·cases hv
theorem mF {w w1 w2:World} {r:Option Nat} {g:Nat} (h:w.grownBy w1 r) (o:cH g w1 w2) (hg:w.heap.size≤g):w.grownBy w2 r:=
 ⟨o.os.trans h.os,o.tape.trans h.tape,o.output.trans h.output,by rw [o.size];exact h.size,fun k hk hr=>(o.block k (by omega)).trans (h.block k hk hr)⟩
end Go.Proofs.YtcbakncjacnnjaaGreat
namespace Go.Proofs.YtcbakncjacnnjaaGreat
open Go.Proofs.Tryz (prog)
open Go.RowKit Go.ChangeShapes Go.WideShapes Go.ChangeAt
def sLt (a b:ByteArray):Prop:=a.toList<b.toList
theorem mq (a b:ByteArray):Op.bytesLess a.toList b.toList=true↔sLt a b:=by
 rw [Go.Proofs.bytesLess_eq];exact decide_eq_true_iff
theorem fC (a:ByteArray):¬ sLt a a:=List.lt_irrefl _
theorem dQ {a b c:ByteArray} (h:sLt a b) (k:sLt b c):sLt a c:=List.lt_trans h k
theorem s8 {a b:ByteArray} (h:sLt a b):¬ sLt b a:=fun k=>fC a (dQ h k)
theorem nG {a b:ByteArray} (h:a.toList=b.toList):a=b:=by
 have:=congrArg List.toArray h;rw [Lib.toList_data,Lib.toList_data] at this;exact ByteArray.ext (by simpa using this)
theorem fB {a b:ByteArray}:(a.toList==b.toList)=true↔a=b:=⟨fun h=>nG (eq_of_beq h),fun h=>by rw [h];exact beq_self_eq_true _⟩
theorem HT {a b:ByteArray}:(a.toList==b.toList)=false↔a≠b:=by
 rw [←Bool.not_eq_true,fB]
theorem kT (a b:ByteArray):sLt a b∨a=b∨sLt b a:=by
 by_cases h:sLt a b
 ·exact .inl h
 ·by_cases k:sLt b a
  ·exact .inr (.inr k)
  ·exact .inr (.inl (nG (List.le_antisymm (List.not_lt.1 k) (List.not_lt.1 h))))
theorem lQ (a:ByteArray):a.toList.length=a.size:=by rw [Lib.toList_data];rfl
abbrev Dc:=ByteArray×ByteArray
def dV (d:Dc):List Value:=[.string d.1,.string d.2]
theorem bz (d:Dc):(dV d).length=2:=rfl
theorem rM (l:List Dc):∀ u∈l.flatMap dV,u.oneCell'=true:=rA fun x _ u hu=>by
 rcases List.mem_cons.1 hu with rfl | hu
 ·rfl
 ·rcases List.mem_cons.1 hu with rfl | hu
  ·rfl
  ·cases hu
def txt (s:ByteArray):List Nat:=s.toList.map fun b=>b.toNat+1
theorem eo (s:ByteArray):(txt s).length=s.size:=by rw [txt,List.length_map,lQ]
theorem Fa (s:ByteArray):0 ∉ txt s:=fun h=>by
 obtain ⟨b,_,e⟩:=List.mem_map.1 h;omega
theorem Cb (s:ByteArray):∀ x∈txt s,x<257:=fun x h=>by
 obtain ⟨b,_,rfl⟩:=List.mem_map.1 h;have:=b.toNat_lt;omega
def dA:List Dc→List Nat
 |[]=>[]
 |d::ds=>txt d.2++0::dA ds
theorem zb:∀ (ds:List Dc),∀ x∈dA ds,x<257
 |[],x,h=>by cases h
 |d::ds,x,h=>by
  rcases List.mem_append.1 h with h | h
  ·exact Cb _ x h
  ·rcases List.mem_cons.1 h with rfl | h
   ·omega
   ·exact zb ds x h
def dsz:List Dc→Nat
 |[]=>0
 |d::ds=>d.2.size+dsz ds
theorem lP:∀ (ds:List Dc),(dA ds).length=dsz ds+ds.length
 |[]=>rfl
 |d::ds=>by
  rw [dA,List.length_append,List.length_cons,eo,lP ds,dsz,List.length_cons];omega
theorem vr:∀ (a b:List Dc),dA (a++b)=dA a++dA b
 |[],b=>rfl
 |d::a,b=>by rw [List.cons_append,dA,dA,vr a b,List.append_assoc,List.cons_append]
theorem n5:∀ (a b:List Dc),dsz (a++b)=dsz a+dsz b
 |[],b=>(Nat.zero_add _).symm
 |d::a,b=>by rw [List.cons_append,dsz,dsz,n5 a b,Nat.add_assoc]
def ks (t q:List Nat):List Nat:=(List.range (t.length+1)).filter fun i=>q.isPrefixOf (t.drop i)
theorem JI {t q:List Nat} (hq:q≠[]):∀ k∈ks t q,k+q.length≤t.length:=fun k hk=>by
 obtain ⟨h1,h2⟩:=List.mem_filter.1 hk;have h3:=(List.isPrefixOf_iff_prefix.1 h2).length_le;have:=List.length_pos_iff.2 hq;rw [List.length_drop] at h3;omega
def loc:List Dc→Nat→Nat×Nat
 |[],at_=>(0,at_)
 |d::ds,at_=>if at_≤d.2.size then (0,at_) else ((loc ds (at_-(d.2.size+1))).1+1,(loc ds (at_-(d.2.size+1))).2)
abbrev Ht:=ByteArray×Int
def hV (h:Ht):List Value:=[.string h.1,.int .i64 h.2]
theorem eV (h:Ht):(hV h).length=2:=rfl
theorem x7 (l:List Ht):∀ u∈l.flatMap hV,u.oneCell'=true:=rA fun x _ u hu=>by
 rcases List.mem_cons.1 hu with rfl | hu
 ·rfl
 ·rcases List.mem_cons.1 hu with rfl | hu
  ·rfl
  ·cases hu
def eg:List Dc→ByteArray→List Ht
 |[],_=>[]
 |d::ds,p=>(ks (txt d.2) (txt p)).map (fun k=>(d.1,((k:Nat):Int)))++eg ds p
def lG (ds:List Dc) (at_:Nat):Ht:=((ds.getD (loc ds at_).1 (⟨#[]⟩,⟨#[]⟩)).1,(((loc ds at_).2:Nat):Int))
theorem kK {p:ByteArray}:∀ a b:List Dc,eg (a++b) p=eg a p++eg b p
 |[],b=>rfl
 |d::a,b=>by rw [List.cons_append,eg,eg,kK a b,List.append_assoc]
end Go.Proofs.YtcbakncjacnnjaaGreat
namespace Go.Proofs.YtcbakncjacnnjaaGreat
open Go.Proofs.Tryz (prog)
open Go.RowKit
def SD (l:List Dc):Prop:=l.Pairwise fun a b=>sLt a.1 b.1
def Dif (l:List Dc):Prop:=l.Pairwise fun a b=>a.1≠b.1
def ltD (a b:Dc):Prop:=sLt a.1 b.1
theorem g_:SM.Ord ltD:=⟨fun x=>fC _,fun h=>s8 h,fun {x y z} h k q=>by
 rcases kT z.1 y.1 with e | e | e
 ·exact k e
 ·unfold ltD at*;rw [e] at q;exact h q
 ·exact h (dQ e q)⟩
theorem H1 {a b:ByteArray} (h:sLt a b):a≠b:=fun e=>by rw [e] at h;exact fC _ h
theorem SD.dif {l:List Dc} (h:SD l):Dif l:=h.imp fun h=>H1 h
theorem Dif.perm {a b:List Dc} (h:Dif a) (k:a.Perm b):Dif b:=(k.pairwise_iff (fun h=>fun e=>h e.symm)).1 h
theorem SD.uniq:∀ {a b:List Dc},SD a→SD b→a.Perm b→a=b
 |[],b,_,_,h=>(List.nil_perm.1 h).symm
 |x::a,[],_,_,h=>absurd h.length_eq (by simp)
 |x::a,y::b,ha,hb,h=>by
  obtain ⟨h1,h2⟩:=List.pairwise_cons.1 ha;obtain ⟨k1,k2⟩:=List.pairwise_cons.1 hb
  have e:x=y:=by
   rcases List.mem_cons.1 (h.mem_iff.1 (List.mem_cons_self ..:x∈x::a)) with e | e
   ·exact e
   ·rcases List.mem_cons.1 (h.mem_iff.2 (List.mem_cons_self ..:y∈y::b)) with e2 | e2
    ·exact e2.symm
    ·exact absurd (k1 x e) (s8 (h1 y e2))
  subst e;rw [SD.uniq h2 k2 ((List.perm_cons x).1 h)]
theorem SD.sub {a b:List Dc} (h:SD b) (k:a.Sublist b):SD a:=List.Pairwise.sublist k h
def Dz:Dc:=(⟨#[]⟩,⟨#[]⟩)
theorem qd {xs:List Dc} {k:Nat} (h:k<xs.length):SM.G Dz xs k=xs[k]:=SM.G_get Dz h
theorem SD.near {l:List Dc} (h:∀ i,0<i→i<l.length→sLt (SM.G Dz l (i-1)).1 (SM.G Dz l i).1):SD l:=by
 have key:∀ i j,i<j→j<l.length→sLt (SM.G Dz l i).1 (SM.G Dz l j).1:=by
  intro i j hij
  induction j with
  |zero=>omega
  |succ j ih=>
   intro hj;have h1:=h (j+1) (by omega) hj;rw [show j+1-1=j by omega] at h1;rcases Nat.eq_or_lt_of_le (Nat.le_of_lt_succ hij) with e | e
   ·subst e;exact h1
   ·exact dQ (ih e (by omega)) h1
 unfold SD;rw [List.pairwise_iff_getElem];intro i j hi hj hij;have:=key i j hij hj
 rwa [qd hi,qd hj] at this
theorem SD.get {l:List Dc} (h:SD l) {i j:Nat} (hij:i<j) (hj:j<l.length):sLt (SM.G Dz l i).1 (SM.G Dz l j).1:=by
 rw [qd (Nat.lt_trans hij hj),qd hj];exact List.pairwise_iff_getElem.1 h i j _ hj hij
theorem SD.of_srt {l:List Dc} (h:SM.Srt Dz ltD 0 l.length l) (hn:∀ i,0<i→i<l.length→(SM.G Dz l (i-1)).1≠(SM.G Dz l i).1):SD l:=SD.near fun i h1 h2=>by
 have h3:=h (i-1) i (Nat.zero_le _) (by omega) h2;rcases kT (SM.G Dz l (i-1)).1 (SM.G Dz l i).1 with e | e | e
 ·exact e
 ·exact absurd e (hn i h1 h2)
 ·exact absurd e h3
theorem Dif.not {l:List Dc} {i j:Nat} (hij:i<j) (hj:j<l.length) (e:(SM.G Dz l i).1=(SM.G Dz l j).1):¬ Dif l:=fun h=>by
 rw [qd (Nat.lt_trans hij hj),qd hj] at e;exact List.pairwise_iff_getElem.1 h i j _ hj hij e
open Classical in
noncomputable def tG (l:List Dc):List Dc:=if h:∃ ds,SD ds∧ds.Perm l then Classical.choose h else []
theorem tF {l ds:List Dc} (h:SD ds) (k:ds.Perm l):tG l=ds:=by
 have hx:∃ ds,SD ds∧ds.Perm l:=⟨ds,h,k⟩;unfold tG;rw [dif_pos hx];obtain ⟨h1,h2⟩:=Classical.choose_spec hx;exact h1.uniq h (h2.trans k.symm)
open Classical in
theorem HY {l:List Dc} (h:Dif l):∃ ds,SD ds∧ds.Perm l:=by
 have h1:=List.pairwise_mergeSort (le:=fun a b:Dc=>decide (¬ ltD b a)) (fun a b c h k=>decide_eq_true (g_.tr (dT_ h) (dT_ k)))
  (fun a b=>by
   by_cases h:ltD b a
   ·rw [Bool.or_eq_true];exact .inr (decide_eq_true (g_.asy h))
   ·rw [Bool.or_eq_true];exact .inl (decide_eq_true h)) l
 have h2:=List.mergeSort_perm l (fun a b:Dc=>decide (¬ ltD b a));refine ⟨_,?_,h2⟩;have h3:=h.perm h2.symm;refine (h1.and h3).imp fun {a b} h=>?_
 rcases kT a.1 b.1 with e | e | e
 ·exact e
 ·exact absurd e h.2
 ·exact absurd e (dT_ h.1)
theorem qh {l:List Dc} (h:Dif l):SD (tG l)∧(tG l).Perm l:=by
 obtain ⟨ds,h1,h2⟩:=HY h;rw [tF h1 h2];exact ⟨h1,h2⟩
theorem AB {ds:List Dc} (h:SD ds):tG ds=ds:=tF h (.refl _)
theorem SD.ins {l:List Dc} {d:Dc} {k:Nat} (h:SD l) (hk:k≤l.length) (h1:∀ x,x<k→sLt (SM.G Dz l x).1 d.1) (h2:k<l.length→¬ sLt (SM.G Dz l k).1 d.1∧(SM.G Dz l k).1≠d.1):SD (l.take k++d::l.drop k):=by
 have hlt:k<l.length→sLt d.1 (SM.G Dz l k).1:=fun q=>by
  rcases kT d.1 (SM.G Dz l k).1 with e | e | e
  ·exact e
  ·exact absurd e.symm (h2 q).2
  ·exact absurd e (h2 q).1
 unfold SD;rw [List.pairwise_append];refine ⟨h.sub (List.take_sublist ..),List.pairwise_cons.2 ⟨fun x hx=>?_,h.sub (List.drop_sublist ..)⟩,fun a ha b hb=>?_⟩
 ·obtain ⟨i,hi,rfl⟩:=List.getElem_of_mem hx;rw [List.length_drop] at hi;rw [List.getElem_drop];have h3:=hlt (by omega);rcases Nat.eq_zero_or_pos i with e | e
  ·subst e;rw [qd (by omega)] at h3;exact h3
  ·have h4:=h.get (i:=k) (j:=k+i) (by omega) (by omega);rw [qd (show k+i<l.length by omega)] at h4;exact dQ h3 h4
 ·obtain ⟨i,hi,rfl⟩:=List.getElem_of_mem ha;rw [List.length_take] at hi;rw [List.getElem_take];have h3:=h1 i (by omega);rw [qd (by omega)] at h3;rcases List.mem_cons.1 hb with e | e
  ·subst e;exact h3
  ·obtain ⟨j,hj,rfl⟩:=List.getElem_of_mem e;rw [List.length_drop] at hj;rw [List.getElem_drop];have h4:=h.get (i:=i) (j:=k+j) (by omega) (by omega)
   rwa [qd (by omega),qd (by omega)] at h4
theorem n4 {α:Type} {l:List α} {d:α} {k:Nat}:(l.take k++d::l.drop k).Perm (l++[d]):=by
 have h1:(l.take k++d::l.drop k).Perm (d::(l.take k++l.drop k)):=List.perm_middle;rw [List.take_append_drop] at h1;exact h1.trans (List.perm_append_singleton d l).symm
open Classical in
noncomputable def mE (ls:List (List Dc)):Int:=if ∀ l∈ls,SD l then (if Dif ls.flatten then 0 else 4) else 1
open Classical in
noncomputable def mD (ls:List (List Dc)):List Dc:=if mE ls=0 then tG ls.flatten else []
theorem Km {ls:List (List Dc)} {l:List Dc} (h:l∈ls) (k:¬ SD l):mE ls=1:=by unfold mE;rw [if_neg (fun q=>k (q l h))]
theorem Kl {ls:List (List Dc)} (h:∀ l∈ls,SD l) (k:¬ Dif ls.flatten):mE ls=4:=by unfold mE;rw [if_pos h,if_neg k]
theorem Kn {ls:List (List Dc)} (h:∀ l∈ls,SD l) (k:Dif ls.flatten):mE ls=0:=by unfold mE;rw [if_pos h,if_pos k]
theorem Hq {ls:List (List Dc)} (h:mE ls=0):(∀ l∈ls,SD l)∧Dif ls.flatten:=by
 unfold mE at h;split at h
 ·split at h
  ·exact ⟨by assumption,by assumption⟩
  ·cases h
 ·cases h
theorem JB {ls:List (List Dc)} {ds:List Dc} (h:∀ l∈ls,SD l) (k:SD ds) (p:ds.Perm ls.flatten):mE ls=0∧mD ls=ds:=by
 have:=Kn h (k.dif.perm p);refine ⟨this,?_⟩;unfold mD;rw [if_pos this];exact tF k p
theorem Io {ls:List (List Dc)} {N:Nat} (h:ls.flatten.length≤N):(mD ls).length≤N:=by
 unfold mD;split
 ·rename_i h0;rw [(qh (Hq h0).2).2.length_eq];exact h
 ·exact Nat.zero_le _
theorem Hr {ls:List (List Dc)} (h:mE ls≠0):mD ls=[]:=by unfold mD;rw [if_neg h]
end Go.Proofs.YtcbakncjacnnjaaGreat
namespace Go.Proofs.YtcbakncjacnnjaaGreat
open Go.Proofs.Tryz (prog)
open Go.RowKit
def sAt (ss:List ByteArray) (i:Nat):ByteArray:=ss.getD i ⟨#[]⟩
theorem jc {ss:List ByteArray} {i:Nat} (h:i<ss.length):sAt ss i=ss[i]:=by unfold sAt;rw [List.getD_eq_getElem?_getD,List.getElem?_eq_getElem h];rfl
def SO (ss:List ByteArray):Prop:=ss.Pairwise sLt
theorem SO.at {ss:List ByteArray} (h:SO ss) (i j:Nat) (hij:i<j) (hj:j<ss.length):sLt (sAt ss i) (sAt ss j):=by
 rw [jc (Nat.lt_trans hij hj),jc hj];exact List.pairwise_iff_getElem.1 h i j _ hj hij
theorem Fy {ss:List ByteArray} {i:Nat} (h:i<ss.length):sAt ss i∈ss:=by rw [jc h];exact List.getElem_mem h
theorem Im {ss:List ByteArray} {id:ByteArray} (h:id∈ss):∃ i,i<ss.length∧sAt ss i=id:=by
 obtain ⟨i,hi,e⟩:=List.getElem_of_mem h;exact ⟨i,hi,(jc hi).trans e⟩
open Classical in
noncomputable def pX (id:ByteArray) (ss:List ByteArray):Bool:=@decide (id∈ss) (Classical.propDecidable _)
theorem wi {id:ByteArray} {ss:List ByteArray}:pX id ss=true↔id∈ss:=by unfold pX;exact @decide_eq_true_iff _ (Classical.propDecidable _)
theorem j9 {id:ByteArray} {ss:List ByteArray}:(!pX id ss)=true↔id ∉ ss:=by rw [←wi];simp
theorem Bz {ss:List ByteArray} (hO:SO ss) {id:ByteArray} {i:Nat} {fd:Bool} (h1:∀ x,x<i→sLt (sAt ss x) id) (h2:∀ x,i≤x→x<ss.length→¬ sLt (sAt ss x) id) (h3:fd=true↔i<ss.length∧sAt ss i=id):fd=pX id ss:=by
 rw [Bool.eq_iff_iff,h3,wi];refine ⟨fun h=>h.2 ▸ Fy h.1,fun h=>?_⟩;obtain ⟨j,hj,e⟩:=Im h;rcases Nat.lt_trichotomy j i with a | a | a
 ·exact absurd (e ▸ h1 j a) (fC _)
 ·exact a ▸ ⟨hj,e⟩
 ·exact absurd (e ▸ hO.at i j a hj) (h2 i (Nat.le_refl _) (by omega))
theorem SO.ins {l:List ByteArray} {d:ByteArray} {k:Nat} (h:SO l) (h1:∀ x,x<k→sLt (sAt l x) d) (h2:∀ x,k≤x→x<l.length→¬ sLt (sAt l x) d) (hd:d ∉ l):SO (l.take k++d::l.drop k):=by
 unfold SO
 have hlo:∀ a∈l.take k,sLt a d:=fun a ha=>by
  obtain ⟨i,hi,rfl⟩:=List.getElem_of_mem ha;rw [List.length_take] at hi;rw [List.getElem_take];have:=h1 i (by omega)
  rwa [jc (by omega)] at this
 have hhi:∀ a∈l.drop k,sLt d a:=fun a ha=>by
  obtain ⟨i,hi,rfl⟩:=List.getElem_of_mem ha;rw [List.length_drop] at hi;rw [List.getElem_drop];have h3:=h2 (k+i) (by omega) (by omega);rw [jc (by omega)] at h3;rcases kT d l[k+i] with e | e | e
  ·exact e
  ·exact absurd (e ▸ List.getElem_mem (by omega)) hd
  ·exact absurd e h3
 rw [List.pairwise_append];refine ⟨List.Pairwise.sublist (List.take_sublist ..) h,List.pairwise_cons.2 ⟨hhi,List.Pairwise.sublist (List.drop_sublist ..) h⟩,fun a ha b hb=>?_⟩;rcases List.mem_cons.1 hb with rfl | hb
 ·exact hlo a ha
 ·exact dQ (hlo a ha) (hhi b hb)
theorem Gs {α:Type} {l:List α} {d x:α} {k:Nat}:x∈l.take k++d::l.drop k↔x=d∨x∈l:=by
 rw [(n4 (l:=l) (d:=d) (k:=k)).mem_iff,List.mem_append,List.mem_singleton];exact Or.comm
noncomputable def lv (ds:List Dc) (gs:List ByteArray):List Dc:=ds.filter fun d=> !pX d.1 gs
def fz (ds:List Dc) (id:ByteArray):List Dc:=ds.filter fun d=>decide (d.1≠id)
theorem Ip (ds:List Dc):lv ds []=ds:=List.filter_eq_self.2 fun d _=>j9.2 (by simp)
theorem Dv {ds:List Dc} {gs:List ByteArray} {id:ByteArray} {k:Nat}:lv ds (gs.take k++id::gs.drop k)=fz (lv ds gs) id:=by
 unfold lv fz;rw [List.filter_filter];refine List.filter_congr fun d _=>?_
 rw [Bool.eq_iff_iff,Bool.and_eq_true,decide_eq_true_eq,j9,j9,Gs];exact ⟨fun h=>⟨fun e=>h (.inl e),fun e=>h (.inr e)⟩,fun h e=>e.elim h.1 h.2⟩
theorem JC {ds:List Dc} {gs:List ByteArray} (h:SD ds):SD (lv ds gs):=h.sub List.filter_sublist
theorem nf {ds:List Dc} {gs:List ByteArray} {d:Dc}:d∈lv ds gs↔d∈ds∧d.1 ∉ gs:=by unfold lv;rw [List.mem_filter,j9]
theorem Ek {ds:List Dc} {id:ByteArray} {d:Dc}:d∈fz ds id↔d∈ds∧d.1≠id:=by unfold fz;rw [List.mem_filter,decide_eq_true_eq]
theorem j_ {ds:List Dc} {id:ByteArray} (h:∀ d∈ds,d.1≠id):fz ds id=ds:=List.filter_eq_self.2 fun d hd=>by simpa using h d hd
theorem l6 (a b:List Dc) (id:ByteArray):fz (a++b) id=fz a id++fz b id:=List.filter_append ..
theorem BJ {a b:List Dc} (h:a.Perm b) (id:ByteArray):(fz a id).Perm (fz b id):=h.filter _
theorem uh {l:List Dc} (h:Dif l) {k:Nat} (hk:k<l.length):fz l l[k].1=l.take k++l.drop (k+1):=by
 have e:l=l.take k++(l[k]::l.drop (k+1)):=by rw [←List.drop_eq_getElem_cons hk,List.take_append_drop]
 have hd:=h;unfold Dif at hd;rw [e,List.pairwise_append,List.pairwise_cons] at hd;obtain ⟨_,⟨h1,_⟩,h2⟩:=hd
 conv=>lhs;arg 1;rw [e]
 rw [l6,j_ (fun d hd=>h2 d hd l[k] (List.mem_cons_self ..))]
 congr 1
 show (l[k]::l.drop (k+1)).filter _=_;rw [List.filter_cons,if_neg (by simp)];exact j_ fun d hd e=>h1 d hd e.symm
theorem El {l:List Dc} (h:Dif l) {d:Dc} (hd:d∈l):(fz l d.1).length+1=l.length:=by
 obtain ⟨k,hk,rfl⟩:=List.getElem_of_mem hd;rw [uh h hk,List.length_append,List.length_take,List.length_drop];omega
theorem zY {l:List Dc} {id:ByteArray} (h:SD l):SD (fz l id):=h.sub List.filter_sublist
theorem GZ {a b:List Dc} (h:a.Sublist b):dsz a≤dsz b:=by
 induction h with
 |slnil=>exact Nat.le_refl _
 |cons _ _ ih=>rw [dsz];omega
 |cons_cons _ _ ih=>rw [dsz,dsz];omega
theorem rK {a b:List Dc} (h:a.Perm b):dsz a=dsz b:=by
 induction h with
 |nil=>rfl
 |cons _ _ ih=>rw [dsz,dsz,ih]
 |swap _ _ _=>simp only [dsz];omega
 |trans _ _ h k=>exact h.trans k
def hOf (d:Dc) (p:ByteArray):List Ht:=(ks (txt d.2) (txt p)).map fun k=>(d.1,((k:Nat):Int))
theorem mC (p:ByteArray):∀ ds:List Dc,eg ds p=ds.flatMap fun d=>hOf d p
 |[]=>rfl
 |d::ds=>by rw [eg,List.flatMap_cons,←mC p ds];rfl
theorem ua {d:Dc} {p:ByteArray} {h:Ht} (hh:h∈hOf d p):h.1=d.1:=by
 obtain ⟨k,_,rfl⟩:=List.mem_map.1 hh;rfl
theorem Bw {a b:List Dc} (h:a.Perm b) (p:ByteArray):(eg a p).Perm (eg b p):=by
 rw [mC,mC];exact h.flatMap_right _
theorem zN {p:ByteArray} {gs:List ByteArray}:∀ {ds:List Dc},(eg ds p).filter (fun h=> !pX h.1 gs)=eg (lv ds gs) p
 |[]=>rfl
 |d::ds=>by
  show List.filter _ (hOf d p++eg ds p)=_;rw [List.filter_append,zN (ds:=ds)];unfold lv;rw [List.filter_cons];cases hd:pX d.1 gs with
  |true=>
   rw [if_neg (by simp),List.filter_eq_nil_iff.2,List.nil_append];intro h hh;rw [ua hh,hd];simp
  |false=>
   rw [if_pos (by simp),List.filter_eq_self.2]
   ·rfl
   ·intro h hh;rw [ua hh,hd];rfl
def hLt (a b:Ht):Prop:=sLt a.1 b.1∨a.1=b.1∧a.2<b.2
theorem nh (a:Ht):¬ hLt a a:=fun h=>h.elim (fC _) (fun h=>by omega)
theorem pk {a b c:Ht} (h:hLt a b) (k:hLt b c):hLt a c:=by
 rcases h with h | ⟨h,h2⟩
 ·rcases k with k | ⟨k,_⟩
  ·exact .inl (dQ h k)
  ·exact .inl (k ▸ h)
 ·rcases k with k | ⟨k,k2⟩
  ·exact .inl (h ▸ k)
  ·exact .inr ⟨h.trans k,by omega⟩
theorem zO (a b:Ht):hLt a b∨a=b∨hLt b a:=by
 rcases kT a.1 b.1 with h | h | h
 ·exact .inl (.inl h)
 ·rcases Int.lt_trichotomy a.2 b.2 with k | k | k
  ·exact .inl (.inr ⟨h,k⟩)
  ·exact .inr (.inl (Prod.ext h k))
  ·exact .inr (.inr (.inr ⟨h.symm,k⟩))
 ·exact .inr (.inr (.inl h))
def SHt (l:List Ht):Prop:=l.Pairwise hLt
theorem SHt.uniq:∀ {a b:List Ht},SHt a→SHt b→a.Perm b→a=b
 |[],b,_,_,h=>(List.nil_perm.1 h).symm
 |x::a,[],_,_,h=>absurd h.length_eq (by simp)
 |x::a,y::b,ha,hb,h=>by
  obtain ⟨h1,h2⟩:=List.pairwise_cons.1 ha;obtain ⟨k1,k2⟩:=List.pairwise_cons.1 hb
  have e:x=y:=by
   rcases List.mem_cons.1 (h.mem_iff.1 (List.mem_cons_self ..:x∈x::a)) with e | e
   ·exact e
   ·rcases List.mem_cons.1 (h.mem_iff.2 (List.mem_cons_self ..:y∈y::b)) with e2 | e2
    ·exact e2.symm
    ·exact absurd (pk (k1 x e) (h1 y e2)) (nh _)
  subst e;rw [SHt.uniq h2 k2 ((List.perm_cons x).1 h)]
theorem Bi (t q:List Nat):(ks t q).Pairwise (·<·):=List.Pairwise.filter _ List.pairwise_lt_range
theorem x8 (d:Dc) (p:ByteArray):SHt (hOf d p):=by
 unfold SHt hOf;rw [List.pairwise_map];exact (Bi _ _).imp fun h=>.inr ⟨rfl,by show ((_:Nat):Int)<_;omega⟩
theorem l3 {p:ByteArray}:∀ {ds:List Dc},SD ds→SHt (eg ds p)
 |[],_=>List.Pairwise.nil
 |d::ds,h=>by
  obtain ⟨h1,h2⟩:=List.pairwise_cons.1 h;show List.Pairwise hLt (hOf d p++eg ds p);rw [List.pairwise_append];refine ⟨x8 d p,l3 h2,fun a ha b hb=>?_⟩;rw [mC,List.mem_flatMap] at hb;obtain ⟨e,he,hb⟩:=hb;refine .inl ?_;rw [ua ha,ua hb];exact h1 e he
theorem Bv {p:ByteArray} {ds:List Dc} {l zs:List Ht} (h:SD ds) (hp:l.Perm (eg ds p)) (hz:zs.Perm l) (hs:zs.Pairwise fun a b=>¬ hLt b a):zs=eg ds p:=by
 refine SHt.uniq ?_ (l3 h) (hz.trans hp)
 have hn:zs.Nodup:=by
  have:(eg ds p).Nodup:=(l3 (p:=p) h).imp fun {a b} hab e=>by subst e;exact nh _ hab
  exact (hz.trans hp).nodup_iff.2 this
 unfold SHt;have h2:=hs.and hn;refine h2.imp fun {a b} h=>?_
 rcases zO a b with e | e | e
 ·exact e
 ·exact absurd e h.2
 ·exact absurd e h.1
end Go.Proofs.YtcbakncjacnnjaaGreat
namespace Go.Proofs.YtcbakncjacnnjaaGreat
open Go.Proofs.Tryz (prog)
open Go.RowKit
def pL (l:List Oper) (K mu i:Nat):Bool:=Nat.blt mu K&&match l[mu]? with | some om=>n_ l om i | none=>false
theorem rL {l:List Oper} {K mu i:Nat} (h:pL l K mu i=true):mu<K∧∃ om,l[mu]? =some om∧n_ l om i=true:=by
 unfold pL at h;rw [Bool.and_eq_true] at h;refine ⟨Nat.le_of_ble_eq_true h.1,?_⟩;have h2:=h.2;split at h2
 ·rename_i om hom;exact ⟨om,hom,h2⟩
 ·cases h2
def nB (P:Program) (ops:Array Oper) (n:Fr) (L:List (Nat×Value)) (I1 I2:World→Prop) (R1 R2:Nat→Value→World→Prop) (l0:List Oper) (K:Nat) (mu:Nat):Nat→List Oper→Prop
 |_,[]=>True
 |i,o::r=>(Nat.beq i mu=false→match pL l0 K mu i with
   |true=>∀ w',I1 w'→gh R1 w' (eu l0 K i o) fun M=>al P ops n (M++L) o w' (R1 (o.dst.getD 0))
   |false=>∀ w',I2 w'→gh R2 w' (eu l0 K i o) fun M=>al P ops n (M++L) o w' (R1 (o.dst.getD 0)))∧nB P ops n L I1 I2 R1 R2 l0 K mu (i+1) r
theorem o5 {P:Program} {ops:Array Oper} {n:Fr} {L:List (Nat×Value)} {I1 I2:World→Prop} {R1 R2:Nat→Value→World→Prop} {l0:List Oper} {K mu:Nat}:∀ {l:List Oper} {k:Nat},nB P ops n L I1 I2 R1 R2 l0 K mu k l→∀ (i:Nat) (o:Oper),l[i]? =some o→k+i≠mu→
 match pL l0 K mu (k+i) with
  |true=>∀ w',I1 w'→gh R1 w' (eu l0 K (k+i) o) fun M=>al P ops n (M++L) o w' (R1 (o.dst.getD 0))
  |false=>∀ w',I2 w'→gh R2 w' (eu l0 K (k+i) o) fun M=>al P ops n (M++L) o w' (R1 (o.dst.getD 0))
 |[],_,_,i,o,h,_=>by simp at h
 |x::r,k,⟨h1,h2⟩,0,o,h,hne=>by
  simp only [List.getElem?_cons_zero,Option.some.injEq] at h;subst h;rw [Nat.add_zero] at hne ⊢;refine h1 ?_;rw [←Bool.not_eq_true];intro hb;exact hne (Nat.eq_of_beq_eq_true hb)
 |x::r,k,⟨h1,h2⟩,i+1,o,h,hne=>by
  have:=o5 h2 i o (by simpa using h) (by omega)
  rwa [show k+1+i=k+(i+1) by omega] at this
theorem re {P:Program} {ops:Array Oper} {n:Fr} {L:List (Nat×Value)} {I1 I2:World→Prop} {R1 R2:Nat→Value→World→Prop} {l0:List Oper} {K mu:Nat} {l:List Oper} (h:nB P ops n L I1 I2 R1 R2 l0 K mu 0 l) (i:Nat) (o:Oper) (ho:l[i]? =some o) (hne:i≠mu) (hd:pL l0 K mu i=false)
 (w':World) (hw:I2 w'):gh R2 w' (eu l0 K i o) fun M=>al P ops n (M++L) o w' (R1 (o.dst.getD 0)):=by
 have:=o5 h i o ho (by rw [Nat.zero_add];exact hne);rw [Nat.zero_add,hd] at this;exact this w' hw
theorem xQ {P:Program} {ops:Array Oper} {n:Fr} {L:List (Nat×Value)} {I1 I2:World→Prop} {R1 R2:Nat→Value→World→Prop} {l0:List Oper} {K mu:Nat} {l:List Oper} (h:nB P ops n L I1 I2 R1 R2 l0 K mu 0 l) (i:Nat) (o:Oper) (ho:l[i]? =some o) (hne:i≠mu) (hd:pL l0 K mu i=true)
 (w':World) (hw:I1 w'):gh R1 w' (eu l0 K i o) fun M=>al P ops n (M++L) o w' (R1 (o.dst.getD 0)):=by
 have:=o5 h i o ho (by rw [Nat.zero_add];exact hne);rw [Nat.zero_add,hd] at this;exact this w' hw
section late
variable {P:Program} {Q:Exit→Act→World→Prop} {n:Fr} {L:List (Nat×Value)} {w:World} {l:List Oper} {K mu:Nat} {I1 I2:World→Prop} {R1 R:Nat→Value→World→Prop}
theorem tf (hQ:PQ Q) (hc:jL l K=true) (hop:nB P l.toArray n L I1 I2 R1 R l K mu 0 (l.take K)) (h12:∀ t v w,R1 t v w→R t v w) (hmuL:mu<K→cR l K mu=false)
 (hend:∀ w',I2 w'→gh R w' (dW l K) fun M=>St P l.toArray Q (l.drop K) n (M++L) w') (m:Nat) (listed:Array Bool) (L':List (Nat×Value)) (w':World) (hcl:gm l listed) (hcount:listed.toList.count false=m) (hs:listed.size=l.length)
 (htail:∀ j,K≤j→j<l.length→listed.getD j true=false) (hF:I2 w')
 (hfr:∀ t,(∀ i o,i<K→l[i]? =some o→listed.getD i true=true→o.dst≠some t)→aY L' t=aY L t)
 (hR:∀ i o d,i<K→l[i]? =some o→listed.getD i true=true→o.dst=some d→R d (aY L' d) w') (hpre:∀ i,i<K→listed.getD i true=false→cR l K i=true):wpAny P .any l.toArray Q m listed (mkA n L') w':=by
 have hc1:=(Bool.and_eq_true_iff.1 hc).1;have hlate:=(Bool.and_eq_true_iff.1 hc).2;have hKl:K≤l.length:=dT_ (Bool.and_eq_true_iff.1 hc1).1;have hck:=(List.all_eq_true.1 (Bool.and_eq_true_iff.1 hc1).2)
 have hhead:∀ i,i<K→∃ o d,l[i]? =some o∧o.dst=some d∧dq o.op=false∧(∀ j oj,j<K→j≠i→l[j]? =some oj→oj.dst≠some d):=by
  intro i hi;have hil:i<l.length:=by omega
  have hx:=hck i (List.mem_range.2 hil);rw [List.getElem?_eq_getElem hil] at hx;simp only [Bool.and_eq_true] at hx;have h3:=hx.2;rw [if_pos hi] at h3;simp only [Bool.and_eq_true] at h3;obtain ⟨h3a,h3b⟩:=h3;cases hod:(l[i]).dst with
  |none=>rw [hod] at h3a;cases h3a
  |some d=>
   rw [hod] at h3a;simp only [Bool.and_eq_true] at h3a;refine ⟨l[i],d,List.getElem?_eq_getElem hil,hod,by simpa using hx.1.2,fun j oj hj hne hoj e=>?_⟩;have h5:=List.all_eq_true.1 h3a.1 j (List.mem_range.2 hj);rw [hoj] at h5;simp [hne,e] at h5
 have hval:∀ i,i<K→listed.getD i true=false→∃ v,∀ o d,l[i]? =some o→o.dst=some d→Yields P l.toArray o v (mkA n L')∧R d v w':=by
  intro i hi hf;have hil8:=hpre i hi hf;obtain ⟨o,d,ho,hd,hsel,_⟩:=hhead i hi;obtain ⟨hk,hg,hap⟩:=iD hlate hi ho hil8
  have hfact:∀ t∈eu l K i o,R t (aY L' t) w':=by
   intro t ht;obtain ⟨ht2,j,oj,hjK,hj,hdj,hji,_⟩:=gF hc hi ho ht;refine hR j oj t hjK hj ?_ hdj;cases hb:listed.getD j true with
   |true=>rfl
   |false=>
    have h6:=hpre j hjK hb;have h7:=(Oper.apart_spec (hap j oj hj (by omega) (.inl ⟨hjK,h6⟩))).2.2 t hdj;exact absurd (by simpa using ht2) h7
  have hlooks:=pb (L:=L) hc hcl hs ho (by omega) hf hfr
  have hnd:pL l K mu i=false:=by
   rw [←Bool.not_eq_true];intro hd;obtain ⟨hmK,om,hom,hdep⟩:=rL hd
   have hml:listed.getD mu true=true:=by
    cases hb:listed.getD mu true with
    |true=>rfl
    |false=>exact absurd (hpre mu hmK hb) (by rw [hmuL hmK];simp)
   have hml2:listed.getD mu false=true:=by rw [←bg (by omega)];exact hml
   have:=eh hcl (fun e he hb=>hcl mu om hom hml2 e he hb) hdep;rw [←bg (by omega),hf] at this;cases this
  have hok:=eJ (aY L') _ hfact (re hop i o (by rw [List.getElem?_take,if_pos hi];exact ho) (by intro e;rw [e,hmuL (by omega)] at hil8;cases hil8) hnd w' hF);obtain ⟨hE,hW⟩:=eN (n:=n) (ops:=l.toArray) (o:=o) hsel hlooks;rw [hd] at hok;simp only [Option.getD_some] at hok
  have hyl:∃ v,Yields P l.toArray o v (mkA n L')∧R d v w':=by
   unfold al at hok;rw [hE,hW] at hok;rcases hok with ⟨hw,⟨v,w'',hr,hF',hRv⟩ | ⟨f,args,hr,hcall⟩⟩ | ⟨hw,hRv⟩
   ·obtain ⟨rfl,hall⟩:=rp hk hr;refine ⟨v,.inl ⟨hw,fun w2=>?_⟩,h12 _ _ _ hRv⟩;rw [bU];exact hall w2
   ·exfalso;obtain ⟨dst,op,ty,pos,after,guard⟩:=o;cases op <;> simp only [pK,Bool.false_eq_true] at hk <;> simp only [execOp,Sem.run_pure,Sem.run_bind,Result.ok.injEq] at hr
    ·cases hr.1
    ·cases hr.1
    ·rename_i x i';cases hx:ev n L' x <;> simp only [hx,Instr.extract] at hr <;> (try (simp at hr;done))
     rename_i vs;cases hv:vs[i']? <;> simp [hv] at hr
   ·exact ⟨undef,.inr ⟨hw,rfl⟩,h12 _ _ _ hRv⟩
  obtain ⟨v,hv1,hv2⟩:=hyl;refine ⟨v,fun o' d' ho' hd'=>?_⟩;rw [ho] at ho';cases ho';rw [hd] at hd';cases hd';exact ⟨hv1,hv2⟩
 obtain ⟨f,hf⟩:∃ f:Nat→Value,∀ i,i<K→listed.getD i true=false→∀ o d,l[i]? =some o→o.dst=some d→Yields P l.toArray o (f i) (mkA n L')∧R d (f i) w':=by
  refine ⟨fun i=>open Classical in if h:∃ v,∀ o d,l[i]? =some o→o.dst=some d→Yields P l.toArray o v (mkA n L')∧R d v w' then h.choose else undef,fun i hi hl=>?_⟩;have h:=hval i hi hl;simp only [dif_pos h];exact h.choose_spec
 have hUm:∀ i,i∈(List.range K).filter (fun i=> !listed.getD i true)↔i<K∧listed.getD i true=false:=fun i=>by
  rw [List.mem_filter,List.mem_range];simp
 obtain ⟨U,hU,hUn⟩:∃ U:List Nat,(∀ i,i∈U↔i<K∧listed.getD i true=false)∧U.Nodup:=⟨_,hUm,List.nodup_range.sublist (List.filter_sublist ..)⟩;have hbind:∀ {i:Nat} {o:Oper},l[i]? =some o→(l[i]?).bind (·.dst)=o.dst:=fun h=>by rw [h];rfl
 have hRall:∀ d∈dW l K,R d (aY ((U.filterMap fun i=>((l[i]?).bind (·.dst)).map fun d=>(d,f i))++L') d) w':=by
  intro d hd;obtain ⟨o,ho,hod⟩:=List.mem_filterMap.1 hd;obtain ⟨i,hi⟩:=List.mem_iff_getElem?.1 ho;rw [List.getElem?_take] at hi;split at hi
  ·rename_i hiK;obtain ⟨o',d',ho',hd',_,hdist⟩:=hhead i hiK;rw [hi] at ho';cases ho';rw [hod] at hd';cases hd'
   have hne:∀ j∈U,j≠i→(l[j]?).bind (·.dst)≠some d:=fun j hj hji=>by
    have hjK:=((hU j).1 hj).1;obtain ⟨oj,dj,hoj,_⟩:=hhead j hjK;rw [hbind hoj];exact hdist j oj hjK hji hoj
   cases hb:listed.getD i true with
   |true=>
    rw [gM U fun j hj=>hne j hj (fun e=>by subst e;have:=((hU j).1 hj).2;rw [hb] at this;cases this)];exact hR i o d hiK hi hb hod
   |false=>
    rw [jh U ((hU i).2 ⟨hiK,hb⟩) ((hbind hi).trans hod) hne];exact (hf i hiK hb o d hi hod).2
  ·cases hi
 have he:=eJ _ (dW l K) hRall (hend w' hF)
 have hL:mkA n ((dW l K).map (fun d=>(d,aY ((U.filterMap fun i=>((l[i]?).bind (·.dst)).map fun d=>(d,f i))++L') d))++L)=eB l f U (mkA n L'):=by
  rw [nR];refine gK fun t _=>?_
  rw [jM];split
  ·rfl
  ·rename_i hne
   have hnd:∀ i,i<K→∀ o,l[i]? =some o→o.dst≠some t:=fun i hi o ho hod=>hne (by
    simp only [List.elem_eq_mem,decide_eq_true_eq];exact List.mem_filterMap.2 ⟨o,List.mem_iff_getElem?.2 ⟨i,by rw [List.getElem?_take,if_pos hi];exact ho⟩,hod⟩)
   rw [gM U fun j hj=>by
    have hjK:=((hU j).1 hj).1;obtain ⟨oj,dj,hoj,_⟩:=hhead j hjK;rw [hbind hoj];exact hnd j hjK oj hoj]
   exact (hfr t fun i o hi ho _ hod=>hnd i hi o ho hod).symm
 replace he:=he.out;rw [hL] at he;refine mX hQ hc m K listed U _ w' hcl hcount hs (Nat.le_refl _) hKl (fun j h1 h2=>by rw [htail j h1 h2];simp [h1]) hUn (fun j hj=>⟨fun h=>(hU j).2 ⟨hj,h⟩,fun h=>((hU j).1 h).2⟩) (fun j hj=>?_) he;obtain ⟨h1,h2⟩:=(hU j).1 hj;obtain ⟨oj,dj,hoj,hdj,_⟩:=hhead j h1;exact ⟨h1,hpre j h1 h2,oj,hoj,(hf j h1 h2 oj dj hoj hdj).1⟩
theorem Ds (hQ:PQ Q) (hc:jL l K=true) (hm1:∀ w1 w2,aj w1 w2→I1 w1→I1 w2) (hm2:∀ w1 w2,aj w1 w2→I2 w1→I2 w2) (hmono1:∀ t v w1 w2,aj w1 w2→R1 t v w1→R1 t v w2) (hmono:∀ t v w1 w2,aj w1 w2→R t v w1→R t v w2)
 (hop:nB P l.toArray n L I1 I2 R1 R l K mu 0 (l.take K)) (h12:∀ t v w,R1 t v w→R t v w) (hmuL:mu<K→cR l K mu=false) (hmu:xj P l.toArray n L I1 I2 R1 R l K mu l[mu]?)
 (hend:∀ w',I2 w'→gh R w' (dW l K) fun M=>St P l.toArray Q (l.drop K) n (M++L) w') :
 ∀ (m:Nat) (listed:Array Bool) (L':List (Nat×Value)) (w':World),gm l listed→listed.toList.count false=m→listed.size=l.length→(∀ j,K≤j→j<l.length→listed.getD j true=false)→I2 w'→(listed.getD mu true=false→I1 w')→
  (∀ t,(∀ i o,i<K→l[i]? =some o→listed.getD i true=true→o.dst≠some t)→aY L' t=aY L t)→
  (∀ i o d,i<K→l[i]? =some o→listed.getD i true=true→o.dst=some d→R d (aY L' d) w')→(listed.getD mu true=false→∀ i o d,i<K→l[i]? =some o→listed.getD i true=true→o.dst=some d→R1 d (aY L' d) w')→wpAny P .any l.toArray Q m listed (mkA n L') w':=by
 have hc1:=(Bool.and_eq_true_iff.1 hc).1;have hlate:=(Bool.and_eq_true_iff.1 hc).2;have hKl:K≤l.length:=dT_ (Bool.and_eq_true_iff.1 hc1).1;have hck:=(List.all_eq_true.1 (Bool.and_eq_true_iff.1 hc1).2);intro m
 induction m with
 |zero=>
  intro listed L' w' hcl hcount hs htail hF hF1 hfr hR hR1
  exact tf hQ hc hop h12 hmuL hend 0 listed L' w' hcl hcount hs htail hF hfr hR (fun i hi h=>by
   have hm:listed[i]'(by omega)∈listed.toList:=by simp
   have hb:listed[i]'(by omega)=false:=by simpa [Array.getD,show i<listed.size by omega] using h
   rw [hb] at hm;exact absurd hcount (Nat.pos_iff_ne_zero.1 (List.count_pos_iff.2 hm)))
 |succ m ih=>
  intro listed L' w' hcl hcount hs htail hF hF1 hfr hR hR1;by_cases hpre:∀ i,i<K→listed.getD i true=false→cR l K i=true
  ·exact tf hQ hc hop h12 hmuL hend (m+1) listed L' w' hcl hcount hs htail hF hfr hR hpre
  ·
   have hn0:∃ i,i<K∧listed.getD i true=false∧cR l K i=false:=by
    refine Classical.byContradiction fun hno=>hpre fun i hi hf=>?_
    cases hb:cR l K i with
    |true=>rfl
    |false=>exact absurd ⟨i,hi,hf,hb⟩ hno
   obtain ⟨n0,hn0⟩:=hn0;obtain ⟨i0,hi0,hmin⟩:=exists_least (p:=fun i=>i<K∧listed.getD i true=false) ⟨n0,hn0.1,hn0.2.1⟩;have hi0l:i0<l.length:=by omega
   have hready:i0∈Region.ready .any l.toArray listed:=by
    refine mem_ready.2 ⟨hi0.2,l[i0],by rw [List.getElem?_toArray,List.getElem?_eq_getElem hi0l],fun e he hb=>?_⟩;have hx:=hck i0 (List.mem_range.2 hi0l);rw [List.getElem?_eq_getElem hi0l] at hx;simp only [Bool.and_eq_true] at hx;have he2:=List.all_eq_true.1 hx.1.1 e (by simpa using he);rw [hb] at he2;simp at he2;rw [←bg (by omega)];cases hb2:listed.getD e.on true with
    |true=>rfl
    |false=>exact absurd (hmin e.on ⟨by omega,hb2⟩) (by omega)
   refine ⟨fun h0=>(by rw [h0] at hready;cases hready),fun i hi=>?_⟩;obtain ⟨h0,o,ho,hall⟩:=mem_ready.1 hi;rw [List.getElem?_toArray] at ho;have hil:i<l.length:=(List.getElem?_eq_some_iff.1 ho).1;have hx:=hck i (List.mem_range.2 hil);rw [ho] at hx;simp only [Bool.and_eq_true] at hx
   have hiK:i<K:=by
    rcases Nat.lt_or_ge i K with h | h
    ·exact h
    ·exfalso;have h5:=eh hcl hall (ki hn0.2.2 ho h);rw [←bg (by omega),hn0.2.1] at h5;cases h5
   have h3:=hx.2;rw [if_pos hiK] at h3;simp only [Bool.and_eq_true] at h3;obtain ⟨h3a,h3b⟩:=h3;cases hod:o.dst with
   |none=>rw [hod] at h3a;cases h3a
   |some d=>
    rw [hod] at h3a;simp only [Bool.and_eq_true] at h3a;have hlooks:=pb (L:=L) hc hcl hs ho hil h0 hfr
    have hfactG:∀ (RR:Nat→Value→World→Prop),(∀ i o d,i<K→l[i]? =some o→listed.getD i true=true→o.dst=some d→RR d (aY L' d) w')→∀ t∈eu l K i o,RR t (aY L' t) w':=by
     intro RR hRR t ht;obtain ⟨_,j,oj,hjK,hj,hd,_,hdep⟩:=gF hc hiK ho ht;have h6:=eh hcl hall hdep;exact hRR j oj t hjK hj (by rw [bg (by omega)];exact h6) hd
    have hsel:dq o.op=false:=by simpa using hx.1.2
    obtain ⟨hE,hW⟩:=eN (n:=n) (ops:=l.toArray) (o:=o) hsel hlooks
    have next:∀ v w'',I2 w''→(i≠mu→listed.getD mu true=false→I1 w'')→R d v w''→(i≠mu→R1 d v w'')→(∀ t u,t≠d→R t u w'→(i=mu→R1 t u w')→R t u w'')→(i≠mu→∀ t u,R1 t u w'→R1 t u w'')→wpAny P .any l.toArray Q m (listed.setIfInBounds i true) ((mkA n L').put (some d) v) w'':=by
     intro v w'' hI2' hI1' hRv hR1v hst hst1;rw [dY]
     have hne:∀ j oj d',j<K→l[j]? =some oj→j≠i→oj.dst=some d'→d'≠d:=by
      intro j oj d' hj hoj hji hd e;have h5:=List.all_eq_true.1 h3a.1 j (List.mem_range.2 hj);rw [hoj] at h5;simp [hji,hd,e] at h5
     refine ih _ _ w'' (jQ hcl ho hall) ?_ (by simpa using hs) (fun j hj1 hj2=>?_) hI2' (fun hml=>?_) (fun t ht=>?_) (fun j oj d' hj hoj hlj hd=>?_) (fun hml j oj d' hj hoj hlj hd=>?_)
     ·have hil':i<listed.size:=by omega
      have hfalse:listed.toList[i]? =some false:=by
       rw [Array.getElem?_toList,Array.getElem?_eq_getElem hil'];simp [Array.getD,hil'] at h0;rw [h0]
      rw [Array.toList_setIfInBounds];have:=ek (l:=listed.toList) (i:=i) hfalse;omega
     ·rw [getD_set_ne true (by omega)];exact htail j hj1 hj2
     ·have him:i≠mu:=fun e=>by subst e;simp [show i<listed.size by omega] at hml
      rw [getD_set_ne true him] at hml;exact hI1' him hml
     ·have htd:t≠d:=fun e=>ht i o hiK ho (by simp [show i<listed.size by omega]) (by rw [hod,e])
      rw [cg,if_neg htd];refine hfr t fun j oj hj hoj hlj=>ht j oj hj hoj ?_
      by_cases e:i=j
      ·subst e;rw [h0] at hlj;cases hlj
      ·rw [getD_set_ne true e];exact hlj
     ·rw [cg];by_cases e:j=i
      ·subst e;rw [ho] at hoj;cases hoj;rw [hod] at hd;cases hd;rw [if_pos rfl];exact hRv
      ·have hdd:=hne j oj d' hj hoj e hd;rw [if_neg hdd];rw [getD_set_ne true (Ne.symm e)] at hlj;refine hst _ _ hdd (hR j oj d' hj hoj hlj hd) (fun e2=>?_);subst e2;exact hR1 h0 j oj d' hj hoj hlj hd
     ·have him:i≠mu:=fun e=>by subst e;simp [show i<listed.size by omega] at hml
      rw [getD_set_ne true him] at hml;rw [cg];by_cases e:j=i
      ·subst e;rw [ho] at hoj;cases hoj;rw [hod] at hd;cases hd;rw [if_pos rfl];exact hR1v him
      ·rw [if_neg (hne j oj d' hj hoj e hd)];rw [getD_set_ne true (Ne.symm e)] at hlj;exact hst1 him _ _ (hR1 hml j oj d' hj hoj hlj hd)
    unfold wpOp;rw [List.getElem?_toArray,ho];show if Region.wanted o (yielded l.toArray (mkT n.n L'))=true then _ else _
    by_cases him:i=mu
    ·subst him;rw [ho] at hmu;have hok:=eJ (aY L') _ (hfactG R1 (hR1 h0)) (hmu w' (hF1 h0));rw [hod] at hok;simp only [Option.getD_some] at hok;unfold mM at hok;rw [hE,hW] at hok;obtain ⟨hw,⟨v,w'',hr,hI,hRv,hst⟩ | ⟨f,args,hr,hcall⟩⟩:=hok
     ·rw [if_pos hw];refine .inl ?_;unfold Oper.wp;rw [bU,hr,Oper.upon_value,hod];exact next v w'' hI (fun h=>absurd rfl h) hRv (fun h=>absurd rfl h) (fun t u ht _ h1=>hst t u ht (h1 rfl)) (fun h=>absurd rfl h)
     ·rw [if_pos hw];refine .inl ?_;unfold Oper.wp;rw [bU,hr,Oper.upon_enter,hod];refine Calls.mono hcall fun e w'' ⟨v,he,hI,hRv,hst⟩=>?_
      subst he;exact next v w'' hI (fun h=>absurd rfl h) hRv (fun h=>absurd rfl h) (fun t u ht _ h1=>hst t u ht (h1 rfl)) (fun h=>absurd rfl h)
    ·have hok:al P l.toArray n (((eu l K i o).map fun d=>(d,aY L' d))++L) o w' (R1 (o.dst.getD 0)):=by
      cases hdm:pL l K mu i with
      |false=>exact eJ (aY L') _ (hfactG R hR) (re hop i o (by rw [List.getElem?_take,if_pos hiK];exact ho) him hdm w' hF)
      |true=>
       have hml:listed.getD mu true=false:=by
        obtain ⟨hmK,om,hom,hdep⟩:=rL hdm;rw [←Bool.not_eq_true];intro hml;have hml2:listed.getD mu false=true:=by rw [←bg (by omega)];exact hml
        have:=eh hcl (fun e he hb=>hcl mu om hom hml2 e he hb) hdep;rw [←bg (by omega),h0] at this;cases this
       exact eJ (aY L') _ (hfactG R1 (hR1 hml)) (xQ hop i o (by rw [List.getElem?_take,if_pos hiK];exact ho) him hdm w' (hF1 hml))
     rw [hod] at hok;simp only [Option.getD_some] at hok;unfold al at hok;rw [hE,hW] at hok
     have next':∀ v w'',aj w' w''→R1 d v w''→wpAny P .any l.toArray Q m (listed.setIfInBounds i true) ((mkA n L').put (some d) v) w'':=fun v w'' hF' hRv=>
      next v w'' (hm2 _ _ hF' hF) (fun _ h=>hm1 _ _ hF' (hF1 h)) (h12 _ _ _ hRv) (fun _=>hRv) (fun t u _ h _=>hmono _ _ _ _ hF' h) (fun _ t u h=>hmono1 _ _ _ _ hF' h)
     rcases hok with ⟨hw,⟨v,w'',hr,hF',hRv⟩ | ⟨f,args,hr,hcall⟩⟩ | ⟨hw,hRv⟩
     ·rw [if_pos hw];refine .inl ?_;unfold Oper.wp;rw [bU,hr,Oper.upon_value,hod];exact next' v w'' hF' hRv
     ·rw [if_pos hw];refine .inl ?_;unfold Oper.wp;rw [bU,hr,Oper.upon_enter,hod];refine Calls.mono hcall fun e w'' ⟨v,he,hF',hRv⟩=>?_
      subst he;exact next' v w'' hF' hRv
     ·rw [if_neg (by rw [hw];simp),hod];exact next' undef w' aj.rfl_ hRv
theorem uu {id:Nat} (K mu:Nat) (Ex:List Nat) (RL:List (Nat×(Value→World→Prop))) (I1 I2:World→Prop) (hQ:PQ Q) (hm:P.follows .mixedOrders=true) (hc:jL l K=true) (hl:cR l K mu=false) (hmono:kN RL)
 (h0:I1 { w with drawn:=w.drawn+1 }) (h0':I2 { w with drawn:=w.drawn+1 }) (hm1:∀ w1 w2,aj w1 w2→I1 w1→I1 w2) (hm2:∀ w1 w2,aj w1 w2→I2 w1→I2 w2)
 (hop:nB P l.toArray n L I1 I2 (dX RL) (j8 Ex RL) l K mu 0 (l.take K)) (hmu:xj P l.toArray n L I1 I2 (dX RL) (j8 Ex RL) l K mu l[mu]?)
 (hend:∀ w',I2 w'→gh (j8 Ex RL) w' (dW l K) fun M=>St P l.toArray Q (l.drop K) n (M++L) w'):Cd P (.region id l.toArray true) Q n L w:=by
 refine ⟨wp_region_any hm ?_⟩;have hKl:K≤l.length:=dT_ (Bool.and_eq_true_iff.1 (Bool.and_eq_true_iff.1 hc).1).1
 have:=Ds (Q:=Q) hQ hc hm1 hm2 (dD hmono) (rm hmono) hop wg (fun _=>hl) hmu hend l.length (Array.replicate l.length false) L { w with drawn:=w.drawn+1 } (iX l _) (by simp) (by simp)
  (fun j _ hj=>by simp [Array.getD,hj]) h0' (fun _=>h0) (fun _ _=>rfl) (fun i o d hi _ hl=>by
   have:i<l.length:=by omega
   simp [Array.getD,this] at hl) (fun _ i o d hi _ hl=>by
   have:i<l.length:=by omega
   simp [Array.getD,this] at hl)
 simpa using this
end late
section
variable {P:Program} {ops:Array Oper} {n:Fr} {L:List (Nat×Value)} {w:World} {ty:TypeId} {pos:String} {after:Array Edge} {dst:Option Nat}
theorem Gq {f:FuncId} {l:List Operand} {ats:Array TypeId} {R post:Value→World→Prop} (hf:az P f=true) (hc:Rt P f (l.map (ev n L)) w R) (k:∀ v w',R v w'→post v w') :
 mM P ops n L ⟨dst,.call { callee:=.value (.func f),args:=l.toArray,argTypes:=ats },ty,pos,after,none⟩ w post:=
 ⟨rfl,.inr ⟨f,l.map (ev n L),by rw [jz (fun _=>rfl),f_ hf],hc.mono k⟩⟩
theorem Hp {op:Op} {v:Value} {w':World} {post:Value→World→Prop} (hr:RO P (ev n L) op w v w') (h:post v w'):mM P ops n L ⟨dst,op,ty,pos,after,none⟩ w post:=⟨rfl,.inl ⟨v,w',hr _ _ _ _ _,h⟩⟩
end
end Go.Proofs.YtcbakncjacnnjaaGreat
namespace Go.Proofs.YtcbakncjacnnjaaGreat
open Go.Proofs.Tryz (prog)
open Go.RowKit
def yd (l:List Oper):Bool:=(List.range l.length).all fun i=>match l[i]? with
 |none=>false
 |some o=>o.guard.isNone&&o.after.toList.all fun e=> !Region.binds .any e||decide (e.on<i)
def j4 (S:Nat→Bool) (i:Nat):Nat→Bool:=fun j=>if j=i then true else S j
def oq (P:Program) (n:Fr) (o:Oper) (Inv:List (Nat×Value)→World→Prop) (L':List (Nat×Value)) (w':World):Prop:=
 (∃ d v w'',o.dst=some d∧(execOp (ev n L') o).run P w'=.ok (.value v) w''∧Inv ((d,v)::L') w'')∨
 (∃ w'',o.dst=none∧(execOp (ev n L') o).run P w'=.ok .skip w''∧Inv L' w'')∨
 (∃ d f args,o.dst=some d∧(execOp (ev n L') o).run P w'=.ok (.enter f (List.toArray args)) w'∧Rt P f args w' fun v w''=>Inv ((d,v)::L') w'')
section
variable {P:Program} {Q:Exit→Act→World→Prop} {n:Fr} {L:List (Nat×Value)} {w:World} {l:List Oper}
theorem GG {Inv:(Nat→Bool)→List (Nat×Value)→World→Prop} (hwf:yd l=true)
 (hstep:∀ (i:Nat) (o:Oper) (S:Nat→Bool) (L':List (Nat×Value)) (w':World),l[i]? =some o→Inv S L' w'→S i=false→(∀ e∈o.after,Region.binds .any e=true→S e.on=true)→oq P n o (Inv (j4 S i)) L' w')
 (hend:∀ L' w',Inv (fun i=>decide (i<l.length)) L' w'→Q .normal (mkA n L') w') :
 ∀ (m:Nat) (listed:Array Bool) (L':List (Nat×Value)) (w':World),listed.toList.count false=m→listed.size=l.length→Inv (fun i=>listed.getD i false) L' w'→wpAny P .any l.toArray Q m listed (mkA n L') w':=by
 have hck:=List.all_eq_true.1 hwf;intro m
 induction m with
 |zero=>
  intro listed L' w' hcount hs hI
  have hall:∀ i,i<l.length→listed.getD i false=true:=fun i hi=>by
   have hm:listed[i]'(by omega)∈listed.toList:=by simp
   cases hb:listed[i]'(by omega) with
   |true=>simp [Array.getD,show i<listed.size by omega,hb]
   |false=>rw [hb] at hm;exact absurd hcount (Nat.pos_iff_ne_zero.1 (List.count_pos_iff.2 hm))
  have e:(fun i=>listed.getD i false)=fun i=>decide (i<l.length):=by
   funext i
   by_cases hi:i<l.length
   ·rw [hall i hi,decide_eq_true hi]
   ·rw [decide_eq_false hi];simp [Array.getD,show ¬ i<listed.size by omega]
  rw [e] at hI;refine ⟨?_,hend L' w' hI⟩;cases hr:Region.ready .any l.toArray listed with
  |nil=>rfl
  |cons i r=>
   exfalso;obtain ⟨h0,o,ho,_⟩:=mem_ready.1 (show i∈Region.ready .any l.toArray listed by rw [hr];simp);rw [List.getElem?_toArray] at ho;have hil:i<l.length:=(List.getElem?_eq_some_iff.1 ho).1;have:=hall i hil;rw [←bg (by omega),h0] at this;cases this
 |succ m ih=>
  intro listed L' w' hcount hs hI
  have hn0:∃ i,i<l.length∧listed.getD i true=false:=by
   have hpos:0<listed.toList.count false:=by omega
   obtain ⟨i,hi,hb⟩:=List.getElem_of_mem (List.count_pos_iff.1 hpos);rw [Array.length_toList] at hi;refine ⟨i,by omega,?_⟩;rw [Array.getElem_toList] at hb;simp [Array.getD,hi,hb]
  obtain ⟨i0,hi0,hmin⟩:=exists_least (p:=fun i=>i<l.length∧listed.getD i true=false) hn0
  have hready:i0∈Region.ready .any l.toArray listed:=by
   refine mem_ready.2 ⟨hi0.2,l[i0]'hi0.1,by rw [List.getElem?_toArray,List.getElem?_eq_getElem hi0.1],fun e he hb=>?_⟩;have hx:=hck i0 (List.mem_range.2 hi0.1);rw [List.getElem?_eq_getElem hi0.1] at hx;simp only [Bool.and_eq_true] at hx;have he2:=List.all_eq_true.1 hx.2 e (by simpa using he);rw [hb] at he2;simp at he2;have:=hi0.1;rw [←bg (by omega)];cases hb2:listed.getD e.on true with
   |true=>rfl
   |false=>exact absurd (hmin e.on ⟨by omega,hb2⟩) (by omega)
  refine ⟨fun h0=>(by rw [h0] at hready;cases hready),fun i hi=>?_⟩;obtain ⟨h0,o,ho,hall⟩:=mem_ready.1 hi;rw [List.getElem?_toArray] at ho;have hil:i<l.length:=(List.getElem?_eq_some_iff.1 ho).1;have hx:=hck i (List.mem_range.2 hil);rw [ho] at hx;simp only [Bool.and_eq_true] at hx;have hg:o.guard=none:=by simpa using hx.1
  have h0f:listed.getD i false=false:=by rw [←bg (by omega)];exact h0
  have hset:(fun j=>(listed.setIfInBounds i true).getD j false)=j4 (fun j=>listed.getD j false) i:=by
   funext j
   unfold j4;by_cases e:j=i
   ·subst e;simp [Array.getD,show j<listed.size by omega]
   ·rw [if_neg e,getD_set_ne false (Ne.symm e)]
  have hcnt:(listed.setIfInBounds i true).toList.count false=m:=by
   have hil':i<listed.size:=by omega
   have hfalse:listed.toList[i]? =some false:=by
    rw [Array.getElem?_toList,Array.getElem?_eq_getElem hil'];simp [Array.getD,hil'] at h0;rw [h0]
   rw [Array.toList_setIfInBounds];have:=ek (l:=listed.toList) (i:=i) hfalse;omega
  have next:∀ L2 w2,Inv (j4 (fun j=>listed.getD j false) i) L2 w2→wpAny P .any l.toArray Q m (listed.setIfInBounds i true) (mkA n L2) w2:=fun L2 w2 h=>
   ih _ L2 w2 hcnt (by simpa using hs) (by rw [hset];exact h)
  unfold wpOp;rw [List.getElem?_toArray,ho];show if Region.wanted o (yielded l.toArray (mkT n.n L'))=true then _ else _
  rw [if_pos (by unfold Region.wanted;rw [hg])];refine .inl ?_;unfold Oper.wp;rw [bU];rcases hstep i o _ L' w' ho hI h0f hall with ⟨d,v,w'',hd,hr,hI2⟩ | ⟨w'',hd,hr,hI2⟩ | ⟨d,f,args,hd,hr,hc⟩
  ·rw [hr,Oper.upon_value,hd,dY];exact next _ _ hI2
  ·rw [hr,Oper.upon_skip,hd];exact next _ _ hI2
  ·rw [hr,Oper.upon_enter,hd];refine Calls.mono hc fun e w'' ⟨v,he,hI2⟩=>?_
   subst he;show wpAny P .any l.toArray Q m (listed.setIfInBounds i true) ((mkA n L').put (some d) v) w'';rw [dY];exact next _ _ hI2
theorem I0 {id:Nat} (Inv:(Nat→Bool)→List (Nat×Value)→World→Prop) (hm:P.follows .mixedOrders=true) (hwf:yd l=true) (h0:Inv (fun _=>false) L { w with drawn:=w.drawn+1 })
 (hstep:∀ (i:Nat) (o:Oper) (S:Nat→Bool) (L':List (Nat×Value)) (w':World),l[i]? =some o→Inv S L' w'→S i=false→(∀ e∈o.after,Region.binds .any e=true→S e.on=true)→oq P n o (Inv (j4 S i)) L' w')
 (hend:∀ L' w',Inv (fun i=>decide (i<l.length)) L' w'→Q .normal (mkA n L') w'):Cd P (.region id l.toArray true) Q n L w:=by
 refine ⟨wp_region_any hm ?_⟩
 have:=GG (Q:=Q) hwf hstep hend l.length (Array.replicate l.length false) L { w with drawn:=w.drawn+1 } (by simp) (by simp) (by
  have e:(fun i=>(Array.replicate l.length false).getD i false)=fun _=>false:=by
   funext i
   by_cases hi:i<l.length <;> simp [Array.getD,hi]
  rw [e];exact h0)
 simpa using this
theorem bf {d:Nat} {op:Op} {ty:TypeId} {pos:String} {after:Array Edge} {v:Value} {w' w'':World} {L':List (Nat×Value)} {Inv:List (Nat×Value)→World→Prop} (h:RO P (ev n L') op w' v w'') (hI:Inv ((d,v)::L') w''):oq P n ⟨some d,op,ty,pos,after,none⟩ Inv L' w':=
 .inl ⟨d,v,w'',rfl,h _ _ _ _ _,hI⟩
theorem gU {op:Op} {ty:TypeId} {pos:String} {after:Array Edge} {w' w'':World} {L':List (Nat×Value)} {Inv:List (Nat×Value)→World→Prop} (h:RS P (ev n L') op w' w'') (hI:Inv L' w''):oq P n ⟨none,op,ty,pos,after,none⟩ Inv L' w':=
 .inr (.inl ⟨w'',rfl,h _ _ _ _ _,hI⟩)
def mN (L:List (Nat×Value)) (T:List (Nat×Nat×Value)) (S:Nat→Bool) (L':List (Nat×Value)):Prop:=
 (∀ t,(∀ p∈T,p.2.1≠t)→aY L' t=aY L t)∧(∀ p∈T,S p.1=true→aY L' p.2.1=p.2.2)∧∀ p∈T,S p.1=false→aY L' p.2.1=aY L p.2.1
def nt:List (Nat×Nat×Value)→Prop
 |[]=>True
 |p::r=>(∀ q∈r,q.1≠p.1∧q.2.1≠p.2.1)∧nt r
theorem tw:∀ {T:List (Nat×Nat×Value)},nt T→∀ {p q:Nat×Nat×Value},p∈T→q∈T→p.1=q.1∨p.2.1=q.2.1→p=q
 |_::_,⟨h1,h2⟩,p,q,hp,hq,he=>by
  rcases List.mem_cons.1 hp with rfl | hp' <;> rcases List.mem_cons.1 hq with rfl | hq'
  ·rfl
  ·rcases he with e | e
   ·exact absurd e.symm (h1 _ hq').1
   ·exact absurd e.symm (h1 _ hq').2
  ·rcases he with e | e
   ·exact absurd e (h1 _ hp').1
   ·exact absurd e (h1 _ hp').2
  ·exact tw h2 hp' hq' he
theorem mN.put {T:List (Nat×Nat×Value)} {S:Nat→Bool} {L':List (Nat×Value)} {i d:Nat} {v:Value} (h:mN L T S L') (hU:nt T) (hp:(i,d,v)∈T):mN L T (j4 S i) ((d,v)::L'):=by
 refine ⟨fun t ht=>?_,fun p hq hs=>?_,fun p hq hs=>?_⟩
 ·rw [cg,if_neg (fun e=>ht _ hp e.symm)];exact h.1 t ht
 ·rw [cg];by_cases e:p.2.1=d
  ·rw [if_pos e,tw hU hq hp (.inr e)]
  ·rw [if_neg e];refine h.2.1 p hq ?_;unfold j4 at hs;by_cases e2:p.1=i
   ·exact absurd (congrArg (·.2.1) (tw hU hq hp (.inl e2))) e
   ·rwa [if_neg e2] at hs
 ·unfold j4 at hs;by_cases e2:p.1=i
  ·rw [if_pos e2] at hs;cases hs
  ·rw [if_neg e2] at hs;rw [cg,if_neg (fun e=>e2 (congrArg (·.1) (tw hU hq hp (.inr e))))];exact h.2.2 p hq hs
theorem mN.skip {T:List (Nat×Nat×Value)} {S:Nat→Bool} {L':List (Nat×Value)} {i:Nat} (h:mN L T S L') (hi:∀ p∈T,p.1≠i):mN L T (j4 S i) L':=by
 refine ⟨h.1,fun p hq hs=>h.2.1 p hq ?_,fun p hq hs=>h.2.2 p hq ?_⟩ <;> (unfold j4 at hs;rwa [if_neg (hi p hq)] at hs)
theorem mN.get {T:List (Nat×Nat×Value)} {S:Nat→Bool} {L':List (Nat×Value)} {i d:Nat} {v:Value} (h:mN L T S L') (hp:(i,d,v)∈T) (hs:S i=true):aY L' d=v:=h.2.1 _ hp hs
def lD (S:Nat→Bool):List Edge→Prop
 |[]=>True
 |e::r=>(bif Region.binds .any e then S e.on=true else True)∧lD S r
theorem wy {S:Nat→Bool}:∀ {es:List Edge},(∀ e∈es,Region.binds .any e=true→S e.on=true)→lD S es
 |[],_=>trivial
 |e::r,h=>by
  refine ⟨?_,wy fun e' he=>h e' (.tail _ he)⟩;cases hb:Region.binds .any e with
  |true=>exact h e (.head _) hb
  |false=>trivial
def yA (P:Program) (n:Fr) (L:List (Nat×Value)) (T:List (Nat×Nat×Value)) (Mem:(Nat→Bool)→World→Prop):Nat→List Oper→Prop
 |_,[]=>True
 |i,o::r=>(∀ S L' w',mN L T S L'→Mem S w'→S i=false→lD S o.after.toList→oq P n o (fun L2 w2=>mN L T (j4 S i) L2∧Mem (j4 S i) w2) L' w')∧yA P n L T Mem (i+1) r
theorem s3 {T:List (Nat×Nat×Value)} {Mem:(Nat→Bool)→World→Prop}:∀ {r:List Oper} {k:Nat},yA P n L T Mem k r→∀ (i:Nat) (o:Oper),r[i]? =some o→∀ S L' w',mN L T S L'→Mem S w'→S (k+i)=false→lD S o.after.toList→oq P n o (fun L2 w2=>mN L T (j4 S (k+i)) L2∧Mem (j4 S (k+i)) w2) L' w'
 |[],_,_,i,o,h=>by simp at h
 |x::r,k,⟨h1,h2⟩,0,o,h=>by
  simp only [List.getElem?_cons_zero,Option.some.injEq] at h;subst h;exact h1
 |x::r,k,⟨h1,h2⟩,i+1,o,h=>by
  have:=s3 h2 i o (by simpa using h)
  rwa [show k+1+i=k+(i+1) by omega] at this
theorem Dw {T:List (Nat×Nat×Value)} (_:nt T) {L L':List (Nat×Value)} {S:Nat→Bool} (h:mN L T S L') (hS:∀ p∈T,S p.1=true) (t:Nat):aY L' t=aY (T.map (fun p=>(p.2.1,p.2.2))++L) t:=by
 have key:∀ T':List (Nat×Nat×Value),(∀ p∈T',p∈T)→(∃ p∈T',p.2.1=t)∨(∀ p∈T',p.2.1≠t)→(∃ p∈T',p.2.1=t∧aY (T'.map (fun p=>(p.2.1,p.2.2))++L) t=p.2.2)∨((∀ p∈T',p.2.1≠t)∧aY (T'.map (fun p=>(p.2.1,p.2.2))++L) t=aY L t):=by
  intro T'
  induction T' with
  |nil=>exact fun _ _=>.inr ⟨fun p hp=>by simp at hp,rfl⟩
  |cons q r ih=>
   intro hsub _;rw [List.map_cons,List.cons_append,cg];by_cases e:q.2.1=t
   ·rw [if_pos e.symm];exact .inl ⟨q,.head _,e,rfl⟩
   ·rw [if_neg (Ne.symm e)];rcases ih (fun p hp=>hsub p (.tail _ hp)) (by by_cases hx:∃ p∈r,p.2.1=t;exact .inl hx;exact .inr fun p hp he=>hx ⟨p,hp,he⟩) with ⟨p,hp,h1,h2⟩ | ⟨h1,h2⟩
    ·exact .inl ⟨p,.tail _ hp,h1,h2⟩
    ·refine .inr ⟨fun p hp=>?_,h2⟩;rcases List.mem_cons.1 hp with rfl | hp2
     ·exact e
     ·exact h1 p hp2
 rcases key T (fun _ hp=>hp) (by by_cases hx:∃ p∈T,p.2.1=t;exact .inl hx;exact .inr fun p hp he=>hx ⟨p,hp,he⟩) with ⟨p,hp,h1,h2⟩ | ⟨h1,h2⟩
 ·rw [h2,←h1];exact h.2.1 p hp (hS p hp)
 ·rw [h2];exact h.1 t h1
theorem oc {id:Nat} (T:List (Nat×Nat×Value)) (Mem:(Nat→Bool)→World→Prop) (hm:P.follows .mixedOrders=true) (hwf:yd l=true) (hU:nt T) (hlt:∀ p∈T,p.1<l.length) (h0:Mem (fun _=>false) { w with drawn:=w.drawn+1 })
 (hstep:yA P n L T Mem 0 l) (hend:∀ w',Mem (fun i=>decide (i<l.length)) w'→Q .normal (mkA n (T.map (fun p=>(p.2.1,p.2.2))++L)) w'):Cd P (.region id l.toArray true) Q n L w:=by
 refine I0 (fun S L' w'=>mN L T S L'∧Mem S w') hm hwf ⟨⟨fun _ _=>rfl,fun _ _ h=>(by cases h),fun _ _ _=>rfl⟩,h0⟩ (fun i o S L' w' ho ⟨hI,hM⟩ hS hE=>?_) fun L' w' ⟨hI,hM⟩=>?_
 ·have:=s3 hstep i o ho S L' w' hI hM (by rw [Nat.zero_add];exact hS) (wy fun e he=>hE e (by simpa using he))
  rwa [Nat.zero_add] at this
 ·have h:=hend w' hM
  have e:mkA n L'=mkA n (T.map (fun p=>(p.2.1,p.2.2))++L):=by
   unfold mkA;rw [te fun t _=>Dw hU hI (fun p hp=>decide_eq_true (hlt p hp)) t]
  rw [e];exact h
theorem xF {t:TypeId} {x y:Operand} {g i:Nat} {u:TypeId} {cs:Array Value} {v:Value} (ht:dK P t=some 1) (hx:ev n L x=.pointer (some ⟨g,i,none⟩)) (hy:ev n L y=v) (h1:v.oneCell'=true) (hb:Blk w g u cs) (hi:i<cs.size) :
 ∃ w',RS P (ev n L) (.store t x y) w w'∧cH g w w'∧Blk w' g u (cs.setIfInBounds i v):=by
 have hc:w.cell? ⟨g,i,none⟩=some (cs[i]'hi):=by rw [hb.cell];simp [hi]
 exact ⟨_,qP ht hx hy h1 hc (hb.frozen i),cH.setCell w g i v,hb.set_ i v⟩
end
end Go.Proofs.YtcbakncjacnnjaaGreat
namespace Go.Proofs.YtcbakncjacnnjaaGreat
open Go.Proofs.Tryz (prog)
open Go.RowKit
def KE (w:World) (base:Nat) (e:TypeId) (A:Option Addr) (n c:Nat) (xs:List Value):Prop:=
 xs.length=n∧n≤c∧c≤maxLen∧∃ g off cs,A=some ⟨g,off,none⟩∧base≤g∧Blk w g e cs∧off+c≤cs.size∧(cs.toList.drop off).take n=xs
section
variable {P:Program} {Q:Exit→Act→World→Prop} {n:Fr} {L:List (Nat×Value)} {w:World} {l:List Oper}
def Jd (P:Program) (n:Fr) (Inv:(Nat→Bool)→List (Nat×Value)→World→Prop):Nat→List Oper→Prop
 |_,[]=>True
 |i,o::r=>(∀ S L' w',Inv S L' w'→S i=false→lD S o.after.toList→oq P n o (Inv (j4 S i)) L' w')∧Jd P n Inv (i+1) r
end
section
variable {P:Program} {ρ:Operand→Value} {w:World} {t:TypeId} {x:Operand} {e g off c n:Nat}
theorem vG {m:Nat} {y:Operand} {k:IntKind} (ht:cN P t=some (e,1)) (hx:ρ x=.slice (some ⟨g,off,none⟩) n c) (hy:ρ y=.int k (m:Nat)) (hm:m≤c):RO P ρ (.slice t x none (some y) none) w (.slice (some ⟨g,off,none⟩) m c) w:=by
 have:=qS (P:=P) (ρ:=ρ) (w:=w) (l:=0) (h:=m) ht (lo:=none) (hi:=some y) hx (.inl ⟨rfl,rfl⟩) (.inr ⟨y,k,rfl,hy⟩) (Nat.zero_le _) hm;simpa using this
theorem CX {m:Nat} {y:Operand} {k:IntKind} (ht:cN P t=some (e,1)) (hx:ρ x=.slice (some ⟨g,off,none⟩) n c) (hy:ρ y=.int k (m:Nat)) (hm:m≤n) (hn:n≤c):RO P ρ (.slice t x (some y) none none) w (.slice (some ⟨g,if c=m then off else off+m,none⟩) (n-m) (c-m)) w:=by
 have:=qS (P:=P) (ρ:=ρ) (w:=w) (l:=m) (h:=n) ht (lo:=some y) (hi:=none) hx (.inr ⟨y,k,rfl,hy⟩) (.inl ⟨rfl,rfl⟩) hm hn;simpa using this
end
theorem xK {P:Program} {ρ:Operand→Value} {w:World} {s x:Operand} {t base:Nat} {A A2:Option Addr} {m j cap c2 e size by_:Nat} {z:Value} {xs news:List Value} (hq:fH P t=some (e,size,by_,z)) (hzs:z.cells.size=size) (hs0:0<size)
 (hs:ρ s=.slice A m cap) (hown:w.ownsRow base e size (.slice A m cap) m xs) (hB:base≤w.heap.size)
 (hx:ρ x=.slice A2 j c2) (hl:news.length=j*size) (hsrc:∃ b o,A2=some ⟨b,o,none⟩∧w.rangeAt b o news) (h1:∀ u∈news,u.oneCell'=true) (h63:m+j≤9223372036854775807) (hby:(m+j)*by_≤140737488355328) :
 ∃ A' cap' w',RO P ρ (.call { callee:=.builtin .append,args:=#[s,x],argTypes:=#[t,t] }) w (.slice A' (m+j) cap') w'∧w'.ownsRow base e size (.slice A' (m+j) cap') (m+j) (xs++news)∧w.grownBy w' (A.map (·.block))∧(A'.map (·.block)=A.map (·.block)∨A'.map (·.block)=some w.heap.size):=by
 obtain ⟨i,hu,hi,hsz,hb,hz⟩:=lY hq;obtain ⟨b,o,rfl,hr⟩:=hsrc;have hobl:∀ (A:Option Addr) (m c:Nat),(Value.slice A m c).ownBlock=A.map (·.block):=fun A m c=>by cases A <;> rfl
 obtain ⟨v',w',hrun,hown',hg,_,h5⟩:=run_append_own_at (P:=P) w base t 0 e i z size by_ hu hi hz hsz hb hzs hs0 _ m xs hown ⟨b,o,none⟩ j c2 news hl (fun i u hu=>by rw [Addr.add_mid];exact hr i u hu) h1 (by unfold maxLen;omega) hby hB;obtain ⟨A',cap',rfl⟩:=nT hown';rw [hobl,hobl] at h5;refine ⟨A',cap',w',fun dst ty pos after g=>?_,hown',by rw [←hobl A m cap];exact hg,h5⟩;have hty:(Builtin.append_ #[t,t] ty #[.slice A m cap,.slice (some ⟨b,o,none⟩) j c2]).run P w=(Builtin.append_ #[t,t] 0 #[.slice A m cap,.slice (some ⟨b,o,none⟩) j c2]).run P w:=rfl;unfold execOp;simp only [resolve,invoke,builtin,Sem.run_bind,Sem.run_pure,Result.andThen_ok,List.map_toArray,List.map_cons,List.map_nil,hs,hx,hty,hrun]
end Go.Proofs.YtcbakncjacnnjaaGreat
namespace Go.Proofs.YtcbakncjacnnjaaGreat
open Go.Proofs.Tryz (prog)
open Go.RowKit Go.ChangeShapes Go.WideShapes Go.ChangeAt
def eP (A B:Option Addr):Prop:=∀ p,A.map (·.block)=some p→∀ q,B.map (·.block)=some q→p≠q
theorem eP.symm {A B:Option Addr} (h:eP A B):eP B A:=fun p hp q hq e=>h q hq p hp e.symm
theorem eP.none_ {B:Option Addr}:eP none B:=fun p hp=>by cases hp
theorem kz {w w':World} {base e s n c:Nat} {A B:Option Addr} {xs:List Value} (h:w.ownsRow base e s (.slice A n c) n xs) (hg:w.grownBy w' (B.map (·.block))) (hne:eP B A):w'.ownsRow base e s (.slice A n c) n xs:=by
 refine ⟨h.1,?_⟩;rcases h.2 with h0 | ⟨g,cap,cur,h1,h2,h3,h4⟩
 ·exact .inl h0
 ·refine .inr ⟨g,cap,cur,h1,h2,?_,h4⟩;simp only [Value.slice.injEq] at h1;obtain ⟨rfl,_,_⟩:=h1
  have hlt:g<w.heap.size:=by
   rcases Nat.lt_or_ge g w.heap.size with a | a
   ·exact a
   ·rw [Array.getElem?_eq_none a] at h3;cases h3
  exact (hg.block g hlt fun e=>hne g e.symm g rfl rfl).trans h3
theorem eP.new {A A' B:Option Addr} {N:Nat} (h:eP A B) (hB:∀ q,B.map (·.block)=some q→q<N) (hL:A'.map (·.block)=A.map (·.block)∨A'.map (·.block)=some N):eP A' B:=fun p hp q hq=>by
 rcases hL with e | e
 ·exact h p (e ▸ hp) q hq
 ·rw [e] at hp;cases hp;have:=hB q hq;omega
theorem eP.fresh {A B:Option Addr} {w:World} {base e s n c:Nat} {xs:List Value} (h:w.ownsRow base e s (.slice A n c) n xs) (hB:∀ q,B.map (·.block)=some q→w.heap.size≤q):eP A B:=fun p hp q hq e=>by
 have h1:=(cd h p hp).2;have h2:=hB q hq;omega
theorem jI {w:World} {base e s n c:Nat} {xs:List Value} (h:w.ownsRow base e s (.slice none n c) n xs):c=0:=by
 rcases h.2 with ⟨h1,_⟩ | ⟨g,cap,cur,hv,_⟩
 ·simp only [Value.slice.injEq] at h1;omega
 ·simp only [Value.slice.injEq] at hv;cases hv.1
theorem oY {w:World} {base e s n c:Nat} {xs:List Value} (h:w.ownsRow base e s (.slice none n c) n xs):n=0:=by
 rcases h.2 with ⟨h1,_⟩ | ⟨g,cap,cur,hv,_⟩
 ·simp only [Value.slice.injEq] at h1;omega
 ·simp only [Value.slice.injEq] at hv;cases hv.1
theorem ft {w:World} {b1 b2 e1 e2 s1 s2 n1 n2 c1 c2:Nat} {A1 A2:Option Addr} {xs1 xs2:List Value} (h1:w.ownsRow b1 e1 s1 (.slice A1 n1 c1) n1 xs1) (h2:w.ownsRow b2 e2 s2 (.slice A2 n2 c2) n2 xs2) (hne:e1≠e2):eP A1 A2:=fun p hp q hq e=>by
 rcases h1.2 with ⟨k1,_⟩ | ⟨g1,cap1,cur1,k1,_,k2,_⟩
 ·simp only [Value.slice.injEq] at k1;rw [k1.1] at hp;cases hp
 ·rcases h2.2 with ⟨j1,_⟩ | ⟨g2,cap2,cur2,j1,_,j2,_⟩
  ·simp only [Value.slice.injEq] at j1;rw [j1.1] at hq;cases hq
  ·simp only [Value.slice.injEq] at k1 j1;rw [k1.1] at hp;rw [j1.1] at hq;cases hp;cases hq;have e:g1=g2:=e;rw [e,j2] at k2;simp only [Option.some.injEq,Obj.cells.injEq] at k2;exact hne k2.2.1.symm
section
variable {P:Program} {ops:Array Oper} {Q:Exit→Act→World→Prop} {rest:List Oper} {n:Fr} {L:List (Nat×Value)} {w:World} {ty:TypeId} {pos:String} {after:Array Edge} {d:Nat} {t:TypeId} {s x y:Operand}
theorem gn {base:Nat} {A A2:Option Addr} {m j cap c2 e size by_:Nat} {z:Value} {xs news:List Value} (hq:fH P t=some (e,size,by_,z)) (hzs:z.cells.size=size) (hs0:0<size)
 (hs:ev n L s=.slice A m cap) (hown:w.ownsRow base e size (.slice A m cap) m xs) (hB:base≤w.heap.size)
 (hx:ev n L x=.slice A2 j c2) (hl:news.length=j*size) (hsrc:∃ b o,A2=some ⟨b,o,none⟩∧w.rangeAt b o news) (h1:∀ u∈news,u.oneCell'=true) (h63:m+j≤9223372036854775807) (hby:(m+j)*by_≤140737488355328)
 (k:∀ A' cap' w',w'.ownsRow base e size (.slice A' (m+j) cap') (m+j) (xs++news)→w.grownBy w' (A.map (·.block))→(A'.map (·.block)=A.map (·.block)∨A'.map (·.block)=some w.heap.size)→St P ops Q rest n ((d,.slice A' (m+j) cap')::L) w') :
 St P ops Q (⟨some d,.call { callee:=.builtin .append,args:=#[s,x],argTypes:=#[t,t] },ty,pos,after,none⟩::rest) n L w:=by
 obtain ⟨A',cap',w',hR,h2,h3,h4⟩:=xK (P:=P) (ρ:=ev n L) (s:=s) (x:=x) (w:=w) hq hzs hs0 hs hown hB hx hl hsrc h1 h63 hby;exact ae hR (k A' cap' w' h2 h3 h4)
theorem AA {e size by_ m base:Nat} {z:Value} {kl kc:IntKind} (hq:fH P t=some (e,size,by_,z)) (hx:ev n L x=.int kl 0) (hy:ev n L y=.int kc (m:Nat)) (hm:m≤9007199254740992) (hb:by_*m≤281474976710656) (hbs:base≤w.heap.size)
 (k:∀ g w',aj w w'→g=w.heap.size→w'.ownsRow base e size (.slice (some ⟨g,0,none⟩) 0 m) 0 []→St P ops Q rest n ((d,.slice (some ⟨g,0,none⟩) 0 m)::L) w'):St P ops Q (⟨some d,.makeSlice t x y,ty,pos,after,none⟩::rest) n L w:=by
 obtain ⟨i,hu,hi,hsz,hby,hz⟩:=lY hq
 have hr:=run_make (P:=P) w t e i z hu hi hz kl kc 0 (m:Int) (by omega) (by omega) (by
  have:((i.bytes*m:Nat):Int)≤281474976710656:=by rw [hby];omega
  rwa [Int.natCast_mul] at this) (by omega)
 rw [Int.toNat_natCast] at hr;refine ae (v:=.slice (some ⟨w.heap.size,0,none⟩) 0 m) (w':=w.alloc (.cells (madeCells z.cells (m*i.size)) e)) (fun _ _ _ _ _=>?_) (k _ _ (aj.rfl_.new _) rfl ⟨by simp,.inr ⟨w.heap.size,m,_,rfl,hbs,heap_alloc_new w _,Nat.zero_le _,by unfold maxLen;omega,by simp [madeCells,hsz],by simp⟩⟩);simp [execOp,hx,hy,hr]
theorem gV {e by_:Nat} {z v z0 z1 u0 u1:Value} (hq:fH P t=some (e,2,by_,z)) (hz:z.cells=#[z0,z1]) (hx:ev n L x=v) (hv:v.cells=#[u0,u1])
 (k:∀ g w',aj w w'→g=w.heap.size→Blk w' g e #[u0,u1]→St P ops Q rest n ((d,.slice (some ⟨g,0,none⟩) 1 1)::L) w'):St P ops Q (⟨some d,.buildSlice t 1 #[(0,x)],ty,pos,after,none⟩::rest) n L w:=by
 refine xB (l:=[(0,x)]) (cells:=#[u0,u1]) hq rfl rfl ?_ k
 have e1:(Array.range (1*2)).map (z.cells[·%z.cells.size]!)=#[z0,z1]:=by
  rw [hz,show Array.range (1*2)=#[0,1] from rfl];simp
 rw [e1];simp [Instr.fill,hx,hv]
end
end Go.Proofs.YtcbakncjacnnjaaGreat
namespace Go.Proofs.YtcbakncjacnnjaaGreat
open Go.Proofs.Tryz (prog)
open Go.RowKit Go.ChangeShapes Go.WideShapes Go.ChangeAt
section
variable {P:Program} {ρ:Operand→Value} {x y:Operand} {t yt:TypeId} {s s':ByteArray} {w:World}
theorem FK (hx:ρ x=.string s) (hy:ρ y=.string s'):RO P ρ (.binOp .lss t x y yt) w (.bool (Op.bytesLess s.toList s'.toList)) w:=
 kg hx hy (by unfold eqGuard;rfl) (by simp [binOp,Op.stringOp])
theorem zr (hx:ρ x=.string s) (hy:ρ y=.string s'):RO P ρ (.binOp .geq t x y yt) w (.bool !(Op.bytesLess s.toList s'.toList)) w:=
 kg hx hy (by unfold eqGuard;rfl) (by simp [binOp,Op.stringOp])
end
theorem HU {s:ByteArray} {i:Nat} (h:i<s.size):∃ u:UInt8,s[((i:Nat):Int).toNat]? =some u∧(txt s).getD i 0=u.toNat+1∧s.toList[i]? =some u:=by
 have h1:i<s.toList.length:=by rw [lQ];exact h
 have h2:s.toList[i]? =some s.toList[i]:=List.getElem?_eq_getElem h1;refine ⟨s.toList[i],?_,?_,h2⟩
 ·rw [Int.toNat_natCast]
  have e:s[i]? =s.toList[i]? :=by
   rw [h2,getElem?_pos s i h]
   congr 1
   simp only [Lib.toList_data,Array.getElem_toList];rfl
  rw [e,h2]
 ·unfold txt;rw [List.getD_eq_getElem?_getD,List.getElem?_map,h2];rfl
def iW (a b:ByteArray):Int:=Lib.compareBytes a.toList b.toList
theorem Eu:∀ {a b:List UInt8},Lib.compareBytes a b<0↔a<b
 |[],[]=>by simp [Lib.compareBytes]
 |[],_::_=>by simp [Lib.compareBytes]
 |_::_,[]=>by simp [Lib.compareBytes]
 |a::r,b::s=>by
  unfold Lib.compareBytes;rw [List.cons_lt_cons_iff];by_cases h:a<b
  ·rw [if_pos h];simp [h]
  ·rw [if_neg h];by_cases k:b<a
   ·rw [if_pos k];have:¬ a=b:=fun e=>by subst e;exact absurd k (by simp)
    simp [h,this]
   ·rw [if_neg k,Eu];have:a=b:=UInt8.le_antisymm (UInt8.not_lt.1 k) (UInt8.not_lt.1 h);simp [this]
theorem Ev:∀ {a b:List UInt8},Lib.compareBytes a b=0↔a=b
 |[],[]=>by simp [Lib.compareBytes]
 |[],_::_=>by simp [Lib.compareBytes]
 |_::_,[]=>by simp [Lib.compareBytes]
 |a::r,b::s=>by
  unfold Lib.compareBytes;by_cases h:a<b
  ·rw [if_pos h];have:¬ a=b:=fun e=>by subst e;exact absurd h (by simp)
   simp [this]
  ·rw [if_neg h];by_cases k:b<a
   ·rw [if_pos k];have:¬ a=b:=fun e=>by subst e;exact absurd k (by simp)
    simp [this]
   ·rw [if_neg k,Ev];have:a=b:=UInt8.le_antisymm (UInt8.not_lt.1 k) (UInt8.not_lt.1 h);simp [this]
theorem ka {a b:ByteArray}:iW a b<0↔sLt a b:=Eu
theorem iO {a b:ByteArray}:iW a b=0↔a=b:=Ev.trans ⟨nG,fun h=>by rw [h]⟩
end Go.Proofs.YtcbakncjacnnjaaGreat
namespace Go.Proofs.YtcbakncjacnnjaaGreat
open Go.Proofs.Tryz (prog)
open Go.RowKit Go.ChangeShapes Go.WideShapes Go.ChangeAt
section
variable {P:Program} {ops:Array Oper} {n:Fr} {L:List (Nat×Value)} {w:World} {ty:TypeId} {pos:String} {after:Array Edge} {x y:Operand} {t:TypeId}
theorem Bb {f:FuncId} {l:List Operand} {caps:List Value} {ats:Array TypeId} {R:Value→World→Prop} {dst:Option Nat} {j:Nat} {b:Bool} (hg:lF ops n L j=.bool b) (hx:ev n L x=.func (.func f) #[] caps.toArray) (hf:az P f=true) (hc:Rt P f (l.map (ev n L)++caps) w fun v w'=>aj w w'∧R v w') :
 al P ops n L ⟨dst,.call { callee:=.value x,args:=l.toArray,argTypes:=ats },ty,pos,after,some (j,b)⟩ w R:=
 .inl ⟨by show (yielded ops (mkT n.n L) j==some b)=true;rw [gD hg];simp,.inr ⟨f,l.map (ev n L)++caps,by rw [nj hx,f_ hf],hc⟩⟩
theorem fD {α:Type} {f:α→List Value} (hf:∀ x,(f x).length=2) (hone:∀ x,∀ u∈f x,u.oneCell'=true) {base e m c g i:Nat} {xs:List α} {d:α} (ht:dK P t=some 2) (hx:ev n L x=.pointer (some ⟨g,0+i*2,none⟩)) (hy:ev n L y=.agg (f d).toArray)
 (ho:w.ownsRow base e 2 (.slice (some ⟨g,0,none⟩) m c) m (xs.flatMap f)) (hi:i<m) :
 ∃ w',RS P (ev n L) (.store t x y) w w'∧cH g w w'∧w'.ownsRow base e 2 (.slice (some ⟨g,0,none⟩) m c) m ((xs.set i d).flatMap f):=by
 have hxl:xs.length=m:=(dg.own hf (by decide) ho).1;have ho':=ho;obtain ⟨g',cur,hA,hg,hbk,h2,h3,h4,h5⟩:=fa ho' (by omega);simp only [Option.some.injEq,Addr.mk.injEq,and_true] at hA;subst hA;rw [Nat.zero_add] at hx;have hv:i*2+(f d).length≤m*2:=by rw [hf];omega
 have hle:m*2≤cur.length:=by rw [h4];exact Nat.mul_le_mul_right _ h2
 refine ⟨_,oQ (by rw [hf];exact ht) hx hy (hone d) (hbk.there (i*2) (f d).length (by simp;omega)),cH.sets (f d) (i*2) w,?_⟩;have:=vT ho (by omega) hv fun cur' hb' hl=>Blk.sets (f d) (i*2) hb' hl
 rwa [o4 hf xs i (by omega)] at this
end
theorem CW {P:Program} {ρ:Operand→Value} {w:World} {t:TypeId} {x:Operand} {e by_:Nat} {z v z0 z1 u0 u1:Value} (hq:fH P t=some (e,2,by_,z)) (hz:z.cells=#[z0,z1]) (hx:ρ x=v) (hv:v.cells=#[u0,u1]):RO P ρ (.buildSlice t 1 #[(0,x)]) w (.slice (some ⟨w.heap.size,0,none⟩) 1 1) (w.alloc (.cells #[u0,u1] e)):=by
 refine qT (l:=[(0,x)]) (cells:=#[u0,u1]) hq rfl rfl ?_
 have e1:(Array.range (1*2)).map (z.cells[·%z.cells.size]!)=#[z0,z1]:=by
  rw [hz,show Array.range (1*2)=#[0,1] from rfl];simp
 rw [e1];simp [Instr.fill,hx,hv]
theorem eU {α:Type} {f:α→List Value} (hf:∀ x,(f x).length=2) {w:World} {base e n c g i:Nat} {xs:List α} (d:α) (h:w.ownsRow base e 2 (.slice (some ⟨g,0,none⟩) n c) n (xs.flatMap f)) (hi:i<n):w.rangeAt g (0+i*2) (f (SM.G d xs i)):=by
 obtain ⟨hl,hr⟩:=dg.own hf (by decide) h;obtain ⟨b,o,e,hc⟩:=hr (by omega);cases e;rw [SM.G_get d (by omega)];exact hc i (by omega)
theorem jk (x:Dc):∀ u∈dV x,u.oneCell'=true:=by simp [dV,Value.oneCell']
theorem fF {α:Type} {f:α→List Value} (hf:∀ x,(f x).length=2) {w:World} {base e n c:Nat} {A:Option Addr} {xs:List α} (h:w.ownsRow base e 2 (.slice A n c) n (xs.flatMap f)):xs.length=n:=(dg.own hf (by decide) h).1
theorem pM {a b:Dc}:(iW a.1 b.1<0)↔ltD a b:=ka
end Go.Proofs.YtcbakncjacnnjaaGreat
namespace Go.Proofs.YtcbakncjacnnjaaGreat
open Go.Proofs.Tryz (prog)
open Go.RowKit
theorem xx {a b:ByteArray}:a.toList=b.toList↔a=b:=⟨nG,fun h=>by rw [h]⟩
theorem Kp (a b:Ht) (w:World):(Op.equalIn 10000 57 (.agg (hV a).toArray) (.agg (hV b).toArray)).run prog w=.ok (decide (a=b)) w:=by
 have u3:=Tryz.underlying3;have a3:=Tryz.isAgg3;have z3:=Tryz.sizeOf3;have u9:=Tryz.underlying9;have a9:=Tryz.isAgg9;have z9:=Tryz.sizeOf9;have hS:prog.underlying 57=some (.struct (prog.fieldsOf 57)):=by kernel_rfl
 have hp:prog.stoodInHeld 57=false:=by kernel_rfl
 obtain ⟨a1,a2⟩:=a;obtain ⟨b1,b2⟩:=b;show (Op.equalIn 10000 57 (.agg #[.string a1,.int .i64 a2]) (.agg #[.string b1,.int .i64 b2])).run prog w=_;rw [show (10000:Nat)=9999+1 from rfl,run_equalIn_agg w 9999 57 _ _ hS hp];simp only [Program.fieldsOf,Tryz.underlying57 ]
 go_simp
 simp only [xx];by_cases h1:a1=b1 <;> by_cases h2:a2=b2 <;> simp [h1,h2]
section
variable {ρ:Operand→Value} {w:World} {yt:TypeId} {x y:Operand}
theorem vH {a b:Ht} (hx:ρ x=.agg (hV a).toArray) (hy:ρ y=.agg (hV b).toArray):RO prog ρ (.binOp .neq 57 x y yt) w (.bool (!decide (a=b))) w:=by
 refine kg hx hy (run_eqGuard_agg w _ _ _ _ _ _ (by kernel_rfl)) ?_;rw [run_neq_struct,Kp];rfl
end
end Go.Proofs.YtcbakncjacnnjaaGreat
namespace Go.Proofs.YtcbakncjacnnjaaGreat
open Go.Proofs.Tryz (prog)
open Go.RowKit Go.ChangeShapes Go.WideShapes Go.ChangeAt
section
variable {P:Program} {ρ:Operand→Value} {x:Operand} {t:TypeId} {s:ByteArray} {w:World}
theorem FM {lo hi:Option Operand} {l h:Nat} (ht:P.underlying t=some .string) (hx:ρ x=.string s) (hl:(lo=none∧l=0)∨∃ y k i,lo=some y∧ρ y=.int k i∧i=(l:Int)) (hh:(hi=none∧h=s.size)∨∃ y k i,hi=some y∧ρ y=.int k i∧i=(h:Int)) (h1:l≤h) (h2:h≤s.size) :
 RO P ρ (.slice t x lo hi none) w (.string (s.extract l h)) w:=fun _ _ _ _ _=>by
 have e:∀ (lo hi:Option Value),((lo=none∧l=0)∨∃ k,lo=some (.int k (l:Nat)))→((hi=none∧h=s.size)∨∃ k,hi=some (.int k (h:Nat)))→(Instr.sliceAt t (.string s) lo hi none).run P w=.ok (.string (s.extract l h)) w:=by
  intro lo hi hl hh;rw [run_sliceAt_string w t _ _ _ _ ht];have c1:0≤((h:Nat):Int)∧((h:Nat):Int)≤s.size:=⟨by omega,by omega⟩;have c2:0≤((l:Nat):Int)∧((l:Nat):Int)≤h:=⟨by omega,by omega⟩;rcases hl with ⟨rfl,rfl⟩ | ⟨k1,rfl⟩ <;> rcases hh with ⟨rfl,rfl⟩ | ⟨k2,rfl⟩
  ·simp [Instr.slice,Instr.sliceBounds,run_underlying ht]
  ·simp [Instr.slice,Instr.sliceBounds,Instr.sliceBound,asIntOf,run_underlying ht,h2]
  ·simp [Instr.slice,Instr.sliceBounds,Instr.sliceBound,asIntOf,run_underlying ht,h1]
  ·simp [Instr.slice,Instr.sliceBounds,Instr.sliceBound,asIntOf,run_underlying ht,h1,h2]
 rcases hl with ⟨rfl,rfl⟩ | ⟨y1,k1,_,rfl,hy1,rfl⟩ <;> rcases hh with ⟨rfl,rfl⟩ | ⟨y2,k2,_,rfl,hy2,rfl⟩
 ·simp only [execOp,hx,Option.map_none,Sem.run_bind];rw [e _ _ (.inl ⟨rfl,rfl⟩) (.inl ⟨rfl,rfl⟩)];rfl
 ·simp only [execOp,hx,hy2,Option.map_none,Option.map_some,Sem.run_bind];rw [e _ _ (.inl ⟨rfl,rfl⟩) (.inr ⟨_,rfl⟩)];rfl
 ·simp only [execOp,hx,hy1,Option.map_none,Option.map_some,Sem.run_bind];rw [e _ _ (.inr ⟨_,rfl⟩) (.inl ⟨rfl,rfl⟩)];rfl
 ·simp only [execOp,hx,hy1,hy2,Option.map_none,Option.map_some,Sem.run_bind];rw [e _ _ (.inr ⟨_,rfl⟩) (.inr ⟨_,rfl⟩)];rfl
end
theorem rG {s:ByteArray} {l h:Nat}:(s.extract l h).toList=(s.toList.drop l).take (h-l):=by
 simp only [Lib.toList_data,ByteArray.data_extract,Array.toList_extract,List.extract_eq_take_drop]
theorem nP {α:Type} [BEq α] [LawfulBEq α] {q L:List α}:q.isPrefixOf L=true↔L.take q.length=q:=by
 rw [List.isPrefixOf_iff_prefix,List.prefix_iff_eq_take];exact ⟨fun h=>h.symm,fun h=>h.symm⟩
theorem nX {α β:Type} {f:α→β} (hf:∀ a b,f a=f b→a=b):∀ {x y:List α},x.map f=y.map f→x=y
 |[],[],_=>rfl
 |[],_::_,h=>by cases h
 |_::_,[],h=>by cases h
 |a::x,b::y,h=>by
  simp only [List.map_cons,List.cons.injEq] at h;rw [hf a b h.1,nX hf h.2]
theorem G2 {t p:ByteArray} {k:Nat}:((t.extract k (k+p.size)).toList==p.toList)=(txt p).isPrefixOf ((txt t).drop k):=by
 rw [Bool.eq_iff_iff,beq_iff_eq,nP,eo,rG,Nat.add_sub_cancel_left];unfold txt;rw [←List.map_drop,←List.map_take];exact ⟨fun h=>by rw [h],fun h=>nX (fun a b e=>UInt8.toNat_inj.1 (by omega)) h⟩
def k9 (t q:List Nat) (k:Nat):List Nat:=(List.range k).filter fun i=>q.isPrefixOf (t.drop i)
theorem DE {t q:List Nat} {k:Nat} (h:q.isPrefixOf (t.drop k)=true):k9 t q (k+1)=k9 t q k++[k]:=by
 unfold k9;rw [List.range_succ,List.filter_append,List.filter_cons_of_pos (by simpa using h)];rfl
theorem zH {t q:List Nat} {k:Nat} (h:q.isPrefixOf (t.drop k)=false):k9 t q (k+1)=k9 t q k:=by
 unfold k9;rw [List.range_succ,List.filter_append,List.filter_cons_of_neg (by simp [h])];simp
theorem pg {t q:List Nat} (h0:q≠[]):∀ d,k9 t q (t.length+1-q.length+d)=k9 t q (t.length+1-q.length)
 |0=>rfl
 |d+1=>by
  rw [←Nat.add_assoc,zH,pg h0 d];rw [←Bool.not_eq_true];intro h;have h1:=(List.isPrefixOf_iff_prefix.1 h).length_le;have h2:=List.length_pos_iff.2 h0;rw [List.length_drop] at h1;omega
theorem JH {t q:List Nat} {k:Nat} (h0:q≠[]) (h:t.length+1-q.length≤k) (hk:k≤t.length+1):ks t q=k9 t q k:=by
 have e1:=pg (t:=t) h0 (k-(t.length+1-q.length));have e2:=pg (t:=t) h0 (t.length+1-(t.length+1-q.length));rw [show t.length+1-q.length+(k-(t.length+1-q.length))=k by omega] at e1;rw [show t.length+1-q.length+(t.length+1-(t.length+1-q.length))=t.length+1 by omega] at e2;rw [e1,←e2];rfl
theorem zI {t q:List Nat} {k:Nat}:(k9 t q k).length≤k:=by
 have:=List.length_filter_le (fun i=>q.isPrefixOf (t.drop i)) (List.range k);rw [List.length_range] at this;exact this
theorem tZ {p:ByteArray}:∀ ds:List Dc,(eg ds p).length≤dsz ds+ds.length
 |[]=>Nat.zero_le _
 |d::ds=>by
  have h1:(ks (txt d.2) (txt p)).length≤(txt d.2).length+1:=zI;have:=tZ (p:=p) ds;rw [eo] at h1;rw [eg,List.length_append,List.length_map,dsz,List.length_cons];omega
abbrev wB:Ty:=.pr .str (.pr .str .unit)
def Small (s:ByteArray):Prop:=s.size≤140737488351232
theorem G9 {w:World} {c:Nat→Option Value} {xs:List (ByteArray×ByteArray×Unit)} (h:(Ty.sl wB).At w c xs):∃ (A:Option Addr) (cap:Nat) (ds:List Dc),c 0=some (.slice A ds.length cap)∧dg 2 dV w A ds∧(∀ d∈ds,Small d.1∧Small d.2)∧ds.length*32≤140737488351232∧ds.length≤cap∧(A=none→cap=0):=by
 obtain ⟨A,cap,h0,h1,h2,h3⟩:=h;have hl:(List.map (fun x:ByteArray×ByteArray×Unit=>((x.1,x.2.1):Dc)) xs).length=List.length xs:=List.length_map _;refine ⟨A,cap,List.map (fun x:ByteArray×ByteArray×Unit=>((x.1,x.2.1):Dc)) xs,by rw [hl];exact h0,fun hp=>?_,fun d hd=>?_,by rw [hl];exact h1,by rw [hl];exact h2.1,h2.2.2⟩
 ·rw [hl] at hp;obtain ⟨b,o,hA,_,hi⟩:=h3 hp;refine ⟨b,o,hA,fun i hlt=>?_⟩;have hlt2:i<List.length xs:=by rwa [hl] at hlt
  obtain ⟨⟨c1,_⟩,⟨c2,_⟩,_⟩:=hi i _ (List.getElem?_eq_getElem hlt2);rw [List.getElem_map];intro j v hv
  match j,hv with
  |0,hv=>simp [dV] at hv;subst hv;simpa [Ty.size] using c1
  |1,hv=>simp [dV] at hv;subst hv;simpa [Ty.size] using c2
  |j+2,hv=>simp [dV] at hv
 ·obtain ⟨x,hx,rfl⟩:=List.mem_map.1 hd;obtain ⟨i,hi,rfl⟩:=List.getElem_of_mem hx;obtain ⟨b,o,hA,_,hh⟩:=h3 (Nat.lt_of_le_of_lt (Nat.zero_le _) hi);obtain ⟨⟨_,c1⟩,⟨_,c2⟩,_⟩:=hh i _ (List.getElem?_eq_getElem hi);exact ⟨c1,c2⟩
end Go.Proofs.YtcbakncjacnnjaaGreat
namespace Go.Proofs.YtcbakncjacnnjaaGreat
open Go.Proofs.Tryz (prog)
open Go.RowKit
open Go.ChangeShapes Go.WideShapes Go.ChangeAt
theorem yH:az prog 136=true:=by kernel_rfl
theorem mK:(cN prog 64).isSome=true:=by kernel_rfl
theorem dP:(prog.underlying 3).isSome=true:=by kernel_rfl
theorem fS:prog.underlying 67=some (.int .u64):=by kernel_rfl
theorem gQ:(prog.underlying 67).isSome=true:=by kernel_rfl
theorem eK:prog.underlying 3=some (.int .i64):=by kernel_rfl
theorem db:cN prog 64=some (9,1):=by kernel_rfl
theorem bC:fp prog 9=some false:=by kernel_rfl
theorem B0:az prog 97=true:=by kernel_rfl
theorem BZ:az prog 98=true:=by kernel_rfl
theorem bK:fp prog 37=some true:=by kernel_rfl
theorem bh:dK prog 37=some 2:=by kernel_rfl
theorem fv:fH prog 22=some (37,2,32,(.agg #[.string ⟨#[]⟩,.string ⟨#[]⟩])):=by kernel_rfl
theorem aT:cN prog 22=some (37,2):=by kernel_rfl
theorem bG:(cN prog 22).isSome=true:=by kernel_rfl
theorem yJ:az prog 101=true:=by kernel_rfl
theorem jB:lN prog 37=some (.agg #[.string ⟨#[]⟩,.string ⟨#[]⟩]):=by kernel_rfl
theorem gR:fp prog 57=some true:=by kernel_rfl
theorem fu:dK prog 57=some 2:=by kernel_rfl
theorem eY:fH prog 44=some (57,2,24,(.agg #[.string ⟨#[]⟩,.int .i64 0])):=by kernel_rfl
theorem fT:cN prog 44=some (57,2):=by kernel_rfl
theorem fw:(cN prog 44).isSome=true:=by kernel_rfl
theorem yI:az prog 104=true:=by kernel_rfl
theorem BY:lN prog 57=some (.agg #[.string ⟨#[]⟩,.int .i64 0]):=by kernel_rfl
theorem pw:fH prog 64=some (9,1,16,(.string ⟨#[]⟩)):=by kernel_rfl
theorem eX:fH prog 61=some (66,2,32,(.agg #[.pointer none,.slice none 0 0])):=by kernel_rfl
theorem cq:cN prog 61=some (66,2):=by kernel_rfl
theorem cU:(cN prog 61).isSome=true:=by kernel_rfl
theorem BX:prog.underlying 44=some (.slice 57):=by kernel_rfl
theorem Gn (s:ByteArray) (w:World) :
 Rt prog 136 [.string s] w (fun v w'=>v=.bool false∧w=w'):=by
 refine enter (n:=6) Tryz.func136 rfl rfl rfl (af (aa (asb rfl (ah (ab (af (aa (mvg rfl (mvg rfl (ae (dS (zp rfl rfl) (by rw [beq_self_eq_true];rfl)) ?_))))))))));refine asb rfl (ah (ab (ay (bE (v:=.bool _) rfl rfl (⟨rfl,rfl⟩)))))
theorem Gm (s:ByteArray) (w:World) :
 Rt prog 98 [.string s] w (fun v w'=>v=.bool false∧w=w'):=by
 refine enter (n:=6) Tryz.func98 rfl rfl rfl (af (aa (asb rfl (ah (ab (af (aa (mvg rfl (mvg rfl (ae (dS (zp rfl rfl) (by rw [beq_self_eq_true];rfl)) ?_))))))))));refine asb rfl (ah (ab (ay (bE (v:=.bool _) rfl rfl (⟨rfl,rfl⟩)))))
theorem Gz (a b:ByteArray) (w:World) :
 Rt prog 97 [.string a,.string b] w (fun v w'=>v=.bool (Op.bytesLess a.toList b.toList)∧w=w'):=by
 refine enter (n:=17) Tryz.func97 rfl rfl rfl (af (aa (asb rfl (ah (ab (af (aa (mvg rfl (aF yH (Gn a _) ?_)))))))));rintro v6 w1 ⟨rfl,rfl⟩;refine mvb rfl (aL rfl rfl (aL rfl rfl (aL rfl rfl (ae (bk (v:=.bool _) rfl rfl) (mvb rfl (ao rfl (mvg rfl (ao rfl ?_))))))));refine mvg rfl (ao rfl (ae (FK rfl rfl) (ae (bk (v:=.bool _) rfl rfl) (asb rfl (ah (ab (ay (bE (v:=.bool _) rfl rfl (⟨rfl,rfl⟩)))))))))
theorem zf (A:Option Addr) (c n:Nat) (ss:List ByteArray) (w:World) (hr:bA Value.string w A ss) (hn:n=ss.length) (hl:n≤100000000) (id:ByteArray) (hO:SO ss) :
 Rt prog 69 [.slice A n c,.string id] w (fun v w'=>(∃ (i:Nat) (fd:Bool),v=.tuple #[.int .i64 (i:Nat),.bool fd]∧i≤n∧(∀ x,x<i→sLt (sAt ss x) id)∧(∀ x,i≤x→x<n→¬ sLt (sAt ss x) id)∧(fd=true↔i<n∧sAt ss i=id))∧aj w w'):=by
 refine enter (n:=54) Tryz.func69 rfl rfl rfl (af (aa (asi rfl (asb rfl (ah (ab (af (aa (mvs rfl (ae (aQ mK rfl) (asi rfl (ah (ab (af (aa ?_)))))))))))))));refine mvi rfl (asi rfl (asi rfl (ah (ab (af (aw (a_ (G:=Nat×Nat) [9,13,14,15,16,17,18,19,20,21,22,23,24,25,26,27,28,29,30] (fun (i,j)=>[(7,.int .i64 (i:Nat)),(8,.int .i64 (j:Nat))]) (fun (i,j) w'=>i≤j∧j≤n∧(∀ x,x<i→sLt (sAt ss x) id)∧(∀ x,j≤x→x<n→¬ sLt (sAt ss x) id)∧aj w w') (fun (i,j)=>j-i) ((0,n)) ⟨rfl,rfl,trivial⟩ ?_ ?_)))))))
 ·exact ⟨Nat.zero_le _,Nat.le_refl _,fun x h=>absurd h (by omega),fun x h1 h2=>absurd h1 (by omega),aj.rfl_⟩
 rintro ⟨i,j⟩ ρ1 w1 ⟨hij,hjn,hlo,hhi,hB⟩;refine af (af (aa (mvi rfl (mvi rfl (ae (aW rfl rfl) (ah (ab (JV rfl (fun Q2=>?_) (fun Q2=>?_)))))))))
 ·obtain ⟨bd,od,rfl,hcd⟩:=hr (by omega);refine av (ab (aw (af (aa (mvi rfl (mvi rfl (ae (aG rfl rfl (by omega)) ?_)))))));obtain ⟨h,hh⟩:∃ h,h=(i+j)/2 ^ 1:=⟨_,rfl⟩;refine ae (fq dP fS rfl (by omega)) (ae (ep (b:=1) rfl rfl (by decide)) (ae (ef gQ eK rfl (by omega)) (dh (t:=21) (v:=.int _ _) (v':=.int .i64 (h:Nat)) rfl (by rw [hh]) ?_)));refine asi rfl (ah (ab (af (aa (mvs rfl (mvi rfl (ae (aX db rfl rfl (by omega)) ?_)))))));refine ae (an bC rfl (by have h2:=hcd h (by omega);rw [←jc (show h<ss.length by omega)] at h2;exact bx hB h2)) ?_;refine mvg rfl (aF B0 (Gz (sAt ss h) id _) ?_);rintro v27 w3 ⟨rfl,rfl⟩;refine ah (ab (au rfl (fun Q4=>?_) (fun Q4=>?_)))
  ·have hlt:sLt (sAt ss h) id:=(mq _ _).1 Q4;refine aa (mvi rfl (ae (aG (b:=1) rfl rfl (by omega)) (asi rfl (ah (aI ?_)))));refine aO ((h+1,j)) ⟨(by first | rfl | (refine aK ?_;omega)),(by first | rfl | (refine aK ?_;omega)),trivial⟩ (by (iterate 41 refine aB rfl ?_);exact aJ) ⟨?_,?_⟩
   ·exact ⟨by omega,hjn,fun x hx=>by
     rcases Nat.eq_or_lt_of_le (Nat.le_of_lt_succ hx) with e | e
     ·subst e;exact hlt
     ·exact dQ (hO.at x h e (by omega)) hlt,hhi,hB⟩
   ·show j-(h+1)<j-i;omega
  have hnl:¬ sLt (sAt ss h) id:=fun h9=>by
   have h8:=(mq _ _).2 h9
   simp_all
  refine aa (mvi rfl (asi rfl (ah (aI ?_))));refine aO ((i,h)) ⟨(by first | rfl | (refine aK ?_;omega)),(by first | rfl | (refine aK ?_;omega)),trivial⟩ (by (iterate 40 refine aB rfl ?_);exact aJ) ⟨?_,?_⟩
  ·exact ⟨by omega,by omega,hlo,fun x h1 h2=>by
    rcases Nat.eq_or_lt_of_le h1 with e | e
    ·subst e;exact hnl
    ·exact fun h9=>hnl (dQ (hO.at h x e (by omega)) h9),hB⟩
  ·show h-i<j-i;omega
 refine bc (aC (aC (aS (ab (af (aa (mvi rfl (mvi rfl (mvi rfl (ae (aW rfl rfl) (mvb rfl (Jk (t:=35) rfl (fun Q5=>?_) (fun Q5=>?_)))))))))))))
 ·obtain ⟨bd,od,rfl,hcd⟩:=hr (by omega);refine ao rfl (mvs rfl (ao rfl (mvi rfl (ao rfl (ae (aX db rfl rfl (by omega)) (ao rfl ?_))))));refine ae (an bC rfl (by have h2:=hcd i (by omega);rw [←jc (show i<ss.length by omega)] at h2;exact bx hB h2)) ?_;refine ao rfl (mvg rfl (ao rfl (ae (qm rfl rfl) (ao rfl (mvb rfl (Jj (t:=42) rfl (fun Q6=>?_) (fun Q6=>?_)))))))
  ·refine aL rfl rfl (aL rfl rfl (aL rfl rfl (aL rfl rfl (aL rfl rfl (aL rfl rfl (gW rfl (gW rfl (aL rfl rfl ?_))))))));refine ao rfl (ae (bB (v:=.bool _) rfl rfl) (ae (bB (v:=.bool _) rfl rfl) (asi rfl (asb rfl (ah (ab (ay (cV (v:=.int _ _) (v':=.bool _) rfl rfl rfl ?_))))))));obtain rfl:i=j:=by omega
   refine ⟨⟨i,_,rfl,hjn,hlo,hhi,?_⟩,hB⟩
   first
    |exact ⟨fun h9=>⟨by omega,fB.1 h9⟩,fun h9=>fB.2 h9.2⟩
    |(refine ⟨fun h9=>⟨by omega,?_⟩,fun h9=>?_⟩ <;> first | (exact fB.1 (by simp_all)) | (have h8:=fB.2 h9.2;simp_all))
    |exact ⟨fun h9=>(by cases h9),fun h9=>absurd h9.1 (by omega)⟩
  refine ao rfl (mvs rfl (ao rfl (mvi rfl (ao rfl (ae (aX db rfl rfl (by omega)) (ao rfl ?_))))));refine ae (an bC rfl (by have h2:=hcd i (by omega);rw [←jc (show i<ss.length by omega)] at h2;exact bx hB h2)) ?_;refine ao rfl (aF BZ (Gm _ _) ?_);rintro v47 w7 ⟨rfl,rfl⟩;refine ao rfl (mvb rfl (aL rfl rfl (aL rfl rfl (ao rfl (ae (bk (v:=.bool _) rfl rfl) (ao rfl (ae (bk (v:=.bool _) rfl rfl) (ae (bB (v:=.bool _) rfl rfl) ?_))))))));refine asi rfl (asb rfl (ah (ab (ay (cV (v:=.int _ _) (v':=.bool _) rfl rfl rfl ?_)))));obtain rfl:i=j:=by omega
  refine ⟨⟨i,_,rfl,hjn,hlo,hhi,?_⟩,hB⟩
  first
   |exact ⟨fun h9=>⟨by omega,fB.1 h9⟩,fun h9=>fB.2 h9.2⟩
   |(refine ⟨fun h9=>⟨by omega,?_⟩,fun h9=>?_⟩ <;> first | (exact fB.1 (by simp_all)) | (have h8:=fB.2 h9.2;simp_all))
   |exact ⟨fun h9=>(by cases h9),fun h9=>absurd h9.1 (by omega)⟩
 refine aL rfl rfl (aL rfl rfl (aL rfl rfl (aL rfl rfl (aL rfl rfl (aL rfl rfl (aL rfl rfl (gW rfl (gW rfl ?_))))))));refine gW rfl (gW rfl (gW rfl (gW rfl (gW rfl (gW rfl (gW rfl (aL rfl rfl (ae (bk (v:=.bool _) rfl rfl) ?_))))))));refine asi rfl (asb rfl (ah (ab (ay (cV (v:=.int _ _) (v':=.bool _) rfl rfl rfl ?_)))));obtain rfl:i=j:=by omega
 refine ⟨⟨i,_,rfl,hjn,hlo,hhi,?_⟩,hB⟩
 first
  |exact ⟨fun h9=>⟨by omega,fB.1 h9⟩,fun h9=>fB.2 h9.2⟩
  |(refine ⟨fun h9=>⟨by omega,?_⟩,fun h9=>?_⟩ <;> first | (exact fB.1 (by simp_all)) | (have h8:=fB.2 h9.2;simp_all))
  |exact ⟨fun h9=>(by cases h9),fun h9=>absurd h9.1 (by omega)⟩
section
variable {α:Type} {np:α→Bool} {xs ys:List α} {i j:Nat}
theorem zX (hj:j<xs.length) (h1:ys.take i=(xs.take j).filter np) (h2:ys.drop j=xs.drop j) (hp:np xs[j]=false):ys.take i=(xs.take (j+1)).filter np∧ys.drop (j+1)=xs.drop (j+1):=by
 constructor
 ·rw [List.take_succ_eq_append_getElem hj,List.filter_append,List.filter_cons,if_neg (by simp [hp]),List.filter_nil,List.append_nil];exact h1
 ·rw [←List.drop_drop,h2,List.drop_drop]
theorem zW (hij:i<j) (hj:j<xs.length) (hl:ys.length=xs.length) (h1:ys.take i=(xs.take j).filter np) (h2:ys.drop j=xs.drop j) (hp:np xs[j]=true):(ys.set i xs[j]).take (i+1)=(xs.take (j+1)).filter np∧(ys.set i xs[j]).drop (j+1)=xs.drop (j+1):=by
 constructor
 ·rw [List.take_succ_eq_append_getElem hj,List.filter_append,List.filter_cons,if_pos hp,List.filter_nil,←h1];rw [List.take_succ_eq_append_getElem (by rw [List.length_set];omega),List.getElem_set_self,List.take_set,List.set_eq_of_length_le (by rw [List.length_take];omega)]
 ·rw [List.drop_set_of_lt (by omega),←List.drop_drop,h2,List.drop_drop]
theorem HH (hj:j<xs.length) (hl:ys.length=xs.length) (h2:ys.drop j=xs.drop j) (d:α):SM.G d ys j=xs[j]:=by
 rw [SM.G_get d (by omega)];have e:(ys.drop j)[0]? =(xs.drop j)[0]? :=by rw [h2]
 rw [List.getElem?_drop,List.getElem?_drop,Nat.add_zero,List.getElem?_eq_getElem (by omega),List.getElem?_eq_getElem hj] at e;exact Option.some.inj e
theorem wD {p:α→Bool} (d:α) (hi:i<xs.length) (hp:p (SM.G d xs i)=true) (hno:∀ k,k<i→p (SM.G d xs k)=false):xs.take i=(xs.take (i+1)).filter fun x=> !p x:=by
 rw [List.take_succ_eq_append_getElem hi,List.filter_append,List.filter_cons,if_neg (by rw [SM.G_get d hi] at hp;simp [hp]),List.filter_nil,List.append_nil];refine (List.filter_eq_self.2 fun x hx=>?_).symm;obtain ⟨k,hk,rfl⟩:=List.getElem_of_mem hx;rw [List.length_take] at hk;rw [List.getElem_take];have:=hno k (by omega);rw [SM.G_get d (by omega)] at this;simp [this]
end
def Hz:Ht:=(⟨#[]⟩,0)
theorem GP (x:Ht):∀ u∈hV x,u.oneCell'=true:=by simp [hV,Value.oneCell']
theorem Bu (fid:FuncId) (caps:List Value) (p:Dc→Bool) (hcal:az prog fid=true) (A:Option Addr) (c n:Nat) (l:List Dc) (w:World) (hr:dg 2 dV w A l) (hn:n=l.length) (hl:n≤100000000) (hp:∀ w' x,x∈l→aj w w'→Rt prog fid (.agg (dV x).toArray::caps) w' fun v w''=>v=.bool (p x)∧aj w' w'') :
 Rt prog 101 [.slice A n c,.func (.func fid) #[] caps.toArray] w (fun v w'=>((∃ i:Nat,v=.int .i64 (i:Nat)∧i<n∧p (SM.G Dz l i)=true∧∀ k,k<i→p (SM.G Dz l k)=false)∨(v=.int .i64 (-1)∧∀ k,k<n→p (SM.G Dz l k)=false))∧aj w w'):=by
 refine enter (n:=19) Tryz.func101 rfl rfl rfl (af (aa (asi rfl (ah (ab (af (af (aa (mvs rfl (ae (aQ bG rfl) (mvi rfl (ah (ab (aw (a_ (G:=Nat) [4,5,9,10,11,12,13,14,15,16,17,18] (fun i=>[(8,.int .i64 (i:Nat))]) (fun i w'=>i≤n∧(∀ k,k<i→p (SM.G Dz l k)=false)∧aj w w') (fun i=>n-i) (0) ⟨rfl,trivial⟩ ?_ ?_)))))))))))))))
 ·exact ⟨Nat.zero_le _,fun k h=>absurd h (by omega),aj.rfl_⟩
 rintro i ρ1 w1 ⟨hi,hno,hB⟩;refine af (aa (ae (aW rfl rfl) (ah (ab (af (JV rfl (fun Q2=>?_) (fun Q2=>?_)))))))
 ·obtain ⟨bd,od,rfl,hcd⟩:=hr (by omega);have hil:i<l.length:=by omega
  have hmem:SM.G Dz l i∈l:=by rw [SM.G_get Dz hil];exact List.getElem_mem hil
  have hce:=hcd i hil;rw [←SM.G_get Dz hil] at hce;refine av (ab (af (aw (af (aa (mvi rfl (asi rfl (ah (ab (af (aa (ae (aq (v:=.func _ _ _) rfl) (mvs rfl (mvi rfl (ae (aM aT rfl rfl (by omega)) (ae (bn (cs:=[_,_]) bK bh rfl (by exact du hB hce)) ?_))))))))))))))));refine fh (l:=[.tmp 15]) (caps:=caps) rfl hcal (hp _ (SM.G Dz l i) hmem hB) ?_;rintro v16 w3 ⟨rfl,E16⟩;refine ah (ab (au rfl (fun Q4=>?_) (fun Q4=>?_)))
  ·refine af (aa (mvi rfl (asi rfl (ah (ab (ay (bj (aD (aD (bj (aD (bE (v:=.int _ _) rfl rfl (⟨.inl ⟨i,rfl,by omega,by simp_all,hno⟩,(hB.next E16)⟩)))))))))))))
  refine av (aI (ab (aa (ae (aG (b:=1) rfl rfl (by omega)) (mvi rfl (ah ?_))))));refine aO (i+1) ⟨(by first | rfl | (refine aK ?_;omega)),trivial⟩ (by (iterate 24 refine aB rfl ?_);exact aJ) ⟨?_,?_⟩
  ·exact ⟨by omega,fun k hk=>by
    rcases Nat.eq_or_lt_of_le (Nat.le_of_lt_succ hk) with e | e
    ·subst e;simp_all
    ·exact hno k e,(hB.next E16)⟩
  ·show n-(i+1)<n-i;omega
 refine bc (aC (aC (aS (ab (af (aa (asi rfl (ah (ab (ay (bE (v:=.int _ _) rfl rfl (⟨.inr ⟨rfl,fun k hk=>hno k (by omega)⟩,hB⟩))))))))))))
theorem wF (fid:FuncId) (caps:List Value) (p:Dc→Bool) (hcal:az prog fid=true) (base:Nat) (A:Option Addr) (c n:Nat) (xs:List Dc) (w:World) (ho:w.ownsRow base 37 2 (.slice A n c) n (xs.flatMap dV)) (hl:n≤100000000) (hp:∀ w' x,x∈xs→w.grownBy w' (A.map (·.block))→Rt prog fid (.agg (dV x).toArray::caps) w' fun v w''=>v=.bool (p x)∧aj w' w'') :
 Rt prog 71 [.slice A n c,.func (.func fid) #[] caps.toArray] w (fun v w'=>(∃ A' c' m,v=.slice A' m c'∧m=(xs.filter fun x=> !p x).length∧w'.ownsRow base 37 2 (.slice A' m c') m ((xs.filter fun x=> !p x).flatMap dV))∧w.grownBy w' (A.map (·.block))):=by
 have hxl:xs.length=n:=fF bz ho;refine enter (n:=42) Tryz.func71 rfl rfl rfl (af (aa (ass rfl (ah (ab (af (aa (mvs rfl (ae (aq (v:=.func _ _ _) rfl) (aF yJ (Bu fid caps p hcal A c n xs _ (dg.own bz (by decide) ho).2 hxl.symm hl (fun w2 x hx hF=>hp w2 x hx (hF.grown _))) ?_))))))))));rintro v10 w1 ⟨hi10,E10⟩;rcases hi10 with ⟨i,rfl,hin,hpi,hno⟩ | ⟨rfl,hall⟩
 ·obtain ⟨g,rfl⟩:=dm ho (by omega);refine asi rfl (ah (ab (af (af (aa (mvi rfl (ae (cx rfl rfl) (ah (ab (JV rfl (fun Q2=>?_) (fun Q2=>?_)))))))))))
  ·exfalso;omega
  refine av (ab (af (af (aa (mvi rfl (ae (aG (b:=1) rfl rfl (by omega)) (asi rfl (ah (ab (aw (a_ (G:=Nat×Nat×List Dc) [7,16,17,18,19,20,21,22,23,24,25,26,27,28,29,30,31,32,33,34,35] (fun (i,j,_)=>[(5,.int .i64 (i:Nat)),(6,.int .i64 (j:Nat))]) (fun (i,j,ys) w'=>i<j∧j≤n∧w'.ownsRow base 37 2 (.slice (some ⟨g,0,none⟩) n c) n (List.flatMap dV ys)∧w.grownBy w' (some g)∧ys.length=xs.length∧ys.take i=(xs.take j).filter (fun x=> !p x)∧ys.drop j=xs.drop j) (fun (_,j,_)=>n-j) ((i,i+1,xs)) ⟨rfl,rfl,trivial⟩ ?_ ?_)))))))))))
  ·exact ⟨by omega,by omega,ho.kept_from (aj.rfl_.next E10),((aj.rfl_.next E10)).grown _,rfl,wD Dz (by omega) hpi hno,rfl⟩
  rintro ⟨i,j,ys⟩ ρ3 w3 ⟨hij,hjn,hoy,hG,hyl,htk,hdr⟩;refine af (af (aa (mvi rfl (mvs rfl (ae (aQ bG rfl) (ae (aW rfl rfl) (ah (ab (JV rfl (fun Q4=>?_) (fun Q4=>?_))))))))))
  ·have hjl:j<xs.length:=by omega
   obtain ⟨x,hx⟩:∃ x,x=xs[j]:=⟨_,rfl⟩;have hce:=eU bz Dz hoy (i:=j) (by omega);rw [HH hjl hyl hdr Dz,←hx] at hce;have hxm:x∈xs:=by rw [hx];exact List.getElem_mem hjl
   refine av (ab (gz (G:=Nat×List Dc) [7,22,23,24,25,26,27,28,29,30,31,32,33,34,35] (fun (i,_)=>[(5,.int .i64 (i:Nat))]) (fun (i2,zs) w'=>i2≤j∧w'.ownsRow base 37 2 (.slice (some ⟨g,0,none⟩) n c) n (List.flatMap dV zs)∧w.grownBy w' (some g)∧zs.length=xs.length∧zs.take i2=(xs.take (j+1)).filter (fun x=> !p x)∧zs.drop (j+1)=xs.drop (j+1)) ?_ ?_))
   ·refine aw (af (aa (mvs rfl (mvi rfl (ae (dC aT rfl rfl (by omega)) (ae (bn (cs:=[_,_]) bK bh rfl (by exact du (aj.rfl_ (a:=w3)) hce)) ?_))))));refine dI jB ?_;intro b7 w5 E7 hb7 hk7;have hg7:=Nat.le_trans ((aj.rfl_ (a:=w3))).size (Nat.le_of_eq hb7.symm);refine fR (vs:=[_,_]) bh rfl rfl (by simp [Value.oneCell']) (hk7) rfl ?_;intro w6 O7 P7;refine ah (ab (af (aa (ae (aq (v:=.func _ _ _) rfl) (ae (bn (cs:=[_,_]) bK bh rfl (by exact (P7.from_ aj.rfl_).whole)) ?_)))));refine fh (l:=[.tmp 27]) (caps:=caps) rfl hcal (hp _ x hxm (aN hG (((((aj.rfl_ (a:=w3)).next E7).only O7 (hg7))).grown _))) ?_;rintro v28 w7 ⟨rfl,E28⟩;refine ae (eQ rfl) (ah (ab (JT rfl (fun Q8=>?_) (fun Q8=>?_))))
    ·have hpx:(!p xs[j])=true:=by rw [←hx,Q8];rfl
     refine af (aa (mvs rfl (mvi rfl (ae (bn (cs:=[_,_]) bK bh rfl (by exact (P7.from_ (aj.rfl_.next E28)).whole)) ?_))));refine ae (dC aT rfl rfl (by omega)) ?_;have hG9:=aN hG ((((((aj.rfl_ (a:=w3)).next E7).only O7 (hg7)).next E28)).grown _);refine qJ (size:=2) (o:=i*2) (vs:=dV x) bh (by show Value.pointer (some ⟨g,0+i*2,none⟩)=_;rw [Nat.zero_add]) rfl (by simp [dV,Value.oneCell']) (hoy.kept_from ((((aj.rfl_ (a:=w3)).next E7).only O7 (hg7)).next E28)) (by omega) (by show i*2+2≤n*2;omega) ?_;intro w9 O9 P9;refine ah (ab (aa (mvi rfl (ae (aG (b:=1) rfl rfl (by omega)) (asi rfl (ah (aI ?_)))))));refine aO ((i+1,ys.set i xs[j])) ⟨(by first | rfl | (refine aK ?_;omega)),trivial⟩ (by (iterate 16 refine aB rfl ?_);exact aJ) ?_;obtain ⟨q1,q2⟩:=zW hij hjl hyl htk hdr hpx;exact ⟨by omega,by rw [←hx,←o4 bz ys i (by omega)];exact P9,aN hG9 O9.grown,by rw [List.length_set];exact hyl,q1,q2⟩
    have hpx:(!p xs[j])=false:=by rw [←hx,Q8];rfl
    refine av (aI ?_);refine aO ((i,ys)) ⟨(by first | rfl | (refine aK ?_;omega)),trivial⟩ (by (iterate 9 refine aB rfl ?_);exact aJ) ?_;obtain ⟨q1,q2⟩:=zX hjl htk hdr hpx;exact ⟨by omega,hoy.kept_from ((((aj.rfl_ (a:=w3)).next E7).only O7 (hg7)).next E28),aN hG ((((((aj.rfl_ (a:=w3)).next E7).only O7 (hg7)).next E28)).grown _),hyl,q1,q2⟩
   rintro ⟨i2,zs⟩ ρ10 w10 ⟨hij2,hoz,hGz,hzl2,htz,hdz⟩;refine aa (mvi rfl (ae (aG (b:=1) rfl rfl (by omega)) (asi rfl (ah ?_))));refine aO ((i2,j+1,zs)) ⟨(by first | rfl | (refine aK ?_;omega)),(by first | rfl | (refine aK ?_;omega)),trivial⟩ (by (iterate 46 refine aB rfl ?_);exact aJ) ⟨?_,?_⟩
   ·exact ⟨by omega,by omega,hoz,hGz,hzl2,htz,hdz⟩
   ·show n-(j+1)<n-j;omega
  obtain ⟨g1,cur,hA1,hg0,hbk,hnc,hcm,hcl,hct⟩:=fa hoy (by omega);simp only [Option.some.injEq,Addr.mk.injEq,and_true] at hA1;subst hA1;refine bc (aC (aC (aS (ab (af (aa (mvs rfl (mvi rfl (ae (bm (l:=i) (h:=n) aT rfl (.inr ⟨_,_,_,rfl,rfl,rfl⟩) (.inl ⟨rfl,rfl⟩) (by omega) (by omega)) (jx (g:=g) (o:=i*2) fv rfl rfl (fun h=>by rw [bT (by omega),Nat.zero_add]) hbk (by rw [hcl];omega) (by decide) ?_))))))))));intro w11 zs O11 hzl P11;refine ah (ab (af (aa (mvs rfl (mvi rfl (ae (eR (v':=.slice (some ⟨g,0,none⟩) i c) (bm (l:=0) (h:=i) aT rfl (.inl ⟨rfl,rfl⟩) (.inr ⟨_,_,_,rfl,rfl,rfl⟩) (by omega) (by omega)) (by rw [di,Nat.sub_zero,Nat.sub_zero])) ?_))))));refine ass rfl (ah (ab (ay (bE (v:=.slice _ _ _) rfl rfl ?_))));obtain rfl:j=n:=by omega
  rw [List.take_of_length_le (l:=xs) (by omega)] at htk;have hil:i=(xs.filter fun x=> !p x).length:=by rw [←htk,List.length_take];omega
  refine ⟨⟨_,_,i,rfl,hil,?_⟩,aN hG O11.grown⟩;refine gv hg0 P11 (by omega) hcm (by rw [br _ _ _ (by rw [hzl,hcl];omega),hcl]) ?_;rw [gZ _ _ _ _ (Nat.le_refl _) (by rw [hcl];omega),←htk,←gP bz,←hct,List.take_take,Nat.min_eq_left (by omega)]
 refine asi rfl (ah (ab (af (af (aa (mvi rfl (ae (cx rfl rfl) (ah (ab (JV rfl (fun Q12=>?_) (fun Q12=>?_)))))))))));rotate_left
 ·exfalso;omega
 refine af (aa (mvs rfl (ass rfl (ah (ab (ay (aD (bE (v:=.slice _ _ _) rfl rfl ?_))))))))
 have e9:(xs.filter fun x=> !p x)=xs:=List.filter_eq_self.2 fun x hx=>by
  obtain ⟨k,hk,rfl⟩:=List.getElem_of_mem hx;have:=hall k (by omega);rw [SM.G_get Dz hk] at this;simp [this]
 rw [e9];exact ⟨⟨A,c,n,rfl,hxl.symm,ho.kept_from (aj.rfl_.next E10)⟩,((aj.rfl_.next E10)).grown _⟩
theorem Bt (fid:FuncId) (caps:List Value) (p:Ht→Bool) (hcal:az prog fid=true) (A:Option Addr) (c n:Nat) (l:List Ht) (w:World) (hr:dg 2 hV w A l) (hn:n=l.length) (hl:n≤100000000) (hp:∀ w' x,x∈l→aj w w'→Rt prog fid (.agg (hV x).toArray::caps) w' fun v w''=>v=.bool (p x)∧aj w' w'') :
 Rt prog 104 [.slice A n c,.func (.func fid) #[] caps.toArray] w (fun v w'=>((∃ i:Nat,v=.int .i64 (i:Nat)∧i<n∧p (SM.G Hz l i)=true∧∀ k,k<i→p (SM.G Hz l k)=false)∨(v=.int .i64 (-1)∧∀ k,k<n→p (SM.G Hz l k)=false))∧aj w w'):=by
 refine enter (n:=19) Tryz.func104 rfl rfl rfl (af (aa (asi rfl (ah (ab (af (af (aa (mvs rfl (ae (aQ fw rfl) (mvi rfl (ah (ab (aw (a_ (G:=Nat) [4,5,9,10,11,12,13,14,15,16,17,18] (fun i=>[(8,.int .i64 (i:Nat))]) (fun i w'=>i≤n∧(∀ k,k<i→p (SM.G Hz l k)=false)∧aj w w') (fun i=>n-i) (0) ⟨rfl,trivial⟩ ?_ ?_)))))))))))))))
 ·exact ⟨Nat.zero_le _,fun k h=>absurd h (by omega),aj.rfl_⟩
 rintro i ρ1 w1 ⟨hi,hno,hB⟩;refine af (aa (ae (aW rfl rfl) (ah (ab (af (JV rfl (fun Q2=>?_) (fun Q2=>?_)))))))
 ·obtain ⟨bd,od,rfl,hcd⟩:=hr (by omega);have hil:i<l.length:=by omega
  have hmem:SM.G Hz l i∈l:=by rw [SM.G_get Hz hil];exact List.getElem_mem hil
  have hce:=hcd i hil;rw [←SM.G_get Hz hil] at hce;refine av (ab (af (aw (af (aa (mvi rfl (asi rfl (ah (ab (af (aa (ae (aq (v:=.func _ _ _) rfl) (mvs rfl (mvi rfl (ae (aM fT rfl rfl (by omega)) (ae (bn (cs:=[_,_]) gR fu rfl (by exact du hB hce)) ?_))))))))))))))));refine fh (l:=[.tmp 15]) (caps:=caps) rfl hcal (hp _ (SM.G Hz l i) hmem hB) ?_;rintro v16 w3 ⟨rfl,E16⟩;refine ah (ab (au rfl (fun Q4=>?_) (fun Q4=>?_)))
  ·refine af (aa (mvi rfl (asi rfl (ah (ab (ay (bj (aD (aD (bj (aD (bE (v:=.int _ _) rfl rfl (⟨.inl ⟨i,rfl,by omega,by simp_all,hno⟩,(hB.next E16)⟩)))))))))))))
  refine av (aI (ab (aa (ae (aG (b:=1) rfl rfl (by omega)) (mvi rfl (ah ?_))))));refine aO (i+1) ⟨(by first | rfl | (refine aK ?_;omega)),trivial⟩ (by (iterate 24 refine aB rfl ?_);exact aJ) ⟨?_,?_⟩
  ·exact ⟨by omega,fun k hk=>by
    rcases Nat.eq_or_lt_of_le (Nat.le_of_lt_succ hk) with e | e
    ·subst e;simp_all
    ·exact hno k e,(hB.next E16)⟩
  ·show n-(i+1)<n-i;omega
 refine bc (aC (aC (aS (ab (af (aa (asi rfl (ah (ab (ay (bE (v:=.int _ _) rfl rfl (⟨.inr ⟨rfl,fun k hk=>hno k (by omega)⟩,hB⟩))))))))))))
theorem wE (fid:FuncId) (caps:List Value) (p:Ht→Bool) (hcal:az prog fid=true) (base:Nat) (A:Option Addr) (c n:Nat) (xs:List Ht) (w:World) (ho:w.ownsRow base 57 2 (.slice A n c) n (xs.flatMap hV)) (hl:n≤100000000) (hp:∀ w' x,x∈xs→w.grownBy w' (A.map (·.block))→Rt prog fid (.agg (hV x).toArray::caps) w' fun v w''=>v=.bool (p x)∧aj w' w'') :
 Rt prog 76 [.slice A n c,.func (.func fid) #[] caps.toArray] w (fun v w'=>(∃ A' c' m,v=.slice A' m c'∧m=(xs.filter fun x=> !p x).length∧w'.ownsRow base 57 2 (.slice A' m c') m ((xs.filter fun x=> !p x).flatMap hV))∧w.grownBy w' (A.map (·.block))):=by
 have hxl:xs.length=n:=fF eV ho;refine enter (n:=42) Tryz.func76 rfl rfl rfl (af (aa (ass rfl (ah (ab (af (aa (mvs rfl (ae (aq (v:=.func _ _ _) rfl) (aF yI (Bt fid caps p hcal A c n xs _ (dg.own eV (by decide) ho).2 hxl.symm hl (fun w2 x hx hF=>hp w2 x hx (hF.grown _))) ?_))))))))));rintro v10 w1 ⟨hi10,E10⟩;rcases hi10 with ⟨i,rfl,hin,hpi,hno⟩ | ⟨rfl,hall⟩
 ·obtain ⟨g,rfl⟩:=dm ho (by omega);refine asi rfl (ah (ab (af (af (aa (mvi rfl (ae (cx rfl rfl) (ah (ab (JV rfl (fun Q2=>?_) (fun Q2=>?_)))))))))))
  ·exfalso;omega
  refine av (ab (af (af (aa (mvi rfl (ae (aG (b:=1) rfl rfl (by omega)) (asi rfl (ah (ab (aw (a_ (G:=Nat×Nat×List Ht) [7,16,17,18,19,20,21,22,23,24,25,26,27,28,29,30,31,32,33,34,35] (fun (i,j,_)=>[(5,.int .i64 (i:Nat)),(6,.int .i64 (j:Nat))]) (fun (i,j,ys) w'=>i<j∧j≤n∧w'.ownsRow base 57 2 (.slice (some ⟨g,0,none⟩) n c) n (List.flatMap hV ys)∧w.grownBy w' (some g)∧ys.length=xs.length∧ys.take i=(xs.take j).filter (fun x=> !p x)∧ys.drop j=xs.drop j) (fun (_,j,_)=>n-j) ((i,i+1,xs)) ⟨rfl,rfl,trivial⟩ ?_ ?_)))))))))))
  ·exact ⟨by omega,by omega,ho.kept_from (aj.rfl_.next E10),((aj.rfl_.next E10)).grown _,rfl,wD Hz (by omega) hpi hno,rfl⟩
  rintro ⟨i,j,ys⟩ ρ3 w3 ⟨hij,hjn,hoy,hG,hyl,htk,hdr⟩;refine af (af (aa (mvi rfl (mvs rfl (ae (aQ fw rfl) (ae (aW rfl rfl) (ah (ab (JV rfl (fun Q4=>?_) (fun Q4=>?_))))))))))
  ·have hjl:j<xs.length:=by omega
   obtain ⟨x,hx⟩:∃ x,x=xs[j]:=⟨_,rfl⟩;have hce:=eU eV Hz hoy (i:=j) (by omega);rw [HH hjl hyl hdr Hz,←hx] at hce;have hxm:x∈xs:=by rw [hx];exact List.getElem_mem hjl
   refine av (ab (gz (G:=Nat×List Ht) [7,22,23,24,25,26,27,28,29,30,31,32,33,34,35] (fun (i,_)=>[(5,.int .i64 (i:Nat))]) (fun (i2,zs) w'=>i2≤j∧w'.ownsRow base 57 2 (.slice (some ⟨g,0,none⟩) n c) n (List.flatMap hV zs)∧w.grownBy w' (some g)∧zs.length=xs.length∧zs.take i2=(xs.take (j+1)).filter (fun x=> !p x)∧zs.drop (j+1)=xs.drop (j+1)) ?_ ?_))
   ·refine aw (af (aa (mvs rfl (mvi rfl (ae (dC fT rfl rfl (by omega)) (ae (bn (cs:=[_,_]) gR fu rfl (by exact du (aj.rfl_ (a:=w3)) hce)) ?_))))));refine dI BY ?_;intro b7 w5 E7 hb7 hk7;have hg7:=Nat.le_trans ((aj.rfl_ (a:=w3))).size (Nat.le_of_eq hb7.symm);refine fR (vs:=[_,_]) fu rfl rfl (by simp [Value.oneCell']) (hk7) rfl ?_;intro w6 O7 P7;refine ah (ab (af (aa (ae (aq (v:=.func _ _ _) rfl) (ae (bn (cs:=[_,_]) gR fu rfl (by exact (P7.from_ aj.rfl_).whole)) ?_)))));refine fh (l:=[.tmp 27]) (caps:=caps) rfl hcal (hp _ x hxm (aN hG (((((aj.rfl_ (a:=w3)).next E7).only O7 (hg7))).grown _))) ?_;rintro v28 w7 ⟨rfl,E28⟩;refine ae (eQ rfl) (ah (ab (JT rfl (fun Q8=>?_) (fun Q8=>?_))))
    ·have hpx:(!p xs[j])=true:=by rw [←hx,Q8];rfl
     refine af (aa (mvs rfl (mvi rfl (ae (bn (cs:=[_,_]) gR fu rfl (by exact (P7.from_ (aj.rfl_.next E28)).whole)) ?_))));refine ae (dC fT rfl rfl (by omega)) ?_;have hG9:=aN hG ((((((aj.rfl_ (a:=w3)).next E7).only O7 (hg7)).next E28)).grown _);refine qJ (size:=2) (o:=i*2) (vs:=hV x) fu (by show Value.pointer (some ⟨g,0+i*2,none⟩)=_;rw [Nat.zero_add]) rfl (by simp [hV,Value.oneCell']) (hoy.kept_from ((((aj.rfl_ (a:=w3)).next E7).only O7 (hg7)).next E28)) (by omega) (by show i*2+2≤n*2;omega) ?_;intro w9 O9 P9;refine ah (ab (aa (mvi rfl (ae (aG (b:=1) rfl rfl (by omega)) (asi rfl (ah (aI ?_)))))));refine aO ((i+1,ys.set i xs[j])) ⟨(by first | rfl | (refine aK ?_;omega)),trivial⟩ (by (iterate 16 refine aB rfl ?_);exact aJ) ?_;obtain ⟨q1,q2⟩:=zW hij hjl hyl htk hdr hpx;exact ⟨by omega,by rw [←hx,←o4 eV ys i (by omega)];exact P9,aN hG9 O9.grown,by rw [List.length_set];exact hyl,q1,q2⟩
    have hpx:(!p xs[j])=false:=by rw [←hx,Q8];rfl
    refine av (aI ?_);refine aO ((i,ys)) ⟨(by first | rfl | (refine aK ?_;omega)),trivial⟩ (by (iterate 9 refine aB rfl ?_);exact aJ) ?_;obtain ⟨q1,q2⟩:=zX hjl htk hdr hpx;exact ⟨by omega,hoy.kept_from ((((aj.rfl_ (a:=w3)).next E7).only O7 (hg7)).next E28),aN hG ((((((aj.rfl_ (a:=w3)).next E7).only O7 (hg7)).next E28)).grown _),hyl,q1,q2⟩
   rintro ⟨i2,zs⟩ ρ10 w10 ⟨hij2,hoz,hGz,hzl2,htz,hdz⟩;refine aa (mvi rfl (ae (aG (b:=1) rfl rfl (by omega)) (asi rfl (ah ?_))));refine aO ((i2,j+1,zs)) ⟨(by first | rfl | (refine aK ?_;omega)),(by first | rfl | (refine aK ?_;omega)),trivial⟩ (by (iterate 46 refine aB rfl ?_);exact aJ) ⟨?_,?_⟩
   ·exact ⟨by omega,by omega,hoz,hGz,hzl2,htz,hdz⟩
   ·show n-(j+1)<n-j;omega
  obtain ⟨g1,cur,hA1,hg0,hbk,hnc,hcm,hcl,hct⟩:=fa hoy (by omega);simp only [Option.some.injEq,Addr.mk.injEq,and_true] at hA1;subst hA1;refine bc (aC (aC (aS (ab (af (aa (mvs rfl (mvi rfl (ae (bm (l:=i) (h:=n) fT rfl (.inr ⟨_,_,_,rfl,rfl,rfl⟩) (.inl ⟨rfl,rfl⟩) (by omega) (by omega)) (jx (g:=g) (o:=i*2) eY rfl rfl (fun h=>by rw [bT (by omega),Nat.zero_add]) hbk (by rw [hcl];omega) (by decide) ?_))))))))));intro w11 zs O11 hzl P11;refine ah (ab (af (aa (mvs rfl (mvi rfl (ae (eR (v':=.slice (some ⟨g,0,none⟩) i c) (bm (l:=0) (h:=i) fT rfl (.inl ⟨rfl,rfl⟩) (.inr ⟨_,_,_,rfl,rfl,rfl⟩) (by omega) (by omega)) (by rw [di,Nat.sub_zero,Nat.sub_zero])) ?_))))));refine ass rfl (ah (ab (ay (bE (v:=.slice _ _ _) rfl rfl ?_))));obtain rfl:j=n:=by omega
  rw [List.take_of_length_le (l:=xs) (by omega)] at htk;have hil:i=(xs.filter fun x=> !p x).length:=by rw [←htk,List.length_take];omega
  refine ⟨⟨_,_,i,rfl,hil,?_⟩,aN hG O11.grown⟩;refine gv hg0 P11 (by omega) hcm (by rw [br _ _ _ (by rw [hzl,hcl];omega),hcl]) ?_;rw [gZ _ _ _ _ (Nat.le_refl _) (by rw [hcl];omega),←htk,←gP eV,←hct,List.take_take,Nat.min_eq_left (by omega)]
 refine asi rfl (ah (ab (af (af (aa (mvi rfl (ae (cx rfl rfl) (ah (ab (JV rfl (fun Q12=>?_) (fun Q12=>?_)))))))))));rotate_left
 ·exfalso;omega
 refine af (aa (mvs rfl (ass rfl (ah (ab (ay (aD (bE (v:=.slice _ _ _) rfl rfl ?_))))))))
 have e9:(xs.filter fun x=> !p x)=xs:=List.filter_eq_self.2 fun x hx=>by
  obtain ⟨k,hk,rfl⟩:=List.getElem_of_mem hx;have:=hall k (by omega);rw [SM.G_get Hz hk] at this;simp [this]
 rw [e9];exact ⟨⟨A,c,n,rfl,hxl.symm,ho.kept_from (aj.rfl_.next E10)⟩,((aj.rfl_.next E10)).grown _⟩
theorem xY (base:Nat) (A:Option Addr) (c n i m b vo vc:Nat) (xs vs:List Value) (tv:TypeId) (csv:Array Value) (w:World) (ho:w.ownsRow base 9 1 (.slice A n c) n xs) (hbs:base≤w.heap.size) (hi:i≤n) (hm:0<m) (hvl:vs.length=m*1) (hvr:w.rangeAt b vo vs) (hvb:Blk w b tv csv) (hne:∀ k,A.map (·.block)=some k→k≠b) (h1:∀ u∈xs,u.oneCell'=true) (h1v:∀ u∈vs,u.oneCell'=true) (hl:n+m≤100000000000) :
 Rt prog 70 [.slice A n c,.int .i64 (i:Nat),.slice (some ⟨b,vo,none⟩) m vc] w (fun v w'=>(∃ A' c',v=.slice A' (n+m) c'∧w'.ownsRow base 9 1 (.slice A' (n+m) c') (n+m) (xs.take (i*1)++vs++xs.drop (i*1))∧∀ q,A'.map (·.block)=some q→A.map (·.block)=some q∨w.heap.size≤q)∧w.grownBy w' (A.map (·.block))):=by
 have hxl:xs.length=n*1:=ho.1;have hdl:(xs.drop (i*1)).length=(n-i)*1:=by rw [List.length_drop,hxl];omega
 have hcap:=nU ho;refine enter (n:=95) Tryz.func70 rfl rfl rfl (af (aa (ass rfl (ah (ab (af (aa (mvs rfl (mvi rfl (ae (bm (l:=i) (h:=n) db rfl (.inr ⟨_,_,_,rfl,rfl,rfl⟩) (.inl ⟨rfl,rfl⟩) (by omega) (by omega)) (ah (ab (af (aa (mvs rfl ?_)))))))))))))));refine ae (aQ mK rfl) (asi rfl (ah (ab (af (af (aa (mvi rfl (ae (cx rfl rfl) (ah (ab (JU rfl (fun Q1=>?_) (fun Q1=>?_))))))))))))
 ·exfalso;omega
 refine av (ab (af (aa (mvs rfl (ae (aQ mK rfl) (asi rfl (ah (ab (af (af (aa (mvi rfl (mvi rfl (ae (cx rfl rfl) (ah (ab ?_))))))))))))))));refine JU rfl (fun Q2=>?_) (fun Q2=>?_)
 ·obtain rfl:i=n:=by omega
  refine af (aa (mvs rfl (mvs rfl ?_)));have hs25:=Nat.le_refl (w).heap.size;refine gn pw rfl (by decide) rfl ho hbs rfl hvl ⟨b,vo,rfl,hvr⟩ h1v (by omega) (by omega) ?_;intro A25 c25 w3 ho25 hg25 hL25;refine ass rfl (ah (ab (ay (aD (bE (v:=.slice _ _ _) rfl rfl ?_)))));exact ⟨⟨A25,c25,rfl,by rw [List.take_of_length_le (by omega),List.drop_of_length_le (by omega),List.append_nil];exact ho25,fun q hq=>hL25.elim (fun e=>.inl (e ▸ hq)) (fun e=>.inr (by rw [e] at hq;cases hq;exact hs25))⟩,hg25⟩
 obtain ⟨g,cur,rfl,hg,hbk,hnc,hcm,hcl,hct⟩:=fa ho (by omega);have hgb:g≠b:=hne g rfl;have hbz:w.grownBy w (some g):=World.grownBy.refl _ _;refine av (ab (af (af (aa (mvi rfl (mvi rfl (ae (aG rfl rfl (by omega)) (mvs rfl (ae (qX mK rfl) (ae (cL rfl rfl) (ah (ab (JV rfl (fun Q4=>?_) (fun Q4=>?_))))))))))))))
 ·refine af (aa (mvs rfl (mvi rfl (ae (eR (v':=.slice (some ⟨g,0,none⟩) i c) (bm (l:=0) (h:=i) db rfl (.inl ⟨rfl,rfl⟩) (.inr ⟨_,_,_,rfl,rfl,rfl⟩) (by omega) (by omega)) (by rw [di,Nat.sub_zero,Nat.sub_zero])) ?_))));refine mvi rfl (mvi rfl (ae (aG rfl rfl (by omega)) (mvi rfl (ae (bP rfl rfl (by omega)) (mZ (kn:=.i64) (olds:=xs.take (i*1)) pw (by kernel_rfl) rfl (by decide) rfl rfl (by rw [List.length_take,hxl];omega) (fun _=>⟨g,0,rfl,vF hbk hct⟩) (by omega) (by omega) (by unfold maxLen;omega) (by omega) (by omega) ?_)))));intro g2 c2 w5 cur2 hg2 E40 hb2 hc2 hc2m hcl2 hct2;obtain hc2:n+m≤c2:=by omega
  replace hbz:=aN hbz (aj.grown E40 _);replace hbk:=hbk.from_ E40;have hgg:g≠g2:=by have:=ho.lt g rfl;omega
  have hvr2:=du E40 hvr;have hbg2:b≠g2:=by have:=hvb.lt;omega
  refine ass rfl (ah (ab (af (aa (mvs rfl (mvi rfl (ae (bm (l:=i) (h:=i+(n+m-i)) db rfl (.inr ⟨_,_,_,rfl,rfl,rfl⟩) (.inl ⟨rfl,rfl⟩) (by omega) (by omega)) (mvs rfl (gX (news:=vs) (g:=g2) (o:=i*1) db rfl rfl (by rw [hvl];congr 1;omega) (fun h=>by rw [bT (by omega),Nat.zero_add]) (fun h=>⟨b,vo,rfl,hvr2⟩) hb2 (by rw [hvl,hcl2];omega) h1v ?_)))))))));intro w6 O45 P45;replace hbz:=mF hbz O45 (by have:=hbk.lt;have:=ho.lt g rfl;omega);replace hbk:=hbk.only O45 hgg;refine ah (ab (af ?_));apply bS 8 [(46,eqp _),(47,eqp _),(48,eqp _),(49,eqp _),(50,eqp _),(51,eqp _),(52,eqp _),(53,eqp _)] (by repeat first | exact cy | refine cm ?_ | refine bO ?_) (by kernel_rfl) (by kernel_rfl) ⟨ag _,ag _,ag _,ag _,ag _,ag _,ag _,ag _,trivial⟩
  case hop=>
   constructor
   ·rintro-w8 D8;exact ai (aq (v:=.slice _ _ _) rfl) rfl
   constructor
   ·rintro-w9 D9;exact ai (aq (v:=.int _ _) rfl) rfl
   constructor
   ·rintro-w10 D10;exact ai (aq (v:=.int _ _) rfl) rfl
   constructor
   ·rintro-w11 D11;rintro _ rfl _ rfl;exact ai (aG rfl rfl (by omega)) rfl
   constructor
   ·rintro-w12 D12;rintro _ rfl _ rfl;exact ai (bm (l:=i+m) (h:=i+(n+m-i)) db rfl (.inr ⟨_,_,_,rfl,rfl,rfl⟩) (.inl ⟨rfl,rfl⟩) (by omega) (by omega)) rfl
   constructor
   ·rintro-w13 D13;exact ai (aq (v:=.slice _ _ _) rfl) rfl
   constructor
   ·rintro-w14 D14;exact ai (aq (v:=.int _ _) rfl) rfl
   constructor
   ·rintro-w15 D15;rintro _ rfl _ rfl;exact ai (bm (l:=i) (h:=n) db rfl (.inr ⟨_,_,_,rfl,rfl,rfl⟩) (.inl ⟨rfl,rfl⟩) (by omega) (by omega)) rfl
   exact trivial
  case hend=>
   intro w16 D16;rintro _ rfl _ rfl _ rfl _ rfl _ rfl _ rfl _ rfl _ rfl;show St ..;replace hbz:=aN hbz (aj.grown D16 _);replace hbk:=hbk.from_ D16;replace P45:=P45.from_ D16;refine gX (news:=xs.drop (i*1)) (g:=g2) (o:=(i+m)*1) db rfl rfl (by rw [hdl];congr 1;omega) (fun h=>by rw [bT (by rw [hdl] at h;omega),Nat.zero_add]) (fun h=>⟨g,i*1,by rw [bT (by omega),Nat.zero_add],jD hbk hct⟩) P45 (by rw [hdl,br _ _ _ (by rw [hvl,hcl2];omega),hcl2];omega) (fun v hv=>h1 v (List.mem_of_mem_drop hv)) ?_;intro w17 O54 P54;replace hbz:=mF hbz O54 (by have:=ho.lt g rfl;omega);refine ah (ab (af (aa (mvs rfl (ass rfl (ah (ab (ay (aD (bE (v:=.slice _ _ _) rfl rfl ?_))))))))));have hnm:i+(n+m-i)=n+m:=by omega
   rw [hnm];have hbg:base≤g2:=by omega
   exact ⟨⟨_,_,rfl,gv hbg P54 hc2 hc2m (by rw [br _ _ _ (by rw [hdl,br _ _ _ (by rw [hvl,hcl2];omega),hcl2];omega),br _ _ _ (by rw [hvl,hcl2];omega),hcl2]) (n3 hi hc2 hcl2 hxl hct2 hvl).2,fun q hq=>.inr (by cases hq;show w.heap.size≤g2;omega)⟩,hbz⟩
 refine av (ab (af (aa (mvs rfl (mvi rfl (mvi rfl (ae (aG rfl rfl (by omega)) (ae (eR (v':=.slice (some ⟨g,0,none⟩) (n+m) c) (bm (l:=0) (h:=n+m) db rfl (.inl ⟨rfl,rfl⟩) (.inr ⟨_,_,_,rfl,rfl,rfl⟩) (by omega) (by omega)) (by rw [di,Nat.sub_zero,Nat.sub_zero])) ?_))))))));refine ass rfl (ah (ab (af (af (aa (mvs rfl (mvs rfl (mvi rfl (mvi rfl (ae (aG rfl rfl (by omega)) (ae (bm (l:=i+m) (h:=n+m) db rfl (.inr ⟨_,_,_,rfl,rfl,rfl⟩) (.inl ⟨rfl,rfl⟩) (by omega) (by omega)) ?_)))))))))));refine ae (pE (tS:=64) (tR:=4) (g1:=b) (o1:=vo) (g2:=g) (o2:=(i+m)*1) Tryz.func99 (by kernel_rfl) (by kernel_rfl) (by kernel_rfl) (by kernel_rfl) db rfl (by show Value.slice _ _ _=_;rw [bT (by omega),Nat.zero_add]) hgb.symm hvb hbk (by simp only [List.size_toArray,hcl];omega)) ?_;refine ae (jE (eQ rfl) rfl) (ah (ab (cW rfl (af ?_))));apply bS 8 [(69,eqp _),(70,eqp _),(71,eqp _),(72,eqp _),(73,eqp _),(74,eqp _),(75,eqp _),(76,eqp _)] (by repeat first | exact cy | refine cm ?_ | refine bO ?_) (by kernel_rfl) (by kernel_rfl) ⟨ag _,ag _,ag _,ag _,ag _,ag _,ag _,ag _,trivial⟩
 case hop=>
  constructor
  ·rintro-w19 D19;exact ai (aq (v:=.slice _ _ _) rfl) rfl
  constructor
  ·rintro-w20 D20;exact ai (aq (v:=.int _ _) rfl) rfl
  constructor
  ·rintro-w21 D21;exact ai (aq (v:=.int _ _) rfl) rfl
  constructor
  ·rintro-w22 D22;rintro _ rfl _ rfl;exact ai (aG rfl rfl (by omega)) rfl
  constructor
  ·rintro-w23 D23;rintro _ rfl _ rfl;exact ai (bm (l:=i+m) (h:=n+m) db rfl (.inr ⟨_,_,_,rfl,rfl,rfl⟩) (.inl ⟨rfl,rfl⟩) (by omega) (by omega)) rfl
  constructor
  ·rintro-w24 D24;exact ai (aq (v:=.slice _ _ _) rfl) rfl
  constructor
  ·rintro-w25 D25;exact ai (aq (v:=.int _ _) rfl) rfl
  constructor
  ·rintro-w26 D26;rintro _ rfl _ rfl;exact ai (bm (l:=i) (h:=n+m) db rfl (.inr ⟨_,_,_,rfl,rfl,rfl⟩) (.inl ⟨rfl,rfl⟩) (by omega) (by omega)) rfl
  exact trivial
 case hend=>
  intro w27 D27;rintro _ rfl _ rfl _ rfl _ rfl _ rfl _ rfl _ rfl _ rfl;show St ..;replace hbz:=aN hbz (aj.grown D27 _);replace hbk:=hbk.from_ D27;have hvr2:=du D27 hvr;refine gX (news:=xs.drop (i*1)) (g:=g) (o:=(i+m)*1) db rfl rfl (by rw [hdl];congr 1;omega) (fun h=>by rw [bT (by rw [hdl] at h;omega),Nat.zero_add]) (fun h=>⟨g,i*1,by rw [bT (by omega),Nat.zero_add],jD hbk hct⟩) hbk (by rw [hdl,hcl];omega) (fun v hv=>h1 v (List.mem_of_mem_drop hv)) ?_;intro w28 O77 P77;replace hbz:=aN hbz (cH.grown O77);refine ah (ab (af (aa (mvs rfl (mvi rfl (ae (bm (l:=i) (h:=n+m) db rfl (.inr ⟨_,_,_,rfl,rfl,rfl⟩) (.inl ⟨rfl,rfl⟩) (by omega) (by omega)) (mvs rfl ?_)))))));refine gX (news:=vs) (g:=g) (o:=i*1) db rfl rfl (by rw [hvl];congr 1;omega) (fun h=>by rw [bT (by omega),Nat.zero_add]) (fun h=>⟨b,vo,rfl,fun j v hv=>(O77.cell (Ne.symm hgb)).trans (hvr2 j v hv)⟩) P77 (by rw [hvl,br _ _ _ (by rw [hdl,hcl];omega),hcl];omega) h1v ?_;intro w29 O82 P82;replace hbz:=aN hbz (cH.grown O82);refine ah (ab (af (aa (mvs rfl (ass rfl (ah (ab (ay (aD (bE (v:=.slice _ _ _) rfl rfl ?_))))))))));have hct3:cur.take (i*1)=xs.take (i*1):=by rw [←hct,List.take_take,Nat.min_eq_left (by omega)]
  exact ⟨⟨_,_,rfl,gv hg P82 (by omega) hcm (by rw [br _ _ _ (by rw [hvl,br _ _ _ (by rw [hdl,hcl];omega),hcl];omega),br _ _ _ (by rw [hdl,hcl];omega),hcl]) (n3 hi (by omega) hcl hxl hct3 hvl).1,fun q hq=>.inl hq⟩,hbz⟩
theorem xZ (base:Nat) (A:Option Addr) (c n i m b vo vc:Nat) (xs vs:List Value) (tv:TypeId) (csv:Array Value) (w:World) (ho:w.ownsRow base 37 2 (.slice A n c) n xs) (hbs:base≤w.heap.size) (hi:i≤n) (hm:0<m) (hvl:vs.length=m*2) (hvr:w.rangeAt b vo vs) (hvb:Blk w b tv csv) (hne:∀ k,A.map (·.block)=some k→k≠b) (h1:∀ u∈xs,u.oneCell'=true) (h1v:∀ u∈vs,u.oneCell'=true) (hl:n+m≤100000000000) :
 Rt prog 55 [.slice A n c,.int .i64 (i:Nat),.slice (some ⟨b,vo,none⟩) m vc] w (fun v w'=>(∃ A' c',v=.slice A' (n+m) c'∧w'.ownsRow base 37 2 (.slice A' (n+m) c') (n+m) (xs.take (i*2)++vs++xs.drop (i*2))∧∀ q,A'.map (·.block)=some q→A.map (·.block)=some q∨w.heap.size≤q)∧w.grownBy w' (A.map (·.block))):=by
 have hxl:xs.length=n*2:=ho.1;have hdl:(xs.drop (i*2)).length=(n-i)*2:=by rw [List.length_drop,hxl];omega
 have hcap:=nU ho;refine enter (n:=95) Tryz.func55 rfl rfl rfl (af (aa (ass rfl (ah (ab (af (aa (mvs rfl (mvi rfl (ae (bm (l:=i) (h:=n) aT rfl (.inr ⟨_,_,_,rfl,rfl,rfl⟩) (.inl ⟨rfl,rfl⟩) (by omega) (by omega)) (ah (ab (af (aa (mvs rfl ?_)))))))))))))));refine ae (aQ bG rfl) (asi rfl (ah (ab (af (af (aa (mvi rfl (ae (cx rfl rfl) (ah (ab (JU rfl (fun Q1=>?_) (fun Q1=>?_))))))))))))
 ·exfalso;omega
 refine av (ab (af (aa (mvs rfl (ae (aQ bG rfl) (asi rfl (ah (ab (af (af (aa (mvi rfl (mvi rfl (ae (cx rfl rfl) (ah (ab ?_))))))))))))))));refine JU rfl (fun Q2=>?_) (fun Q2=>?_)
 ·obtain rfl:i=n:=by omega
  refine af (aa (mvs rfl (mvs rfl ?_)));have hs25:=Nat.le_refl (w).heap.size;refine gn fv rfl (by decide) rfl ho hbs rfl hvl ⟨b,vo,rfl,hvr⟩ h1v (by omega) (by omega) ?_;intro A25 c25 w3 ho25 hg25 hL25;refine ass rfl (ah (ab (ay (aD (bE (v:=.slice _ _ _) rfl rfl ?_)))));exact ⟨⟨A25,c25,rfl,by rw [List.take_of_length_le (by omega),List.drop_of_length_le (by omega),List.append_nil];exact ho25,fun q hq=>hL25.elim (fun e=>.inl (e ▸ hq)) (fun e=>.inr (by rw [e] at hq;cases hq;exact hs25))⟩,hg25⟩
 obtain ⟨g,cur,rfl,hg,hbk,hnc,hcm,hcl,hct⟩:=fa ho (by omega);have hgb:g≠b:=hne g rfl;have hbz:w.grownBy w (some g):=World.grownBy.refl _ _;refine av (ab (af (af (aa (mvi rfl (mvi rfl (ae (aG rfl rfl (by omega)) (mvs rfl (ae (qX bG rfl) (ae (cL rfl rfl) (ah (ab (JV rfl (fun Q4=>?_) (fun Q4=>?_))))))))))))))
 ·refine af (aa (mvs rfl (mvi rfl (ae (eR (v':=.slice (some ⟨g,0,none⟩) i c) (bm (l:=0) (h:=i) aT rfl (.inl ⟨rfl,rfl⟩) (.inr ⟨_,_,_,rfl,rfl,rfl⟩) (by omega) (by omega)) (by rw [di,Nat.sub_zero,Nat.sub_zero])) ?_))));refine mvi rfl (mvi rfl (ae (aG rfl rfl (by omega)) (mvi rfl (ae (bP rfl rfl (by omega)) (mZ (kn:=.i64) (olds:=xs.take (i*2)) fv (by kernel_rfl) rfl (by decide) rfl rfl (by rw [List.length_take,hxl];omega) (fun _=>⟨g,0,rfl,vF hbk hct⟩) (by omega) (by omega) (by unfold maxLen;omega) (by omega) (by omega) ?_)))));intro g2 c2 w5 cur2 hg2 E40 hb2 hc2 hc2m hcl2 hct2;obtain hc2:n+m≤c2:=by omega
  replace hbz:=aN hbz (aj.grown E40 _);replace hbk:=hbk.from_ E40;have hgg:g≠g2:=by have:=ho.lt g rfl;omega
  have hvr2:=du E40 hvr;have hbg2:b≠g2:=by have:=hvb.lt;omega
  refine ass rfl (ah (ab (af (aa (mvs rfl (mvi rfl (ae (bm (l:=i) (h:=i+(n+m-i)) aT rfl (.inr ⟨_,_,_,rfl,rfl,rfl⟩) (.inl ⟨rfl,rfl⟩) (by omega) (by omega)) (mvs rfl (gX (news:=vs) (g:=g2) (o:=i*2) aT rfl rfl (by rw [hvl];congr 1;omega) (fun h=>by rw [bT (by omega),Nat.zero_add]) (fun h=>⟨b,vo,rfl,hvr2⟩) hb2 (by rw [hvl,hcl2];omega) h1v ?_)))))))));intro w6 O45 P45;replace hbz:=mF hbz O45 (by have:=hbk.lt;have:=ho.lt g rfl;omega);replace hbk:=hbk.only O45 hgg;refine ah (ab (af ?_));apply bS 8 [(46,eqp _),(47,eqp _),(48,eqp _),(49,eqp _),(50,eqp _),(51,eqp _),(52,eqp _),(53,eqp _)] (by repeat first | exact cy | refine cm ?_ | refine bO ?_) (by kernel_rfl) (by kernel_rfl) ⟨ag _,ag _,ag _,ag _,ag _,ag _,ag _,ag _,trivial⟩
  case hop=>
   constructor
   ·rintro-w8 D8;exact ai (aq (v:=.slice _ _ _) rfl) rfl
   constructor
   ·rintro-w9 D9;exact ai (aq (v:=.int _ _) rfl) rfl
   constructor
   ·rintro-w10 D10;exact ai (aq (v:=.int _ _) rfl) rfl
   constructor
   ·rintro-w11 D11;rintro _ rfl _ rfl;exact ai (aG rfl rfl (by omega)) rfl
   constructor
   ·rintro-w12 D12;rintro _ rfl _ rfl;exact ai (bm (l:=i+m) (h:=i+(n+m-i)) aT rfl (.inr ⟨_,_,_,rfl,rfl,rfl⟩) (.inl ⟨rfl,rfl⟩) (by omega) (by omega)) rfl
   constructor
   ·rintro-w13 D13;exact ai (aq (v:=.slice _ _ _) rfl) rfl
   constructor
   ·rintro-w14 D14;exact ai (aq (v:=.int _ _) rfl) rfl
   constructor
   ·rintro-w15 D15;rintro _ rfl _ rfl;exact ai (bm (l:=i) (h:=n) aT rfl (.inr ⟨_,_,_,rfl,rfl,rfl⟩) (.inl ⟨rfl,rfl⟩) (by omega) (by omega)) rfl
   exact trivial
  case hend=>
   intro w16 D16;rintro _ rfl _ rfl _ rfl _ rfl _ rfl _ rfl _ rfl _ rfl;show St ..;replace hbz:=aN hbz (aj.grown D16 _);replace hbk:=hbk.from_ D16;replace P45:=P45.from_ D16;refine gX (news:=xs.drop (i*2)) (g:=g2) (o:=(i+m)*2) aT rfl rfl (by rw [hdl];congr 1;omega) (fun h=>by rw [bT (by rw [hdl] at h;omega),Nat.zero_add]) (fun h=>⟨g,i*2,by rw [bT (by omega),Nat.zero_add],jD hbk hct⟩) P45 (by rw [hdl,br _ _ _ (by rw [hvl,hcl2];omega),hcl2];omega) (fun v hv=>h1 v (List.mem_of_mem_drop hv)) ?_;intro w17 O54 P54;replace hbz:=mF hbz O54 (by have:=ho.lt g rfl;omega);refine ah (ab (af (aa (mvs rfl (ass rfl (ah (ab (ay (aD (bE (v:=.slice _ _ _) rfl rfl ?_))))))))));have hnm:i+(n+m-i)=n+m:=by omega
   rw [hnm];have hbg:base≤g2:=by omega
   exact ⟨⟨_,_,rfl,gv hbg P54 hc2 hc2m (by rw [br _ _ _ (by rw [hdl,br _ _ _ (by rw [hvl,hcl2];omega),hcl2];omega),br _ _ _ (by rw [hvl,hcl2];omega),hcl2]) (n3 hi hc2 hcl2 hxl hct2 hvl).2,fun q hq=>.inr (by cases hq;show w.heap.size≤g2;omega)⟩,hbz⟩
 refine av (ab (af (aa (mvs rfl (mvi rfl (mvi rfl (ae (aG rfl rfl (by omega)) (ae (eR (v':=.slice (some ⟨g,0,none⟩) (n+m) c) (bm (l:=0) (h:=n+m) aT rfl (.inl ⟨rfl,rfl⟩) (.inr ⟨_,_,_,rfl,rfl,rfl⟩) (by omega) (by omega)) (by rw [di,Nat.sub_zero,Nat.sub_zero])) ?_))))))));refine ass rfl (ah (ab (af (af (aa (mvs rfl (mvs rfl (mvi rfl (mvi rfl (ae (aG rfl rfl (by omega)) (ae (bm (l:=i+m) (h:=n+m) aT rfl (.inr ⟨_,_,_,rfl,rfl,rfl⟩) (.inl ⟨rfl,rfl⟩) (by omega) (by omega)) ?_)))))))))));refine ae (pE (tS:=22) (tR:=4) (g1:=b) (o1:=vo) (g2:=g) (o2:=(i+m)*2) Tryz.func89 (by kernel_rfl) (by kernel_rfl) (by kernel_rfl) (by kernel_rfl) aT rfl (by show Value.slice _ _ _=_;rw [bT (by omega),Nat.zero_add]) hgb.symm hvb hbk (by simp only [List.size_toArray,hcl];omega)) ?_;refine ae (jE (eQ rfl) rfl) (ah (ab (cW rfl (af ?_))));apply bS 8 [(69,eqp _),(70,eqp _),(71,eqp _),(72,eqp _),(73,eqp _),(74,eqp _),(75,eqp _),(76,eqp _)] (by repeat first | exact cy | refine cm ?_ | refine bO ?_) (by kernel_rfl) (by kernel_rfl) ⟨ag _,ag _,ag _,ag _,ag _,ag _,ag _,ag _,trivial⟩
 case hop=>
  constructor
  ·rintro-w19 D19;exact ai (aq (v:=.slice _ _ _) rfl) rfl
  constructor
  ·rintro-w20 D20;exact ai (aq (v:=.int _ _) rfl) rfl
  constructor
  ·rintro-w21 D21;exact ai (aq (v:=.int _ _) rfl) rfl
  constructor
  ·rintro-w22 D22;rintro _ rfl _ rfl;exact ai (aG rfl rfl (by omega)) rfl
  constructor
  ·rintro-w23 D23;rintro _ rfl _ rfl;exact ai (bm (l:=i+m) (h:=n+m) aT rfl (.inr ⟨_,_,_,rfl,rfl,rfl⟩) (.inl ⟨rfl,rfl⟩) (by omega) (by omega)) rfl
  constructor
  ·rintro-w24 D24;exact ai (aq (v:=.slice _ _ _) rfl) rfl
  constructor
  ·rintro-w25 D25;exact ai (aq (v:=.int _ _) rfl) rfl
  constructor
  ·rintro-w26 D26;rintro _ rfl _ rfl;exact ai (bm (l:=i) (h:=n+m) aT rfl (.inr ⟨_,_,_,rfl,rfl,rfl⟩) (.inl ⟨rfl,rfl⟩) (by omega) (by omega)) rfl
  exact trivial
 case hend=>
  intro w27 D27;rintro _ rfl _ rfl _ rfl _ rfl _ rfl _ rfl _ rfl _ rfl;show St ..;replace hbz:=aN hbz (aj.grown D27 _);replace hbk:=hbk.from_ D27;have hvr2:=du D27 hvr;refine gX (news:=xs.drop (i*2)) (g:=g) (o:=(i+m)*2) aT rfl rfl (by rw [hdl];congr 1;omega) (fun h=>by rw [bT (by rw [hdl] at h;omega),Nat.zero_add]) (fun h=>⟨g,i*2,by rw [bT (by omega),Nat.zero_add],jD hbk hct⟩) hbk (by rw [hdl,hcl];omega) (fun v hv=>h1 v (List.mem_of_mem_drop hv)) ?_;intro w28 O77 P77;replace hbz:=aN hbz (cH.grown O77);refine ah (ab (af (aa (mvs rfl (mvi rfl (ae (bm (l:=i) (h:=n+m) aT rfl (.inr ⟨_,_,_,rfl,rfl,rfl⟩) (.inl ⟨rfl,rfl⟩) (by omega) (by omega)) (mvs rfl ?_)))))));refine gX (news:=vs) (g:=g) (o:=i*2) aT rfl rfl (by rw [hvl];congr 1;omega) (fun h=>by rw [bT (by omega),Nat.zero_add]) (fun h=>⟨b,vo,rfl,fun j v hv=>(O77.cell (Ne.symm hgb)).trans (hvr2 j v hv)⟩) P77 (by rw [hvl,br _ _ _ (by rw [hdl,hcl];omega),hcl];omega) h1v ?_;intro w29 O82 P82;replace hbz:=aN hbz (cH.grown O82);refine ah (ab (af (aa (mvs rfl (ass rfl (ah (ab (ay (aD (bE (v:=.slice _ _ _) rfl rfl ?_))))))))));have hct3:cur.take (i*2)=xs.take (i*2):=by rw [←hct,List.take_take,Nat.min_eq_left (by omega)]
  exact ⟨⟨_,_,rfl,gv hg P82 (by omega) hcm (by rw [br _ _ _ (by rw [hvl,br _ _ _ (by rw [hdl,hcl];omega),hcl];omega),br _ _ _ (by rw [hdl,hcl];omega),hcl]) (n3 hi (by omega) hcl hxl hct3 hvl).1,fun q hq=>.inl hq⟩,hbz⟩
theorem yi (base:Nat) (A:Option Addr) (c n i j:Nat) (xs:List Value) (w:World) (ho:w.ownsRow base 37 2 (.slice A n c) n xs) (hij:i<j) (hj:j≤n) (h1:∀ u∈xs,u.oneCell'=true) (hl:n≤100000000000) :
 Rt prog 36 [.slice A n c,.int .i64 (i:Nat),.int .i64 (j:Nat)] w (fun v w'=>(∃ A' c',v=.slice A' (n-(j-i)) c'∧w'.ownsRow base 37 2 (.slice A' (n-(j-i)) c') (n-(j-i)) (xs.take (i*2)++xs.drop (j*2))∧∀ q,A'.map (·.block)=some q→A.map (·.block)=some q)∧w.grownBy w' (A.map (·.block))):=by
 obtain ⟨g,cur,rfl,hg,hbk,hnc,hcm,hcl,hct⟩:=fa ho (by omega);have hxl:xs.length=n*2:=ho.1;have hdl:(xs.drop (j*2)).length=(n-j)*2:=by rw [List.length_drop,hxl];omega
 have hno:n-(j-i)=i+(n-j):=by omega
 have hbz:w.grownBy w (some g):=World.grownBy.refl _ _;refine enter (n:=33) Tryz.func36 rfl rfl rfl (af (aa (ass rfl (ah (ab (af (aa (mvs rfl (mvi rfl (mvi rfl (mvs rfl (ae (aQ bG rfl) ?_))))))))))));refine ae (s9 (l:=i) (h:=j) (mx:=n) aT rfl rfl rfl rfl (by omega) (by omega) (by omega)) (ah (ab (af (af (aa (mvi rfl (mvi rfl (ae (cx rfl rfl) (ah (ab (JU rfl (fun Q1=>?_) (fun Q1=>?_))))))))))))
 ·exfalso;omega
 refine av (ab (af (aa (mvs rfl (ae (aQ bG rfl) (asi rfl (ah (ab (af ?_)))))))));apply bS 6 [(20,eqp _),(21,eqp _),(22,eqp _),(23,eqp _),(24,eqp _),(25,eqp _)] (by repeat first | exact cy | refine cm ?_ | refine bO ?_) (by kernel_rfl) (by kernel_rfl) ⟨ag _,ag _,ag _,ag _,ag _,ag _,trivial⟩
 case hop=>
  constructor
  ·rintro-w3 D3;exact ai (aq (v:=.slice _ _ _) rfl) rfl
  constructor
  ·rintro-w4 D4;exact ai (aq (v:=.int _ _) rfl) rfl
  constructor
  ·rintro-w5 D5;rintro _ rfl _ rfl;exact ai (eR (v':=.slice (some ⟨g,0,none⟩) i c) (bm (l:=0) (h:=i) aT rfl (.inl ⟨rfl,rfl⟩) (.inr ⟨_,_,_,rfl,rfl,rfl⟩) (by omega) (by omega)) (by rw [di,Nat.sub_zero,Nat.sub_zero])) rfl
  constructor
  ·rintro-w6 D6;exact ai (aq (v:=.slice _ _ _) rfl) rfl
  constructor
  ·rintro-w7 D7;exact ai (aq (v:=.int _ _) rfl) rfl
  constructor
  ·rintro-w8 D8;rintro _ rfl _ rfl;exact ai (bm (l:=j) (h:=n) aT rfl (.inr ⟨_,_,_,rfl,rfl,rfl⟩) (.inl ⟨rfl,rfl⟩) (by omega) (by omega)) rfl
  exact trivial
 case hend=>
  intro w9 D9;rintro _ rfl _ rfl _ rfl _ rfl _ rfl _ rfl;show St ..;replace hbz:=aN hbz (aj.grown D9 _);replace hbk:=hbk.from_ D9;refine m_ (news:=xs.drop (j*2)) (cur:=cur) aT rfl rfl hdl (fun h=>⟨g,j*2,by rw [bT (by omega),Nat.zero_add],jD hbk hct⟩) hbk (fun v hv=>h1 v (List.mem_of_mem_drop hv)) (by omega) (by rw [hdl,hcl];omega) ?_;intro w10 O26 P26;replace hbz:=aN hbz (cH.grown O26);refine ass rfl (ah (ab (af (aa (mvs rfl (mvs rfl (ae (aQ bG rfl) (mvi rfl (ae (bm (l:=i+(n-j)) (h:=n) aT rfl (.inr ⟨_,_,_,rfl,rfl,by omega⟩) (.inr ⟨_,_,_,rfl,rfl,rfl⟩) (by omega) (by omega)) ?_)))))))));refine jx (g:=g) (o:=(i+(n-j))*2) fv rfl rfl (fun h=>by rw [bT (by omega),Nat.zero_add]) P26 (by rw [br _ _ _ (by rw [hdl,hcl];omega),hcl];omega) (by decide) ?_;intro w11 zs O6 hzl P6;replace hbz:=aN hbz (cH.grown O6);have hzl2:zs.length=(j-i)*2:=by rw [hzl];congr 1;omega
  refine ah (ab (af (aa (mvs rfl (ass rfl (ah (ab (ay (bE (v:=.slice _ _ _) rfl rfl ?_)))))))));rw [hno];exact ⟨⟨_,_,rfl,gv hg P6 (by omega) hcm (by rw [br _ _ _ (by rw [br _ _ _ (by rw [hdl,hcl];omega),hzl2,hcl];omega),br _ _ _ (by rw [hdl,hcl];omega),hcl]) (wG (by omega) hj hnc hcl hct hzl2),fun q hq=>hq⟩,hbz⟩
theorem yh (base:Nat) (A:Option Addr) (c n i j:Nat) (xs:List Value) (w:World) (ho:w.ownsRow base 66 2 (.slice A n c) n xs) (hij:i<j) (hj:j≤n) (h1:∀ u∈xs,u.oneCell'=true) (hl:n≤100000000000) :
 Rt prog 40 [.slice A n c,.int .i64 (i:Nat),.int .i64 (j:Nat)] w (fun v w'=>(∃ A' c',v=.slice A' (n-(j-i)) c'∧w'.ownsRow base 66 2 (.slice A' (n-(j-i)) c') (n-(j-i)) (xs.take (i*2)++xs.drop (j*2))∧∀ q,A'.map (·.block)=some q→A.map (·.block)=some q)∧w.grownBy w' (A.map (·.block))):=by
 obtain ⟨g,cur,rfl,hg,hbk,hnc,hcm,hcl,hct⟩:=fa ho (by omega);have hxl:xs.length=n*2:=ho.1;have hdl:(xs.drop (j*2)).length=(n-j)*2:=by rw [List.length_drop,hxl];omega
 have hno:n-(j-i)=i+(n-j):=by omega
 have hbz:w.grownBy w (some g):=World.grownBy.refl _ _;refine enter (n:=33) Tryz.func40 rfl rfl rfl (af (aa (ass rfl (ah (ab (af (aa (mvs rfl (mvi rfl (mvi rfl (mvs rfl (ae (aQ cU rfl) ?_))))))))))));refine ae (s9 (l:=i) (h:=j) (mx:=n) cq rfl rfl rfl rfl (by omega) (by omega) (by omega)) (ah (ab (af (af (aa (mvi rfl (mvi rfl (ae (cx rfl rfl) (ah (ab (JU rfl (fun Q1=>?_) (fun Q1=>?_))))))))))))
 ·exfalso;omega
 refine av (ab (af (aa (mvs rfl (ae (aQ cU rfl) (asi rfl (ah (ab (af ?_)))))))));apply bS 6 [(20,eqp _),(21,eqp _),(22,eqp _),(23,eqp _),(24,eqp _),(25,eqp _)] (by repeat first | exact cy | refine cm ?_ | refine bO ?_) (by kernel_rfl) (by kernel_rfl) ⟨ag _,ag _,ag _,ag _,ag _,ag _,trivial⟩
 case hop=>
  constructor
  ·rintro-w3 D3;exact ai (aq (v:=.slice _ _ _) rfl) rfl
  constructor
  ·rintro-w4 D4;exact ai (aq (v:=.int _ _) rfl) rfl
  constructor
  ·rintro-w5 D5;rintro _ rfl _ rfl;exact ai (eR (v':=.slice (some ⟨g,0,none⟩) i c) (bm (l:=0) (h:=i) cq rfl (.inl ⟨rfl,rfl⟩) (.inr ⟨_,_,_,rfl,rfl,rfl⟩) (by omega) (by omega)) (by rw [di,Nat.sub_zero,Nat.sub_zero])) rfl
  constructor
  ·rintro-w6 D6;exact ai (aq (v:=.slice _ _ _) rfl) rfl
  constructor
  ·rintro-w7 D7;exact ai (aq (v:=.int _ _) rfl) rfl
  constructor
  ·rintro-w8 D8;rintro _ rfl _ rfl;exact ai (bm (l:=j) (h:=n) cq rfl (.inr ⟨_,_,_,rfl,rfl,rfl⟩) (.inl ⟨rfl,rfl⟩) (by omega) (by omega)) rfl
  exact trivial
 case hend=>
  intro w9 D9;rintro _ rfl _ rfl _ rfl _ rfl _ rfl _ rfl;show St ..;replace hbz:=aN hbz (aj.grown D9 _);replace hbk:=hbk.from_ D9;refine m_ (news:=xs.drop (j*2)) (cur:=cur) cq rfl rfl hdl (fun h=>⟨g,j*2,by rw [bT (by omega),Nat.zero_add],jD hbk hct⟩) hbk (fun v hv=>h1 v (List.mem_of_mem_drop hv)) (by omega) (by rw [hdl,hcl];omega) ?_;intro w10 O26 P26;replace hbz:=aN hbz (cH.grown O26);refine ass rfl (ah (ab (af (aa (mvs rfl (mvs rfl (ae (aQ cU rfl) (mvi rfl (ae (bm (l:=i+(n-j)) (h:=n) cq rfl (.inr ⟨_,_,_,rfl,rfl,by omega⟩) (.inr ⟨_,_,_,rfl,rfl,rfl⟩) (by omega) (by omega)) ?_)))))))));refine jx (g:=g) (o:=(i+(n-j))*2) eX rfl rfl (fun h=>by rw [bT (by omega),Nat.zero_add]) P26 (by rw [br _ _ _ (by rw [hdl,hcl];omega),hcl];omega) (by decide) ?_;intro w11 zs O6 hzl P6;replace hbz:=aN hbz (cH.grown O6);have hzl2:zs.length=(j-i)*2:=by rw [hzl];congr 1;omega
  refine ah (ab (af (aa (mvs rfl (ass rfl (ah (ab (ay (bE (v:=.slice _ _ _) rfl rfl ?_)))))))));rw [hno];exact ⟨⟨_,_,rfl,gv hg P6 (by omega) hcm (by rw [br _ _ _ (by rw [br _ _ _ (by rw [hdl,hcl];omega),hzl2,hcl];omega),br _ _ _ (by rw [hdl,hcl];omega),hcl]) (wG (by omega) hj hnc hcl hct hzl2),fun q hq=>hq⟩,hbz⟩
theorem dr (A:Option Addr) (c n:Nat) (xs:List Value) (w:World) (hx:xs.length=n*2) (hr:0<n→∃ b o,A=some ⟨b,o,none⟩∧w.rangeAt b o xs) (hn0:A=none→n=0∧c=0) (h1:∀ u∈xs,u.oneCell'=true) (hl:n≤100000000000) :
 Rt prog 48 [.slice A n c] w (fun v w'=>(∃ A' c',v=.slice A' n c'∧w'.ownsRow w.heap.size 57 2 (.slice A' n c') n xs)∧aj w w'):=by
 refine enter (n:=8) Tryz.func48 rfl rfl rfl (af (aa (ass rfl (ah (ab (af (af (aa (mvs rfl (ae (nb BX rfl rfl) (ah (ab (au rfl (fun Q1=>?_) (fun Q1=>?_))))))))))))))
 ·(try first | (replace Q1 := fm Q1; trace "@MK N dr:c4+ 1.1") | (replace Q1 := fo Q1; trace "@MK N dr:c4+ 1.2"))
  (try first | (replace Q1 := eH Q1; trace "@MK N dr:c4+ 2.1") | (replace Q1 := eI Q1; trace "@MK N dr:c4+ 2.2") | (replace Q1 := fX Q1; trace "@MK N dr:c4+ 2.3") | (replace Q1 := fY Q1; trace "@MK N dr:c4+ 2.4") | (replace Q1 := dT_ Q1; trace "@MK N dr:c4+ 2.5") | (replace Q1 := dF_ Q1; trace "@MK N dr:c4+ 2.6"))
  obtain rfl:A=none:=Option.isNone_iff_eq_none.1 Q1;obtain ⟨rfl,rfl⟩:=hn0 rfl;obtain rfl:xs=[]:=List.eq_nil_of_length_eq_zero (by omega);refine af (aa (ass rfl (ah (ab (ay (aD (bE (v:=.slice _ _ _) rfl rfl (⟨⟨none,0,rfl,World.ownsRow_nil _ _ _ _⟩,aj.rfl_⟩))))))))
 (try first | (replace Q1 := fm Q1; trace "@MK N dr:c4- 1.1") | (replace Q1 := fo Q1; trace "@MK N dr:c4- 1.2"))
 (try first | (replace Q1 := eH Q1; trace "@MK N dr:c4- 2.1") | (replace Q1 := eI Q1; trace "@MK N dr:c4- 2.2") | (replace Q1 := fX Q1; trace "@MK N dr:c4- 2.3") | (replace Q1 := fY Q1; trace "@MK N dr:c4- 2.4") | (replace Q1 := dT_ Q1; trace "@MK N dr:c4- 2.5") | (replace Q1 := dF_ Q1; trace "@MK N dr:c4- 2.6"))
 have hA4:A=none→c=0:=fun h=>by rw [h] at Q1;cases Q1
 refine av (ab (af (aa (tE eY _ (aj.rfl_.size) ?_))));intro b5 w2 E5 hb5 ho5;refine mvs rfl ?_;refine mo (a0:=w) eY rfl (by decide) rfl ho5 (aj.rfl_.next E5) rfl hx (fun h=>(let ⟨b,o,hA,hc⟩:=hr h;⟨b,o,hA,du (aj.rfl_.next E5) hc⟩)) hA4 h1 (by omega) (by omega) ?_;intro A7 c7 w3 ho7 B7 hg7;refine ass rfl (ah (ab (ay (bE (v:=.slice _ _ _) rfl rfl (⟨⟨A7,c7,by rw [Nat.zero_add],by simpa using ho7⟩,B7⟩)))))
end Go.Proofs.YtcbakncjacnnjaaGreat
namespace Go.Proofs.YtcbakncjacnnjaaGreat
open Go.Proofs.Tryz (prog)
open Go.RowKit Go.ChangeShapes Go.WideShapes Go.ChangeAt
structure Chg (U:Nat→Prop) (w w':World):Prop where
 os:w'.os=w.os
 tape:w'.tape=w.tape
 output:w'.output=w.output
 size:w.heap.size≤w'.heap.size
 block:∀ k,k<w.heap.size→¬ U k→w'.heap[k]? =w.heap[k]?
section
variable {U V:Nat→Prop} {a w w' w2:World}
theorem Chg.rfl_:Chg U w w:=⟨rfl,rfl,rfl,Nat.le_refl _,fun _ _ _=>rfl⟩
theorem aj.toChg (h:aj w w'):Chg U w w':=⟨h.os,h.tape,h.output,h.size,fun k hk _=>h.block k hk⟩
theorem cH.toChg {g:Nat} (h:cH g w w') (hg:U g):Chg U w w':=⟨h.os,h.tape,h.output,Nat.le_of_eq h.size.symm,fun k _ hu=>h.block k (fun e=>hu (e ▸ hg))⟩
theorem Chg.of_grown {r:Option Nat} (h:w.grownBy w' r) (hr:∀ k,r=some k→U k):Chg U w w':=⟨h.os,h.tape,h.output,h.size,fun k hk hu=>h.block k hk (fun e=>hu (hr k e.symm))⟩
theorem Chg.trans (h:Chg U w w') (k:Chg V w' w2) (hV:∀ i,V i→U i∨w.heap.size≤i):Chg U w w2:=⟨k.os.trans h.os,k.tape.trans h.tape,k.output.trans h.output,Nat.le_trans h.size k.size,fun i hi hu=>by
 refine (k.block i (Nat.lt_of_lt_of_le hi h.size) fun hv=>?_).trans (h.block i hi hu);rcases hV i hv with e | e
 ·exact hu e
 ·omega⟩
theorem Chg.next (h:Chg U w w') (k:Chg U w' w2):Chg U w w2:=h.trans k fun _ h=>.inl h
theorem Chg.wide (h:Chg U w w') (hV:∀ i,U i→V i∨w.heap.size≤i):Chg V w w':=(Chg.rfl_ (U:=V)).trans h hV
theorem aj.chg (h:aj a w) (c:Chg U w w') (hU:∀ k,U k→a.heap.size≤k):aj a w':=⟨c.os.trans h.os,c.tape.trans h.tape,c.output.trans h.output,Nat.le_trans h.size c.size,fun k hk=>(c.block k (Nat.lt_of_lt_of_le hk h.size) (fun hu=>by have:=hU k hu;omega)).trans (h.block k hk)⟩
theorem Blk.chg {g:Nat} {t:TypeId} {cs:Array Value} (h:Blk w g t cs) (c:Chg U w w') (hg:¬ U g):Blk w' g t cs:=(c.block g h.lt hg).trans h
theorem jg {base e s n c:Nat} {A:Option Addr} {xs:List Value} (h:w.ownsRow base e s (.slice A n c) n xs) (hc:Chg U w w') (hA:∀ q,A.map (·.block)=some q→¬ U q):w'.ownsRow base e s (.slice A n c) n xs:=by
 refine ⟨h.1,?_⟩;rcases h.2 with h0 | ⟨g,cap,cur,h1,h2,h3,h4⟩
 ·exact .inl h0
 ·refine .inr ⟨g,cap,cur,h1,h2,?_,h4⟩;simp only [Value.slice.injEq] at h1;obtain ⟨rfl,_,_⟩:=h1
  have hlt:g<w.heap.size:=by
   rcases Nat.lt_or_ge g w.heap.size with a | a
   ·exact a
   ·rw [Array.getElem?_eq_none a] at h3;cases h3
  exact (hc.block g hlt (hA g rfl)).trans h3
end
def ri (w w':World) (n:Nat):World:={ w' with heap:=w'.heap.mapIdx fun i o=>if i<n then o else (w.heap[i]?).getD o }
theorem qp (w w':World) (n k:Nat) (hs:w.heap.size≤w'.heap.size):(ri w w' n).heap[k]? =if k<n then w'.heap[k]? else if k<w.heap.size then w.heap[k]? else w'.heap[k]? :=by
 unfold ri;show (w'.heap.mapIdx _)[k]? =_;rw [Array.getElem?_mapIdx];by_cases h1:k<w'.heap.size
 ·rw [Array.getElem?_eq_getElem h1];by_cases h2:k<n
  ·simp [h2]
  ·by_cases h3:k<w.heap.size
   ·simp [h2,h3]
   ·simp [h2,h3]
 ·rw [Array.getElem?_eq_none (Nat.le_of_not_lt h1),if_neg (show ¬ k<w.heap.size by omega)];simp
theorem JD {Φ:World→Prop} {lo:Nat} (hF:∀ a b,aj a b→Φ a→Φ b) (hG:∀ a b q,a.grownBy b (some q)→q<lo→Φ a→Φ b) {w w':World} (ho:w'.os=w.os) (ht:w'.tape=w.tape) (hp:w'.output=w.output) (hs:w.heap.size≤w'.heap.size)
 (hk:∀ k,lo≤k→k<w.heap.size→w'.heap[k]? =w.heap[k]?) (h:Φ w):Φ w':=by
 have h0:aj w (ri w w' 0):=⟨ho,ht,hp,by unfold ri;simpa using hs,fun k hk=>by rw [qp _ _ _ _ hs,if_neg (by omega),if_pos hk]⟩
 have hn:∀ n,n≤lo→Φ (ri w w' n):=by
  intro n
  induction n with
  |zero=>exact fun _=>hF _ _ h0 h
  |succ n ih=>
   intro hn;refine hG (ri w w' n) (ri w w' (n+1)) n ⟨rfl,rfl,rfl,by unfold ri;simp,fun k hk hne=>?_⟩ hn (ih (by omega));have hne2:k≠n:=fun e=>hne (by rw [e])
   rw [qp _ _ _ _ hs,qp _ _ _ _ hs];by_cases h2:k<n
   ·rw [if_pos h2,if_pos (by omega)]
   ·rw [if_neg h2,if_neg (by omega)]
 have e:ri w w' lo=w':=by
  have e2:(ri w w' lo).heap=w'.heap:=by
   apply Array.ext_getElem?;intro k;rw [qp _ _ _ _ hs];by_cases h2:k<lo
   ·rw [if_pos h2]
   ·rw [if_neg h2];by_cases h3:k<w.heap.size
    ·rw [if_pos h3,hk k (by omega) h3]
    ·rw [if_neg h3]
  show ({ w' with heap:=(ri w w' lo).heap }:World)=w';rw [e2]
 exact e ▸ hn lo (Nat.le_refl _)
end Go.Proofs.YtcbakncjacnnjaaGreat
namespace Go.Proofs.YtcbakncjacnnjaaGreat
open Go.Proofs.Tryz (prog)
open Go.RowKit
abbrev PT:=List (Nat×Nat×((Nat→Bool)→Value→World→Prop))
def Kb (L:List (Nat×Value)) (T:PT) (S:Nat→Bool) (L':List (Nat×Value)) (w:World):Prop:=
 (∀ t,(∀ p∈T,p.2.1≠t)→aY L' t=aY L t)∧(∀ p∈T,S p.1=true→p.2.2 S (aY L' p.2.1) w)∧∀ p∈T,S p.1=false→aY L' p.2.1=aY L p.2.1
def Hd:List (Nat×Nat)→Prop
 |[]=>True
 |p::r=>(∀ q∈r,q.1≠p.1∧q.2≠p.2)∧Hd r
def Kh:List (Nat×Nat)→Bool
 |[]=>true
 |p::r=>(r.all fun q=> !(Nat.beq q.1 p.1)&&!(Nat.beq q.2 p.2))&&Kh r
def HL (Mu:List Nat):PT→Prop
 |[]=>True
 |p::r=>(∀ S i v w1 w2,Mu.elem i=false→aj w1 w2→p.2.2 S v w1→p.2.2 (j4 S i) v w2)∧HL Mu r
def ChP (i:Nat) (S:Nat→Bool) (w1 w2:World):PT→Prop
 |[]=>True
 |p::r=>(Nat.beq p.1 i=false→S p.1=true→∀ v,p.2.2 S v w1→p.2.2 (j4 S i) v w2)∧ChP i S w1 w2 r
def Ku (L':List (Nat×Value)):List (Nat×Value)→Prop
 |[]=>True
 |(t,v)::r=>aY L' t=v∧Ku L' r
section
variable {P:Program} {Q:Exit→Act→World→Prop} {n:Fr} {L L' M:List (Nat×Value)} {w w' w'':World} {l:List Oper} {T:PT} {Mem:(Nat→Bool)→World→Prop} {Mu:List Nat} {S:Nat→Bool} {op:Op} {ty:TypeId} {pos:String} {after:Array Edge} {i d:Nat} {v:Value} {R:(Nat→Bool)→Value→World→Prop}
abbrev J5 (P:Program) (n:Fr) (L:List (Nat×Value)) (T:PT) (Mem:(Nat→Bool)→World→Prop) (S:Nat→Bool) (i:Nat) (o:Oper) (L':List (Nat×Value)) (w':World):Prop:=oq P n o (fun L2 w2=>Kb L T (j4 S i) L2 w2∧Mem (j4 S i) w2) L' w'
def Kt (S:Nat→Bool) (w:World):PT→(List (Nat×Value)→Prop)→Prop
 |[],K=>K []
 |p::r,K=>∀ v,p.2.2 S v w→Kt S w r fun M=>K ((p.2.1,v)::M)
def Am (l:List Oper) (S:Nat→Bool):Prop:=∀ j o,l[j]? =some o→S j=true→∀ e∈o.after,Region.binds .any e=true→S e.on=true
def Jc (P:Program) (n:Fr) (L:List (Nat×Value)) (T:PT) (Mu:List Nat) (Mem:(Nat→Bool)→World→Prop) (l:List Oper):Nat→List Oper→Prop
 |_,[]=>True
 |i,o::r=>(∀ S L' w',Hd (T.map fun p=>(p.1,p.2.1))→HL Mu T→(∀ S i w1 w2,Mu.elem i=false→aj w1 w2→Mem S w1→Mem (j4 S i) w2)→Kb L T S L' w'→Mem S w'→Am l S→S i=false→lD S o.after.toList→J5 P n L T Mem S i o L' w')∧Jc P n L T Mu Mem l (i+1) r
end
end Go.Proofs.YtcbakncjacnnjaaGreat
namespace Go.Proofs.YtcbakncjacnnjaaGreat.SA
open Classical
noncomputable def cnt:Nat→(Nat→Prop)→Nat
 |0,_=>0
 |n+1,p=>cnt n p+if p n then 1 else 0
theorem fk (n:Nat) (p:Nat→Prop):cnt n p≤n:=by
 induction n with
 |zero=>exact Nat.le_refl _
 |succ n ih=>unfold cnt;split <;> omega
theorem fj {n:Nat} {p q:Nat→Prop} (h:∀ i,i<n→p i→q i):cnt n p≤cnt n q:=by
 induction n with
 |zero=>exact Nat.le_refl _
 |succ n ih=>
  have ih:=ih fun i hi=>h i (by omega)
  have:=h n (by omega);unfold cnt;by_cases a:p n
  ·rw [if_pos a,if_pos (this a)];omega
  ·rw [if_neg a];omega
theorem da {n:Nat} {p q:Nat→Prop} (h:∀ i,i<n→(p i↔q i)):cnt n p=cnt n q:=
 Nat.le_antisymm (fj fun i hi=>(h i hi).1) (fj fun i hi=>(h i hi).2)
theorem l7 {n:Nat} {p q:Nat→Prop} (h:∀ i,i<n→p i→¬ q i):cnt n (fun i=>p i∨q i)=cnt n p+cnt n q:=by
 induction n with
 |zero=>rfl
 |succ n ih=>
  have ih:=ih fun i hi=>h i (by omega)
  have:=h n (by omega);unfold cnt;rw [ih];by_cases a:p n
  ·rw [if_pos a,if_pos (.inl a),if_neg (this a)];omega
  ·by_cases b:q n
   ·rw [if_neg a,if_pos b,if_pos (.inr b)];omega
   ·rw [if_neg a,if_neg b,if_neg (fun c=>c.elim a b)];omega
theorem En {n x:Nat} (hx:x<n):cnt n (fun i=>i=x)=1:=by
 induction n with
 |zero=>omega
 |succ n ih=>
  unfold cnt;by_cases h:n=x
  ·subst h;rw [if_pos rfl,da (q:=fun _=>False) (fun i hi=>⟨fun e=>by omega,fun e=>e.elim⟩)]
   have:∀ m,cnt m (fun _=>False)=0:=by
    intro m
    induction m with
    |zero=>rfl
    |succ m ih=>unfold cnt;rw [ih,if_neg (fun h=>h)]
   rw [this]
  ·rw [if_neg h,ih (by omega)]
theorem mH {n x:Nat} {p q:Nat→Prop} (hx:x<n) (hp:¬ p x) (h:∀ i,i<n→(q i↔p i∨i=x)):cnt n q=cnt n p+1:=by
 rw [da h,l7 (p:=p) (q:=fun i=>i=x) (fun i _ a b=>hp (by subst b;exact a)),En hx]
theorem iH {n x:Nat} {p q:Nat→Prop} (h:∀ i,i<n→p i→q i) (hx:x<n) (hp:¬ p x) (hq:q x):cnt n p<cnt n q:=by
 have:=mH (p:=p) (q:=fun i=>p i∨i=x) hx hp (fun i _=>Iff.rfl);have h2:cnt n (fun i=>p i∨i=x)≤cnt n q:=fj fun i hi a=>a.elim (h i hi) (fun e=>e ▸ hq)
 omega
theorem Eo {n:Nat} {p:Nat→Prop} (h:cnt n p=n):∀ i,i<n→p i:=by
 intro i hi;by_cases a:p i
 ·exact a
 ·have h1:=iH (p:=p) (q:=fun _=>True) (fun _ _ _=>trivial) hi a trivial;have:=fk n (fun _=>True);omega
theorem xz {n:Nat} {f:Nat→Nat} (hf:∀ i,i<n→f i<n) (hi:∀ i j,i<n→j<n→f i=f j→i=j):∀ r,r<n→∃ i,i<n∧f i=r:=by
 have key:∀ m,m≤n→cnt n (fun r=>∃ i,i<m∧f i=r)=m:=by
  intro m
  induction m with
  |zero=>
   intro _;have:=fj (n:=n) (p:=fun r=>∃ i,i<0∧f i=r) (q:=fun r=>r<0∧False) (fun r _ ⟨i,h,_⟩=>by omega)
   have h2:∀ k,cnt k (fun r=>r<0∧False)=0:=by
    intro k
    induction k with
    |zero=>rfl
    |succ k ih=>unfold cnt;rw [ih,if_neg (fun h=>h.2)]
   rw [h2] at this;omega
  |succ m ih=>
   intro hm;rw [mH (p:=fun r=>∃ i,i<m∧f i=r) (x:=f m) (hf m (by omega)) (fun ⟨i,h1,h2⟩=>by have:=hi i m (by omega) (by omega) h2;omega),ih (by omega)];intro r _;constructor
   ·rintro ⟨i,h1,h2⟩;by_cases e:i=m
    ·subst e;exact .inr h2.symm
    ·exact .inl ⟨i,by omega,h2⟩
   ·rintro (⟨i,h1,h2⟩ | h)
    ·exact ⟨i,by omega,h2⟩
    ·exact ⟨m,by omega,h.symm⟩
 exact Eo (key n (Nat.le_refl _))
def lx:List Nat→List Nat→Prop
 |[],[]=>False
 |[],_::_=>True
 |_::_,[]=>False
 |a::x,b::y=>a<b∨(a=b∧lx x y)
theorem kj:∀ x,¬ lx x x
 |[],h=>h
 |a::x,h=>by
  rcases h with h | ⟨_,h⟩
  ·omega
  ·exact kj x h
theorem rj:∀ {x y z:List Nat},lx x y→lx y z→lx x z
 |[],[],_,h,_=>h.elim
 |[],_::_,[],_,h=>h.elim
 |[],_::_,_::_,_,_=>trivial
 |_::_,[],_,h,_=>h.elim
 |_::_,_::_,[],_,h=>h.elim
 |a::x,b::y,c::z,h,k=>by
  rcases h with h | ⟨rfl,h⟩
  ·rcases k with k | ⟨rfl,k⟩
   ·exact .inl (by omega)
   ·exact .inl h
  ·rcases k with k | ⟨rfl,k⟩
   ·exact .inl k
   ·exact .inr ⟨rfl,rj h k⟩
theorem o_:∀ {x y:List Nat},x≠y→lx x y∨lx y x
 |[],[],h=>(h rfl).elim
 |[],_::_,_=>.inl trivial
 |_::_,[],_=>.inr trivial
 |a::x,b::y,h=>by
  rcases Nat.lt_trichotomy a b with h1 | rfl | h1
  ·exact .inl (.inl h1)
  ·rcases o_ (x:=x) (y:=y) (fun e=>h (by rw [e])) with h2 | h2
   ·exact .inl (.inr ⟨rfl,h2⟩)
   ·exact .inr (.inr ⟨rfl,h2⟩)
  ·exact .inr (.inl h1)
theorem kC {x y:List Nat} (h:lx x y):¬ lx y x:=fun k=>kj _ (rj h k)
theorem fb {a:Nat} {x y:List Nat}:lx (a::x) (a::y)↔lx x y:=
 ⟨fun h=>h.elim (fun h=>absurd h (Nat.lt_irrefl _)) (fun h=>h.2),fun h=>.inr ⟨rfl,h⟩⟩
theorem eG {a b:Nat} {x y:List Nat} (h:a<b):lx (a::x) (b::y):=.inl h
theorem iC {a b:Nat} {x y:List Nat} (h:b<a):¬ lx (a::x) (b::y):=fun k=>by
 rcases k with k | ⟨k,_⟩ <;> omega
structure Txt (n:Nat) (t:Nat→Nat):Prop where
 pos:0<n
 last:t (n-1)=0
 more:∀ i,i+1<n→0<t i
section
variable {n:Nat} {t:Nat→Nat}
def sl (n:Nat) (t:Nat→Nat) (i j:Nat):Prop:=∃ k,(∀ m,m<k→t (i+m)=t (j+m))∧i+k<n∧j+k<n∧t (i+k)<t (j+k)
theorem gu {i j:Nat}:sl n t i j↔(i<n∧j<n∧t i<t j)∨(t i=t j∧sl n t (i+1) (j+1)):=by
 constructor
 ·rintro ⟨k,h1,h2,h3,h4⟩;cases k with
  |zero=>exact .inl ⟨h2,h3,h4⟩
  |succ k=>
   refine .inr ⟨h1 0 (by omega),k,fun m hm=>?_,by omega,by omega,?_⟩
   ·have:=h1 (m+1) (by omega);rw [show i+(m+1)=i+1+m by omega,show j+(m+1)=j+1+m by omega] at this;exact this
   ·rw [show i+(k+1)=i+1+k by omega,show j+(k+1)=j+1+k by omega] at h4;exact h4
 ·rintro (⟨h1,h2,h3⟩ | ⟨h,k,h1,h2,h3,h4⟩)
  ·exact ⟨0,fun m hm=>by omega,h1,h2,h3⟩
  ·refine ⟨k+1,fun m hm=>?_,by omega,by omega,?_⟩
   ·cases m with
    |zero=>exact h
    |succ m=>
     rw [show i+(m+1)=i+1+m by omega,show j+(m+1)=j+1+m by omega];exact h1 m (by omega)
   ·rw [show i+(k+1)=i+1+k by omega,show j+(k+1)=j+1+k by omega];exact h4
theorem Cy {i j:Nat} (h:sl n t i j):i<n∧j<n:=by
 obtain ⟨k,_,h2,h3,_⟩:=h;omega
theorem oJ (i:Nat):¬ sl n t i i:=fun ⟨_,_,_,_,h⟩=>Nat.lt_irrefl _ h
theorem qN {i j:Nat} (h:sl n t i j):¬ sl n t j i:=by
 rintro ⟨k',g1,g2,g3,g4⟩;obtain ⟨k,h1,h2,h3,h4⟩:=h;rcases Nat.lt_trichotomy k k' with a | a | a
 ·have:=g1 k a;omega
 ·subst a;omega
 ·have:=h1 k' a;omega
theorem Txt.zero (h:Txt n t) {i:Nat} (hi:i<n) (h0:t i=0):i=n-1:=by
 by_cases e:i+1<n
 ·have:=h.more i e;omega
 ·omega
theorem qM (h:Txt n t):∀ {m i j:Nat},m=n-i→i<n→j<n→i≠j→sl n t i j∨sl n t j i:=by
 intro m
 induction m with
 |zero=>intro i j hm hi;omega
 |succ m ih=>
  intro i j hm hi hj hne;rcases Nat.lt_trichotomy (t i) (t j) with a | a | a
  ·exact .inl (gu.2 (.inl ⟨hi,hj,a⟩))
  ·have h1:i+1<n:=by
    rcases Nat.lt_or_ge (i+1) n with b | b
    ·exact b
    ·have hi0:i=n-1:=by omega
     rw [hi0,h.last] at a;have:=h.zero hj a.symm;omega
   have h2:j+1<n:=by
    rcases Nat.lt_or_ge (j+1) n with b | b
    ·exact b
    ·have hj0:j=n-1:=by omega
     rw [hj0,h.last] at a;have:=h.zero hi a;omega
   rcases ih (i:=i+1) (j:=j+1) (by omega) h1 h2 (by omega) with b | b
   ·exact .inl (gu.2 (.inr ⟨a,b⟩))
   ·exact .inr (gu.2 (.inr ⟨a.symm,b⟩))
  ·exact .inr (gu.2 (.inl ⟨hj,hi,a⟩))
def rz (n:Nat) (t:Nat→Nat) (i:Nat):Prop:=i+1=n∨sl n t i (i+1)
theorem qk (h:Txt n t):rz n t (n-1):=.inl (by have:=h.pos;omega)
theorem na (h:Txt n t) {i:Nat} (hi:i+1<n):rz n t i↔t i<t (i+1)∨(t i=t (i+1)∧rz n t (i+1)):=by
 unfold rz;constructor
 ·rintro (a | a)
  ·omega
  ·rcases gu.1 a with ⟨_,_,b⟩ | ⟨b,c⟩
   ·exact .inl b
   ·exact .inr ⟨b,.inr c⟩
 ·rintro (a | ⟨a,b⟩)
  ·exact .inr (gu.2 (.inl ⟨by omega,hi,a⟩))
  ·rcases b with b | b
   ·have:=h.last;rw [show n-1=i+1 by omega] at this;have:=h.more i hi;omega
   ·exact .inr (gu.2 (.inr ⟨a,b⟩))
theorem qv (_:Txt n t) {i:Nat} (hi:i<n) (hf:¬ rz n t i):i+1<n:=by
 rcases Nat.lt_or_ge (i+1) n with a | a
 ·exact a
 ·exact absurd (.inl (by omega)) hf
theorem zS (h:Txt n t) {i:Nat} (hi:i<n) (hf:¬ rz n t i):t (i+1)≤t i∧(t (i+1)=t i→¬ rz n t (i+1)):=by
 have h1:=qv h hi hf;rw [na h h1] at hf;refine ⟨?_,fun e r=>hf (.inr ⟨e.symm,r⟩)⟩;rcases Nat.lt_or_ge (t i) (t (i+1)) with a | a
 ·exact absurd (.inl a) hf
 ·exact a
theorem nN (h:Txt n t) {i:Nat} (hi:i+1<n) (hr:rz n t i):t i≤t (i+1)∧(t i=t (i+1)→rz n t (i+1)):=by
 rcases (na h hi).1 hr with a | ⟨a,b⟩
 ·exact ⟨by omega,fun e=>by omega⟩
 ·exact ⟨by omega,fun _=>b⟩
theorem tk (h:Txt n t):∀ {m i j:Nat},m=n-i→i<n→j<n→t i=t j→¬ rz n t i→rz n t j→sl n t i j:=by
 intro m
 induction m with
 |zero=>intro i j hm hi;omega
 |succ m ih=>
  intro i j hm hi hj he hf hr;have h1:=qv h hi hf
  have h2:j+1<n:=by
   rcases Nat.lt_or_ge (j+1) n with b | b
   ·exact b
   ·have hj0:j=n-1:=by omega
    rw [hj0,h.last] at he;have:=h.more i h1;omega
  obtain ⟨a1,a2⟩:=zS h hi hf;obtain ⟨b1,b2⟩:=nN h h2 hr;refine gu.2 (.inr ⟨he,?_⟩);rcases Nat.lt_or_ge (t (i+1)) (t (j+1)) with c | c
  ·exact gu.2 (.inl ⟨h1,h2,c⟩)
  ·exact ih (by omega) h1 h2 (by omega) (a2 (by omega)) (b2 (by omega))
end
end Go.Proofs.YtcbakncjacnnjaaGreat.SA
namespace Go.Proofs.YtcbakncjacnnjaaGreat.SA
open Classical
section
variable {n:Nat} {t idx:Nat→Nat}
def lms (n:Nat) (t:Nat→Nat) (i:Nat):Prop:=0<i∧i<n∧rz n t i∧¬ rz n t (i-1)
noncomputable def kL (n:Nat) (t idx:Nat→Nat):Nat→Nat→List Nat
 |0,_=>[]
 |m+1,i=>if rz n t i then [2*t i+1,idx i] else 2*t i::kL n t idx m (i+1)
noncomputable def kk (n:Nat) (t idx:Nat→Nat) (i:Nat):List Nat:=kL n t idx (n-i) i
noncomputable def kS (n:Nat) (t idx:Nat→Nat):Nat→Nat→List Nat
 |0,_=>[]
 |m+1,i=>if rz n t i then (if i+1=n then [1] else (2*t i+1)::kS n t idx m (i+1)) else kL n t idx (m+1) i
noncomputable def dJ (n:Nat) (t idx:Nat→Nat) (i:Nat):List Nat:=kS n t idx (n-i) i
theorem fV {i:Nat} (hi:i<n) (h:rz n t i):kk n t idx i=[2*t i+1,idx i]:=by
 unfold kk;rw [show n-i=(n-(i+1))+1 by omega];unfold kL;rw [if_pos h]
theorem dM {i:Nat} (hi:i<n) (h:¬ rz n t i):kk n t idx i=2*t i::kk n t idx (i+1):=by
 unfold kk;rw [show n-i=(n-(i+1))+1 by omega]
 conv=>lhs;unfold kL
 rw [if_neg h]
theorem fU {i:Nat} (hi:i<n) (h:¬ rz n t i):dJ n t idx i=kk n t idx i:=by
 unfold dJ kk;rw [show n-i=(n-(i+1))+1 by omega];unfold kS;rw [if_neg h]
theorem iE {i:Nat} (hi:i+1<n) (h:rz n t i):dJ n t idx i=(2*t i+1)::dJ n t idx (i+1):=by
 unfold dJ;rw [show n-i=(n-(i+1))+1 by omega]
 conv=>lhs;unfold kS
 rw [if_pos h,if_neg (by omega)]
theorem kI (h:Txt n t):dJ n t idx (n-1)=[1]:=by
 have:=h.pos;unfold dJ;rw [show n-(n-1)=0+1 by omega];unfold kS;rw [if_pos (qk h),if_pos (by omega)]
theorem gO (h:Txt n t) {i:Nat} (hi:i<n) (hr:rz n t i):∃ x,dJ n t idx i=(2*t i+1)::x:=by
 rcases Nat.lt_or_ge (i+1) n with a | a
 ·exact ⟨_,iE a hr⟩
 ·obtain rfl:i=n-1:=by omega
  exact ⟨[],by rw [kI h,h.last]⟩
structure Ord (n:Nat) (t idx:Nat→Nat):Prop where
 inj:∀ i j,lms n t i→lms n t j→idx i=idx j→i=j
def FS (n:Nat) (t:Nat→Nat) (i:Nat):Prop:=i<n∧(¬ rz n t i∨lms n t i)
theorem et (h:Txt n t) {i:Nat} (hi:i<n) (hf:¬ rz n t i):FS n t (i+1):=by
 have h1:=qv h hi hf;refine ⟨h1,?_⟩;by_cases hr:rz n t (i+1)
 ·exact .inr ⟨by omega,h1,hr,by simpa using hf⟩
 ·exact .inl hr
theorem jY {i:Nat} (h:FS n t i) (hr:rz n t i):lms n t i:=h.2.elim (fun a=>absurd hr a) id
theorem rv (h:Txt n t) (ho:Ord n t idx):∀ {m i j:Nat},m=n-i→FS n t i→FS n t j→kk n t idx i=kk n t idx j→i=j:=by
 intro m
 induction m with
 |zero=>intro i j hm hi;have:=hi.1;omega
 |succ m ih=>
  intro i j hm hi hj he;by_cases a:rz n t i <;> by_cases b:rz n t j
  ·rw [fV hi.1 a,fV hj.1 b] at he;simp only [List.cons.injEq,and_true] at he;exact ho.inj i j (jY hi a) (jY hj b) he.2
  ·rw [fV hi.1 a,dM hj.1 b] at he;simp only [List.cons.injEq] at he;omega
  ·rw [dM hi.1 a,fV hj.1 b] at he;simp only [List.cons.injEq] at he;omega
  ·rw [dM hi.1 a,dM hj.1 b] at he;simp only [List.cons.injEq] at he;have:=ih (i:=i+1) (j:=j+1) (by omega) (et h hi.1 a) (et h hj.1 b) he.2;omega
theorem rr (h:Txt n t) (ho:Ord n t idx):∀ {m i j:Nat},m=n-i→i<n→j<n→dJ n t idx i=dJ n t idx j→i=j:=by
 intro m
 induction m with
 |zero=>intro i j hm hi;omega
 |succ m ih=>
  intro i j hm hi hj he;by_cases a:rz n t i <;> by_cases b:rz n t j
  ·rcases Nat.lt_or_ge (i+1) n with a1 | a1
   ·rcases Nat.lt_or_ge (j+1) n with b1 | b1
    ·rw [iE a1 a,iE b1 b] at he;simp only [List.cons.injEq] at he;have:=ih (i:=i+1) (j:=j+1) (by omega) a1 b1 he.2;omega
    ·obtain rfl:j=n-1:=by omega
     rw [iE a1 a,kI h] at he;simp only [List.cons.injEq] at he;have:=h.more i a1;omega
   ·obtain rfl:i=n-1:=by omega
    rcases Nat.lt_or_ge (j+1) n with b1 | b1
    ·rw [iE b1 b,kI h] at he;simp only [List.cons.injEq] at he;have:=h.more j b1;omega
    ·omega
  ·obtain ⟨x,hx⟩:=gO (idx:=idx) h hi a;rw [hx,fU hj b,dM hj b] at he;simp only [List.cons.injEq] at he;omega
  ·obtain ⟨x,hx⟩:=gO (idx:=idx) h hj b;rw [hx,fU hi a,dM hi a] at he;simp only [List.cons.injEq] at he;omega
  ·rw [fU hi a,fU hj b] at he;exact rv h ho rfl ⟨hi,.inl a⟩ ⟨hj,.inl b⟩ he
noncomputable def pos (n:Nat) (t idx:Nat→Nat) (i:Nat):Nat:=cnt n fun j=>lx (dJ n t idx j) (dJ n t idx i)
noncomputable def less (n:Nat) (t:Nat→Nat) (c:Nat):Nat:=cnt n fun j=>t j<c
theorem kD (c:Nat):less n t (c+1)=less n t c+cnt n (fun j=>t j=c):=by
 unfold less;rw [←l7 (fun i _ a b=>by omega)];exact da fun i _=>by omega
theorem pc {c d:Nat} (h:c≤d):less n t c≤less n t d:=fj fun i _ a=>by omega
theorem jF {i:Nat} (hi:i<n):pos n t idx i<n:=by
 have h1:=iH (n:=n) (p:=fun j=>lx (dJ n t idx j) (dJ n t idx i)) (q:=fun _=>True) (fun _ _ _=>trivial) hi (kj _) trivial;have:=fk n (fun _=>True);unfold pos;omega
theorem kx {i j:Nat} (hi:i<n) (h:lx (dJ n t idx i) (dJ n t idx j)):pos n t idx i<pos n t idx j:=
 iH (fun _ _ a=>rj a h) hi (kj _) h
theorem je (h:Txt n t) (ho:Ord n t idx) {i j:Nat} (hi:i<n) (hj:j<n) (he:pos n t idx i=pos n t idx j):i=j:=by
 by_cases e:dJ n t idx i=dJ n t idx j
 ·exact rr h ho rfl hi hj e
 ·rcases o_ e with a | a
  ·have:=kx hi a;omega
  ·have:=kx hj a;omega
theorem mz (h:Txt n t) (ho:Ord n t idx) {i j:Nat} (hi:i<n) (hj:j<n):pos n t idx i<pos n t idx j↔lx (dJ n t idx i) (dJ n t idx j):=by
 refine ⟨fun a=>?_,kx hi⟩;by_cases e:dJ n t idx i=dJ n t idx j
 ·have:=rr h ho rfl hi hj e;subst this;omega
 ·rcases o_ e with b | b
  ·exact b
  ·have:=kx hj b;omega
theorem vN (h:Txt n t) (ho:Ord n t idx) {r:Nat} (hr:r<n):∃ i,i<n∧pos n t idx i=r:=
 xz (fun _ hi=>jF hi) (fun _ _ hi hj e=>je h ho hi hj e) r hr
theorem kH (h:Txt n t) {i j:Nat} (hi:i<n) (hj:j<n) (hc:t i<t j):lx (dJ n t idx i) (dJ n t idx j):=by
 by_cases a:rz n t i <;> by_cases b:rz n t j
 ·obtain ⟨x,hx⟩:=gO (idx:=idx) h hi a;obtain ⟨y,hy⟩:=gO (idx:=idx) h hj b;rw [hx,hy];exact eG (by omega)
 ·obtain ⟨x,hx⟩:=gO (idx:=idx) h hi a;rw [hx,fU hj b,dM hj b];exact eG (by omega)
 ·obtain ⟨y,hy⟩:=gO (idx:=idx) h hj b;rw [hy,fU hi a,dM hi a];exact eG (by omega)
 ·rw [fU hi a,dM hi a,fU hj b,dM hj b];exact eG (by omega)
theorem rq (h:Txt n t) {i j:Nat} (hi:i<n) (hj:j<n) (hc:t i=t j) (a:¬ rz n t i) (b:rz n t j):lx (dJ n t idx i) (dJ n t idx j):=by
 obtain ⟨y,hy⟩:=gO (idx:=idx) h hj b;rw [hy,fU hi a,dM hi a];exact eG (by omega)
theorem q0 (h:Txt n t) {i:Nat} (hi:i<n) (hf:¬ rz n t i):pos n t idx i=less n t (t i)+cnt n (fun j=>¬ rz n t j∧t j=t i∧lx (dJ n t idx j) (dJ n t idx i)):=by
 unfold pos less;rw [←l7 (fun j _ a b=>by omega)];refine da fun j hj=>⟨fun a=>?_,fun a=>?_⟩
 ·rcases Nat.lt_trichotomy (t j) (t i) with c | c | c
  ·exact .inl c
  ·by_cases r:rz n t j
   ·exact absurd a (kC (rq h hi hj c.symm hf r))
   ·exact .inr ⟨r,c,a⟩
  ·exact absurd a (kC (kH h hi hj c))
 ·rcases a with a | ⟨_,_,a⟩
  ·exact kH h hj hi a
  ·exact a
theorem C9 (h:Txt n t) (ho:Ord n t idx) {i:Nat} (hi:i<n) (hr:rz n t i):pos n t idx i+1+cnt n (fun j=>rz n t j∧t j=t i∧lx (dJ n t idx i) (dJ n t idx j))=less n t (t i+1):=by
 have e1:cnt n (fun j=>lx (dJ n t idx j) (dJ n t idx i)∨j=i)=pos n t idx i+1:=by
  unfold pos;exact mH hi (kj _) fun _ _=>Iff.rfl
 rw [←e1,←l7]
 ·unfold less;refine da fun j hj=>⟨fun a=>?_,fun a=>?_⟩
  ·rcases a with (a | a) | ⟨_,a,_⟩
   ·rcases Nat.lt_or_ge (t i) (t j) with c | c
    ·exact absurd a (kC (kH h hi hj c))
    ·omega
   ·subst a;omega
   ·omega
  ·rcases Nat.lt_or_ge (t j) (t i) with c | c
   ·exact .inl (.inl (kH h hj hi c))
   ·have hc:t j=t i:=by omega
    by_cases r:rz n t j
    ·by_cases e:j=i
     ·exact .inl (.inr e)
     ·rcases o_ (fun e2=>e (rr h ho rfl hj hi e2)) with b | b
      ·exact .inl (.inl b)
      ·exact .inr ⟨r,hc,b⟩
    ·exact .inl (.inl (rq h hj hi hc r hr))
 ·intro j hj a ⟨_,_,b⟩;rcases a with a | a
  ·exact kC a b
  ·subst a;exact kj _ b
end
end Go.Proofs.YtcbakncjacnnjaaGreat.SA
namespace Go.Proofs.YtcbakncjacnnjaaGreat.SA
open Classical
section
variable {n:Nat} {t idx:Nat→Nat}
noncomputable def jG (n:Nat) (t idx:Nat→Nat) (s:Nat):Nat:=less n t (t s+1)-1-cnt n fun x=>lms n t x∧t x=t s∧idx s<idx x
theorem Bg {c:Nat} {p:Nat→Prop} {x:Nat} (h:∀ i,i<n→p i→t i=c) (hx:x<n) (hp:¬ p x) (hc:t x=c):cnt n p+1≤cnt n (fun j=>t j=c):=iH h hx hp hc
theorem kX {s:Nat} (hs:lms n t s):jG n t idx s+1+cnt n (fun x=>lms n t x∧t x=t s∧idx s<idx x)=less n t (t s+1)∧less n t (t s)≤jG n t idx s:=by
 have h1:=Bg (c:=t s) (p:=fun x=>lms n t x∧t x=t s∧idx s<idx x) (x:=s) (fun i _ a=>a.2.1) hs.2.1 (fun a=>Nat.lt_irrefl _ a.2.2) rfl;have h2:=kD (n:=n) (t:=t) (t s);unfold jG;omega
theorem Ed (h:Txt n t) {i:Nat} (hi:i<n) (hf:¬ rz n t i):pos n t idx i<less n t (t i)+cnt n (fun j=>¬ rz n t j∧t j=t i):=by
 rw [q0 h hi hf];have:=iH (n:=n) (p:=fun j=>¬ rz n t j∧t j=t i∧lx (dJ n t idx j) (dJ n t idx i)) (q:=fun j=>¬ rz n t j∧t j=t i) (x:=i) (fun j _ a=>⟨a.1,a.2.1⟩) hi (fun a=>kj _ a.2.2) ⟨hf,rfl⟩;omega
theorem Ec (c:Nat):cnt n (fun j=>¬ rz n t j∧t j=c)≤cnt n (fun j=>t j=c):=fj fun _ _ a=>a.2
theorem Ee (c:Nat):cnt n (fun j=>¬ rz n t j∧t j=c)+cnt n (fun j=>lms n t j∧t j=c)≤cnt n (fun j=>t j=c):=by
 rw [←l7 (fun j _ a b=>a.1 b.1.2.2.1)];exact fj fun j _ a=>a.elim (fun a=>a.2) (fun a=>a.2)
noncomputable def p2 (n:Nat) (t idx:Nat→Nat) (i:Nat):Nat:=if rz n t i then jG n t idx i else pos n t idx i
theorem sK {i:Nat} (h:rz n t i):p2 n t idx i=jG n t idx i:=if_pos h
theorem vS {i:Nat} (h:¬ rz n t i):p2 n t idx i=pos n t idx i:=if_neg h
theorem nS (h:Txt n t) {i j:Nat} (hi:FS n t i) (hj:FS n t j) (hk:lx (kk n t idx i) (kk n t idx j)):p2 n t idx i<p2 n t idx j:=by
 have m1:=kD (n:=n) (t:=t) (t i);have m2:=kD (n:=n) (t:=t) (t j);have m3:=Ec (n:=n) (t:=t) (t i);by_cases a:rz n t i <;> by_cases b:rz n t j
 ·have li:=jY hi a;have lj:=jY hj b;obtain ⟨e1,e2⟩:=kX (idx:=idx) li;obtain ⟨e3,e4⟩:=kX (idx:=idx) lj;rw [fV hi.1 a,fV hj.1 b] at hk;rw [sK a,sK b];rcases hk with hk | ⟨hk,hk2⟩
  ·have:=pc (n:=n) (t:=t) (show t i+1≤t j by omega);omega
  ·have hc:t i=t j:=by omega
   have hx:idx i<idx j:=by
    rcases hk2 with c | ⟨_,c⟩
    ·exact c
    ·exact c.elim
   have:=iH (n:=n) (p:=fun x=>lms n t x∧t x=t j∧idx j<idx x) (q:=fun x=>lms n t x∧t x=t i∧idx i<idx x) (x:=j) (fun x _ a=>⟨a.1,by omega,by omega⟩) hj.1 (fun a=>Nat.lt_irrefl _ a.2.2) ⟨lj,by omega,hx⟩;rw [hc] at e1 this;omega
 ·have li:=jY hi a;obtain ⟨e1,e2⟩:=kX (idx:=idx) li;rw [fV hi.1 a,dM hj.1 b] at hk;rw [sK a,vS b,q0 h hj.1 b]
  have hc:t i<t j:=by
   rcases hk with hk | ⟨hk,_⟩ <;> omega
  have:=pc (n:=n) (t:=t) (show t i+1≤t j by omega);omega
 ·have lj:=jY hj b;obtain ⟨e3,e4⟩:=kX (idx:=idx) lj;have f1:=Ed (idx:=idx) h hi.1 a;rw [dM hi.1 a,fV hj.1 b] at hk;rw [vS a,sK b];rcases Nat.lt_or_ge (t i) (t j) with c | c
  ·have:=pc (n:=n) (t:=t) (show t i+1≤t j by omega);omega
  ·have hc:t i=t j:=by
    rcases hk with hk | ⟨hk,_⟩ <;> omega
   have f2:=Ee (n:=n) (t:=t) (t j);have f3:=iH (n:=n) (p:=fun x=>lms n t x∧t x=t j∧idx j<idx x) (q:=fun x=>lms n t x∧t x=t j) (x:=j) (fun x _ a=>⟨a.1,a.2.1⟩) hj.1 (fun a=>Nat.lt_irrefl _ a.2.2) ⟨lj,rfl⟩;rw [hc] at f1;omega
 ·rw [vS a,vS b];rw [←fU hi.1 a,←fU hj.1 b] at hk;exact kx hi.1 hk
theorem tO (h:Txt n t) (ho:Ord n t idx) {i j:Nat} (hi:FS n t i) (hj:FS n t j) (he:p2 n t idx i=p2 n t idx j):i=j:=by
 by_cases e:kk n t idx i=kk n t idx j
 ·exact rv h ho rfl hi hj e
 ·rcases o_ e with a | a
  ·have:=nS h hi hj a;omega
  ·have:=nS h hj hi a;omega
theorem Ig (h:Txt n t) (ho:Ord n t idx) {i j:Nat} (hi:FS n t i) (hj:FS n t j):p2 n t idx i<p2 n t idx j↔lx (kk n t idx i) (kk n t idx j):=by
 refine ⟨fun a=>?_,nS h hi hj⟩;by_cases e:kk n t idx i=kk n t idx j
 ·have:=rv h ho rfl hi hj e;subst this;omega
 ·rcases o_ e with b | b
  ·exact b
  ·have:=nS h hj hi b;omega
theorem zw {s:Nat} (hs:lms n t s):jG n t idx s<n:=by
 obtain ⟨e1,_⟩:=kX (idx:=idx) hs;have:=fk n (fun j=>t j<t s+1);unfold less at e1;omega
theorem Bk (h:Txt n t):∀ {m j:Nat},m=n-j→j<n→¬ rz n t j→lx (kk n t idx (j+1)) (kk n t idx j):=by
 intro m
 induction m with
 |zero=>intro j hm hj;omega
 |succ m ih=>
  intro j hm hj hf;have h1:=qv h hj hf;obtain ⟨a1,a2⟩:=zS h hj hf;rw [dM hj hf];by_cases r:rz n t (j+1)
  ·rw [fV h1 r];refine eG ?_;have:t (j+1)≠t j:=fun e=>a2 e r
   omega
  ·have hi:=ih (j:=j+1) (by omega) h1 r;rcases Nat.lt_or_ge (t (j+1)) (t j) with c | c
   ·rw [dM h1 r];exact eG (by omega)
   ·have e:t j=t (j+1):=by omega
    rw [e]
    conv=>arg 1;rw [dM h1 r]
    exact fb.2 hi
theorem Bj (h:Txt n t):∀ {m j:Nat},m=n-j→j+1<n→rz n t j→lx (dJ n t idx j) (dJ n t idx (j+1)):=by
 intro m
 induction m with
 |zero=>intro j hm hj;omega
 |succ m ih=>
  intro j hm hj hr;obtain ⟨a1,a2⟩:=nN h hj hr;rcases Nat.lt_or_ge (t j) (t (j+1)) with c | c
  ·exact kH h (by omega) hj c
  ·have e:t j=t (j+1):=by omega
   have r2:=a2 e
   have h2:j+1+1<n:=by
    rcases Nat.lt_or_ge (j+1+1) n with b | b
    ·exact b
    ·have hl:=h.last;rw [show n-1=j+1 by omega] at hl;have:=h.more j hj;omega
   have hi:=ih (j:=j+1) (by omega) h2 r2;rw [iE hj hr,e]
   conv=>arg 2;rw [iE h2 r2]
   exact fb.2 hi
def upd (f:Nat→Int) (k:Nat) (v:Int):Nat→Int:=fun x=>if x=k then v else f x
theorem eF (f:Nat→Int) (k:Nat) (v:Int):upd f k v k=v:=if_pos rfl
theorem fx (f:Nat→Int) {k x:Nat} (v:Int) (h:x≠k):upd f k v x=f x:=if_neg h
structure y5 (n:Nat) (t idx:Nat→Nat) (q:Nat) (xs ts:Nat→Int):Prop where
 there:∀ s,lms n t s→q≤idx s→xs (jG n t idx s)=s
 none:∀ x,x<n→(∀ s,lms n t s→q≤idx s→jG n t idx s≠x)→xs x=-1
 tails:∀ c,ts c=(less n t (c+1):Nat)-(cnt n (fun s=>lms n t s∧t s=c∧q≤idx s):Nat)
theorem h_ {p:Nat→Prop} (h:∀ i,i<n→¬ p i):cnt n p=0:=by
 have h1:=fj (n:=n) (p:=p) (q:=fun _=>False) (fun i hi a=>h i hi a)
 have h2:∀ k,cnt k (fun _=>False)=0:=by
  intro k
  induction k with
  |zero=>rfl
  |succ k ih=>unfold cnt;rw [ih,if_neg (fun h=>h)]
 rw [h2] at h1;omega
theorem xX {q:Nat} (hq:∀ s,lms n t s→idx s<q):y5 n t idx q (fun _=>-1) (fun c=>(less n t (c+1):Nat)):=by
 refine ⟨fun s hs h=>?_,fun _ _ _=>rfl,fun c=>?_⟩
 ·have:=hq s hs;omega
 ·have:=h_ (n:=n) (p:=fun s=>lms n t s∧t s=c∧q≤idx s) (fun i _ a=>by have:=hq i a.1;omega);simp only [this];omega
theorem DN (h:Txt n t) (ho:Ord n t idx) {q s:Nat} {xs ts:Nat→Int} (hI:y5 n t idx (q+1) xs ts) (hs:lms n t s) (hq:idx s=q) :
 ts (t s)-1=(jG n t idx s:Nat)∧y5 n t idx q (upd xs (jG n t idx s) s) (upd ts (t s) (ts (t s)-1)):=by
 obtain ⟨e1,e2⟩:=kX (idx:=idx) hs;have e3:=hI.tails (t s);have e4:cnt n (fun x=>lms n t x∧t x=t s∧q+1≤idx x)=cnt n (fun x=>lms n t x∧t x=t s∧idx s<idx x):=da fun x _=>by rw [hq];exact ⟨fun a=>⟨a.1,a.2.1,by omega⟩,fun a=>⟨a.1,a.2.1,by omega⟩⟩
 have p1:∀ s',lms n t s'→jG n t idx s'=jG n t idx s→s'=s:=fun s' h' he=>tO h ho ⟨h'.2.1,.inr h'⟩ ⟨hs.2.1,.inr hs⟩ (by rw [sK h'.2.2.1,sK hs.2.2.1,he])
 refine ⟨by omega,fun s' h' hq'=>?_,fun x hx hn=>?_,fun c=>?_⟩
 ·by_cases e:jG n t idx s'=jG n t idx s
  ·rw [e,eF,p1 s' h' e]
  ·rw [fx _ _ e];refine hI.there s' h' ?_;rcases Nat.lt_or_ge q (idx s') with a | a
   ·exact a
   ·exact absurd (congrArg _ (ho.inj s' s h' hs (by omega))) e
 ·have hne:=hn s hs (by omega);rw [fx _ _ (Ne.symm hne)];exact hI.none x hx fun s' h' hq'=>hn s' h' (by omega)
 ·by_cases e:c=t s
  ·subst e;rw [eF,e3]
   have:=mH (n:=n) (p:=fun x=>lms n t x∧t x=t s∧q+1≤idx x) (q:=fun x=>lms n t x∧t x=t s∧q≤idx x) (x:=s) hs.2.1 (fun a=>by omega) (fun i hi=>⟨fun a=>by
    rcases Nat.lt_or_ge q (idx i) with b | b
    ·exact .inl ⟨a.1,a.2.1,b⟩
    ·exact .inr (ho.inj i s a.1 hs (by omega)),fun a=>a.elim (fun a=>⟨a.1,a.2.1,by omega⟩) (fun a=>by subst a;exact ⟨hs,rfl,by omega⟩)⟩)
   omega
  ·rw [fx _ _ e,hI.tails c]
   have:cnt n (fun x=>lms n t x∧t x=c∧q+1≤idx x)=cnt n (fun x=>lms n t x∧t x=c∧q≤idx x):=da fun i _=>⟨fun a=>⟨a.1,a.2.1,by omega⟩,fun a=>⟨a.1,a.2.1,by
    rcases Nat.lt_or_ge q (idx i) with b | b
    ·exact b
    ·have:=ho.inj i s a.1 hs (by omega);subst this;exact absurd a.2.1.symm e⟩⟩
   rw [this]
structure ov (n:Nat) (t idx:Nat→Nat) (r:Nat) (xs hs:Nat→Int):Prop where
 fall:∀ i,i<n→¬ rz n t i→p2 n t idx (i+1)<r→xs (pos n t idx i)=i
 starts:∀ s,lms n t s→xs (jG n t idx s)=s
 none:∀ x,x<n→(∀ i,i<n→¬ rz n t i→p2 n t idx (i+1)<r→pos n t idx i≠x)→(∀ s,lms n t s→jG n t idx s≠x)→xs x=-1
 heads:∀ c,hs c=(less n t c:Nat)+(cnt n (fun i=>¬ rz n t i∧t i=c∧p2 n t idx (i+1)<r):Nat)
theorem xW {xs ts:Nat→Int} (hI:y5 n t idx 0 xs ts):ov n t idx 0 xs (fun c=>(less n t c:Nat)):=by
 refine ⟨fun i _ _ h=>by omega,fun s hs=>hI.there s hs (Nat.zero_le _),fun x hx _ h=>hI.none x hx fun s hs _=>h s hs,fun c=>?_⟩;have:=h_ (n:=n) (p:=fun i=>¬ rz n t i∧t i=c∧p2 n t idx (i+1)<0) (fun i _ a=>by omega);rw [this];omega
theorem tX (h:Txt n t) {r:Nat} {xs hs:Nat→Int} (hI:ov n t idx r xs hs) (hr:r<n) :
 (∃ j,FS n t j∧p2 n t idx j=r∧xs r=j)∨(xs r=-1∧∀ j,FS n t j→p2 n t idx j≠r):=by
 by_cases e:∃ j,FS n t j∧p2 n t idx j=r
 ·obtain ⟨j,hj,rfl⟩:=e;refine .inl ⟨j,hj,rfl,?_⟩;by_cases a:rz n t j
  ·rw [sK a];exact hI.starts j (jY hj a)
  ·have:=hI.fall j hj.1 a (nS h (et h hj.1 a) hj (Bk h rfl hj.1 a));rw [vS a];exact this
 ·have hno:∀ j,FS n t j→p2 n t idx j≠r:=fun j hj he=>e ⟨j,hj,he⟩
  refine .inr ⟨hI.none r hr (fun i hi hf _ he=>hno i ⟨hi,.inl hf⟩ (by rw [vS hf,he])) (fun s hs he=>hno s ⟨hs.2.1,.inr hs⟩ (by rw [sK hs.2.2.1,he])),hno⟩
theorem Bp {r:Nat} {xs hs:Nat→Int} (hI:ov n t idx r xs hs) (hno:∀ i,i<n→¬ rz n t i→p2 n t idx (i+1)≠r):ov n t idx (r+1) xs hs:=by
 refine ⟨fun i hi hf hp=>hI.fall i hi hf (by have:=hno i hi hf;omega),hI.starts,fun x hx h1 h2=>hI.none x hx (fun i hi hf hp=>h1 i hi hf (by omega)) h2,fun c=>?_⟩;rw [hI.heads c,da (p:=fun i=>¬ rz n t i∧t i=c∧p2 n t idx (i+1)<r) (q:=fun i=>¬ rz n t i∧t i=c∧p2 n t idx (i+1)<r+1)];exact fun i hi=>⟨fun a=>⟨a.1,a.2.1,by omega⟩,fun a=>⟨a.1,a.2.1,by have:=hno i hi a.1;omega⟩⟩
theorem DM (h:Txt n t) (ho:Ord n t idx) {r i:Nat} {xs hs:Nat→Int} (hI:ov n t idx r xs hs) (hi:i<n) (hf:¬ rz n t i) (hp:p2 n t idx (i+1)=r) :
 hs (t i)=(pos n t idx i:Nat)∧ov n t idx (r+1) (upd xs (pos n t idx i) i) (upd hs (t i) (hs (t i)+1)):=by
 have e1:=hI.heads (t i);have e2:=q0 (idx:=idx) h hi hf
 have e3:cnt n (fun j=>¬ rz n t j∧t j=t i∧p2 n t idx (j+1)<r)=cnt n (fun j=>¬ rz n t j∧t j=t i∧lx (dJ n t idx j) (dJ n t idx i)):=by
  refine da fun j hj=>and_congr_right fun a=>and_congr_right fun b=>?_
  rw [←hp,Ig h ho (et h hj a) (et h hi hf),fU hj a,fU hi hf,dM hj a,dM hi hf,b,fb]
 have pin:∀ j,j<n→pos n t idx j=pos n t idx i→j=i:=fun j hj he=>je h ho hj hi he
 have pnx:∀ j,j<n→¬ rz n t j→p2 n t idx (j+1)=r→j=i:=fun j hj a he=>by
  have:=tO h ho (et h hj a) (et h hi hf) (by rw [he,hp]);omega
 refine ⟨by omega,fun j hj a hq=>?_,fun s hs=>?_,fun x hx h1 h2=>?_,fun c=>?_⟩
 ·by_cases e:j=i
  ·subst e;exact eF _ _ _
  ·rw [fx _ _ (fun e2=>e (pin j hj e2))]
   exact hI.fall j hj a (by
    have:p2 n t idx (j+1)≠r:=fun e2=>e (pnx j hj a e2)
    omega)
 ·have:jG n t idx s≠pos n t idx i:=fun e=>by
   have:=tO h ho ⟨hs.2.1,.inr hs⟩ ⟨hi,.inl hf⟩ (by rw [sK hs.2.2.1,vS hf,e]);subst this;exact hf hs.2.2.1
  rw [fx _ _ this];exact hI.starts s hs
 ·rw [fx _ _ (Ne.symm (h1 i hi hf (by omega)))];exact hI.none x hx (fun j hj a hq=>h1 j hj a (by omega)) h2
 ·by_cases e:c=t i
  ·subst e;rw [eF,e1,mH (n:=n) (p:=fun j=>¬ rz n t j∧t j=t i∧p2 n t idx (j+1)<r) (q:=fun j=>¬ rz n t j∧t j=t i∧p2 n t idx (j+1)<r+1) (x:=i) hi (fun a=>by omega)]
   ·omega
   ·intro j hj;constructor
    ·rintro ⟨a,b,c⟩;by_cases e2:j=i
     ·exact .inr e2
     ·have:p2 n t idx (j+1)≠r:=fun e3=>e2 (pnx j hj a e3)
      exact .inl ⟨a,b,by omega⟩
    ·rintro (⟨a,b,c⟩ | rfl)
     ·exact ⟨a,b,by omega⟩
     ·exact ⟨hf,rfl,by omega⟩
  ·rw [fx _ _ e,hI.heads c,da (p:=fun i=>¬ rz n t i∧t i=c∧p2 n t idx (i+1)<r) (q:=fun i=>¬ rz n t i∧t i=c∧p2 n t idx (i+1)<r+1)]
   exact fun j hj=>⟨fun a=>⟨a.1,a.2.1,by omega⟩,fun a=>⟨a.1,a.2.1,by
    have:p2 n t idx (j+1)≠r:=fun e3=>by
     have:=pnx j hj a.1 e3;subst this;exact e a.2.1.symm
    omega⟩⟩
structure ou (n:Nat) (t idx:Nat→Nat) (r:Nat) (xs ts:Nat→Int):Prop where
 fall:∀ i,i<n→¬ rz n t i→xs (pos n t idx i)=i
 rise:∀ i,i+1<n→rz n t i→r≤pos n t idx (i+1)→xs (pos n t idx i)=i
 last:xs (pos n t idx (n-1))=(n-1:Nat)
 tails:∀ c,ts c=(less n t (c+1):Nat)-(cnt n (fun i=>i+1<n∧rz n t i∧t i=c∧r≤pos n t idx (i+1)):Nat)
theorem lX (h:Txt n t) (h2:2≤n):lms n t (n-1):=by
 refine ⟨by omega,by omega,qk h,fun hr=>?_⟩;have h3:n-1-1+1<n:=by omega
 have:=(nN h h3 hr).1;rw [show n-1-1+1=n-1 by omega,h.last] at this;have:=h.more (n-1-1) h3;omega
theorem DD (h:Txt n t):less n t 1=1:=by
 unfold less;rw [da (q:=fun i=>i=n-1)]
 ·exact En (by have:=h.pos;omega)
 ·exact fun i hi=>⟨fun a=>h.zero hi (by omega),fun a=>by rw [a,h.last];omega⟩
theorem vO (h:Txt n t) (h2:2≤n):pos n t idx (n-1)=0∧jG n t idx (n-1)=0:=by
 constructor
 ·unfold pos;refine h_ fun i hi a=>?_
  rw [kI h] at a;by_cases e:i=n-1
  ·rw [e,kI h] at a;exact kj _ a
  ·have hm:=h.more i (by omega);by_cases r:rz n t i
   ·obtain ⟨x,hx⟩:=gO (idx:=idx) h hi r;rw [hx] at a;exact iC (by omega) a
   ·rw [fU hi r,dM hi r] at a;exact iC (by omega) a
 ·obtain ⟨e1,_⟩:=kX (idx:=idx) (lX h h2);rw [h.last,Nat.zero_add,DD h] at e1;omega
theorem xV (h:Txt n t) (h2:2≤n) {xs hs:Nat→Int} (hI:ov n t idx n xs hs):ou n t idx n xs (fun c=>(less n t (c+1):Nat)):=by
 refine ⟨fun i hi hf=>hI.fall i hi hf ?_,fun i hi _ hp=>?_,?_,fun c=>?_⟩
 ·have hn:=et h hi hf;by_cases r:rz n t (i+1)
  ·rw [sK r];exact zw (jY hn r)
  ·rw [vS r];exact jF hn.1
 ·have:=jF (idx:=idx) (t:=t) hi;omega
 ·have:=hI.starts _ (lX h h2);obtain ⟨a,b⟩:=vO (idx:=idx) h h2;rw [b] at this;rw [a];exact this
 ·have:=h_ (n:=n) (p:=fun i=>i+1<n∧rz n t i∧t i=c∧n≤pos n t idx (i+1)) (fun i _ a=>by have:=jF (idx:=idx) (t:=t) a.1;omega);simp only [this];omega
theorem tW (h:Txt n t) (ho:Ord n t idx) {r:Nat} {xs ts:Nat→Int} (hI:ou n t idx (r+1) xs ts) (hr:r<n):∃ j,j<n∧pos n t idx j=r∧xs r=j:=by
 obtain ⟨j,hj,rfl⟩:=vN h ho hr;refine ⟨j,hj,rfl,?_⟩;by_cases a:rz n t j
 ·rcases Nat.lt_or_ge (j+1) n with b | b
  ·exact hI.rise j b a (kx hj (Bj h rfl b a))
  ·obtain rfl:j=n-1:=by omega
   exact hI.last
 ·exact hI.fall j hj a
theorem Bn {r:Nat} {xs ts:Nat→Int} (hI:ou n t idx (r+1) xs ts) (hno:∀ i,i+1<n→rz n t i→pos n t idx (i+1)≠r):ou n t idx r xs ts:=by
 refine ⟨hI.fall,fun i hi hr hp=>hI.rise i hi hr (by have:=hno i hi hr;omega),hI.last,fun c=>?_⟩;rw [hI.tails c,da (p:=fun i=>i+1<n∧rz n t i∧t i=c∧r+1≤pos n t idx (i+1)) (q:=fun i=>i+1<n∧rz n t i∧t i=c∧r≤pos n t idx (i+1))];exact fun i hi=>⟨fun a=>⟨a.1,a.2.1,a.2.2.1,by omega⟩,fun a=>⟨a.1,a.2.1,a.2.2.1,by have:=hno i a.1 a.2.1;omega⟩⟩
theorem DK (h:Txt n t) (ho:Ord n t idx) {r i:Nat} {xs ts:Nat→Int} (hI:ou n t idx (r+1) xs ts) (hi:i+1<n) (hz:rz n t i) (hp:pos n t idx (i+1)=r) :
 ts (t i)-1=(pos n t idx i:Nat)∧ou n t idx r (upd xs (pos n t idx i) i) (upd ts (t i) (ts (t i)-1)):=by
 have hin:i<n:=by omega
 have e1:=hI.tails (t i);have e2:=C9 (idx:=idx) h ho hin hz
 have nl:∀ j,j<n→t j=t i→j+1<n:=fun j hj he=>by
  rcases Nat.lt_or_ge (j+1) n with b | b
  ·exact b
  ·obtain rfl:j=n-1:=by omega
   rw [h.last] at he;have:=h.more i hi;omega
 have e3:cnt n (fun j=>j+1<n∧rz n t j∧t j=t i∧r+1≤pos n t idx (j+1))=cnt n (fun j=>rz n t j∧t j=t i∧lx (dJ n t idx i) (dJ n t idx j)):=by
  refine da fun j hj=>⟨fun ⟨a,b,c,d⟩=>⟨b,c,?_⟩,fun ⟨b,c,d⟩=>⟨nl j hj c,b,c,?_⟩⟩
  ·rw [iE hi hz,iE a b,c,fb,←mz h ho hi a];omega
  ·have a:=nl j hj c;rw [iE hi hz,iE a b,c,fb,←mz h ho hi a] at d;omega
 have pin:∀ j,j<n→pos n t idx j=pos n t idx i→j=i:=fun j hj he=>je h ho hj hin he
 have pnx:∀ j,j+1<n→pos n t idx (j+1)=r→j=i:=fun j hj he=>by
  have:=je h ho hj hi (by rw [he,hp]);omega
 refine ⟨by omega,fun j hj a=>?_,fun j hj a hq=>?_,?_,fun c=>?_⟩
 ·rw [fx _ _ (fun e=>by have:=pin j hj e;subst this;exact a hz)];exact hI.fall j hj a
 ·by_cases e:j=i
  ·subst e;exact eF _ _ _
  ·rw [fx _ _ (fun e2=>e (pin j (by omega) e2))]
   exact hI.rise j hj a (by
    have:pos n t idx (j+1)≠r:=fun e2=>e (pnx j hj e2)
    omega)
 ·rw [fx _ _ (fun e=>by have:=pin _ (by omega) e;omega)];exact hI.last
 ·by_cases e:c=t i
  ·subst e;rw [eF,e1,mH (n:=n) (p:=fun j=>j+1<n∧rz n t j∧t j=t i∧r+1≤pos n t idx (j+1)) (q:=fun j=>j+1<n∧rz n t j∧t j=t i∧r≤pos n t idx (j+1)) (x:=i) hin (fun a=>by omega)]
   ·omega
   ·intro j hj;constructor
    ·rintro ⟨a,b,c,d⟩;by_cases e2:j=i
     ·exact .inr e2
     ·have:pos n t idx (j+1)≠r:=fun e3=>e2 (pnx j a e3)
      exact .inl ⟨a,b,c,by omega⟩
    ·rintro (⟨a,b,c,d⟩ | rfl)
     ·exact ⟨a,b,c,by omega⟩
     ·exact ⟨hi,hz,rfl,by omega⟩
  ·rw [fx _ _ e,hI.tails c,da (p:=fun i=>i+1<n∧rz n t i∧t i=c∧r+1≤pos n t idx (i+1)) (q:=fun i=>i+1<n∧rz n t i∧t i=c∧r≤pos n t idx (i+1))]
   exact fun j hj=>⟨fun a=>⟨a.1,a.2.1,a.2.2.1,by omega⟩,fun a=>⟨a.1,a.2.1,a.2.2.1,by
    have:pos n t idx (j+1)≠r:=fun e3=>by
     have:=pnx j a.1 e3;subst this;exact e a.2.2.1.symm
    omega⟩⟩
theorem DL {xs ts:Nat→Int} (hI:ou n t idx 0 xs ts):∀ i,i<n→xs (pos n t idx i)=i:=fun i hi=>by
 by_cases a:rz n t i
 ·rcases Nat.lt_or_ge (i+1) n with b | b
  ·exact hI.rise i b a (Nat.zero_le _)
  ·obtain rfl:i=n-1:=by omega
   exact hI.last
 ·exact hI.fall i hi a
end
end Go.Proofs.YtcbakncjacnnjaaGreat.SA
namespace Go.Proofs.YtcbakncjacnnjaaGreat.SA
open Classical
section
variable {n:Nat} {t idx:Nat→Nat}
theorem Cx {i j k:Nat} (h:sl n t i j) (g:sl n t j k):sl n t i k:=by
 obtain ⟨a,h1,h2,h3,h4⟩:=h;obtain ⟨b,g1,g2,g3,g4⟩:=g;rcases Nat.lt_trichotomy a b with c | c | c
 ·exact ⟨a,fun m hm=>(h1 m hm).trans (g1 m (by omega)),h2,by omega,by rw [←g1 a c];exact h4⟩
 ·subst c;exact ⟨a,fun m hm=>(h1 m hm).trans (g1 m hm),h2,g3,by omega⟩
 ·exact ⟨b,fun m hm=>(h1 m (by omega)).trans (g1 m hm),by omega,g3,by rw [h1 b c];exact g4⟩
def mg (n:Nat) (t idx:Nat→Nat):Prop:=∀ i j,lms n t i→lms n t j→sl n t i j→idx i<idx j
theorem GE (h:Txt n t) (hso:mg n t idx):∀ {m i j:Nat},m=n-i→FS n t i→FS n t j→sl n t i j→lx (kk n t idx i) (kk n t idx j):=by
 intro m
 induction m with
 |zero=>intro i j hm hi;have:=hi.1;omega
 |succ m ih=>
  intro i j hm hi hj hs;rcases gu.1 hs with ⟨_,_,c⟩ | ⟨c,d⟩
  ·by_cases a:rz n t i <;> by_cases b:rz n t j
   ·rw [fV hi.1 a,fV hj.1 b];exact eG (by omega)
   ·rw [fV hi.1 a,dM hj.1 b];exact eG (by omega)
   ·rw [dM hi.1 a,fV hj.1 b];exact eG (by omega)
   ·rw [dM hi.1 a,dM hj.1 b];exact eG (by omega)
  ·by_cases a:rz n t i <;> by_cases b:rz n t j
   ·rw [fV hi.1 a,fV hj.1 b,c];exact fb.2 (eG (hso i j (jY hi a) (jY hj b) hs))
   ·exact absurd (tk h rfl hj.1 hi.1 c.symm b a) (qN hs)
   ·rw [dM hi.1 a,fV hj.1 b];exact eG (by omega)
   ·rw [dM hi.1 a,dM hj.1 b,c];exact fb.2 (ih (by omega) (et h hi.1 a) (et h hj.1 b) d)
theorem zJ (h:Txt n t) (hso:mg n t idx):∀ {m i j:Nat},m=n-i→i<n→j<n→sl n t i j→lx (dJ n t idx i) (dJ n t idx j):=by
 intro m
 induction m with
 |zero=>intro i j hm hi;omega
 |succ m ih=>
  intro i j hm hi hj hs;rcases gu.1 hs with ⟨_,_,c⟩ | ⟨c,d⟩
  ·exact kH h hi hj c
  ·obtain ⟨d1,d2⟩:=Cy d;by_cases a:rz n t i <;> by_cases b:rz n t j
   ·rw [iE d1 a,iE d2 b,c];exact fb.2 (ih (by omega) d1 d2 d)
   ·exact absurd (tk h rfl hj hi c.symm b a) (qN hs)
   ·exact rq h hi hj c a b
   ·rw [fU hi a,fU hj b];exact GE h hso rfl ⟨hi,.inl a⟩ ⟨hj,.inl b⟩ hs
theorem ru (h:Txt n t) (hso:mg n t idx) {i j:Nat} (hi:i<n) (hj:j<n):lx (dJ n t idx i) (dJ n t idx j)↔sl n t i j:=by
 refine ⟨fun a=>?_,zJ h hso rfl hi hj⟩;by_cases e:i=j
 ·subst e;exact absurd a (kj _)
 ·rcases qM h rfl hi hj e with b | b
  ·exact b
  ·exact absurd a (kC (zJ h hso rfl hj hi b))
noncomputable def rank (n:Nat) (t:Nat→Nat) (i:Nat):Nat:=cnt n fun j=>sl n t j i
theorem C_ (h:Txt n t) (hso:mg n t idx) {i:Nat} (hi:i<n):pos n t idx i=rank n t i:=
 da fun _ hj=>ru h hso hj hi
theorem iB {i j:Nat} (h:sl n t i j):rank n t i<rank n t j:=iH (fun _ _ a=>Cx a h) (Cy h).1 (oJ _) h
theorem pG:mg n t (rank n t):=fun _ _ _ _ h=>iB h
theorem vL (h:Txt n t) {i j:Nat} (hi:i<n) (hj:j<n):rank n t i<rank n t j↔sl n t i j:=by
 refine ⟨fun a=>?_,iB⟩;by_cases e:i=j
 ·subst e;omega
 ·rcases qM h rfl hi hj e with b | b
  ·exact b
  ·have:=iB b;omega
theorem jd {i:Nat} (hi:i<n):rank n t i<n:=by
 have h1:=iH (n:=n) (p:=fun j=>sl n t j i) (q:=fun _=>True) (fun _ _ _=>trivial) hi (oJ _) trivial;have:=fk n (fun _=>True);unfold rank;omega
theorem gd (h:Txt n t) {i j:Nat} (hi:i<n) (hj:j<n) (he:rank n t i=rank n t j):i=j:=by
 by_cases e:i=j
 ·exact e
 ·rcases qM h rfl hi hj e with b | b
  ·have:=iB b;omega
  ·have:=iB b;omega
noncomputable def gL (n:Nat) (t:Nat→Nat) (e:Nat→List Nat):Nat→Nat→List Nat
 |0,_=>[]
 |m+1,i=>if rz n t i then (2*t i+1)::e i else 2*t i::gL n t e m (i+1)
noncomputable def gS (n:Nat) (t:Nat→Nat) (e:Nat→List Nat):Nat→Nat→List Nat
 |0,_=>[]
 |m+1,i=>if rz n t i then (if i+1=n then [1] else (2*t i+1)::gS n t e m (i+1)) else gL n t e (m+1) i
theorem DX:∀ (m i:Nat),kL n t idx m i=gL n t (fun i=>[idx i]) m i
 |0,_=>rfl
 |m+1,i=>by unfold kL gL;rw [DX m]
theorem ub:∀ (m i:Nat),kS n t idx m i=gS n t (fun i=>[idx i]) m i
 |0,_=>rfl
 |m+1,i=>by unfold kS gS;rw [ub m,DX]
noncomputable def eL (n:Nat) (t:Nat→Nat):Nat→Nat→Nat
 |0,i=>i
 |m+1,i=>if rz n t i then i else eL n t m (i+1)
noncomputable def eS (n:Nat) (t:Nat→Nat):Nat→Nat→Nat
 |0,i=>i
 |m+1,i=>if rz n t i then (if i+1=n then i else eS n t m (i+1)) else eL n t (m+1) i
abbrev nil_:Nat→List Nat:=fun _=>[]
theorem IL (h:Txt n t):∀ {m1 m2 i j:Nat},m1=n-i→m2=n-j→FS n t i→FS n t j→
 (gL n t nil_ m1 i=gL n t nil_ m2 j∧∀ e,lx (gL n t e m1 i) (gL n t e m2 j)↔lx (e (eL n t m1 i)) (e (eL n t m2 j)))∨
 (gL n t nil_ m1 i≠gL n t nil_ m2 j∧∀ e e',lx (gL n t e m1 i) (gL n t e m2 j)↔lx (gL n t e' m1 i) (gL n t e' m2 j)):=by
 have heads:∀ {a b:Nat} (_:a≠b) (x y x' y':List Nat),lx (a::x) (b::y)↔lx (a::x') (b::y'):=fun {a b} hab x y x' y'=>by
  rcases Nat.lt_or_ge a b with c | c
  ·exact ⟨fun _=>eG c,fun _=>eG c⟩
  ·have:b<a:=by omega
   exact ⟨fun k=>absurd k (iC this),fun k=>absurd k (iC this)⟩
 intro m1
 induction m1 with
 |zero=>intro m2 i j h1 h2 hi;have:=hi.1;omega
 |succ m1 ih=>
  intro m2 i j h1 h2 hi hj;have hj1:=hj.1;obtain ⟨m2,rfl⟩:∃ k,m2=k+1:=⟨m2-1,by omega⟩;unfold gL eL;by_cases a:rz n t i <;> by_cases b:rz n t j
  ·simp only [if_pos a,if_pos b];by_cases c:2*t i+1=2*t j+1
   ·refine .inl ⟨by rw [c],fun e=>by rw [c];exact fb⟩
   ·exact .inr ⟨fun k=>c (by simp only [List.cons.injEq] at k;exact k.1),fun e e'=>heads c _ _ _ _⟩
  ·simp only [if_pos a,if_neg b];have c:2*t i+1≠2*t j:=by omega
   exact .inr ⟨fun k=>c (by simp only [List.cons.injEq] at k;exact k.1),fun e e'=>heads c _ _ _ _⟩
  ·simp only [if_neg a,if_pos b];have c:2*t i≠2*t j+1:=by omega
   exact .inr ⟨fun k=>c (by simp only [List.cons.injEq] at k;exact k.1),fun e e'=>heads c _ _ _ _⟩
  ·simp only [if_neg a,if_neg b];by_cases c:2*t i=2*t j
   ·rw [c];rcases ih (m2:=m2) (i:=i+1) (j:=j+1) (by omega) (by omega) (et h hi.1 a) (et h hj.1 b) with ⟨d1,d2⟩ | ⟨d1,d2⟩
    ·exact .inl ⟨by rw [d1],fun e=>fb.trans (d2 e)⟩
    ·refine .inr ⟨fun k=>d1 (by simp only [List.cons.injEq] at k;exact k.2),fun e e'=>?_⟩;rw [fb,fb];exact d2 e e'
   ·exact .inr ⟨fun k=>c (by simp only [List.cons.injEq] at k;exact k.1),fun e e'=>heads c _ _ _ _⟩
theorem DW (h:Txt n t):∀ {m1 m2 i j:Nat},m1=n-i→m2=n-j→i<n→j<n→
 (gS n t nil_ m1 i=gS n t nil_ m2 j∧(i=j∨∀ e,lx (gS n t e m1 i) (gS n t e m2 j)↔lx (e (eS n t m1 i)) (e (eS n t m2 j))))∨
 (gS n t nil_ m1 i≠gS n t nil_ m2 j∧∀ e e',lx (gS n t e m1 i) (gS n t e m2 j)↔lx (gS n t e' m1 i) (gS n t e' m2 j)):=by
 have heads:∀ {a b:Nat} (_:a≠b) (x y x' y':List Nat),lx (a::x) (b::y)↔lx (a::x') (b::y'):=fun {a b} hab x y x' y'=>by
  rcases Nat.lt_or_ge a b with c | c
  ·exact ⟨fun _=>eG c,fun _=>eG c⟩
  ·have:b<a:=by omega
   exact ⟨fun k=>absurd k (iC this),fun k=>absurd k (iC this)⟩
 intro m1
 induction m1 with
 |zero=>intro m2 i j h1 h2 hi;omega
 |succ m1 ih=>
  intro m2 i j h1 h2 hi hj;obtain ⟨m2,rfl⟩:∃ k,m2=k+1:=⟨m2-1,by omega⟩;by_cases a:rz n t i <;> by_cases b:rz n t j
  ·unfold gS eS;simp only [if_pos a,if_pos b];by_cases e1:i+1=n <;> by_cases e2:j+1=n
   ·simp only [if_pos e1,if_pos e2];exact .inl ⟨trivial,.inl (by omega)⟩
   ·simp only [if_pos e1,if_neg e2];have:=h.more j (by omega);have c:1≠2*t j+1:=by omega
    exact .inr ⟨fun k=>c (by simp only [List.cons.injEq] at k;exact k.1),fun e e'=>heads c _ _ _ _⟩
   ·simp only [if_neg e1,if_pos e2];have:=h.more i (by omega);have c:2*t i+1≠1:=by omega
    exact .inr ⟨fun k=>c (by simp only [List.cons.injEq] at k;exact k.1),fun e e'=>heads c _ _ _ _⟩
   ·simp only [if_neg e1,if_neg e2];by_cases c:2*t i+1=2*t j+1
    ·rw [c];rcases ih (m2:=m2) (i:=i+1) (j:=j+1) (by omega) (by omega) (by omega) (by omega) with ⟨d1,d2⟩ | ⟨d1,d2⟩
     ·refine .inl ⟨by rw [d1],?_⟩;rcases d2 with d2 | d2
      ·exact .inl (by omega)
      ·exact .inr fun e=>fb.trans (d2 e)
     ·refine .inr ⟨fun k=>d1 (by simp only [List.cons.injEq] at k;exact k.2),fun e e'=>?_⟩;rw [fb,fb];exact d2 e e'
    ·exact .inr ⟨fun k=>c (by simp only [List.cons.injEq] at k;exact k.1),fun e e'=>heads c _ _ _ _⟩
  ·unfold gS gL;simp only [if_pos a,if_neg b];by_cases e1:i+1=n
   ·simp only [if_pos e1];have c:1≠2*t j:=by omega
    exact .inr ⟨fun k=>c (by simp only [List.cons.injEq] at k;exact k.1),fun e e'=>heads c _ _ _ _⟩
   ·simp only [if_neg e1];have c:2*t i+1≠2*t j:=by omega
    exact .inr ⟨fun k=>c (by simp only [List.cons.injEq] at k;exact k.1),fun e e'=>heads c _ _ _ _⟩
  ·unfold gS gL;simp only [if_neg a,if_pos b];by_cases e2:j+1=n
   ·simp only [if_pos e2];have c:2*t i≠1:=by omega
    exact .inr ⟨fun k=>c (by simp only [List.cons.injEq] at k;exact k.1),fun e e'=>heads c _ _ _ _⟩
   ·simp only [if_neg e2];have c:2*t i≠2*t j+1:=by omega
    exact .inr ⟨fun k=>c (by simp only [List.cons.injEq] at k;exact k.1),fun e e'=>heads c _ _ _ _⟩
  ·have ex:∀ e,gS n t e (m1+1) i=gL n t e (m1+1) i:=fun e=>by unfold gS;rw [if_neg a]
   have ey:∀ e,gS n t e (m2+1) j=gL n t e (m2+1) j:=fun e=>by unfold gS;rw [if_neg b]
   have ez:eS n t (m1+1) i=eL n t (m1+1) i:=by unfold eS;rw [if_neg a]
   have ew:eS n t (m2+1) j=eL n t (m2+1) j:=by unfold eS;rw [if_neg b]
   simp only [ex,ey,ez,ew];rcases IL h h1 h2 ⟨hi,.inl a⟩ ⟨hj,.inl b⟩ with ⟨d1,d2⟩ | d
   ·exact .inl ⟨d1,.inr d2⟩
   ·exact .inr d
noncomputable def dw (n:Nat) (t:Nat→Nat) (i:Nat):List Nat:=gS n t nil_ (n-i) i
noncomputable def eB (n:Nat) (t:Nat→Nat) (i:Nat):Nat:=eS n t (n-i) i
theorem nQ (h:Txt n t) {i j:Nat} (hi:i<n) (hj:j<n) (hne:dw n t i≠dw n t j) :
 (lx (dJ n t idx i) (dJ n t idx j)↔sl n t i j)∧(lx (dJ n t idx i) (dJ n t idx j)↔lx (dw n t i) (dw n t j)):=by
 rcases DW h rfl rfl hi hj with ⟨d,_⟩ | ⟨_,d⟩
 ·exact absurd d hne
 ·have e1:∀ x,dJ n t idx x=gS n t (fun i=>[idx i]) (n-x) x:=fun x=>ub _ _
  have e2:∀ x,dJ n t (rank n t) x=gS n t (fun i=>[rank n t i]) (n-x) x:=fun x=>ub _ _
  rw [←ru h pG hi hj,e1,e1,e2,e2];exact ⟨d _ _,d _ _⟩
theorem Dg (h:Txt n t) {i j:Nat} (hi:i<n) (hj:j<n) (he:dw n t i=dw n t j) (hne:i≠j) (p1:eB n t i<n) (p2:eB n t j<n):sl n t i j↔sl n t (eB n t i) (eB n t j):=by
 rcases DW h rfl rfl hi hj with ⟨_,d | d⟩ | ⟨d,_⟩
 ·exact absurd d hne
 ·have e2:∀ x,dJ n t (rank n t) x=gS n t (fun i=>[rank n t i]) (n-x) x:=fun x=>ub _ _
  rw [←ru h pG hi hj,e2,e2,d (fun i=>[rank n t i]),←vL h p1 p2];exact ⟨fun a=>a.elim id (fun a=>a.2.elim),fun a=>.inl a⟩
 ·exact absurd he d
theorem AZ (h:Txt n t) {i j k:Nat} (hi:i<n) (hj:j<n) (hk:k<n) (he:dw n t i=dw n t k) (h1:lx (dJ n t idx i) (dJ n t idx j)) (h2:lx (dJ n t idx j) (dJ n t idx k)):dw n t i=dw n t j:=by
 by_cases e:dw n t i=dw n t j
 ·exact e
 ·have a:=(nQ (idx:=idx) h hi hj e).2.1 h1;have b:=(nQ (idx:=idx) h hj hk (fun x=>e (he.trans x.symm))).2.1 h2;rw [he] at a;exact absurd a (kC b)
end
end Go.Proofs.YtcbakncjacnnjaaGreat.SA
