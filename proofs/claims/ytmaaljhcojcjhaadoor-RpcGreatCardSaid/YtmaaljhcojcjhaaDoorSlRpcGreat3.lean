/- texts that the claim stands on. -/
import Derived.Test.YtmaaljhcojcjhaaDoorSlRpcGreat2
import Derived.Test.YtmaaljhcojcjhaaDoorCards
import Derived.Test.YtmaaljhcojcjhaaDoorTie
set_option maxRecDepth 100000
set_option maxHeartbeats 4000000
namespace Go.Proofs.YtmaaljhcojcjhaaDoor
open Go.Proofs.Tryd (prog)
open Go.RowKit CM
theorem fo (x:BitVec 32):BitVec.ofInt 32 (x.toNat:Int)=x:=by
 rw [BitVec.ofInt_natCast];apply BitVec.eq_of_toNat_eq;rw [BitVec.toNat_ofNat];exact Nat.mod_eq_of_lt x.isLt
theorem h_ (x:BitVec 32):IntKind.u32.wrap (x.toNat:Int)=(x.toNat:Int):=by
 have h:=x.isLt;rw [IntKind.wrap_u32'];omega
theorem mq (x y:BitVec 32):bits BinOp.xor IntKind.u32 (x.toNat:Int) (y.toNat:Int)=((x ^^^ y).toNat:Int):=by
 show IntKind.u32.wrap ((BitVec.ofInt 32 (x.toNat:Int) ^^^ BitVec.ofInt 32 (y.toNat:Int)).toNat:Int)=_;rw [fo,fo,h_]
theorem pz (x y:BitVec 32):bits BinOp.and IntKind.u32 (x.toNat:Int) (y.toNat:Int)=((x &&& y).toNat:Int):=by
 show IntKind.u32.wrap ((BitVec.ofInt 32 (x.toNat:Int) &&& BitVec.ofInt 32 (y.toNat:Int)).toNat:Int)=_;rw [fo,fo,h_]
theorem pA (x:BitVec 32):bits BinOp.and IntKind.u32 (x.toNat:Int) 15=((x &&& 15#32).toNat:Int):=pz x 15#32
theorem pF (x:BitVec 32):(x.toNat:Int)/16=((x >>> 4).toNat:Int):=by
 rw [BitVec.toNat_ushiftRight,Nat.shiftRight_eq_div_pow];omega
def dE (w:World):Prop:=∀ i,i<16→w.cell? ⟨0,i,none⟩=some (.int .u32 ((tab i).toNat:Int))
theorem dE.from_ {w w':World} (h:dE w) (hw:af w w'):dE w':=fun i hi=>(hw.cells _ _ (by
 rcases Nat.lt_or_ge 0 w.heap.size with hlt | hge
 ·exact hlt
 ·have:=h 0 (by omega);unfold World.cell? at this;rw [Array.getElem?_eq_none hge] at this;cases this)).trans (h i hi)
theorem kt (c:BitVec 32) (w:World) (hT:dE w) :
 Calls prog 39 #[.int .u32 (c.toNat:Int)] w fun e w'=>e=.returned (.int .u32 ((iC c).toNat:Int))∧w=w':=by
 have h15:=pG c;have hT1:=hT _ h15;have e1:=pA c;have e2:=pF c;have e3:=mq (c >>> 4) (tab (c &&& 15#32).toNat);rw [←e2] at e3;have hh:iC c=(c >>> 4) ^^^ tab (c &&& 15#32).toNat:=rfl;rw [←hh] at e3;clear hh hT e2
 generalize (iC c).toNat=r at*
 generalize (tab (c &&& 15#32).toNat).toNat=t at*
 generalize (c &&& 15#32).toNat=m at*
 generalize c.toNat=x at*
 have i1:(0:Int)≤(m:Int):=by omega
 have i2:(m:Int)<16:=by omega
 go_enter Tryd.func39,Tryd.ntmps39
 go_wp2
 go_ret
 exact ⟨jK e3,rfl⟩
theorem mx (g:Nat) (c:BitVec 32) (b:Nat) (w:World) (hb:b<256) (hT:dE w) (hg:w.cell? ⟨g,0,none⟩=some (.int .u32 (c.toNat:Int))) (hf:w.frozen? ⟨g,0,none⟩=false) :
 Calls prog 32 #[.pointer (some ⟨g,0,none⟩),.int .u8 (b:Int)] w fun e w'=>e=.returned (.tuple #[])∧w'=w.setCell ⟨g,0,none⟩ (.int .u32 ((j7 (c ^^^ BitVec.ofNat 32 b)).toNat:Int)):=by
 have e1:=mq c (BitVec.ofNat 32 b);have hbn:((BitVec.ofNat 32 b).toNat:Int)=(b:Int):=by rw [BitVec.toNat_ofNat,Nat.mod_eq_of_lt (by omega)]
 rw [hbn] at e1;have c1:=kt (c ^^^ BitVec.ofNat 32 b) w hT;have c2:=kt (iC (c ^^^ BitVec.ofNat 32 b)) w hT;have hs:j7 (c ^^^ BitVec.ofNat 32 b)=iC (iC (c ^^^ BitVec.ofNat 32 b)):=rfl;rw [hs];clear hbn hs hT
 generalize (iC (iC (c ^^^ BitVec.ofNat 32 b))).toNat=r at*
 generalize (iC (c ^^^ BitVec.ofNat 32 b)).toNat=q at*
 generalize (c ^^^ BitVec.ofNat 32 b).toNat=p at*
 generalize c.toNat=x at*
 have C1:=Lib.hid c1;have C2:=Lib.hid c2;clear c1 c2
 go_enter Tryd.func32,Tryd.ntmps32
 go_wp2_with (first
  |(go_at_call 39;(with_reducible refine C1.out.mono ?_);rintro e w1 ⟨rfl,rfl⟩)
  |(go_at_call 39;(with_reducible refine C2.out.mono ?_);rintro e w1 ⟨rfl,rfl⟩))
 go_end0
 exact ⟨rfl,rfl⟩
def CM.Bytes (l:List Nat):Prop:=∀ b∈l,b<256
def nz (s:BitVec 32) (l:List Nat):BitVec 32 := ~~~(reg (~~~s) l)
theorem oe (x:BitVec 32):bits BinOp.xor IntKind.u32 IntKind.u32.max (x.toNat:Int)=((~~~x).toNat:Int):=by
 have h:=mq (BitVec.allOnes 32) x;have e:((BitVec.allOnes 32).toNat:Int)=IntKind.u32.max:=by decide+kernel
 rw [e,BitVec.allOnes_xor] at h;exact h
def nq (w:World) (ns:BitVec 32) (l:List Nat) (i:Value) (wr:World):Prop:=
 ∃ j:Nat,j≤l.length∧i=.int .i64 j∧af w wr∧wr.cell? ⟨w.heap.size,0,none⟩=some (.int .u32 ((reg ns (l.take j)).toNat:Int))∧wr.frozen? ⟨w.heap.size,0,none⟩=false
theorem mz {w wr:World} {ns:BitVec 32} {l:List Nat} {j:Nat} (hlt:j<l.length) (hw:af w wr) {u:Value} (hc:wr.cell? ⟨w.heap.size,0,none⟩=some u) (hf:wr.frozen? ⟨w.heap.size,0,none⟩=false) :
 nq w ns l (.int .i64 ((j:Int)+1)) (wr.setCell ⟨w.heap.size,0,none⟩ (.int .u32 ((reg ns (l.take (j+1))).toNat:Int))):=
 ⟨j+1,by omega,by go_num,hw.set_ (Nat.le_refl _) _,World.cell?_setCell_same wr _ _ hc,by rw [World.frozen?_setCell];exact hf⟩
theorem ny (s:BitVec 32) (v:Value) (l:List Nat) (w:World) (hr:Row w v (aH l)) (hl:CM.Bytes l) (hlen:l.length≤140737488351232) (hT:dE w) :
 Calls prog 28 #[.int .u32 (s.toNat:Int),v] w fun e w'=>e=.returned (.int .u32 ((nz s l).toNat:Int))∧af w w':=by
 obtain ⟨A,cap,rfl,hrow⟩:=ka hr;have hn:=oe s;have HT:=Lib.hid (fun w' (h:af w w')=>hT.from_ h);have hres:nz s l = ~~~(reg (~~~s) l):=rfl;rw [hres];clear hres
 generalize ~~~s=ns at*
 have hfin:=oe (reg ns l)
 generalize ~~~(reg ns l)=out at*
 have HF:=Lib.hid hfin;clear hT hr hfin
 go_enter Tryd.func28,Tryd.ntmps28
 go_wp2
 go_loopw [13] (nq w ns l) (fun i _=>l.length-(intOf i).toNat)
 case atStart=>
  exact ⟨0,by omega,rfl,af.rfl_.new _,(Blk.new w _ _).cell 0,World.frozen?_alloc_new _ _ _ _⟩
 case round=>
  obtain ⟨j,hj,rfl,hw,hc,hf⟩:=hrel;by_cases hlt:j<l.length
  ·obtain ⟨b,o,rfl,hb,hcell⟩:=hrow (by omega);have d1:=(hw.cells b (o+j) hb).trans (hcell j hlt);have i1:(0:Int)≤(j:Int):=by omega
   have i2:(j:Int)<(l.length:Int):=by omega
   have hx:l[j]<256:=hl _ (List.getElem_mem hlt)
   have hsn:reg ns (l.take (j+1))=j7 (reg ns (l.take j) ^^^ BitVec.ofNat 32 l[j]):=by
    rw [List.take_succ_eq_append_getElem hlt,lE];rfl
   have ct:=mx w.heap.size (reg ns (l.take j)) l[j] wr hx (HT.out wr hw) hc hf;rw [←hsn] at ct;have CT:=Lib.hid ct;clear ct hsn hcell hrow hl hn
   generalize l[j]=x at*
   go_wp2_with (go_at_call 32;(with_reducible refine CT.out.mono ?_);rintro e w1 ⟨rfl,rfl⟩)
   go_roundw
   case rel=>exact mz hlt hw hc hf
   case measure=>simp [intOf];omega
  ·obtain hjl:j=l.length:=by omega
   rw [hjl,List.take_length] at hc;clear hj hjl
   generalize (reg ns l).toNat=r at*
   go_wp2
   go_ret
   exact ⟨jK HF.out,hw⟩
def b8 (c:BitVec 32):Nat→BitVec 32
 |0=>c
 |k+1=>pt (b8 c k)
def pN (w:World) (ns:BitVec 32) (l:List Nat) (c i:Value) (wr:World):Prop:=
 ∃ j:Nat,j≤l.length∧i=.int .i64 j∧af w wr∧c=.int .u32 ((reg ns (l.take j)).toNat:Int)
def pD (w:World) (c0:BitVec 32) (c k:Value) (wr:World):Prop:=
 ∃ q:Nat,q≤8∧k=.int .i64 q∧af w wr∧c=.int .u32 ((b8 c0 q).toNat:Int)
end Go.Proofs.YtmaaljhcojcjhaaDoor
namespace Go.Proofs.YtmaaljhcojcjhaaDoor
open Go.Proofs.Tryd (prog)
open Go.RowKit
open Go.ChangeShapes Go.WideShapes Go.ChangeAt
theorem kH:aJ prog 25=true:=by kernel_rfl
theorem cg:ff prog 40=some (9,1,16,(.string ⟨#[]⟩)):=by kernel_rfl
theorem kG:aJ prog 28=true:=by kernel_rfl
theorem d_:(prog.underlying 58).isSome=true:=by kernel_rfl
theorem eL:prog.underlying 5=some (.int .u8):=by kernel_rfl
theorem gS:ff prog 26=some (5,1,1,(.int .u8 0)):=by kernel_rfl
theorem ea:(c6 prog 40).isSome=true:=by kernel_rfl
theorem bQ:c6 prog 40=some (9,1):=by kernel_rfl
theorem kF:aJ prog 29=true:=by kernel_rfl
def df (s:ByteArray):Option Nat:=match cv (dF s) with
 |some (n,k)=>if k=s.size then some n else none
 |none=>none
theorem gl {m:Nat} (h:m≤9223372036854775807):df (br (aZ m))=some m:=by
 unfold df;rw [eu (eE h)];have:=fh h [];rw [List.append_nil] at this;rw [this];simp [dk]
theorem nP {s:ByteArray} (h:cv (dF s)=none):df s=none:=by unfold df;rw [h]
theorem ko {s:ByteArray} {n k:Nat} (h:cv (dF s)=some (n,k)) (hk:k≠s.size):df s=none:=by unfold df;rw [h];simp [hk]
theorem nQ {s:ByteArray} {n k:Nat} (h:cv (dF s)=some (n,k)) (hk:k=s.size):df s=some n:=by unfold df;rw [h];simp [hk]
theorem o8 (m:Nat) (hm:m≤9223372036854775807) (w:World):Rt prog 25 [.int .i64 (m:Nat)] w fun v w'=>∃ A c,v=.tuple #[.slice A (aZ m).length c,.int .i64 0]∧bI w' (.slice A (aZ m).length c) (aH (aZ m))∧af w w':=by
 refine Calls.mono (nO m hm w) fun e w' ⟨v',he,ho,hF⟩=>?_
 have hr:=bI.of_own ho;obtain ⟨A,c,hv,_,_⟩:=hr.2;rw [bd] at hv;subst hv;exact ⟨_,he,A,c,rfl,hr,hF⟩
theorem o4 (A:Option Addr) (c n:Nat) (ts:List ByteArray) (w:World) (_:n=ts.length) (hr:bI w (.slice A n c) (ts.map .string)) (hs:∀ s∈ts,s.size≤140737488351232) (hfit:(cx ts).length≤1048576):Rt prog 13 [.slice A n c] w fun v w'=>∃ A c,v=.tuple #[.slice A (cx ts).length c,.int .i64 0]∧w'.ownsRow w.heap.size 5 1 (.slice A (cx ts).length c) (cx ts).length (aH (cx ts))∧af w w':=by
 refine Calls.mono (nI _ ts w hr hs hfit) fun e w' ⟨v',he,ho,hF⟩=>?_
 have hr:=bI.of_own ho;obtain ⟨A,c,hv,_,_⟩:=hr.2;rw [bd] at hv;subst hv;exact ⟨_,he,A,c,rfl,ho,hF⟩
theorem m9 (A:Option Addr) (c n:Nat) (l:List Nat) (hl:∀ b∈l,b<256) (w:World) (hr:bI w (.slice A n c) (aH l)):Rt prog 29 [.slice A n c] w fun v w'=>v=gW (cv l)∧w=w':=
 Calls.mono (fx _ l hl w hr) fun _ _ ⟨he,hw⟩=>⟨_,he,rfl,hw⟩
def pO (w w':World) (v:Value) (l:List Nat):Prop:=(dV l=none∧v=.tuple #[.slice none 0 0,.int .i64 1])∨∃ ss A c,dV l=some ss∧v=.tuple #[.slice A ss.length c,.int .i64 0]∧w'.ownsRow w.heap.size 9 1 (.slice A ss.length c) ss.length (ss.map .string)
theorem pd (A:Option Addr) (c n:Nat) (l:List Nat) (hl:∀ b∈l,b<256) (w:World) (hr:bI w (.slice A n c) (aH l)):Rt prog 16 [.slice A n c] w fun v w'=>pO w w' v l∧af w w':=by
 refine Calls.mono (nW _ l hl w hr) fun e w' ⟨hg,hF⟩=>?_
 cases hb:dV l with
 |none=>rw [hb] at hg;exact ⟨_,hg,.inl ⟨hb,rfl⟩,hF⟩
 |some ss=>
  rw [hb] at hg;obtain ⟨v',he,ho⟩:=hg;obtain ⟨A,c,hv,_,_⟩:=(bI.of_own ho).2;rw [List.length_map] at hv;subst hv;exact ⟨_,he,.inr ⟨ss,A,c,hb,rfl,ho⟩,hF⟩
theorem oW (A:Option Addr) (c n:Nat) (l:List Nat) (w:World) (hr:bI w (.slice A n c) (aH l)) (hl:∀ b∈l,b<256) (hlen:l.length≤140737488351232) (hT:dE w):Rt prog 28 [.int .u32 0,.slice A n c] w fun v w'=>v=.int .u32 (((nz 0#32 l).toNat:Nat):Int)∧af w w':=
 Calls.mono (ny 0#32 _ l w hr.1 hl hlen hT) fun _ _ ⟨he,hF⟩=>⟨_,he,rfl,hF⟩
def ck (l:List Nat):List Nat:=let s:=(nz 0#32 l).toNat;[s%256,s/2 ^ 8%256,s/2 ^ 16%256,s/2 ^ 24%256]
theorem lj (l:List Nat):(ck l).length=4:=rfl
theorem lM (l:List Nat):∀ b∈ck l,b<256:=by
 intro b hb;simp only [ck,List.mem_cons,List.not_mem_nil,or_false] at hb;omega
def dg (xs:List Int):List ByteArray:=xs.map fun x=>br (aZ x.toNat)
theorem el (xs:List Int):(dg xs).length=xs.length:=by simp [dg]
theorem k6 {xs:List Int} {j m:Nat} (h:j<xs.length) (e:xs[j]=(m:Nat)):((dg xs).take (j+1)).map Value.string=((dg xs).take j).map Value.string++[.string (br (aZ m))]:=by
 rw [List.take_succ_eq_append_getElem (by rw [el];exact h),List.map_append];simp [dg,e]
theorem oF {xs:List Int} {k m:Nat} (h:k<xs.length) (e:xs[k]=(m:Nat)):(xs.map iV).toArray[k]? =some (.int .i64 (m:Nat)):=by rw [og h,e]
theorem lR {l m:List Nat} (hl:∀ b∈l,b<256) (hm:∀ b∈m,b<256):((br l).toList==(br m).toList)=decide (l=m):=by
 rw [Bool.eq_iff_iff,beq_iff_eq,decide_eq_true_eq,et];exact ⟨fun h=>by rw [←eu hl,h,eu hm],fun h=>by rw [h]⟩
def eK (ss:List ByteArray):Prop:=∀ s∈ss,(df s).isSome=true
def nv (s:ByteArray):Nat:=(df s).getD 0
theorem mi {ss:List ByteArray} {s:ByteArray}:eK (ss++[s])↔eK ss∧(df s).isSome=true:=by
 simp only [eK,List.mem_append,List.mem_singleton];exact ⟨fun h=>⟨fun y hy=>h y (.inl hy),h s (.inr rfl)⟩,fun h y hy=>hy.elim (h.1 y) (fun e=>e ▸ h.2)⟩
theorem lI {s:ByteArray} {n:Nat} (h:df s=some n):nv s=n:=by unfold nv;rw [h];rfl
theorem cG (b:Bool) (w:World) :
 Rt prog 12 [.bool b] w (fun v w'=>v=.int .i64 ((b.toNat:Nat):Int)∧w=w'):=by
 refine enter (n:=4) Tryd.func12 rfl rfl rfl (an (ah (asi rfl (ak (ag (an (an (ah (mvb rfl (ak (ag (aK rfl (fun Q1=>?_) (fun Q1=>?_)))))))))))))
 ·(try first | (replace Q1 := cz Q1; trace "@MK N cG:c3+ 1.1") | (replace Q1 := cB Q1; trace "@MK N cG:c3+ 1.2"))
  (try first | (replace Q1 := n7 Q1; trace "@MK N cG:c3+ 2.1") | (replace Q1 := n8 Q1; trace "@MK N cG:c3+ 2.2") | (replace Q1 := bT Q1; trace "@MK N cG:c3+ 2.3") | (replace Q1 := bU Q1; trace "@MK N cG:c3+ 2.4") | (replace Q1 := dT_ Q1; trace "@MK N cG:c3+ 2.5") | (replace Q1 := dF_ Q1; trace "@MK N cG:c3+ 2.6"))
  have hb:b=true:=by simpa using Q1
  refine an (ah (asi rfl (ak (ag (aA (aI (bX (v:=.int _ _) rfl rfl (⟨bY (by rw [hb];rfl),rfl⟩))))))))
 (try first | (replace Q1 := cz Q1; trace "@MK N cG:c3- 1.1") | (replace Q1 := cB Q1; trace "@MK N cG:c3- 1.2"))
 (try first | (replace Q1 := n7 Q1; trace "@MK N cG:c3- 2.1") | (replace Q1 := n8 Q1; trace "@MK N cG:c3- 2.2") | (replace Q1 := bT Q1; trace "@MK N cG:c3- 2.3") | (replace Q1 := bU Q1; trace "@MK N cG:c3- 2.4") | (replace Q1 := dT_ Q1; trace "@MK N cG:c3- 2.5") | (replace Q1 := dF_ Q1; trace "@MK N cG:c3- 2.6"))
 have hb:b=false:=by simpa using Q1
 refine aY (ag (an (ah (asi rfl (ak (ag (aA (bX (v:=.int _ _) rfl rfl (⟨bY (by rw [hb];rfl),rfl⟩)))))))))
theorem cE (e:Int) (w:World) :
 Rt prog 6 [.int .i64 e] w (fun v w'=>v=.int .i64 e∧w=w'):=by
 refine enter (n:=4) Tryd.func6 rfl rfl rfl (an (ah (asi rfl (ak (ag (an (ah (mvi rfl (asi rfl (ak (ag (aA (bX (v:=.int _ _) rfl rfl (⟨rfl,rfl⟩))))))))))))))
theorem mQ (g m c:Nat) (xs:List Int) (w:World) (hm:m=xs.length) (hb:Blk w g 3 (xs.map iV).toArray) (h0:∀ x∈xs,0≤x∧x≤9223372036854775807) (hl:xs.length≤1000) :
 Rt prog 11 [.slice (some ⟨g,0,none⟩) m c] w (fun v w'=>(∃ A' c',v=.slice A' m c'∧w'.ownsRow w.heap.size 9 1 (.slice A' m c') m ((dg xs).map .string))∧af w w'):=by
 refine enter (n:=26) Tryd.func11 rfl rfl rfl (an (ah (ass rfl (ak (ag (an (ah (ass rfl (ak (ag (an (an (ah (mvs rfl (aa (cu iN rfl) (mvi rfl ?_))))))))))))))));refine ak (ag (bt (dJ (G:=Nat×Option Addr×Nat) [5,6,7,11,12,13,14,15,16,17,18,19,20,21,22,23,24] (fun (j,A3,c3)=>[(3,.slice A3 j c3),(10,.int .i64 (j:Nat))]) (fun (j,A3,c3) w'=>j≤xs.length∧w'.ownsRow w.heap.size 9 1 (.slice A3 j c3) j (((dg xs).take j).map .string)∧af w w') (fun (j,_,_)=>xs.length-j) ((0,none,0)) ⟨rfl,rfl,trivial⟩ ?_ ?_)))
 ·exact ⟨Nat.zero_le _,World.ownsRow_nil _ _ _ _,af.rfl_⟩
 rintro ⟨j,A3,c3⟩ ρ1 w1 ⟨hj,ho,hB⟩;refine an (ah (aa (dL rfl rfl) (ak (ag (an (ps rfl (fun Q2=>?_) (fun Q2=>?_)))))))
 ·have hjx:j<xs.length:=by omega
  obtain ⟨q,hm9⟩:∃ q:Nat,xs[j]=(q:Nat):=⟨xs[j].toNat,by have:=h0 _ (List.getElem_mem hjx);omega⟩;have hq9:q≤9223372036854775807:=by have:=h0 _ (List.getElem_mem hjx);omega
  refine aY (ag (an (bt (an (ah (aa (aQ bh rfl rfl (by omega)) (aa (av ar rfl (by exact (hb.from_ hB).rd j (oF hjx hm9))) ?_)))))));refine asi rfl (ak (ag (an (ah (mvi rfl (aC kH (o8 q hq9 _) ?_))))));rintro v16 w3 ⟨A16,c16,rfl,hr16,E16⟩;refine mvt rfl (aa (ay rfl rfl) (aa (ay rfl rfl) (ass rfl (asi rfl (ak (ag (ah (mvs rfl (mvs rfl (aa (eB (l:=aZ q) (eE hq9) rfl hr16) ?_))))))))));refine ez (v:=.string _) cg rfl rfl rfl ?_;intro b22 w4 E22 hb22 hk22;refine ij (a0:=w) cg rfl rfl (ho.kept_from (E16.next E22)) ((hB.next E16).next E22) rfl hk22 rfl (by omega) (by omega) ?_;intro A23 c23 w5 ho23 B23 hg23;refine ass rfl (ak (bG (ag (ah (aa (fP (b:=1) rfl rfl (by omega)) (mvi rfl (ak ?_)))))));refine cI ((j+1,A23,c23)) ⟨(by first | rfl | (refine bY ?_;omega)),(by first | rfl | (refine bY ?_;omega)),trivial⟩ (by (iterate 38 refine bH rfl ?_);exact cf) ⟨?_,?_⟩
  ·exact ⟨by omega,by rw [k6 hjx hm9];exact ho23,B23⟩
  ·show xs.length-(j+1)<xs.length-j;omega
 obtain rfl:j=xs.length:=by omega
 refine dd (bA (bA (cJ (ag (an (ah (mvs rfl (ass rfl (ak (ag (aA (bX (v:=.slice _ _ _) rfl rfl ?_))))))))))));subst hm;exact ⟨⟨A3,c3,rfl,by rwa [List.take_of_length_le (by rw [el];exact Nat.le_refl _)] at ho⟩,hB⟩
theorem pj (A:Option Addr) (c n:Nat) (l:List Nat) (w:World) (hr:bI w (.slice A n c) (aH l)) (hl:∀ b∈l,b<256) (hlen:l.length≤140737488351232) (hT:dE w) :
 Rt prog 14 [.slice A n c] w (fun v w'=>(∃ g,v=.slice (some ⟨g,0,none⟩) 4 4∧w.heap.size≤g∧Blk w' g 5 ((ck l).map bV).toArray)∧af w w'):=by
 refine enter (n:=18) Tryd.func14 rfl rfl rfl (an (ah (ass rfl (ak (ag (an (ah (mvs rfl (aC kG (oW A c n l _ (hr.from_ af.rfl_) hl hlen hT) ?_)))))))));rintro v5 w1 ⟨rfl,E5⟩;refine asi rfl (ak (ag (an (ah (mvi rfl (aa (fO d_ eL rfl) (mvi rfl (aa (jI (b:=8) rfl rfl (by decide)) (aa (fO d_ eL rfl) (mvi rfl (aa (jI (b:=16) rfl rfl (by decide)) ?_)))))))))));refine aa (fO d_ eL rfl) (mvi rfl (aa (jI (b:=24) rfl rfl (by decide)) (aa (fO d_ eL rfl) (g_ [.tmp 7,.tmp 10,.tmp 13,.tmp 16] [.int _ _,.int _ _,.int _ _,.int _ _] gS rfl rfl rfl rfl (by simp [Value.cells]) ?_))));intro b17 w2 E17 hb17 hk17;refine ass rfl (ak (ag (aA (bX (v:=.slice _ _ _) rfl rfl ?_))));exact ⟨⟨b17,rfl,by rw [hb17];exact E5.size,hk17⟩,((af.rfl_.next E5).next E17)⟩
theorem n1 (A B:Option Addr) (ca cb n m:Nat) (l k:List Nat) (w:World) (hr:bI w (.slice A n ca) (aH l)) (hr2:bI w (.slice B m cb) (aH k)) (hl:∀ b∈l,b<256) (hk:∀ b∈k,b<256) :
 Rt prog 15 [.slice A n ca,.slice B m cb] w (fun v w'=>v=.bool (decide (l=k))∧w=w'):=by
 refine enter (n:=10) Tryd.func15 rfl rfl rfl (an (ah (asb rfl (ak (ag (an (ah (mvs rfl (aa (eB (l:=l) hl rfl hr) (mvs rfl (aa (eB (l:=k) hk rfl hr2) (aa (ej (jJ rfl rfl) (congrArg Value.bool (lR hl hk))) ?_))))))))))));refine asb rfl (ak (ag (aA (bX (v:=.bool _) rfl rfl (⟨rfl,rfl⟩)))))
theorem mP {ss:List ByteArray} {j q:Nat} (h:j<ss.length) (e:df ss[j]=some q):((ss.take (j+1)).map fun s=>Value.int .i64 (nv s:Nat))=((ss.take j).map fun s=>Value.int .i64 (nv s:Nat))++[.int .i64 (q:Nat)]:=by
 rw [List.take_succ_eq_append_getElem h,List.map_append];simp [lI e]
theorem kk {ss:List ByteArray} {j q:Nat} (h:j<ss.length) (e:df ss[j]=some q) (ha:eK (ss.take j)):eK (ss.take (j+1)):=by
 rw [List.take_succ_eq_append_getElem h];exact mi.2 ⟨ha,by rw [e];rfl⟩
theorem fY {ss:List ByteArray} {j:Nat} (h:j<ss.length) (e:df ss[j]=none):¬ eK ss:=fun ha=>by
 have:=ha _ (List.getElem_mem h);rw [e] at this;cases this
theorem jL (A:Option Addr) (c n:Nat) (ss:List ByteArray) (w:World) (hn:n=ss.length) (hr:cT .string w A ss) (hs:∀ s∈ss,s.size≤140737488351232) (hl:ss.length≤100000000) :
 Rt prog 30 [.slice A n c] w (fun v w'=>((eK ss∧∃ A' c',v=.tuple #[.slice A' n c',.bool true]∧w'.ownsRow w.heap.size 3 1 (.slice A' n c') n (ss.map fun s=>.int .i64 (nv s:Nat)))∨(¬ eK ss∧v=.tuple #[.slice none 0 0,.bool false]))∧af w w'):=by
 refine enter (n:=37) Tryd.func30 rfl rfl rfl (an (ah (ass rfl (asb rfl (ak (ag (an (ah (ass rfl (ak (ag (an (an (ah (mvs rfl (aa (cu ea rfl) ?_))))))))))))))));refine mvi rfl (ak (ag (bt (dJ (G:=Nat×Option Addr×Nat) [2,3,6,7,8,9,13,14,15,16,17,18,19,20,21,22,23,24,25,26,27,28,29,30,31,32,33,34,35] (fun (j,A4,c4)=>[(4,.slice A4 j c4),(12,.int .i64 (j:Nat))]) (fun (j,A4,c4) w'=>j≤ss.length∧eK (ss.take j)∧w'.ownsRow w.heap.size 3 1 (.slice A4 j c4) j ((ss.take j).map fun s=>.int .i64 (nv s:Nat))∧af w w') (fun (j,_,_)=>ss.length-j) ((0,none,0)) ⟨rfl,rfl,trivial⟩ ?_ ?_))))
 ·exact ⟨Nat.zero_le _,fun _ h=>by simp at h,World.ownsRow_nil _ _ _ _,af.rfl_⟩
 rintro ⟨j,A4,c4⟩ ρ1 w1 ⟨hj,ha,ho,hB⟩;refine an (ah (aa (dL rfl rfl) (ak (ag (an (ps rfl (fun Q2=>?_) (fun Q2=>?_)))))))
 ·have hjx:j<ss.length:=by omega
  obtain ⟨b,o,rfl,hcs⟩:=hr (by omega);have hsj:=hs _ (List.getElem_mem hjx);refine aY (ag (an (bt (an (ah (aa (bP bQ rfl rfl (by omega)) (aa (av bJ rfl (by exact ni hB (hcs j hjx))) ?_)))))));refine asg rfl (ak (ag (an (ah (mvg rfl (mC rfl (by omega) ?_))))));intro A18 c18 w3 E18 hr18;refine aC kF (m9 A18 c18 _ (dF ss[j]) (lA _) _ hr18) ?_;rintro v19 w4 ⟨rfl,rfl⟩;rcases hN:cv (dF ss[j]) with _ | ⟨n19,k19⟩
  ·have hnq:=nP hN;refine mvt rfl (aa (ay rfl rfl) (aa (ay rfl rfl) (aa (ay rfl rfl) (asi rfl (asi rfl (asi rfl (ak (ag (an (an (ah (mvi rfl ?_))))))))))));refine aa (cj rfl rfl) (mvb rfl (aB (t:=25) rfl (fun Q5=>?_) (fun Q5=>?_)));rotate_left
   ·replace Q5:=cB Q5;replace Q5:=bT Q5;exfalso;omega
   replace Q5:=cz Q5;replace Q5:=bU Q5;refine ab rfl rfl (ab rfl rfl (ab rfl rfl (ab rfl rfl (aa (aG (v:=.bool _) rfl rfl) (ak (ag (cd rfl (an (ah (ass rfl ?_))))))))));refine asb rfl (ak (ag (aA (aI (cD (aI (aI (cD (aI (nH (v:=.slice _ _ _) (v':=.bool _) rfl rfl rfl ?_))))))))))
   first
    |exact ⟨.inr ⟨fY hjx hnq,rfl⟩,(hB.next E18)⟩
    |exact ⟨.inr ⟨fY hjx (ko hN (by omega)),rfl⟩,(hB.next E18)⟩
  refine mvt rfl (aa (ay rfl rfl) (aa (ay rfl rfl) (aa (ay rfl rfl) (asi rfl (asi rfl (asi rfl (ak (ag (an (an (ah (mvi rfl ?_))))))))))));refine aa (cj rfl rfl) (mvb rfl (aB (t:=25) rfl (fun Q9=>?_) (fun Q9=>?_)))
  ·replace Q9:=cz Q9;replace Q9:=bU Q9;exfalso;omega
  replace Q9:=cB Q9;replace Q9:=bT Q9;refine ae rfl (mvi rfl (ae rfl (mvg rfl (ae rfl (aa (lC (by kernel_rfl) rfl) (ae rfl (aa (cj rfl rfl) (aa (ao (v:=.bool _) rfl rfl) ?_))))))));refine ak (ag (aK rfl (fun Q10=>?_) (fun Q10=>?_)))
  ·replace Q10:=cz Q10;replace Q10:=bU Q10;refine an (ah (ass rfl (asb rfl (ak (ag (aA (aI (cD (aI (aI (cD (aI (nH (v:=.slice _ _ _) (v':=.bool _) rfl rfl rfl ?_)))))))))))))
   first
    |exact ⟨.inr ⟨fY hjx hnq,rfl⟩,(hB.next E18)⟩
    |exact ⟨.inr ⟨fY hjx (ko hN (by omega)),rfl⟩,(hB.next E18)⟩
  replace Q10:=cB Q10;replace Q10:=bT Q10;refine aY (ag (ah ?_));have hnq:=nQ hN (by omega);refine mvs rfl (mvi rfl (ez (v:=.int _ _) bk rfl rfl rfl ?_));intro b33 w11 E33 hb33 hk33;refine ij (a0:=w) bk rfl rfl (ho.kept_from (E18.next E33)) ((hB.next E18).next E33) rfl hk33 rfl (by omega) (by omega) ?_;intro A34 c34 w12 ho34 B34 hg34;refine ass rfl (ak (bG (ag (ah (aa (fP (b:=1) rfl rfl (by omega)) (mvi rfl (ak ?_)))))));refine cI ((j+1,A34,c34)) ⟨(by first | rfl | (refine bY ?_;omega)),(by first | rfl | (refine bY ?_;omega)),trivial⟩ (by (iterate 61 refine bH rfl ?_);exact cf) ⟨?_,?_⟩
  ·exact ⟨by omega,kk hjx hnq ha,by rw [mP hjx hnq];exact ho34,B34⟩
  ·show ss.length-(j+1)<ss.length-j;omega
 obtain rfl:j=ss.length:=by omega
 rw [List.take_length] at ha ho;refine dd (bA (bA (cJ (ag (an (ah (mvs rfl (ass rfl (asb rfl (ak (ag (aA (nH (v:=.slice _ _ _) (v':=.bool _) rfl rfl rfl ?_)))))))))))));subst hn;exact ⟨.inl ⟨ha,A4,c4,rfl,ho⟩,hB⟩
end Go.Proofs.YtmaaljhcojcjhaaDoor
namespace Go.Proofs.YtmaaljhcojcjhaaDoor
open Go.Proofs.Tryd (prog)
open Go.RowKit
abbrev PT:=List (Nat×Nat×((Nat→Bool)→Value→World→Prop))
def eR (L:List (Nat×Value)) (T:PT) (S:Nat→Bool) (L':List (Nat×Value)) (w:World):Prop:=
 (∀ t,(∀ p∈T,p.2.1≠t)→aL L' t=aL L t)∧(∀ p∈T,S p.1=true→p.2.2 S (aL L' p.2.1) w)∧∀ p∈T,S p.1=false→aL L' p.2.1=aL L p.2.1
def fZ:List (Nat×Nat)→Prop
 |[]=>True
 |p::r=>(∀ q∈r,q.1≠p.1∧q.2≠p.2)∧fZ r
def mr:List (Nat×Nat)→Bool
 |[]=>true
 |p::r=>(r.all fun q=> !(Nat.beq q.1 p.1)&&!(Nat.beq q.2 p.2))&&mr r
theorem mR {a b:Nat}:Nat.beq a b=false↔a≠b:=by
 refine ⟨fun h e=>?_,fun h=>?_⟩
 ·subst e;rw [Nat.beq_refl] at h;cases h
 ·rcases hb:Nat.beq a b with _ | _
  ·rfl
  ·exact absurd (Nat.eq_of_beq_eq_true hb) h
theorem g8:∀ {l:List (Nat×Nat)},mr l=true→fZ l
 |[],_=>trivial
 |p::r,h=>by
  simp only [mr,Bool.and_eq_true,List.all_eq_true,Bool.not_eq_true',mR] at h;exact ⟨fun q hq=>h.1 q hq,g8 h.2⟩
theorem g9:∀ {T:PT},fZ (T.map fun p=>(p.1,p.2.1))→∀ {p q:Nat×Nat×((Nat→Bool)→Value→World→Prop)},p∈T→q∈T→p.1=q.1∨p.2.1=q.2.1→p=q
 |_::_,⟨h1,h2⟩,p,q,hp,hq,he=>by
  rcases List.mem_cons.1 hp with rfl | hp' <;> rcases List.mem_cons.1 hq with rfl | hq'
  ·rfl
  ·rcases he with e | e
   ·exact absurd e.symm (h1 _ (List.mem_map_of_mem (f:=fun p=>(p.1,p.2.1)) hq')).1
   ·exact absurd e.symm (h1 _ (List.mem_map_of_mem (f:=fun p=>(p.1,p.2.1)) hq')).2
  ·rcases he with e | e
   ·exact absurd e (h1 _ (List.mem_map_of_mem (f:=fun p=>(p.1,p.2.1)) hp')).1
   ·exact absurd e (h1 _ (List.mem_map_of_mem (f:=fun p=>(p.1,p.2.1)) hp')).2
  ·exact g9 h2 hp' hq' he
theorem eR.get {L:List (Nat×Value)} {T:PT} {S:Nat→Bool} {L':List (Nat×Value)} {w:World} {i d:Nat} {R:(Nat→Bool)→Value→World→Prop} (h:eR L T S L' w) (hp:(i,d,R)∈T) (hs:S i=true):∃ v,aL L' d=v∧R S v w:=⟨_,rfl,h.2.1 _ hp hs⟩
theorem eR.old {L:List (Nat×Value)} {T:PT} {S:Nat→Bool} {L':List (Nat×Value)} {w:World} {i d:Nat} {R:(Nat→Bool)→Value→World→Prop} (h:eR L T S L' w) (hp:(i,d,R)∈T) (hs:S i=false):aL L' d=aL L d:=h.2.2 _ hp hs
theorem gV {S:Nat→Bool} {i k:Nat} (h:bu S i k=false):S k=false:=by
 unfold bu at h;split at h
 ·cases h
 ·exact h
theorem mE {S:Nat→Bool} {i k:Nat} (hk:k≠i) (h:bu S i k=true):S k=true:=by
 unfold bu at h
 rwa [if_neg hk] at h
theorem il (S:Nat→Bool) (i:Nat):bu S i i=true:=by unfold bu;rw [if_pos rfl]
theorem dH {S:Nat→Bool} {i k:Nat} (hk:k≠i):bu S i k=S k:=by unfold bu;rw [if_neg hk]
def gT (Mu:List Nat):PT→Prop
 |[]=>True
 |p::r=>(∀ S i v w1 w2,Mu.elem i=false→af w1 w2→p.2.2 S v w1→p.2.2 (bu S i) v w2)∧gT Mu r
def ChP (i:Nat) (S:Nat→Bool) (w1 w2:World):PT→Prop
 |[]=>True
 |p::r=>(Nat.beq p.1 i=false→S p.1=true→∀ v,p.2.2 S v w1→p.2.2 (bu S i) v w2)∧ChP i S w1 w2 r
theorem kq {Mu:List Nat}:∀ {T:PT},gT Mu T→∀ p∈T,∀ S i v w1 w2,Mu.elem i=false→af w1 w2→p.2.2 S v w1→p.2.2 (bu S i) v w2
 |_::_,⟨h1,h2⟩,p,hp=>by
  rcases List.mem_cons.1 hp with rfl | hp
  ·exact h1
  ·exact kq h2 p hp
theorem lk {i:Nat} {S:Nat→Bool} {w1 w2:World}:∀ {T:PT},ChP i S w1 w2 T→∀ p∈T,p.1≠i→S p.1=true→∀ v,p.2.2 S v w1→p.2.2 (bu S i) v w2
 |_::_,⟨h1,h2⟩,p,hp=>by
  rcases List.mem_cons.1 hp with rfl | hp
  ·exact fun hne=>h1 (by rw [mR];exact hne)
  ·exact lk h2 p hp
theorem eR.next {L:List (Nat×Value)} {T:PT} {S:Nat→Bool} {L':List (Nat×Value)} {w w':World} {i d:Nat} {v:Value} {R:(Nat→Bool)→Value→World→Prop} (h:eR L T S L' w) (hU:fZ (T.map fun p=>(p.1,p.2.1))) (hp:(i,d,R)∈T) (hR:R (bu S i) v w')
 (hst:∀ p∈T,p.1≠i→S p.1=true→∀ v,p.2.2 S v w→p.2.2 (bu S i) v w'):eR L T (bu S i) ((d,v)::L') w':=by
 refine ⟨fun t ht=>?_,fun p hq hs=>?_,fun p hq hs=>?_⟩
 ·rw [aT,if_neg (fun e=>ht _ hp e.symm)];exact h.1 t ht
 ·rw [aT];by_cases e:p.2.1=d
  ·rw [if_pos e,g9 hU hq hp (.inr e)];exact hR
  ·rw [if_neg e];have e2:p.1≠i:=fun e2=>e (congrArg (·.2.1) (g9 hU hq hp (.inl e2)))
   have hs':=mE e2 hs;exact hst p hq e2 hs' _ (h.2.1 p hq hs')
 ·have hs':=gV hs;have e2:p.1≠i:=fun e2=>by rw [e2,il] at hs;cases hs
  rw [aT,if_neg (fun e=>e2 (congrArg (·.1) (g9 hU hq hp (.inr e))))];exact h.2.2 p hq hs'
theorem eR.same {L:List (Nat×Value)} {T:PT} {S:Nat→Bool} {L':List (Nat×Value)} {w w':World} {i:Nat} (h:eR L T S L' w) (hi:∀ p∈T,p.1≠i)
 (hst:∀ p∈T,p.1≠i→S p.1=true→∀ v,p.2.2 S v w→p.2.2 (bu S i) v w'):eR L T (bu S i) L' w':=by
 refine ⟨h.1,fun p hq hs=>?_,fun p hq hs=>h.2.2 p hq (gV hs)⟩;have hs':=mE (hi p hq) hs;exact hst p hq (hi p hq) hs' _ (h.2.1 p hq hs')
def iZ (L':List (Nat×Value)):List (Nat×Value)→Prop
 |[]=>True
 |(t,v)::r=>aL L' t=v∧iZ L' r
theorem jz {L':List (Nat×Value)}:∀ {M:List (Nat×Value)},iZ L' M→∀ t,(M.map Prod.fst).elem t=true→aL M t=aL L' t
 |(k,v)::r,⟨h1,h2⟩,t,ht=>by
  rw [aT];by_cases e:t=k
  ·rw [if_pos e,e,h1]
  ·rw [if_neg e];refine jz h2 t ?_;simpa [e] using ht
section
variable {P:Program} {Q:Exit→Act→World→Prop} {n:Fr} {L L' M:List (Nat×Value)} {w w' w'':World} {l:List Oper} {T:PT} {Mem:(Nat→Bool)→World→Prop} {Mu:List Nat} {S:Nat→Bool} {op:Op} {ty:TypeId} {pos:String} {after:Array Edge} {i d:Nat} {v:Value} {R:(Nat→Bool)→Value→World→Prop}
theorem dQ {dst:Option Nat} (hs:bj op=false) (hk:(((⟨dst,op,ty,pos,after,none⟩:Oper).looksAt #[]).all fun t=>(M.map Prod.fst).elem t)=true) (hag:iZ L' M):execOp (ev n L') ⟨dst,op,ty,pos,after,none⟩=execOp (ev n M) ⟨dst,op,ty,pos,after,none⟩:=by
 have h:∀ t,((⟨dst,op,ty,pos,after,none⟩:Oper).looksAt #[]).elem t=true→aL M t=aL L' t:=fun t ht=>
  jz hag t (List.all_eq_true.1 hk t (List.elem_iff.1 ht))
 exact (dv (n:=n) (ops:=#[]) (o:=⟨dst,op,ty,pos,after,none⟩) hs h).1.symm
abbrev jA (P:Program) (n:Fr) (L:List (Nat×Value)) (T:PT) (Mem:(Nat→Bool)→World→Prop) (S:Nat→Bool) (i:Nat) (o:Oper) (L':List (Nat×Value)) (w':World):Prop:=fj P n o (fun L2 w2=>eR L T (bu S i) L2 w2∧Mem (bu S i) w2) L' w'
theorem mM (hmo:gT Mu T) (hq:Mu.elem i=false) (hF:af w' w''):∀ p∈T,p.1≠i→S p.1=true→∀ v,p.2.2 S v w'→p.2.2 (bu S i) v w'':=fun p hp _ _ v h=>kq hmo p hp S i v w' w'' hq hF h
theorem aF (M:List (Nat×Value)) (hU:fZ (T.map fun p=>(p.1,p.2.1))) (hmo:gT Mu T) (hme:∀ S i w1 w2,Mu.elem i=false→af w1 w2→Mem S w1→Mem (bu S i) w2) (hI:eR L T S L' w') (hM:Mem S w') (hp:(i,d,R)∈T) (hq:Mu.elem i=false)
 (hs:bj op=false) (hk:(((⟨some d,op,ty,pos,after,none⟩:Oper).looksAt #[]).all fun t=>(M.map Prod.fst).elem t)=true) (hag:iZ L' M) (hr:RO P (ev n M) op w' v w'') (hF:af w' w'') (hR:R (bu S i) v w''):jA P n L T Mem S i ⟨some d,op,ty,pos,after,none⟩ L' w':=
 .inl ⟨d,v,w'',rfl,by rw [dQ hs hk hag];exact hr _ _ _ _ _,hI.next hU hp hR (mM hmo hq hF),hme S i _ _ hq hF hM⟩
theorem ey (M:List (Nat×Value)) {f:FuncId} {al:List Operand} {ats:Array TypeId} (hU:fZ (T.map fun p=>(p.1,p.2.1))) (hmo:gT Mu T) (hme:∀ S i w1 w2,Mu.elem i=false→af w1 w2→Mem S w1→Mem (bu S i) w2) (hI:eR L T S L' w') (hM:Mem S w') (hp:(i,d,R)∈T) (hq:Mu.elem i=false)
 (hk:(((⟨some d,.call { callee:=.value (.func f),args:=al.toArray,argTypes:=ats },ty,pos,after,none⟩:Oper).looksAt #[]).all fun t=>(M.map Prod.fst).elem t)=true) (hag:iZ L' M) (hf:aJ P f=true) (hc:Rt P f (al.map (ev n M)) w' fun v w''=>af w' w''∧R (bu S i) v w'') :
 jA P n L T Mem S i ⟨some d,.call { callee:=.value (.func f),args:=al.toArray,argTypes:=ats },ty,pos,after,none⟩ L' w':=
 .inr (.inr ⟨d,f,al.map (ev n M),rfl,by rw [dQ rfl hk hag,ep (fun _=>rfl),eV hf],Calls.mono hc fun e w2 ⟨v,he,hF,hR⟩=>⟨v,he,hI.next hU hp hR (mM hmo hq hF),hme S i _ _ hq hF hM⟩⟩)
theorem ig (M:List (Nat×Value)) (hU:fZ (T.map fun p=>(p.1,p.2.1))) (hI:eR L T S L' w') (hp:(i,d,R)∈T)
 (hs:bj op=false) (hk:(((⟨some d,op,ty,pos,after,none⟩:Oper).looksAt #[]).all fun t=>(M.map Prod.fst).elem t)=true) (hag:iZ L' M) (hr:RO P (ev n M) op w' v w'') (hM:Mem (bu S i) w'') (hR:R (bu S i) v w'') (hC:ChP i S w' w'' T):jA P n L T Mem S i ⟨some d,op,ty,pos,after,none⟩ L' w':=
 .inl ⟨d,v,w'',rfl,by rw [dQ hs hk hag];exact hr _ _ _ _ _,hI.next hU hp hR (lk hC),hM⟩
theorem mB (M:List (Nat×Value)) (hI:eR L T S L' w') (hi:∀ p∈T,p.1≠i)
 (hs:bj op=false) (hk:(((⟨none,op,ty,pos,after,none⟩:Oper).looksAt #[]).all fun t=>(M.map Prod.fst).elem t)=true) (hag:iZ L' M) (hr:RS P (ev n M) op w' w'') (hM:Mem (bu S i) w'') (hC:ChP i S w' w'' T):jA P n L T Mem S i ⟨none,op,ty,pos,after,none⟩ L' w':=
 .inr (.inl ⟨w'',rfl,by rw [dQ hs hk hag];exact hr _ _ _ _ _,hI.same hi (lk hC),hM⟩)
def n_ (S:Nat→Bool) (w:World):PT→(List (Nat×Value)→Prop)→Prop
 |[],K=>K []
 |p::r,K=>∀ v,p.2.2 S v w→n_ S w r fun M=>K ((p.2.1,v)::M)
theorem iH {S:Nat→Bool} {w:World} {K:List (Nat×Value)→Prop} (h:K []):n_ S w [] K:=h
theorem lN {S:Nat→Bool} {w:World} (ρ:Nat→Value):∀ (l:PT) {K:List (Nat×Value)→Prop},(∀ p∈l,p.2.2 S (ρ p.2.1) w)→n_ S w l K→K (l.map fun p=>(p.2.1,ρ p.2.1))
 |[],_,_,h=>h
 |p::r,_,hr,h=>lN ρ r (fun e he=>hr e (List.mem_cons_of_mem _ he)) (h (ρ p.2.1) (hr p (List.mem_cons_self ..)))
theorem l7 (ρ:Nat→Value) (T:PT) (L:List (Nat×Value)) (t:Nat):((∃ p∈T,p.2.1=t)∧aL (T.map (fun p=>(p.2.1,ρ p.2.1))++L) t=ρ t)∨((∀ p∈T,p.2.1≠t)∧aL (T.map (fun p=>(p.2.1,ρ p.2.1))++L) t=aL L t):=by
 induction T with
 |nil=>exact .inr ⟨fun p hp=>by simp at hp,rfl⟩
 |cons q r ih=>
  rw [List.map_cons,List.cons_append,aT];by_cases e:t=q.2.1
  ·rw [if_pos e,←e];exact .inl ⟨⟨q,.head _,e.symm⟩,rfl⟩
  ·rw [if_neg e];rcases ih with ⟨⟨p,hp,h1⟩,h2⟩ | ⟨h1,h2⟩
   ·exact .inl ⟨⟨p,.tail _ hp,h1⟩,h2⟩
   ·refine .inr ⟨fun p hp=>?_,h2⟩;rcases List.mem_cons.1 hp with rfl | hp2
    ·exact fun e2=>e e2.symm
    ·exact h1 p hp2
theorem eD {T:PT} {t:Nat} (h:(T.map fun p=>p.2.1).elem t=false):∀ p∈T,p.2.1≠t:=fun p hp e=>by
 have:t∈T.map fun p=>p.2.1:=List.mem_map.2 ⟨p,hp,e⟩
 rw [List.elem_eq_mem,decide_eq_false_iff_not] at h;exact h this
theorem pH {T:PT} {i:Nat} (h:(T.map fun p=>p.1).elem i=false):∀ p∈T,p.1≠i:=fun p hp e=>by
 have:i∈T.map fun p=>p.1:=List.mem_map.2 ⟨p,hp,e⟩
 rw [List.elem_eq_mem,decide_eq_false_iff_not] at h;exact h this
theorem fj.mono {o:Oper} {I1 I2:List (Nat×Value)→World→Prop} (hi:∀ L2 w2,I1 L2 w2→I2 L2 w2) (h:fj P n o I1 L' w'):fj P n o I2 L' w':=by
 rcases h with ⟨d,v,w2,h1,h2,h3⟩ | ⟨w2,h1,h2,h3⟩ | ⟨d,f,args,h1,h2,h3⟩
 ·exact .inl ⟨d,v,w2,h1,h2,hi _ _ h3⟩
 ·exact .inr (.inl ⟨w2,h1,h2,hi _ _ h3⟩)
 ·exact .inr (.inr ⟨d,f,args,h1,h2,Calls.mono h3 fun e w2 ⟨v,he,h⟩=>⟨v,he,hi _ _ h⟩⟩)
def dK (l:List Oper) (S:Nat→Bool):Prop:=∀ j o,l[j]? =some o→S j=true→∀ e∈o.after,Region.binds .any e=true→S e.on=true
theorem bm {j i:Nat} {o:Oper} (hC:dK l S) (ho:l[j]? =some o) (he:(o.after.toList.any fun e=>Region.binds .any e&&Nat.beq e.on i)=true) (hS:S i=false):S j=false:=by
 rcases hj:S j with _ | _
 ·rfl
 ·obtain ⟨e,h1,h2⟩:=List.any_eq_true.1 he;rw [Bool.and_eq_true] at h2;have:=hC j o ho hj e (by simpa using h1) h2.1;rw [Nat.eq_of_beq_eq_true h2.2,hS] at this;cases this
theorem gR {i:Nat} {o:Oper} (hC:dK l S) (ho:l[i]? =some o) (hE:∀ e∈o.after,Region.binds .any e=true→S e.on=true):dK l (bu S i):=fun j o' hj hs e he hb=>by
 have up:∀ k,S k=true→bu S i k=true:=fun k hk=>by
  unfold bu;split
  ·rfl
  ·exact hk
 by_cases hji:j=i
 ·subst hji;rw [ho] at hj;cases hj;exact up _ (hE e he hb)
 ·exact up _ (hC j o' hj (mE hji hs) e he hb)
def lq (P:Program) (n:Fr) (L:List (Nat×Value)) (T:PT) (Mu:List Nat) (Mem:(Nat→Bool)→World→Prop) (l:List Oper):Nat→List Oper→Prop
 |_,[]=>True
 |i,o::r=>(∀ S L' w',fZ (T.map fun p=>(p.1,p.2.1))→gT Mu T→(∀ S i w1 w2,Mu.elem i=false→af w1 w2→Mem S w1→Mem (bu S i) w2)→eR L T S L' w'→Mem S w'→dK l S→S i=false→ec S o.after.toList→jA P n L T Mem S i o L' w')∧lq P n L T Mu Mem l (i+1) r
theorem jc {L0:List (Nat×Value)} {l0:List Oper}:∀ {r:List Oper} {k:Nat},lq P n L0 T Mu Mem l0 k r→fZ (T.map fun p=>(p.1,p.2.1))→gT Mu T→(∀ S i w1 w2,Mu.elem i=false→af w1 w2→Mem S w1→Mem (bu S i) w2)→∀ (i:Nat) (o:Oper),r[i]? =some o→∀ S L' w',eR L0 T S L' w'→Mem S w'→dK l0 S→S (k+i)=false→ec S o.after.toList→jA P n L0 T Mem S (k+i) o L' w'
 |[],_,_,_,_,_,i,o,h=>by simp at h
 |x::r,k,⟨h1,h2⟩,a,b,c,0,o,h=>by
  simp only [List.getElem?_cons_zero,Option.some.injEq] at h;subst h;exact fun S L' w'=>h1 S L' w' a b c
 |x::r,k,⟨h1,h2⟩,a,b,c,i+1,o,h=>by
  have:=jc h2 a b c i o (by simpa using h)
  rwa [show k+1+i=k+(i+1) by omega] at this
theorem jU {id:Nat} (T:PT) (Mu:List Nat) (Mem:(Nat→Bool)→World→Prop) (hm:P.follows .mixedOrders=true) (hwf:jR l=true) (hlt:(T.all fun p=>Nat.blt p.1 l.length)=true) (hU:mr (T.map fun p=>(p.1,p.2.1))=true) (hmo:gT Mu T) (hme:∀ S i w1 w2,Mu.elem i=false→af w1 w2→Mem S w1→Mem (bu S i) w2) (h0:Mem (fun _=>false) { w with drawn:=w.drawn+1 })
 (hstep:lq P n L T Mu Mem l 0 l) (hend:∀ w',Mem (fun i=>decide (i<l.length)) w'→n_ (fun i=>decide (i<l.length)) w' T fun M=>Q .normal (mkA n (M++L)) w'):Cd P (.region id l.toArray true) Q n L w:=
 nj (fun S L' w'=>eR L T S L' w'∧Mem S w'∧dK l S) hm hwf ⟨⟨fun _ _=>rfl,fun _ _ h=>(by cases h),fun _ _ _=>rfl⟩,h0,fun _ _ _ h=>by cases h⟩ (fun i o S L' w' ho ⟨hI,hM,hC⟩ hS hE=>by
  have:=jc hstep (g8 hU) hmo hme i o ho S L' w' hI hM hC (by rw [Nat.zero_add];exact hS) (iF fun e he=>hE e (by simpa using he));rw [Nat.zero_add] at this;exact fj.mono (fun L2 w2 h=>⟨h.1,h.2,gR hC ho hE⟩) this) fun L' w' ⟨hI,hM,_⟩=>by
  have hlt':∀ p∈T,p.1<l.length:=fun p hp=>by
   have:=List.all_eq_true.1 hlt p hp;exact Nat.le_of_ble_eq_true this
  have h:=lN (aL L') T (fun p hp=>hI.2.1 p hp (decide_eq_true (hlt' p hp))) (hend w' hM)
  have e:mkA n L'=mkA n (T.map (fun p=>(p.2.1,aL L' p.2.1))++L):=by
   unfold mkA;rw [gp fun t _=>?_];rcases l7 (aL L') T L t with ⟨_,h2⟩ | ⟨h1,h2⟩
   ·exact h2.symm
   ·rw [h2];exact hI.1 t h1
  rw [e];exact h
end
end Go.Proofs.YtmaaljhcojcjhaaDoor
namespace Go.Proofs.YtmaaljhcojcjhaaDoor
open Go.Proofs.Tryd (prog)
open Go.RowKit
open Go.ChangeShapes Go.WideShapes Go.ChangeAt
theorem c8:aJ prog 8=true:=by kernel_rfl
theorem iL:aJ prog 12=true:=by kernel_rfl
theorem iM:aJ prog 11=true:=by kernel_rfl
theorem fF:gY prog 28=some true:=by kernel_rfl
theorem eM:cV prog 28=some 3:=by kernel_rfl
theorem lu:hX prog 28=some (.agg #[.int .i64 0,.int .i64 0,.string ⟨#[]⟩]):=by kernel_rfl
theorem jZ:cw prog 28 2=some 2:=by kernel_rfl
theorem lv:aJ prog 13=true:=by kernel_rfl
theorem iK:aJ prog 14=true:=by kernel_rfl
theorem lY {w:World} {base e s g n c:Nat} {xs:List Value} (h:w.ownsRow base e s (.slice (some ⟨g,0,none⟩) n c) n xs):w.rangeAt g 0 xs:=fun i u hu=>by
 have:=h.cells (g:=g) rfl i u hu;rw [Addr.add_lit] at this;exact this
theorem nK {w:World} {base e s n c:Nat} {A:Option Addr} {xs:List Value} (h:w.ownsRow base e s (.slice A n c) n xs) (hn:0<n):∃ b o,A=some ⟨b,o,none⟩∧w.rangeAt b o xs:=by
 obtain ⟨g,rfl⟩:=iw h hn;exact ⟨g,0,rfl,lY h⟩
theorem j9:∀ {es:List Ent} {p q:Int},cq es p q=true→∀ e∈es,(0≤e.i∧e.i≤1099511627776)∧(0≤e.t∧e.t≤1099511627775)∧e.d.size≤4096
 |x::r,p,q,h,e,he=>by
  simp only [cq,gO,Bool.and_eq_true,decide_eq_true_eq] at h;rcases List.mem_cons.1 he with rfl | he
  ·have h1:=cF h.1.1.1.2;have h2:=cF h.1.1.2;have h3:=h.1.2;exact ⟨by omega,by omega,h3⟩
  ·exact j9 h.2 e he
theorem iA {k f t tm ix lt cm rd:Int} {ok:Bool} {es:List Ent} {a:Int} {d:ByteArray} {dn:Bool} (h:OkR k f t tm ix lt cm rd ok es a d dn):es.length≤16∧(∀ e∈es,(0≤e.i∧e.i≤1099511627776)∧(0≤e.t∧e.t≤1099511627775)∧e.d.size≤4096)∧d.size≤1024:=by
 obtain ⟨h1,h2,h3,h4⟩:=h;unfold ga at h1;by_cases hk:k=3
 ·obtain ⟨h5,h6⟩:=h3 hk;refine ⟨h5,j9 h6,?_⟩;unfold ExR at h2;rw [if_neg (by omega),if_neg (by omega),if_pos hk] at h2;omega
 ·have h0:es.length=0∧d.size≤1024:=by
   unfold ExR at h2;by_cases k1:k=1
   ·rw [if_pos k1] at h2;omega
   by_cases k2:k=2
   ·rw [if_neg k1,if_pos k2] at h2;omega
   by_cases k4:k=4
   ·rw [if_neg k1,if_neg k2,if_neg hk,if_pos k4] at h2;omega
   by_cases k5:k=5
   ·rw [if_neg k1,if_neg k2,if_neg hk,if_neg k4,if_pos k5] at h2;have:=h4 k5;omega
   rw [if_neg k1,if_neg k2,if_neg hk,if_neg k4,if_neg k5,if_pos (by omega)] at h2;omega
  have he:es=[]:=List.eq_nil_of_length_eq_zero h0.1;subst he;exact ⟨by simp,fun e he=>by simp at he,h0.2⟩
def tsE (es:List Ent):List ByteArray:=es.flatMap fun e=>[br (aZ e.i.toNat),br (aZ e.t.toNat),e.d]
theorem jG (es:List Ent):(tsE es).length=3*es.length:=by
 induction es with
 |nil=>rfl
 |cons e r ih=>
  show ([_,_,_]++tsE r).length=_;rw [List.length_append,ih];simp only [List.length_cons,List.length_nil];omega
theorem mv {es:List Ent} {j:Nat} (h:j<es.length):tsE (es.take (j+1))=tsE (es.take j)++[br (aZ es[j].i.toNat),br (aZ es[j].t.toNat),es[j].d]:=by
 unfold tsE;rw [List.take_succ_eq_append_getElem h,List.flatMap_append];simp
theorem mw {X:List ByteArray} {es:List Ent} {j:Nat} (h:j<es.length):(X++tsE (es.take (j+1))).map Value.string=(X++tsE (es.take j)).map Value.string++[Value.string (br (aZ es[j].i.toNat)),Value.string (br (aZ es[j].t.toNat))]++[Value.string es[j].d]:=by
 rw [mv h];simp
def hdR (k f t tm ix lt cm rd:Int) (ok:Bool) (a:Int) (dn:Bool):List Int:=[k,f,t,tm,ix,lt,cm,rd,a,(ok.toNat:Nat),(dn.toNat:Nat)]
def tsR (k f t tm ix lt cm rd:Int) (ok:Bool) (es:List Ent) (a:Int) (d:ByteArray) (dn:Bool):List ByteArray:=dg (hdR k f t tm ix lt cm rd ok a dn)++[d]++tsE es
def dG (ts:List ByteArray):List Nat:=cx ts++ck (cx ts)
theorem o5 (A:Option Addr) (c n N:Nat) (ts:List ByteArray) (w:World) (hn:n=ts.length) (hN:(cx ts).length=N) (hr:bI w (.slice A n c) (ts.map .string)) (hs:∀ s∈ts,s.size≤140737488351232) (hfit:N≤1048576):Rt prog 13 [.slice A n c] w fun v w'=>∃ A c,v=.tuple #[.slice A N c,.int .i64 0]∧w'.ownsRow w.heap.size 5 1 (.slice A N c) N (aH (cx ts))∧af w w':=by
 subst hN;exact o4 A c n ts w hn hr hs hfit
theorem kz:∀ {ts:List ByteArray} {s:ByteArray},s∈ts→s.size≤(cy ts).length
 |x::r,s,h=>by
  rw [cy,List.length_append,dC];rcases List.mem_cons.1 h with rfl | h
  ·omega
  ·have:=kz h;omega
theorem kf {ts:List ByteArray} {s:ByteArray} (h:s∈ts):s.size≤(cx ts).length:=by
 rw [cx,List.length_append];have:=kz h;omega
theorem ju:∀ {ts:List ByteArray},(∀ s∈ts,s.size≤9223372036854775807)→∀ b∈cy ts,b<256
 |[],_,b,h=>by simp [cy] at h
 |x::r,hs,b,h=>by
  rw [cy,jQ] at h;rcases List.mem_append.1 h with h | h
  ·rcases List.mem_append.1 h with h | h
   ·exact eE (hs x (.head _)) b h
   ·exact lA x b h
  ·exact ju (fun s h=>hs s (.tail _ h)) b h
theorem lW {ts:List ByteArray} (hl:ts.length≤9223372036854775807) (hs:∀ s∈ts,s.size≤9223372036854775807):∀ b∈cx ts,b<256:=by
 intro b hb;rw [cx] at hb;rcases List.mem_append.1 hb with h | h
 ·exact eE hl b h
 ·exact ju hs b h
theorem lF {ts:List ByteArray} {N:Nat} (hN:(cx ts).length=N) (hfit:N≤1048576):(∀ s∈ts,s.size≤140737488351232)∧∀ b∈cx ts,b<256:=by
 have h1:∀ s∈ts,s.size≤1048576:=fun s hs=>by have:=kf hs;omega
 have h2:ts.length≤1048576:=by
  have:=eJ ts;rw [cx,List.length_append] at hN;omega
 exact ⟨fun s hs=>by have:=h1 s hs;omega,lW (by omega) fun s hs=>by have:=h1 s hs;omega⟩
theorem iG (k f t tm ix lt cm rd:Int) (ok:Bool) (E:Option Addr) (n c:Nat) (a:Int) (d:ByteArray) (dn:Bool) (w:World) (es:List Ent) (hn:n=es.length) (he:aV w (.slice E n c) es) (hl:es.length≤400000000000) (ho:OkR k f t tm ix lt cm rd ok es a d dn) :
 Rt prog 8 [.agg #[.int .i64 k,.int .i64 f,.int .i64 t,.int .i64 tm,.int .i64 ix,.int .i64 lt,.int .i64 cm,.int .i64 rd,.bool ok,.slice E n c,.int .i64 a,.string d,.bool dn]] w fun v w'=>v=.int .i64 0∧af w w':=
 (jT k f t tm ix lt cm rd ok E n c a d dn w es hn he hl).mono fun v w' h=>⟨by rw [h.1,if_pos ho],h.2⟩
theorem oJ {w:World} {A:Option Addr} {n c:Nat} {es:List Ent} (h:aV w (.slice A n c) es) (hn:0<es.length):∃ b o,A=some ⟨b,o,none⟩∧∀ i (hi:i<es.length),w.rangeAt b (o+i*3) [.int .i64 es[i].i,.int .i64 es[i].t,.string es[i].d]:=by
 obtain ⟨A',c',hv,_,_,_,hp⟩:=h;simp only [Value.slice.injEq] at hv;obtain ⟨rfl,_,_⟩:=hv;obtain ⟨b,o,hA,_,hc⟩:=hp hn;exact ⟨b,o,hA,fun i hi=>kY (hc i hi).1 (hc i hi).2.1 (hc i hi).2.2⟩
theorem fN {P:Program} {ρ:Operand→Value} {w:World} {t:TypeId} {e by_ m:Nat} {z:Value} (xs:List Operand) (vs:List Value) (hq:ff P t=some (e,1,by_,z)) (hm:xs.length=m) (hsmall:Nat.ble m 16777216=true) (hpos:Nat.beq m 0=false) (hx:xs.map ρ=vs) (hv:∀ v∈vs,v.cells=#[v]) :
 RO P ρ (.buildSlice t m (dA 0 xs).toArray) w (.slice (some ⟨w.heap.size,0,none⟩) m m) (w.alloc (.cells vs.toArray e)):=by
 have hlen:vs.length=m:=by rw [←hx,List.length_map,hm]
 obtain ⟨R,hR,hs,hc⟩:=fA vs 0 ((Array.range (m*1)).map (z.cells[·%z.cells.size]!)) hv (by simp;omega)
 have hRe:R=vs.toArray:=by
  apply Array.ext_getElem?;intro j;rw [hc];by_cases hj:j<m
  ·rw [if_pos ⟨by omega,by omega⟩,Nat.sub_zero,List.getElem?_toArray]
  ·rw [if_neg (by omega),Array.getElem?_eq_none (by rw [Array.size_map,Array.size_range];omega),Array.getElem?_eq_none (by rw [List.size_toArray];omega)]
 subst hRe;refine iq hq (by rw [Nat.mul_one];exact hsmall) (by rw [Nat.mul_one];exact hpos) ?_;rw [eG,hx];exact hR
theorem mh (k f t tm ix lt cm rd:Int) (ok:Bool) (E:Option Addr) (n c:Nat) (a:Int) (d:ByteArray) (dn:Bool) (w:World) (es:List Ent) (hn:n=es.length) (he:aV w (.slice E n c) es) (ho:OkR k f t tm ix lt cm rd ok es a d dn) (N:Nat) (hN:(cx (tsR k f t tm ix lt cm rd ok es a d dn)).length=N) (hfit:N≤1048576) (hT:dE w) :
 Rt prog 4 [.agg #[.int .i64 k,.int .i64 f,.int .i64 t,.int .i64 tm,.int .i64 ix,.int .i64 lt,.int .i64 cm,.int .i64 rd,.bool ok,.slice E n c,.int .i64 a,.string d,.bool dn]] w (fun v w'=>(∃ A' c',v=.tuple #[.slice A' (N+4) c',.int .i64 0]∧w'.ownsRow w.heap.size 5 1 (.slice A' (N+4) c') (N+4) (aH (dG (tsR k f t tm ix lt cm rd ok es a d dn))))∧af w w'):=by
 obtain ⟨hes16,hesb,hd9⟩:=iA ho;obtain ⟨hs9,hb9⟩:=lF hN hfit;have hnum:=ho.1;unfold ga at hnum
 have hx0:∀ x∈hdR k f t tm ix lt cm rd ok a dn,0≤x∧x≤9223372036854775807:=by
  intro x hx;unfold hdR at hx;simp only [List.mem_cons,List.not_mem_nil,or_false] at hx;have h1:ok.toNat≤1:=by cases ok <;> decide
  have h2:dn.toNat≤1:=by cases dn <;> decide
  omega
 refine enter (n:=74) Tryd.func4 rfl rfl rfl (an (ah (ee (v:=.agg _) rfl ?_)));intro b1 w1 E1 hb1 hk1;refine ass rfl (asi rfl (ak (ag (an (an (ah (aa (aD (cs:=[_,_,_,_,_,_,_,_,_,_,_,_,_]) ax aq rfl (by exact (hk1.from_ af.rfl_).whole)) ?_)))))));refine aC c8 (iG k f t tm ix lt cm rd ok E n c a d dn _ es hn (he.from_ (af.rfl_.next E1)) (by omega) ho) ?_;rintro v10 w2 ⟨rfl,E10⟩;have hg1:w.heap.size≤b1:=by rw [hb1];exact Nat.le_refl _
 replace hk1:=hk1.from_ E10;refine aa (cj rfl rfl) (ak (ag (aK rfl (fun Q3=>?_) (fun Q3=>?_))))
 ·replace Q3:=cz Q3;replace Q3:=bU Q3;exfalso;omega
 replace Q3:=cB Q3;replace Q3:=bT Q3;refine aY (ag (an ?_));apply jU [(0,12,fun _ v _=>v=_),(1,13,fun _ v _=>v=_),(2,14,fun _ v _=>v=_),(3,15,fun _ v _=>v=_),(4,16,fun _ v _=>v=_),(5,17,fun _ v _=>v=_),(6,18,fun _ v _=>v=_),(7,19,fun _ v _=>v=_),(8,20,fun _ v _=>v=_),(9,21,fun _ v _=>v=_),(10,22,fun _ v _=>v=_),(11,23,fun _ v _=>v=_),(12,24,fun _ v _=>v=_),(13,25,fun _ v _=>v=_),(14,26,fun _ v _=>v=_),(15,27,fun _ v _=>v=_),(16,28,fun _ v _=>v=_),(17,29,fun _ v _=>v=_),(18,30,fun _ v _=>v=_),(19,31,fun _ v _=>v=_),(20,32,fun _ v _=>v=_),(21,33,fun _ v _=>v=_),(22,34,fun _ v _=>v=_),(23,35,fun _ v _=>v=_),(24,36,fun S v w'=>∃ g,v=.slice (some ⟨g,0,none⟩) 11 11∧Blk w' g 3 ((hdR k f t tm ix lt cm rd ok a dn).map iV).toArray),(25,37,fun S v w'=>∃ A' c',v=.slice A' 11 c'∧w'.ownsRow w.heap.size 9 1 (.slice A' 11 c') 11 ((dg (hdR k f t tm ix lt cm rd ok a dn)).map .string)),(26,4,fun S v w'=>∃ A' c',v=.slice A' 11 c'∧w'.ownsRow w.heap.size 9 1 (.slice A' 11 c') 11 ((dg (hdR k f t tm ix lt cm rd ok a dn)).map .string))] [] (fun S w'=>af w w'∧Blk w' b1 25 #[.int .i64 k,.int .i64 f,.int .i64 t,.int .i64 tm,.int .i64 ix,.int .i64 lt,.int .i64 cm,.int .i64 rd,.bool ok,.slice E n c,.int .i64 a,.string d,.bool dn]) (by kernel_rfl) (by kernel_rfl) rfl rfl ⟨fun _ _ _ _ _ _ _ h=>h,fun _ _ _ _ _ _ _ h=>h,fun _ _ _ _ _ _ _ h=>h,fun _ _ _ _ _ _ _ h=>h,fun _ _ _ _ _ _ _ h=>h,fun _ _ _ _ _ _ _ h=>h,fun _ _ _ _ _ _ _ h=>h,fun _ _ _ _ _ _ _ h=>h,fun _ _ _ _ _ _ _ h=>h,fun _ _ _ _ _ _ _ h=>h,fun _ _ _ _ _ _ _ h=>h,fun _ _ _ _ _ _ _ h=>h,fun _ _ _ _ _ _ _ h=>h,fun _ _ _ _ _ _ _ h=>h,fun _ _ _ _ _ _ _ h=>h,fun _ _ _ _ _ _ _ h=>h,fun _ _ _ _ _ _ _ h=>h,fun _ _ _ _ _ _ _ h=>h,fun _ _ _ _ _ _ _ h=>h,fun _ _ _ _ _ _ _ h=>h,fun _ _ _ _ _ _ _ h=>h,fun _ _ _ _ _ _ _ h=>h,fun _ _ _ _ _ _ _ h=>h,fun _ _ _ _ _ _ _ h=>h,fun S i v w1 w2 hq hF ⟨g,h1,h2⟩=>⟨g,h1,h2.from_ hF⟩,fun S i v w1 w2 hq hF ⟨A',c',h1,h2⟩=>⟨A',c',h1,h2.kept_from hF⟩,fun S i v w1 w2 hq hF ⟨A',c',h1,h2⟩=>⟨A',c',h1,h2.kept_from hF⟩,trivial⟩ (fun S i w1 w2 hq hF h=>⟨h.1.next hF,h.2.from_ hF⟩) (⟨(((af.rfl_.next E1).next E10)).d1,hk1.from_ af.rfl_.d1⟩)
 case hstep=>
  constructor
  ·rintro S L' w4 hU hmo hme hI hM hC hS ⟨-⟩;have hM':=hM;obtain ⟨hB4,hk1⟩:=hM';have e1:=hI.1 1 (eD rfl);exact aF [(1,_)] hU hmo hme hI hM (.head _) rfl rfl (by kernel_rfl) ⟨e1,trivial⟩ (aj cC rfl) af.rfl_ rfl
  constructor
  ·rintro S L' w5 hU hmo hme hI hM hC hS ⟨d0,-⟩;have hM':=hM;obtain ⟨hB5,hk1⟩:=hM';obtain ⟨v5_12,e12,h12⟩:=hI.get (i:=0) (.head _) d0;obtain rfl:=h12;exact aF [(12,_)] hU hmo hme hI hM (.tail _ (.head _)) rfl rfl (by kernel_rfl) ⟨e12,trivial⟩ (av ar rfl (by exact hk1.rd 0 rfl)) af.rfl_ rfl
  constructor
  ·rintro S L' w6 hU hmo hme hI hM hC hS ⟨-⟩;have hM':=hM;obtain ⟨hB6,hk1⟩:=hM';have e1:=hI.1 1 (eD rfl);exact aF [(1,_)] hU hmo hme hI hM (.tail _ (.tail _ (.head _))) rfl rfl (by kernel_rfl) ⟨e1,trivial⟩ (aj dy rfl) af.rfl_ rfl
  constructor
  ·rintro S L' w7 hU hmo hme hI hM hC hS ⟨d2,-⟩;have hM':=hM;obtain ⟨hB7,hk1⟩:=hM';obtain ⟨v7_14,e14,h14⟩:=hI.get (i:=2) (.tail _ (.tail _ (.head _))) d2;obtain rfl:=h14;exact aF [(14,_)] hU hmo hme hI hM (.tail _ (.tail _ (.tail _ (.head _)))) rfl rfl (by kernel_rfl) ⟨e14,trivial⟩ (av ar rfl (by exact hk1.rd 1 rfl)) af.rfl_ rfl
  constructor
  ·rintro S L' w8 hU hmo hme hI hM hC hS ⟨-⟩;have hM':=hM;obtain ⟨hB8,hk1⟩:=hM';have e1:=hI.1 1 (eD rfl);exact aF [(1,_)] hU hmo hme hI hM (.tail _ (.tail _ (.tail _ (.tail _ (.head _))))) rfl rfl (by kernel_rfl) ⟨e1,trivial⟩ (aj dx rfl) af.rfl_ rfl
  constructor
  ·rintro S L' w9 hU hmo hme hI hM hC hS ⟨d4,-⟩;have hM':=hM;obtain ⟨hB9,hk1⟩:=hM';obtain ⟨v9_16,e16,h16⟩:=hI.get (i:=4) (.tail _ (.tail _ (.tail _ (.tail _ (.head _))))) d4;obtain rfl:=h16;exact aF [(16,_)] hU hmo hme hI hM (.tail _ (.tail _ (.tail _ (.tail _ (.tail _ (.head _)))))) rfl rfl (by kernel_rfl) ⟨e16,trivial⟩ (av ar rfl (by exact hk1.rd 2 rfl)) af.rfl_ rfl
  constructor
  ·rintro S L' w10 hU hmo hme hI hM hC hS ⟨-⟩;have hM':=hM;obtain ⟨hB10,hk1⟩:=hM';have e1:=hI.1 1 (eD rfl);exact aF [(1,_)] hU hmo hme hI hM (.tail _ (.tail _ (.tail _ (.tail _ (.tail _ (.tail _ (.head _))))))) rfl rfl (by kernel_rfl) ⟨e1,trivial⟩ (aj dw rfl) af.rfl_ rfl
  constructor
  ·rintro S L' w11 hU hmo hme hI hM hC hS ⟨d6,-⟩;have hM':=hM;obtain ⟨hB11,hk1⟩:=hM';obtain ⟨v11_18,e18,h18⟩:=hI.get (i:=6) (.tail _ (.tail _ (.tail _ (.tail _ (.tail _ (.tail _ (.head _))))))) d6;obtain rfl:=h18;exact aF [(18,_)] hU hmo hme hI hM (.tail _ (.tail _ (.tail _ (.tail _ (.tail _ (.tail _ (.tail _ (.head _)))))))) rfl rfl (by kernel_rfl) ⟨e18,trivial⟩ (av ar rfl (by exact hk1.rd 3 rfl)) af.rfl_ rfl
  constructor
  ·rintro S L' w12 hU hmo hme hI hM hC hS ⟨-⟩;have hM':=hM;obtain ⟨hB12,hk1⟩:=hM';have e1:=hI.1 1 (eD rfl);exact aF [(1,_)] hU hmo hme hI hM (.tail _ (.tail _ (.tail _ (.tail _ (.tail _ (.tail _ (.tail _ (.tail _ (.head _))))))))) rfl rfl (by kernel_rfl) ⟨e1,trivial⟩ (aj bg rfl) af.rfl_ rfl
  constructor
  ·rintro S L' w13 hU hmo hme hI hM hC hS ⟨d8,-⟩;have hM':=hM;obtain ⟨hB13,hk1⟩:=hM';obtain ⟨v13_20,e20,h20⟩:=hI.get (i:=8) (.tail _ (.tail _ (.tail _ (.tail _ (.tail _ (.tail _ (.tail _ (.tail _ (.head _))))))))) d8;obtain rfl:=h20;exact aF [(20,_)] hU hmo hme hI hM (.tail _ (.tail _ (.tail _ (.tail _ (.tail _ (.tail _ (.tail _ (.tail _ (.tail _ (.head _)))))))))) rfl rfl (by kernel_rfl) ⟨e20,trivial⟩ (av ar rfl (by exact hk1.rd 4 rfl)) af.rfl_ rfl
  constructor
  ·rintro S L' w14 hU hmo hme hI hM hC hS ⟨-⟩;have hM':=hM;obtain ⟨hB14,hk1⟩:=hM';have e1:=hI.1 1 (eD rfl);exact aF [(1,_)] hU hmo hme hI hM (.tail _ (.tail _ (.tail _ (.tail _ (.tail _ (.tail _ (.tail _ (.tail _ (.tail _ (.tail _ (.head _))))))))))) rfl rfl (by kernel_rfl) ⟨e1,trivial⟩ (aj bO rfl) af.rfl_ rfl
  constructor
  ·rintro S L' w15 hU hmo hme hI hM hC hS ⟨d10,-⟩;have hM':=hM;obtain ⟨hB15,hk1⟩:=hM';obtain ⟨v15_22,e22,h22⟩:=hI.get (i:=10) (.tail _ (.tail _ (.tail _ (.tail _ (.tail _ (.tail _ (.tail _ (.tail _ (.tail _ (.tail _ (.head _))))))))))) d10;obtain rfl:=h22;exact aF [(22,_)] hU hmo hme hI hM (.tail _ (.tail _ (.tail _ (.tail _ (.tail _ (.tail _ (.tail _ (.tail _ (.tail _ (.tail _ (.tail _ (.head _)))))))))))) rfl rfl (by kernel_rfl) ⟨e22,trivial⟩ (av ar rfl (by exact hk1.rd 5 rfl)) af.rfl_ rfl
  constructor
  ·rintro S L' w16 hU hmo hme hI hM hC hS ⟨-⟩;have hM':=hM;obtain ⟨hB16,hk1⟩:=hM';have e1:=hI.1 1 (eD rfl);exact aF [(1,_)] hU hmo hme hI hM (.tail _ (.tail _ (.tail _ (.tail _ (.tail _ (.tail _ (.tail _ (.tail _ (.tail _ (.tail _ (.tail _ (.tail _ (.head _))))))))))))) rfl rfl (by kernel_rfl) ⟨e1,trivial⟩ (aj cR rfl) af.rfl_ rfl
  constructor
  ·rintro S L' w17 hU hmo hme hI hM hC hS ⟨d12,-⟩;have hM':=hM;obtain ⟨hB17,hk1⟩:=hM';obtain ⟨v17_24,e24,h24⟩:=hI.get (i:=12) (.tail _ (.tail _ (.tail _ (.tail _ (.tail _ (.tail _ (.tail _ (.tail _ (.tail _ (.tail _ (.tail _ (.tail _ (.head _))))))))))))) d12;obtain rfl:=h24;exact aF [(24,_)] hU hmo hme hI hM (.tail _ (.tail _ (.tail _ (.tail _ (.tail _ (.tail _ (.tail _ (.tail _ (.tail _ (.tail _ (.tail _ (.tail _ (.tail _ (.head _)))))))))))))) rfl rfl (by kernel_rfl) ⟨e24,trivial⟩ (av ar rfl (by exact hk1.rd 6 rfl)) af.rfl_ rfl
  constructor
  ·rintro S L' w18 hU hmo hme hI hM hC hS ⟨-⟩;have hM':=hM;obtain ⟨hB18,hk1⟩:=hM';have e1:=hI.1 1 (eD rfl);exact aF [(1,_)] hU hmo hme hI hM (.tail _ (.tail _ (.tail _ (.tail _ (.tail _ (.tail _ (.tail _ (.tail _ (.tail _ (.tail _ (.tail _ (.tail _ (.tail _ (.tail _ (.head _))))))))))))))) rfl rfl (by kernel_rfl) ⟨e1,trivial⟩ (aj bN rfl) af.rfl_ rfl
  constructor
  ·rintro S L' w19 hU hmo hme hI hM hC hS ⟨d14,-⟩;have hM':=hM;obtain ⟨hB19,hk1⟩:=hM';obtain ⟨v19_26,e26,h26⟩:=hI.get (i:=14) (.tail _ (.tail _ (.tail _ (.tail _ (.tail _ (.tail _ (.tail _ (.tail _ (.tail _ (.tail _ (.tail _ (.tail _ (.tail _ (.tail _ (.head _))))))))))))))) d14;obtain rfl:=h26;exact aF [(26,_)] hU hmo hme hI hM (.tail _ (.tail _ (.tail _ (.tail _ (.tail _ (.tail _ (.tail _ (.tail _ (.tail _ (.tail _ (.tail _ (.tail _ (.tail _ (.tail _ (.tail _ (.head _)))))))))))))))) rfl rfl (by kernel_rfl) ⟨e26,trivial⟩ (av ar rfl (by exact hk1.rd 7 rfl)) af.rfl_ rfl
  constructor
  ·rintro S L' w20 hU hmo hme hI hM hC hS ⟨-⟩;have hM':=hM;obtain ⟨hB20,hk1⟩:=hM';have e1:=hI.1 1 (eD rfl);exact aF [(1,_)] hU hmo hme hI hM (.tail _ (.tail _ (.tail _ (.tail _ (.tail _ (.tail _ (.tail _ (.tail _ (.tail _ (.tail _ (.tail _ (.tail _ (.tail _ (.tail _ (.tail _ (.tail _ (.head _))))))))))))))))) rfl rfl (by kernel_rfl) ⟨e1,trivial⟩ (aj bq rfl) af.rfl_ rfl
  constructor
  ·rintro S L' w21 hU hmo hme hI hM hC hS ⟨d16,-⟩;have hM':=hM;obtain ⟨hB21,hk1⟩:=hM';obtain ⟨v21_28,e28,h28⟩:=hI.get (i:=16) (.tail _ (.tail _ (.tail _ (.tail _ (.tail _ (.tail _ (.tail _ (.tail _ (.tail _ (.tail _ (.tail _ (.tail _ (.tail _ (.tail _ (.tail _ (.tail _ (.head _))))))))))))))))) d16;obtain rfl:=h28;exact aF [(28,_)] hU hmo hme hI hM (.tail _ (.tail _ (.tail _ (.tail _ (.tail _ (.tail _ (.tail _ (.tail _ (.tail _ (.tail _ (.tail _ (.tail _ (.tail _ (.tail _ (.tail _ (.tail _ (.tail _ (.head _)))))))))))))))))) rfl rfl (by kernel_rfl) ⟨e28,trivial⟩ (av ar rfl (by exact hk1.rd 10 rfl)) af.rfl_ rfl
  constructor
  ·rintro S L' w22 hU hmo hme hI hM hC hS ⟨-⟩;have hM':=hM;obtain ⟨hB22,hk1⟩:=hM';have e1:=hI.1 1 (eD rfl);exact aF [(1,_)] hU hmo hme hI hM (.tail _ (.tail _ (.tail _ (.tail _ (.tail _ (.tail _ (.tail _ (.tail _ (.tail _ (.tail _ (.tail _ (.tail _ (.tail _ (.tail _ (.tail _ (.tail _ (.tail _ (.tail _ (.head _))))))))))))))))))) rfl rfl (by kernel_rfl) ⟨e1,trivial⟩ (aj cQ rfl) af.rfl_ rfl
  constructor
  ·rintro S L' w23 hU hmo hme hI hM hC hS ⟨d18,-⟩;have hM':=hM;obtain ⟨hB23,hk1⟩:=hM';obtain ⟨v23_30,e30,h30⟩:=hI.get (i:=18) (.tail _ (.tail _ (.tail _ (.tail _ (.tail _ (.tail _ (.tail _ (.tail _ (.tail _ (.tail _ (.tail _ (.tail _ (.tail _ (.tail _ (.tail _ (.tail _ (.tail _ (.tail _ (.head _))))))))))))))))))) d18;obtain rfl:=h30;exact aF [(30,_)] hU hmo hme hI hM (.tail _ (.tail _ (.tail _ (.tail _ (.tail _ (.tail _ (.tail _ (.tail _ (.tail _ (.tail _ (.tail _ (.tail _ (.tail _ (.tail _ (.tail _ (.tail _ (.tail _ (.tail _ (.tail _ (.head _)))))))))))))))))))) rfl rfl (by kernel_rfl) ⟨e30,trivial⟩ (av c_ rfl (by exact hk1.rd 8 rfl)) af.rfl_ rfl
  constructor
  ·rintro S L' w24 hU hmo hme hI hM hC hS ⟨d19,-⟩;have hM':=hM;obtain ⟨hB24,hk1⟩:=hM';obtain ⟨v24_31,e31,h31⟩:=hI.get (i:=19) (.tail _ (.tail _ (.tail _ (.tail _ (.tail _ (.tail _ (.tail _ (.tail _ (.tail _ (.tail _ (.tail _ (.tail _ (.tail _ (.tail _ (.tail _ (.tail _ (.tail _ (.tail _ (.tail _ (.head _)))))))))))))))))))) d19;obtain rfl:=h31;refine ey (al:=[.tmp 31]) [(31,_)] hU hmo hme hI hM (.tail _ (.tail _ (.tail _ (.tail _ (.tail _ (.tail _ (.tail _ (.tail _ (.tail _ (.tail _ (.tail _ (.tail _ (.tail _ (.tail _ (.tail _ (.tail _ (.tail _ (.tail _ (.tail _ (.tail _ (.head _))))))))))))))))))))) rfl (by kernel_rfl) ⟨e31,trivial⟩ iL ((cG ok _).mono ?_);rintro v w2 ⟨rfl,rfl⟩;exact ⟨af.rfl_,rfl⟩
  constructor
  ·rintro S L' w25 hU hmo hme hI hM hC hS ⟨-⟩;have hM':=hM;obtain ⟨hB25,hk1⟩:=hM';have e1:=hI.1 1 (eD rfl);exact aF [(1,_)] hU hmo hme hI hM (.tail _ (.tail _ (.tail _ (.tail _ (.tail _ (.tail _ (.tail _ (.tail _ (.tail _ (.tail _ (.tail _ (.tail _ (.tail _ (.tail _ (.tail _ (.tail _ (.tail _ (.tail _ (.tail _ (.tail _ (.tail _ (.head _)))))))))))))))))))))) rfl rfl (by kernel_rfl) ⟨e1,trivial⟩ (aj cW rfl) af.rfl_ rfl
  constructor
  ·rintro S L' w26 hU hmo hme hI hM hC hS ⟨d21,-⟩;have hM':=hM;obtain ⟨hB26,hk1⟩:=hM';obtain ⟨v26_33,e33,h33⟩:=hI.get (i:=21) (.tail _ (.tail _ (.tail _ (.tail _ (.tail _ (.tail _ (.tail _ (.tail _ (.tail _ (.tail _ (.tail _ (.tail _ (.tail _ (.tail _ (.tail _ (.tail _ (.tail _ (.tail _ (.tail _ (.tail _ (.tail _ (.head _)))))))))))))))))))))) d21;obtain rfl:=h33;exact aF [(33,_)] hU hmo hme hI hM (.tail _ (.tail _ (.tail _ (.tail _ (.tail _ (.tail _ (.tail _ (.tail _ (.tail _ (.tail _ (.tail _ (.tail _ (.tail _ (.tail _ (.tail _ (.tail _ (.tail _ (.tail _ (.tail _ (.tail _ (.tail _ (.tail _ (.head _))))))))))))))))))))))) rfl rfl (by kernel_rfl) ⟨e33,trivial⟩ (av c_ rfl (by exact hk1.rd 12 rfl)) af.rfl_ rfl
  constructor
  ·rintro S L' w27 hU hmo hme hI hM hC hS ⟨d22,d20,-⟩;have hM':=hM;obtain ⟨hB27,hk1⟩:=hM';obtain ⟨v27_34,e34,h34⟩:=hI.get (i:=22) (.tail _ (.tail _ (.tail _ (.tail _ (.tail _ (.tail _ (.tail _ (.tail _ (.tail _ (.tail _ (.tail _ (.tail _ (.tail _ (.tail _ (.tail _ (.tail _ (.tail _ (.tail _ (.tail _ (.tail _ (.tail _ (.tail _ (.head _))))))))))))))))))))))) d22;obtain rfl:=h34;refine ey (al:=[.tmp 34]) [(34,_)] hU hmo hme hI hM (.tail _ (.tail _ (.tail _ (.tail _ (.tail _ (.tail _ (.tail _ (.tail _ (.tail _ (.tail _ (.tail _ (.tail _ (.tail _ (.tail _ (.tail _ (.tail _ (.tail _ (.tail _ (.tail _ (.tail _ (.tail _ (.tail _ (.tail _ (.head _)))))))))))))))))))))))) rfl (by kernel_rfl) ⟨e34,trivial⟩ iL ((cG dn _).mono ?_);rintro v w2 ⟨rfl,rfl⟩;exact ⟨af.rfl_,rfl⟩
  constructor
  ·rintro S L' w28 hU hmo hme hI hM hC hS ⟨d1,d3,d5,d7,d9,d11,d13,d15,d17,d20,d23,-⟩;have hM':=hM;obtain ⟨hB28,hk1⟩:=hM';obtain ⟨v28_13,e13,h13⟩:=hI.get (i:=1) (.tail _ (.head _)) d1;obtain rfl:=h13;obtain ⟨v28_15,e15,h15⟩:=hI.get (i:=3) (.tail _ (.tail _ (.tail _ (.head _)))) d3;obtain rfl:=h15;obtain ⟨v28_17,e17,h17⟩:=hI.get (i:=5) (.tail _ (.tail _ (.tail _ (.tail _ (.tail _ (.head _)))))) d5;obtain rfl:=h17;obtain ⟨v28_19,e19,h19⟩:=hI.get (i:=7) (.tail _ (.tail _ (.tail _ (.tail _ (.tail _ (.tail _ (.tail _ (.head _)))))))) d7;obtain rfl:=h19;obtain ⟨v28_21,e21,h21⟩:=hI.get (i:=9) (.tail _ (.tail _ (.tail _ (.tail _ (.tail _ (.tail _ (.tail _ (.tail _ (.tail _ (.head _)))))))))) d9;obtain rfl:=h21;obtain ⟨v28_23,e23,h23⟩:=hI.get (i:=11) (.tail _ (.tail _ (.tail _ (.tail _ (.tail _ (.tail _ (.tail _ (.tail _ (.tail _ (.tail _ (.tail _ (.head _)))))))))))) d11;obtain rfl:=h23;obtain ⟨v28_25,e25,h25⟩:=hI.get (i:=13) (.tail _ (.tail _ (.tail _ (.tail _ (.tail _ (.tail _ (.tail _ (.tail _ (.tail _ (.tail _ (.tail _ (.tail _ (.tail _ (.head _)))))))))))))) d13;obtain rfl:=h25;obtain ⟨v28_27,e27,h27⟩:=hI.get (i:=15) (.tail _ (.tail _ (.tail _ (.tail _ (.tail _ (.tail _ (.tail _ (.tail _ (.tail _ (.tail _ (.tail _ (.tail _ (.tail _ (.tail _ (.tail _ (.head _)))))))))))))))) d15;obtain rfl:=h27;obtain ⟨v28_29,e29,h29⟩:=hI.get (i:=17) (.tail _ (.tail _ (.tail _ (.tail _ (.tail _ (.tail _ (.tail _ (.tail _ (.tail _ (.tail _ (.tail _ (.tail _ (.tail _ (.tail _ (.tail _ (.tail _ (.tail _ (.head _)))))))))))))))))) d17;obtain rfl:=h29;obtain ⟨v28_32,e32,h32⟩:=hI.get (i:=20) (.tail _ (.tail _ (.tail _ (.tail _ (.tail _ (.tail _ (.tail _ (.tail _ (.tail _ (.tail _ (.tail _ (.tail _ (.tail _ (.tail _ (.tail _ (.tail _ (.tail _ (.tail _ (.tail _ (.tail _ (.head _))))))))))))))))))))) d20;obtain rfl:=h32;obtain ⟨v28_35,e35,h35⟩:=hI.get (i:=23) (.tail _ (.tail _ (.tail _ (.tail _ (.tail _ (.tail _ (.tail _ (.tail _ (.tail _ (.tail _ (.tail _ (.tail _ (.tail _ (.tail _ (.tail _ (.tail _ (.tail _ (.tail _ (.tail _ (.tail _ (.tail _ (.tail _ (.tail _ (.head _)))))))))))))))))))))))) d23;obtain rfl:=h35;exact aF [(13,_),(15,_),(17,_),(19,_),(21,_),(23,_),(25,_),(27,_),(29,_),(32,_),(35,_)] hU hmo hme hI hM (.tail _ (.tail _ (.tail _ (.tail _ (.tail _ (.tail _ (.tail _ (.tail _ (.tail _ (.tail _ (.tail _ (.tail _ (.tail _ (.tail _ (.tail _ (.tail _ (.tail _ (.tail _ (.tail _ (.tail _ (.tail _ (.tail _ (.tail _ (.tail _ (.head _))))))))))))))))))))))))) rfl rfl (by kernel_rfl) ⟨e13,e15,e17,e19,e21,e23,e25,e27,e29,e32,e35,trivial⟩ (fN [.tmp 13,.tmp 15,.tmp 17,.tmp 19,.tmp 21,.tmp 23,.tmp 25,.tmp 27,.tmp 29,.tmp 32,.tmp 35] ((hdR k f t tm ix lt cm rd ok a dn).map iV) bk rfl rfl rfl rfl (by intro v hv;simp only [List.mem_map] at hv;obtain ⟨x,_,rfl⟩:=hv;rfl)) (af.rfl_.new _) (⟨_,rfl,Blk.new _ _ _⟩)
  constructor
  ·rintro S L' w29 hU hmo hme hI hM hC hS ⟨d24,d23,-⟩;have hM':=hM;obtain ⟨hB29,hk1⟩:=hM';obtain ⟨v29_36,e36,h36⟩:=hI.get (i:=24) (.tail _ (.tail _ (.tail _ (.tail _ (.tail _ (.tail _ (.tail _ (.tail _ (.tail _ (.tail _ (.tail _ (.tail _ (.tail _ (.tail _ (.tail _ (.tail _ (.tail _ (.tail _ (.tail _ (.tail _ (.tail _ (.tail _ (.tail _ (.tail _ (.head _))))))))))))))))))))))))) d24;obtain ⟨g36,rfl,hk36⟩:=h36;refine ey (al:=[.tmp 36]) [(36,_)] hU hmo hme hI hM (.tail _ (.tail _ (.tail _ (.tail _ (.tail _ (.tail _ (.tail _ (.tail _ (.tail _ (.tail _ (.tail _ (.tail _ (.tail _ (.tail _ (.tail _ (.tail _ (.tail _ (.tail _ (.tail _ (.tail _ (.tail _ (.tail _ (.tail _ (.tail _ (.tail _ (.head _)))))))))))))))))))))))))) rfl (by kernel_rfl) ⟨e36,trivial⟩ iM ((mQ g36 11 11 (hdR k f t tm ix lt cm rd ok a dn) _ rfl hk36 hx0 (by show 11≤1000;omega)).mono ?_);rintro v w2 ⟨⟨A',c',rfl,ho'⟩,E37⟩;exact ⟨E37,A',c',rfl,e5 ho' hB29.size⟩
  constructor
  ·rintro S L' w30 hU hmo hme hI hM hC hS ⟨d25,d25,d0,d1,d2,d3,d4,d5,d6,d7,d8,d9,d10,d11,d12,d13,d14,d15,d16,d17,d18,d19,d20,d21,d22,d23,d24,d25,-⟩;have hM':=hM;obtain ⟨hB30,hk1⟩:=hM';obtain ⟨v30_37,e37,h37⟩:=hI.get (i:=25) (.tail _ (.tail _ (.tail _ (.tail _ (.tail _ (.tail _ (.tail _ (.tail _ (.tail _ (.tail _ (.tail _ (.tail _ (.tail _ (.tail _ (.tail _ (.tail _ (.tail _ (.tail _ (.tail _ (.tail _ (.tail _ (.tail _ (.tail _ (.tail _ (.tail _ (.head _)))))))))))))))))))))))))) d25;obtain ⟨A37,c37,rfl,ho37⟩:=h37;exact aF [(37,_)] hU hmo hme hI hM (.tail _ (.tail _ (.tail _ (.tail _ (.tail _ (.tail _ (.tail _ (.tail _ (.tail _ (.tail _ (.tail _ (.tail _ (.tail _ (.tail _ (.tail _ (.tail _ (.tail _ (.tail _ (.tail _ (.tail _ (.tail _ (.tail _ (.tail _ (.tail _ (.tail _ (.tail _ (.head _))))))))))))))))))))))))))) rfl rfl (by kernel_rfl) ⟨e37,trivial⟩ (b_ rfl) (af.rfl_) (⟨A37,c37,rfl,ho37⟩)
  exact trivial
 case hend=>
  intro w31 hM;obtain ⟨hB31,hk1⟩:=hM;rintro v31_12 rfl v31_13 rfl v31_14 rfl v31_15 rfl v31_16 rfl v31_17 rfl v31_18 rfl v31_19 rfl v31_20 rfl v31_21 rfl v31_22 rfl v31_23 rfl v31_24 rfl v31_25 rfl v31_26 rfl v31_27 rfl v31_28 rfl v31_29 rfl v31_30 rfl v31_31 rfl v31_32 rfl v31_33 rfl v31_34 rfl v31_35 rfl v31_36 ⟨g36,rfl,hk36⟩ v31_37 ⟨A37,c37,rfl,ho37⟩ v31_4 ⟨A4,c4,rfl,ho4⟩;refine iH (ag (an (ah (mvs rfl (aa (aj bS rfl) (aa (av bJ rfl (by exact (hk1.from_ af.rfl_).rd 11 rfl)) ?_))))));refine ez (v:=.string _) cg rfl rfl rfl ?_;intro b41 w32 E41 hb41 hk41;refine ij (a0:=w) cg rfl rfl (ho4.kept_from E41) (hB31.next E41) rfl hk41 rfl (by omega) (by omega) ?_;intro A42 c42 w33 ho42 B42 hg42;replace hk1:=(hk1.from_ E41).grown hg42 (aP (ho4.kept_from E41) (hk1.from_ E41) (by decide));refine ass rfl (ak (ag (an (an (ah (aa (aj bc rfl) (aa (av cn rfl (by exact (hk1.from_ af.rfl_).rd 9 rfl)) ?_)))))));refine aa (cu bl rfl) (mvi rfl (ak (ag (bt (dJ (G:=Nat×Option Addr×Nat) [6,47,48,49,50,51,52,53,54,55,56,57,58,59,60,61,62] (fun (j,A4,c4)=>[(4,.slice A4 (12+3*j) c4),(46,.int .i64 (j:Nat))]) (fun (j,A4,c4) w'=>j≤es.length∧w'.ownsRow w.heap.size 9 1 (.slice A4 (12+3*j) c4) (12+3*j) ((dg (hdR k f t tm ix lt cm rd ok a dn)++[d]++tsE (es.take j)).map Value.string)∧Blk w' b1 25 #[.int .i64 k,.int .i64 f,.int .i64 t,.int .i64 tm,.int .i64 ix,.int .i64 lt,.int .i64 cm,.int .i64 rd,.bool ok,.slice E n c,.int .i64 a,.string d,.bool dn]∧af w w') (fun (j,_,_)=>es.length-j) ((0,A42,c42)) ⟨rfl,rfl,trivial⟩ ?_ ?_)))))
  ·exact ⟨Nat.zero_le _,by rw [List.take_zero,show tsE []=[] from rfl,List.append_nil,List.map_append];exact ho42,hk1.from_ af.rfl_,B42⟩
  rintro ⟨j,A4,c4⟩ ρ34 w34 ⟨hj,ho4,hk1,hB⟩;refine an (ah (aa (dL rfl rfl) (ak (ag (an (ps rfl (fun Q35=>?_) (fun Q35=>?_)))))))
  ·have hjx:j<es.length:=by omega
   obtain ⟨bE,oE,rfl,hcs⟩:=oJ he (by omega);have hej:=hesb _ (List.getElem_mem hjx);refine aY (ag (an (bt (an (ah (aa (du bC rfl rfl (by omega)) (aa (aD (cs:=[_,_,_]) fF eM rfl (by exact eX hB (hcs j hjx))) ?_)))))));refine bF lu ?_;intro b6 w36 E6 hb6 hk6;have hg6:w.heap.size≤b6:=by rw [hb6];exact (hB).size
   refine aM (vs:=[_,_,_]) eM rfl rfl (by simp [Value.oneCell']) (hk6) rfl ?_;intro w37 O7 P7;replace hk1:=(hk1.from_ E6).only O7 (by have:=hk1.lt;omega);replace ho4:=aW (ho4.kept_from E6) O7 (aP (ho4.kept_from E6) hk6 (by decide));have hlt4:∀ q,A4.map (·.block)=some q→q<w37.heap.size:=fun q hq=>(e_ ho4 q hq).2
   refine ak (ag ?_);apply jU [(0,50,fun _ v _=>v=_),(1,51,fun _ v _=>v=_),(2,52,fun _ v _=>v=_),(3,53,fun _ v _=>v=_),(4,54,fun _ v _=>v=_),(5,55,fun S v w'=>∃ g,v=.slice (some ⟨g,0,none⟩) 2 2∧(S 7=false→Blk w' g 3 #[.int .i64 es[j].i,.int .i64 es[j].t])),(6,56,fun S v w'=>∃ A' c',v=.slice A' 2 c'∧(S 7=false→w'.ownsRow w.heap.size 9 1 (.slice A' 2 c') 2 ([Value.string (br (aZ es[j].i.toNat)),Value.string (br (aZ es[j].t.toNat))]))),(7,57,fun S v w'=>∃ A' c',v=.slice A' (12+3*j+2) c'∧(S 11=false→w'.ownsRow w.heap.size 9 1 (.slice A' (12+3*j+2) c') (12+3*j+2) ((dg (hdR k f t tm ix lt cm rd ok a dn)++[d]++tsE (es.take j)).map Value.string++[Value.string (br (aZ es[j].i.toNat)),Value.string (br (aZ es[j].t.toNat))]))),(8,58,fun _ v _=>v=_),(9,59,fun _ v _=>v=_),(10,60,fun S v w'=>∃ g,v=.slice (some ⟨g,0,none⟩) 1 1∧(∀ q,A4.map (·.block)=some q→q≠g)∧(S 11=false→Blk w' g 9 #[.string es[j].d])),(11,61,fun S v w'=>∃ A' c',v=.slice A' (12+3*j+2+1) c'∧w'.ownsRow w.heap.size 9 1 (.slice A' (12+3*j+2+1) c') (12+3*j+2+1) ((dg (hdR k f t tm ix lt cm rd ok a dn)++[d]++tsE (es.take j)).map Value.string++[Value.string (br (aZ es[j].i.toNat)),Value.string (br (aZ es[j].t.toNat))]++[Value.string es[j].d])),(12,4,fun S v w'=>∃ A' c',v=.slice A' (12+3*j+2+1) c'∧w'.ownsRow w.heap.size 9 1 (.slice A' (12+3*j+2+1) c') (12+3*j+2+1) ((dg (hdR k f t tm ix lt cm rd ok a dn)++[d]++tsE (es.take j)).map Value.string++[Value.string (br (aZ es[j].i.toNat)),Value.string (br (aZ es[j].t.toNat))]++[Value.string es[j].d]))] [7,11] (fun S w'=>w37.heap.size≤w'.heap.size∧af w w'∧Blk w' b1 25 #[.int .i64 k,.int .i64 f,.int .i64 t,.int .i64 tm,.int .i64 ix,.int .i64 lt,.int .i64 cm,.int .i64 rd,.bool ok,.slice (some ⟨bE,oE,none⟩) n c,.int .i64 a,.string d,.bool dn]∧Blk w' b6 28 #[.int .i64 es[j].i,.int .i64 es[j].t,.string es[j].d]∧(S 7=false→w'.ownsRow w.heap.size 9 1 (.slice A4 (12+3*j) c4) (12+3*j) ((dg (hdR k f t tm ix lt cm rd ok a dn)++[d]++tsE (es.take j)).map Value.string))) (by kernel_rfl) (by kernel_rfl) rfl rfl ⟨fun _ _ _ _ _ _ _ h=>h,fun _ _ _ _ _ _ _ h=>h,fun _ _ _ _ _ _ _ h=>h,fun _ _ _ _ _ _ _ h=>h,fun _ _ _ _ _ _ _ h=>h,fun S i v w1 w2 hq hF ⟨g,h1,h2⟩=>⟨g,h1,fun h0=>(h2 (gV h0)).from_ hF⟩,fun S i v w1 w2 hq hF ⟨g,c',h1,h2⟩=>⟨g,c',h1,fun h0=>(h2 (gV h0)).kept_from hF⟩,fun S i v w1 w2 hq hF ⟨g,c',h1,h2⟩=>⟨g,c',h1,fun h0=>(h2 (gV h0)).kept_from hF⟩,fun _ _ _ _ _ _ _ h=>h,fun _ _ _ _ _ _ _ h=>h,fun S i v w1 w2 hq hF ⟨g,h1,h2,h3⟩=>⟨g,h1,h2,fun h0=>(h3 (gV h0)).from_ hF⟩,fun S i v w1 w2 hq hF ⟨g,c',h1,h2⟩=>⟨g,c',h1,h2.kept_from hF⟩,fun S i v w1 w2 hq hF ⟨g,c',h1,h2⟩=>⟨g,c',h1,h2.kept_from hF⟩,trivial⟩ (fun S i w1 w2 hq hF h=>⟨Nat.le_trans h.1 hF.size,h.2.1.next hF,h.2.2.1.from_ hF,h.2.2.2.1.from_ hF,fun h0=>(h.2.2.2.2 (gV h0)).kept_from hF⟩) (⟨Nat.le_refl _,(((hB.next E6).only O7 (hg6))).d1,hk1.from_ af.rfl_.d1,P7.from_ af.rfl_.d1,fun _=>ho4.kept_from af.rfl_.d1⟩)
   case hstep=>
    constructor
    ·rintro S L' w38 hU hmo hme hI hM hC hS ⟨-⟩;have hM':=hM;obtain ⟨hz,hB38,hk1,hk6,ho4⟩:=hM';have e4:=hI.old (i:=12) (.tail _ (.tail _ (.tail _ (.tail _ (.tail _ (.tail _ (.tail _ (.tail _ (.tail _ (.tail _ (.tail _ (.tail _ (.head _))))))))))))) (bm hC (j:=12) rfl (by kernel_rfl) hS);exact aF [(4,_)] hU hmo hme hI hM (.head _) rfl rfl (by kernel_rfl) ⟨e4,trivial⟩ (az (v:=.slice _ _ _) rfl) af.rfl_ rfl
    constructor
    ·rintro S L' w39 hU hmo hme hI hM hC hS ⟨-⟩;have hM':=hM;obtain ⟨hz,hB39,hk1,hk6,ho4⟩:=hM';have e6:=hI.1 6 (eD rfl);exact aF [(6,_)] hU hmo hme hI hM (.tail _ (.head _)) rfl rfl (by kernel_rfl) ⟨e6,trivial⟩ (aj cL rfl) af.rfl_ rfl
    constructor
    ·rintro S L' w40 hU hmo hme hI hM hC hS ⟨d1,-⟩;have hM':=hM;obtain ⟨hz,hB40,hk1,hk6,ho4⟩:=hM';obtain ⟨v40_51,e51,h51⟩:=hI.get (i:=1) (.tail _ (.head _)) d1;obtain rfl:=h51;exact aF [(51,_)] hU hmo hme hI hM (.tail _ (.tail _ (.head _))) rfl rfl (by kernel_rfl) ⟨e51,trivial⟩ (av ar rfl (by exact hk6.rd 0 rfl)) af.rfl_ rfl
    constructor
    ·rintro S L' w41 hU hmo hme hI hM hC hS ⟨-⟩;have hM':=hM;obtain ⟨hz,hB41,hk1,hk6,ho4⟩:=hM';have e6:=hI.1 6 (eD rfl);exact aF [(6,_)] hU hmo hme hI hM (.tail _ (.tail _ (.tail _ (.head _)))) rfl rfl (by kernel_rfl) ⟨e6,trivial⟩ (aj fm rfl) af.rfl_ rfl
    constructor
    ·rintro S L' w42 hU hmo hme hI hM hC hS ⟨d3,-⟩;have hM':=hM;obtain ⟨hz,hB42,hk1,hk6,ho4⟩:=hM';obtain ⟨v42_53,e53,h53⟩:=hI.get (i:=3) (.tail _ (.tail _ (.tail _ (.head _)))) d3;obtain rfl:=h53;exact aF [(53,_)] hU hmo hme hI hM (.tail _ (.tail _ (.tail _ (.tail _ (.head _))))) rfl rfl (by kernel_rfl) ⟨e53,trivial⟩ (av ar rfl (by exact hk6.rd 1 rfl)) af.rfl_ rfl
    constructor
    ·rintro S L' w43 hU hmo hme hI hM hC hS ⟨d2,d4,-⟩;have hM':=hM;obtain ⟨hz,hB43,hk1,hk6,ho4⟩:=hM';obtain ⟨v43_52,e52,h52⟩:=hI.get (i:=2) (.tail _ (.tail _ (.head _))) d2;obtain rfl:=h52;obtain ⟨v43_54,e54,h54⟩:=hI.get (i:=4) (.tail _ (.tail _ (.tail _ (.tail _ (.head _))))) d4;obtain rfl:=h54;exact aF [(52,_),(54,_)] hU hmo hme hI hM (.tail _ (.tail _ (.tail _ (.tail _ (.tail _ (.head _)))))) rfl rfl (by kernel_rfl) ⟨e52,e54,trivial⟩ (fN [.tmp 52,.tmp 54] [.int .i64 es[j].i,.int .i64 es[j].t] bk rfl rfl rfl rfl (by simp [Value.cells])) (af.rfl_.new _) (⟨_,rfl,fun _=>Blk.new _ _ _⟩)
    constructor
    ·rintro S L' w44 hU hmo hme hI hM hC hS ⟨d5,-⟩;have hM':=hM;obtain ⟨hz,hB44,hk1,hk6,ho4⟩:=hM';obtain ⟨v44_55,e55,h55⟩:=hI.get (i:=5) (.tail _ (.tail _ (.tail _ (.tail _ (.tail _ (.head _)))))) d5;obtain ⟨g55,rfl,hk55⟩:=h55;refine ey (al:=[.tmp 55]) [(55,_)] hU hmo hme hI hM (.tail _ (.tail _ (.tail _ (.tail _ (.tail _ (.tail _ (.head _))))))) rfl (by kernel_rfl) ⟨e55,trivial⟩ iM ((mQ g55 2 2 [es[j].i,es[j].t] _ rfl (hk55 (bm hC (j:=7) rfl (by kernel_rfl) hS)) (by intro x hx;simp only [List.mem_cons,List.not_mem_nil,or_false] at hx;omega) (by simp)).mono ?_);rintro v w2 ⟨⟨A',c',rfl,ho'⟩,E56⟩;exact ⟨E56,A',c',rfl,fun _=>e5 ho' hB44.size⟩
    constructor
    ·rintro S L' w45 hU hmo hme hI hM hC hS ⟨d0,d6,d6,-⟩;have hM':=hM;obtain ⟨hz,hB45,hk1,hk6,ho4⟩:=hM';obtain ⟨v45_50,e50,h50⟩:=hI.get (i:=0) (.head _) d0;obtain rfl:=h50;obtain ⟨v45_56,e56,h56⟩:=hI.get (i:=6) (.tail _ (.tail _ (.tail _ (.tail _ (.tail _ (.tail _ (.head _))))))) d6;obtain ⟨A56,c56,rfl,ho56⟩:=h56;have h7:=ho4 hS;obtain ⟨A',c',w2,hR,ho,hg⟩:=eC (P:=prog) (ρ:=ev 74 [(50,_),(56,_)]) (s:=.tmp 50) (x:=.tmp 56) (j:=2) cg rfl (by decide) rfl h7 hB45.size rfl rfl (nK (ho56 hS) (by omega)) (by simp [Value.oneCell']) (by omega) (by omega);exact ig [(50,_),(56,_)] hU hI (.tail _ (.tail _ (.tail _ (.tail _ (.tail _ (.tail _ (.tail _ (.head _)))))))) rfl (by kernel_rfl) ⟨e50,e56,trivial⟩ hR ⟨Nat.le_trans hz hg.size,hB45.grew hg (fun q hq=>(e_ h7 q hq).1),hk1.grown hg (aP h7 hk1 (by decide)),hk6.grown hg (aP h7 hk6 (by decide)),fun h0=>(by rw [il] at h0;cases h0)⟩ ⟨A',c',rfl,fun _=>ho⟩ ⟨fun _ _ _ h=>h,fun _ _ _ h=>h,fun _ _ _ h=>h,fun _ _ _ h=>h,fun _ _ _ h=>h,fun _ _ _ ⟨g,h1,h2⟩=>⟨g,h1,fun h0=>(by rw [il] at h0;cases h0)⟩,fun _ _ _ ⟨g,c2,h1,h2⟩=>⟨g,c2,h1,fun h0=>(by rw [il] at h0;cases h0)⟩,(fun h=>by cases h),fun _ _ _ h=>h,fun _ _ _ h=>h,fun _ _ _ ⟨g,h1,h2,h3⟩=>⟨g,h1,h2,fun h0=>(h3 (gV h0)).grown hg h2⟩,(fun _ h0=>by rw [bm hC (j:=11) rfl (by kernel_rfl) hS] at h0;cases h0),(fun _ h0=>by rw [bm hC (j:=12) rfl (by kernel_rfl) hS] at h0;cases h0),trivial⟩
    constructor
    ·rintro S L' w46 hU hmo hme hI hM hC hS ⟨-⟩;have hM':=hM;obtain ⟨hz,hB46,hk1,hk6,ho4⟩:=hM';have e6:=hI.1 6 (eD rfl);exact aF [(6,_)] hU hmo hme hI hM (.tail _ (.tail _ (.tail _ (.tail _ (.tail _ (.tail _ (.tail _ (.tail _ (.head _))))))))) rfl rfl (by kernel_rfl) ⟨e6,trivial⟩ (aj jZ rfl) af.rfl_ rfl
    constructor
    ·rintro S L' w47 hU hmo hme hI hM hC hS ⟨d8,-⟩;have hM':=hM;obtain ⟨hz,hB47,hk1,hk6,ho4⟩:=hM';obtain ⟨v47_58,e58,h58⟩:=hI.get (i:=8) (.tail _ (.tail _ (.tail _ (.tail _ (.tail _ (.tail _ (.tail _ (.tail _ (.head _))))))))) d8;obtain rfl:=h58;exact aF [(58,_)] hU hmo hme hI hM (.tail _ (.tail _ (.tail _ (.tail _ (.tail _ (.tail _ (.tail _ (.tail _ (.tail _ (.head _)))))))))) rfl rfl (by kernel_rfl) ⟨e58,trivial⟩ (av bJ rfl (by exact hk6.rd 2 rfl)) af.rfl_ rfl
    constructor
    ·rintro S L' w48 hU hmo hme hI hM hC hS ⟨d9,-⟩;have hM':=hM;obtain ⟨hz,hB48,hk1,hk6,ho4⟩:=hM';obtain ⟨v48_59,e59,h59⟩:=hI.get (i:=9) (.tail _ (.tail _ (.tail _ (.tail _ (.tail _ (.tail _ (.tail _ (.tail _ (.tail _ (.head _)))))))))) d9;obtain rfl:=h59;exact aF [(59,_)] hU hmo hme hI hM (.tail _ (.tail _ (.tail _ (.tail _ (.tail _ (.tail _ (.tail _ (.tail _ (.tail _ (.tail _ (.head _))))))))))) rfl rfl (by kernel_rfl) ⟨e59,trivial⟩ (nE (v:=.string es[j].d) cg rfl rfl rfl) (af.rfl_.new _) (⟨_,rfl,fun q hq=>by have:=hlt4 q hq;omega,fun _=>Blk.new _ _ _⟩)
    constructor
    ·rintro S L' w49 hU hmo hme hI hM hC hS ⟨d7,d10,d7,-⟩;have hM':=hM;obtain ⟨hz,hB49,hk1,hk6,ho4⟩:=hM';obtain ⟨v49_57,e57,h57⟩:=hI.get (i:=7) (.tail _ (.tail _ (.tail _ (.tail _ (.tail _ (.tail _ (.tail _ (.head _)))))))) d7;obtain ⟨A57,c57,rfl,ho57⟩:=h57;obtain ⟨v49_60,e60,h60⟩:=hI.get (i:=10) (.tail _ (.tail _ (.tail _ (.tail _ (.tail _ (.tail _ (.tail _ (.tail _ (.tail _ (.tail _ (.head _))))))))))) d10;obtain ⟨g60,rfl,hx60,hk60⟩:=h60;have h11:=ho57 hS;obtain ⟨A',c',w2,hR,ho,hg⟩:=eC (P:=prog) (ρ:=ev 74 [(57,_),(60,_)]) (s:=.tmp 57) (x:=.tmp 60) (j:=1) (news:=[.string es[j].d]) cg rfl (by decide) rfl h11 hB49.size rfl rfl ⟨g60,0,rfl,(hk60 hS).whole⟩ (by simp [Value.oneCell']) (by omega) (by omega);have s7:S 7=true:=d7;exact ig [(57,_),(60,_)] hU hI (.tail _ (.tail _ (.tail _ (.tail _ (.tail _ (.tail _ (.tail _ (.tail _ (.tail _ (.tail _ (.tail _ (.head _)))))))))))) rfl (by kernel_rfl) ⟨e57,e60,trivial⟩ hR ⟨Nat.le_trans hz hg.size,hB49.grew hg (fun q hq=>(e_ h11 q hq).1),hk1.grown hg (aP h11 hk1 (by decide)),hk6.grown hg (aP h11 hk6 (by decide)),fun h0=>(by rw [dH (by decide),s7] at h0;cases h0)⟩ ⟨A',c',rfl,ho⟩ ⟨fun _ _ _ h=>h,fun _ _ _ h=>h,fun _ _ _ h=>h,fun _ _ _ h=>h,fun _ _ _ h=>h,fun _ _ _ ⟨g,h1,h2⟩=>⟨g,h1,fun h0=>(by rw [dH (by decide),s7] at h0;cases h0)⟩,fun _ _ _ ⟨g,c2,h1,h2⟩=>⟨g,c2,h1,fun h0=>(by rw [dH (by decide),s7] at h0;cases h0)⟩,fun _ _ _ ⟨g,c2,h1,h2⟩=>⟨g,c2,h1,fun h0=>(by rw [il] at h0;cases h0)⟩,fun _ _ _ h=>h,fun _ _ _ h=>h,fun _ _ _ ⟨g,h1,h2,h3⟩=>⟨g,h1,h2,fun h0=>(by rw [il] at h0;cases h0)⟩,(fun h=>by cases h),(fun _ h0=>by rw [bm hC (j:=12) rfl (by kernel_rfl) hS] at h0;cases h0),trivial⟩
    constructor
    ·rintro S L' w50 hU hmo hme hI hM hC hS ⟨d11,d11,d0,d1,d2,d3,d4,d5,d6,d7,d8,d9,d10,d11,-⟩;have hM':=hM;obtain ⟨hz,hB50,hk1,hk6,ho4⟩:=hM';obtain ⟨v50_61,e61,h61⟩:=hI.get (i:=11) (.tail _ (.tail _ (.tail _ (.tail _ (.tail _ (.tail _ (.tail _ (.tail _ (.tail _ (.tail _ (.tail _ (.head _)))))))))))) d11;obtain ⟨A61,c61,rfl,ho61⟩:=h61;exact aF [(61,_)] hU hmo hme hI hM (.tail _ (.tail _ (.tail _ (.tail _ (.tail _ (.tail _ (.tail _ (.tail _ (.tail _ (.tail _ (.tail _ (.tail _ (.head _))))))))))))) rfl rfl (by kernel_rfl) ⟨e61,trivial⟩ (b_ rfl) (af.rfl_) (⟨A61,c61,rfl,ho61⟩)
    exact trivial
   case hend=>
    intro w51 hM;obtain ⟨hz,hB51,hk1,hk6,ho4⟩:=hM;rintro v51_50 rfl v51_51 rfl v51_52 rfl v51_53 rfl v51_54 rfl v51_55 ⟨g55,rfl,hk55⟩ v51_56 ⟨A56,c56,rfl,ho56⟩ v51_57 ⟨A57,c57,rfl,ho57⟩ v51_58 rfl v51_59 rfl v51_60 ⟨g60,rfl,hx60,hk60⟩ v51_61 ⟨A61,c61,rfl,ho61⟩ v51_4 ⟨A40,c40,rfl,ho40⟩;refine iH (bG (ag (ah (aa (fP (b:=1) rfl rfl (by omega)) (mvi rfl (ak ?_))))));refine cI ((j+1,A40,c40)) ⟨(by first | rfl | (refine bY ?_;omega)),(by first | rfl | (refine bY ?_;omega)),trivial⟩ (by (iterate 38 refine bH rfl ?_);exact cf) ⟨?_,?_⟩
    ·exact ⟨by omega,by rw [show 12+3*(j+1)=12+3*j+2+1 by omega,mw hjx];exact ho40,hk1,hB51⟩
    ·show es.length-(j+1)<es.length-j;omega
  obtain rfl:j=es.length:=by omega
  rw [List.take_length] at ho4;have hl4:12+3*es.length=(tsR k f t tm ix lt cm rd ok es a d dn).length:=by unfold tsR;rw [List.length_append,List.length_append,jG,el];rfl
  refine dd (bA (bA (cJ (ag (an (ah (mvs rfl ?_)))))));have hB64:=(hB).size;refine aC lv (o5 A4 c4 _ N (tsR k f t tm ix lt cm rd ok es a d dn) _ hl4 hN (bI.of_own ho4) hs9 hfit) ?_;rintro v65 w52 ⟨A65,c65,rfl,ho65,E65⟩;refine mvt rfl (aa (ay rfl rfl) (aa (ay rfl rfl) (ass rfl (asi rfl (ak (ag (an (an (ah (mvi rfl (aa (cj rfl rfl) (ak (ag ?_)))))))))))));refine aK rfl (fun Q53=>?_) (fun Q53=>?_)
  ·replace Q53:=cz Q53;replace Q53:=bU Q53;exfalso;omega
  replace Q53:=cB Q53;replace Q53:=bT Q53;refine aY (ag (an (ah (mvs rfl (mvs rfl (aC iK (pj A65 c65 N (cx (tsR k f t tm ix lt cm rd ok es a d dn)) _ (bI.of_own ho65) hb9 (by omega) (hT.from_ (hB.next E65))) ?_))))));rintro v72 w54 ⟨⟨g72,rfl,hg72,hk72⟩,E72⟩;refine jd (a0:=w) gS rfl (by decide) rfl ((e5 ho65 hB64).kept_from E72) ((hB.next E65).next E72) rfl (by rfl) (fun _=>⟨g72,0,rfl,hk72.whole⟩) (fun h=>by cases h) (by intro u hu;simp only [List.mem_map] at hu;obtain ⟨x,_,rfl⟩:=hu;rfl) (by omega) (by omega) ?_;intro A73 c73 w55 ho73 B73 hg73;refine ass rfl (asi rfl (ak (ag (aA (nH (v:=.slice _ _ _) (v':=.int _ _) rfl rfl rfl ?_)))));exact ⟨⟨A73,c73,rfl,by unfold dG aH;rw [List.map_append];exact ho73⟩,B73⟩
theorem dq:ff prog 23=some (28,3,32,(.agg #[.int .i64 0,.int .i64 0,.string ⟨#[]⟩])):=by kernel_rfl
theorem fG:aJ prog 30=true:=by kernel_rfl
theorem bR:prog.built 25 []=some #[.int .i64 0,.int .i64 0,.int .i64 0,.int .i64 0,.int .i64 0,.int .i64 0,.int .i64 0,.int .i64 0,.bool false,.slice none 0 0,.int .i64 0,.string ⟨#[]⟩,.bool false]:=by kernel_rfl
theorem cP:∀ (a0:Int) (a1:Int) (a2:Int) (a3:Int) (a4:Int) (a5:Int) (a6:Int) (a7:Int) (a8:Bool) (a9:Int) (a10:ByteArray) (a11:Bool),prog.built 25 [(0,.int .i64 a0),(1,.int .i64 a1),(2,.int .i64 a2),(3,.int .i64 a3),(4,.int .i64 a4),(5,.int .i64 a5),(6,.int .i64 a6),(7,.int .i64 a7),(10,.int .i64 a9),(8,.bool a8),(12,.bool a11),(11,.string a10)]=some #[.int .i64 a0,.int .i64 a1,.int .i64 a2,.int .i64 a3,.int .i64 a4,.int .i64 a5,.int .i64 a6,.int .i64 a7,.bool a8,.slice none 0 0,.int .i64 a9,.string a10,.bool a11]:=by intros;kernel_rfl
theorem gB:∀ (a0:Int) (a1:Int) (a2:ByteArray),prog.built 28 [(0,.int .i64 a0),(1,.int .i64 a1),(2,.string a2)]=some #[.int .i64 a0,.int .i64 a1,.string a2]:=by intros;kernel_rfl
theorem nN {P:Program} {ops:Array Oper} {n:Fr} {L:List (Nat×Value)} {w w':World} {op:Op} {ty:TypeId} {pos:String} {after:Array Edge} {d:Option Nat} {R:Value→World→Prop} {v:Value} {j:Nat} {b:Bool} (hg:eU ops n L j=.bool b) (hr:RO P (ev n L) op w v w') (hF:af w w') (hR:R v w'):aw P ops n L ⟨d,op,ty,pos,after,some (j,b)⟩ w R:=
 .inl ⟨by show (yielded ops (mkT n.n L) j==some b)=true;rw [cZ hg];simp,.inl ⟨v,w',hr _ _ _ _ _,hF,hR⟩⟩
def sAt (ss:List ByteArray) (q:Nat):ByteArray:=ss.getD q ⟨#[]⟩
theorem jH {ss:List ByteArray} {q:Nat} (h:q<ss.length):sAt ss q=ss[q]:=by
 unfold sAt;rw [List.getD_eq_getElem?_getD,List.getElem?_eq_getElem h];rfl
theorem ot {x y:ByteArray}:eK [x,y]↔(df x).isSome=true∧(df y).isSome=true:=by simp [eK]
def eP:List ByteArray→Option (List Ent)
 |[]=>some []
 |x::y::z::r=>if (df x).isSome=true∧(df y).isSome=true then (eP r).map fun es=>⟨(nv x:Nat),(nv y:Nat),z⟩::es else none
 |_=>none
def jo (ss:List ByteArray) (es:List Ent):Prop:=12≤ss.length∧eK (ss.take 11)∧nv (sAt ss 9)≤1∧nv (sAt ss 10)≤1∧eP (ss.drop 12)=some es
theorem fq:∀ {ss:List ByteArray} {es:List Ent},eP ss=some es→ss.length=3*es.length
 |[],es,h=>by
  cases h;rfl
 |[_],_,h=>by cases h
 |[_,_],_,h=>by cases h
 |x::y::z::r,es,h=>by
  unfold eP at h;split at h
  ·cases hr:eP r with
   |none=>rw [hr] at h;cases h
   |some es2=>
    rw [hr] at h;cases h;have:=fq hr;simp only [List.length_cons];omega
  ·cases h
theorem mf {x y z:ByteArray} {r:List ByteArray} (h:¬ eK [x,y]):eP (x::y::z::r)=none:=by
 show (if (df x).isSome=true∧(df y).isSome=true then _ else _)=_;rw [if_neg (fun a=>h (ot.2 a))]
theorem lS {α:Type} {f:α→Value} {w:World} {A:Option Addr} {l:List α} {m:Nat} (h:cT f w A l):cT f w A (l.take m):=fun h0=>by
 rw [List.length_take] at h0;obtain ⟨b,o,hA,hc⟩:=h (by omega)
 exact ⟨b,o,hA,fun i hi=>by
  rw [List.length_take] at hi;rw [List.getElem_take];exact hc i (by omega)⟩
theorem jh {α:Type} {f:α→Value} {w:World} {b o c:Nat} {l:List α} {m:Nat} (h:cT f w (some ⟨b,o,none⟩) l) (hc:l.length≤c) (hm:m≤l.length):cT f w (some ⟨b,if c=m then o else o+m,none⟩) (l.drop m):=fun h0=>by
 rw [List.length_drop] at h0;obtain ⟨b',o',hA,hcs⟩:=h (by omega);simp only [Option.some.injEq,Addr.mk.injEq,and_true] at hA;obtain ⟨rfl,rfl⟩:=hA;refine ⟨b,o+m,by rw [if_neg (by omega)],fun i hi=>?_⟩;rw [List.length_drop] at hi;rw [List.getElem_drop,Nat.add_assoc];exact hcs (m+i) (by omega)
theorem gh {w:World} {b o:Nat} {ss:List ByteArray} (h:cT .string w (some ⟨b,o,none⟩) ss) (q:Nat) (hq:q<ss.length):w.cell? ⟨b,o+q,none⟩=some (.string (sAt ss q)):=by
 obtain ⟨b',o',hA,hc⟩:=h (by omega);cases hA;rw [jH hq];exact hc q hq
theorem cY {w:World} {base e g n c:Nat} {ss:List ByteArray} (h:w.ownsRow base e 1 (.slice (some ⟨g,0,none⟩) n c) n (ss.map fun s=>.int .i64 (nv s:Nat))) (q:Nat) (hq:q<ss.length):w.cell? ⟨g,q,none⟩=some (.int .i64 (nv (sAt ss q):Nat)):=by
 rw [mO h q hq,jH hq]
theorem cr {ss:List ByteArray} {q m:Nat} (h:q<m) (hm:m≤ss.length):sAt (ss.take m) q=sAt ss q:=by
 rw [jH (by rw [List.length_take];omega),jH (by omega),List.getElem_take]
theorem nJ (A:Option Addr) (c n:Nat) (ss:List ByteArray) (w:World) (hn:n=ss.length) (hr:cT .string w A ss) (hs:∀ s∈ss,s.size≤140737488351232) (hl:ss.length≤100000000) :
 Rt prog 30 [.slice A n c] w fun v w'=>(∃ A' m c' b,v=.tuple #[.slice A' m c',.bool b]∧((b=true∧eK ss∧m=n∧w'.ownsRow w.heap.size 3 1 (.slice A' m c') m (ss.map fun s=>.int .i64 (nv s:Nat)))∨(b=false∧¬ eK ss)))∧af w w':=
 (jL A c n ss w hn hr hs hl).mono fun v w' ⟨h,hF⟩=>⟨by
  rcases h with ⟨ha,A',c',rfl,ho⟩ | ⟨ha,rfl⟩
  ·exact ⟨A',n,c',true,rfl,.inl ⟨rfl,ha,rfl,ho⟩⟩
  ·exact ⟨none,0,0,false,rfl,.inr ⟨rfl,ha⟩⟩,hF⟩
theorem lX (A:Option Addr) (c n:Nat) (ss:List ByteArray) (w:World) (hn:n=ss.length) (hr:cT .string w A ss) (hs:∀ s∈ss,s.size≤140737488351232) (hl:ss.length≤100000000) (ha:eK ss) :
 Rt prog 30 [.slice A n c] w fun v w'=>(∃ A' c',v=.tuple #[.slice A' n c',.bool true]∧w'.ownsRow w.heap.size 3 1 (.slice A' n c') n (ss.map fun s=>.int .i64 (nv s:Nat)))∧af w w':=
 (jL A c n ss w hn hr hs hl).mono fun v w' ⟨h,hF⟩=>⟨by
  rcases h with ⟨_,A',c',rfl,ho⟩ | ⟨hb,rfl⟩
  ·exact ⟨A',c',rfl,ho⟩
  ·exact absurd ha hb,hF⟩
theorem mN (A:Option Addr) (c n:Nat) (ss:List ByteArray) (w:World) (hn:n=ss.length) (hr:cT .string w A ss) (hs:∀ s∈ss,s.size≤140737488351232) (hl:ss.length≤100000000) (ha:¬ eK ss) :
 Rt prog 30 [.slice A n c] w fun v w'=>v=.tuple #[.slice none 0 0,.bool false]∧af w w':=
 (jL A c n ss w hn hr hs hl).mono fun v w' ⟨h,hF⟩=>⟨by
  rcases h with ⟨hb,A',c',rfl,ho⟩ | ⟨hb,rfl⟩
  ·exact absurd hb ha
  ·rfl,hF⟩
theorem oY {w:World} {g:Nat} {t:TypeId} {x y:ByteArray} (h:Blk w g t #[.string x,.string y]):cT Value.string w (some ⟨g,0,none⟩) [x,y]:=cT.blk h fun i hi=>by
 match i,hi with
 |0,_=>rfl
 |1,_=>rfl
theorem gu (xs:List Ent) (i t:Int) (d:ByteArray):bw (xs++[⟨i,t,d⟩])=bw xs++[.int .i64 i,.int .i64 t,.string d]:=by rw [gN];rfl
theorem kZ {w w':World} {base e s n c:Nat} {A:Option Addr} {xs:List Value} {r:Option Nat} (h:w.ownsRow base e s (.slice A n c) n xs) (hg:w.grownBy w' r) (hne:∀ k,r=some k→∀ q,A.map (·.block)=some q→k≠q):w'.ownsRow base e s (.slice A n c) n xs:=by
 refine ⟨h.1,?_⟩;rcases h.2 with h0 | ⟨g,cap,cur,h1,h2,h3,h4⟩
 ·exact .inl h0
 ·refine .inr ⟨g,cap,cur,h1,h2,?_,h4⟩;simp only [Value.slice.injEq] at h1;obtain ⟨rfl,_,_⟩:=h1
  have hlt:g<w.heap.size:=by
   rcases Nat.lt_or_ge g w.heap.size with a | a
   ·exact a
   ·rw [Array.getElem?_eq_none a] at h3;cases h3
  exact (hg.block g hlt fun e=>hne g e.symm g rfl rfl).trans h3
theorem lZ {w:World} {base base2 e e2 s s2 n n2 c c2:Nat} {A A2:Option Addr} {xs ys:List Value} (h:w.ownsRow base e s (.slice A n c) n xs) (h2:w.ownsRow base2 e2 s2 (.slice A2 n2 c2) n2 ys) (hne:e≠e2):∀ k,A.map (·.block)=some k→∀ q,A2.map (·.block)=some q→k≠q:=by
 intro k hk q hq;rcases h2.2 with ⟨h0,_⟩ | ⟨g,cap,cur,h1,_,h3,_⟩
 ·simp only [Value.slice.injEq] at h0;obtain ⟨rfl,_,_⟩:=h0;cases hq
 ·simp only [Value.slice.injEq] at h1;obtain ⟨rfl,_,_⟩:=h1;cases hq;exact aP h (show Blk w g e2 cur from h3) (Ne.symm hne) k hk
theorem l6 (A:Option Addr) (c n:Nat) (ss:List ByteArray) (w:World) (hn:n=ss.length) (hnc:ss.length≤c) (hr:cT Value.string w A ss) (hs:∀ s∈ss,s.size≤140737488351232) (hl:ss.length≤100000000) :
 Rt prog 17 [.slice A n c] w (fun v w'=>((∃ es,jo ss es∧∃ A' c',v=.tuple #[.agg #[.int .i64 (nv (sAt ss 0):Nat),.int .i64 (nv (sAt ss 1):Nat),.int .i64 (nv (sAt ss 2):Nat),.int .i64 (nv (sAt ss 3):Nat),.int .i64 (nv (sAt ss 4):Nat),.int .i64 (nv (sAt ss 5):Nat),.int .i64 (nv (sAt ss 6):Nat),.int .i64 (nv (sAt ss 7):Nat),.bool (((nv (sAt ss 9):Nat):Int)==1),.slice A' es.length c',.int .i64 (nv (sAt ss 8):Nat),.string (sAt ss 11),.bool (((nv (sAt ss 10):Nat):Int)==1)],.bool true]∧w'.ownsRow w.heap.size 28 3 (.slice A' es.length c') es.length (bw es))∨((∀ es,¬ jo ss es)∧v=.tuple #[.agg #[.int .i64 0,.int .i64 0,.int .i64 0,.int .i64 0,.int .i64 0,.int .i64 0,.int .i64 0,.int .i64 0,.bool false,.slice none 0 0,.int .i64 0,.string ⟨#[]⟩,.bool false],.bool false]))∧af w w'):=by
 subst hn;refine enter (n:=117) Tryd.func17 rfl rfl rfl (an (ah (bF a_ ?_)));intro b2 w1 E2 hb2 hk2;have hg2:w.heap.size≤b2:=by rw [hb2];exact Nat.le_refl _
 refine asb rfl (ak (ag (an (an (ah (mvs rfl (aa (cu ea rfl) (aa (dL rfl rfl) (mvb rfl (oU (t:=12) rfl (fun Q2=>?_) (fun Q2=>?_)))))))))))
 ·refine ab rfl rfl (ab rfl rfl (ab rfl rfl (ab rfl rfl (ab rfl rfl (ab rfl rfl (aa (aG (v:=.bool _) rfl rfl) (ak (ag (cd rfl ?_)))))))));refine an (ah (aa (bf (l:=[]) (bR)) (aM (vs:=[_,_,_,_,_,_,_,_,_,_,_,_,_]) aq rfl rfl (by simp [Value.oneCell']) ((hk2.from_ af.rfl_)) rfl ?_)));intro w3 O2 P2;refine asb rfl (ak (ag (aA (aI (eO rfl (aX (cs:=[_,_,_,_,_,_,_,_,_,_,_,_,_]) ax aq rfl (by first | exact P2.whole | exact P5.whole | exact P12.whole | exact P14.whole)) (bp (v:=.bool _) rfl) ?_)))));exact ⟨.inr ⟨fun es hg=>(by have h1:=hg.1;have h2:=fq hg.2.2.2.2;rw [List.length_drop] at h2;omega),rfl⟩,((af.rfl_.next E2).only O2 (hg2))⟩
 have h12:12≤ss.length:=by omega
 obtain ⟨b0,o0,rfl,hcs⟩:=hr (by omega);have hrow:cT Value.string w (some ⟨b0,o0,none⟩) ss:=hr;refine ae rfl (mvs rfl (ae rfl (aa (cu ea rfl) (ae rfl (aa (lB (b:=11) rfl rfl (by omega)) (ae rfl (aa (lB (b:=1) rfl rfl (by omega)) (ae rfl ?_))))))));refine aa (nD (b:=3) rfl rfl (by decide)) (ae rfl (aa (cj rfl rfl) (aa (ao (v:=.bool _) rfl rfl) (ak (ag (aK rfl (fun Q4=>?_) (fun Q4=>?_)))))))
 ·replace Q4:=cz Q4;replace Q4:=bU Q4;refine an (ah (aa (bf (l:=[]) (bR)) (aM (vs:=[_,_,_,_,_,_,_,_,_,_,_,_,_]) aq rfl rfl (by simp [Value.oneCell']) ((hk2.from_ af.rfl_)) rfl ?_)));intro w5 O2 P2;refine asb rfl (ak (ag (aA (aI (eO rfl (aX (cs:=[_,_,_,_,_,_,_,_,_,_,_,_,_]) ax aq rfl (by first | exact P2.whole | exact P5.whole | exact P12.whole | exact P14.whole)) (bp (v:=.bool _) rfl) ?_)))));exact ⟨.inr ⟨fun es hg=>(by have h1:=hg.1;have h2:=fq hg.2.2.2.2;rw [List.length_drop] at h2;omega),rfl⟩,((af.rfl_.next E2).only O2 (hg2))⟩
 replace Q4:=cB Q4;replace Q4:=bT Q4;refine aY (ag (an (ah (mvs rfl (aa (im (m:=11) bQ rfl rfl (by omega)) (aC fG (nJ (some ⟨b0,o0,none⟩) c 11 (ss.take 11) _ (by rw [List.length_take];omega) ((lS hrow).from_ (af.rfl_.next E2)) (fun s h=>hs s (List.mem_of_mem_take h)) (by rw [List.length_take];omega)) ?_))))));rintro v24 w6 ⟨⟨A4,m4,c4,bo4,rfl,hp24⟩,E24⟩;refine mvt rfl (aa (ay rfl rfl) (aa (ay rfl rfl) (ass rfl (asb rfl (ak (ag (an (an ?_))))))));rcases hp24 with ⟨rfl,hall,rfl,ho4⟩ | ⟨rfl,hall⟩
 ·obtain ⟨g4,rfl⟩:=iw ho4 (by omega);replace ho4:=e5 ho4 E2.size;have hl11:(ss.take 11).length=11:=by rw [List.length_take];omega
  apply dD 13 [(27,eqp _),(28,eqp _),(29,eqp _),(30,eqp _),(31,eqp _),(32,eqp _),(33,eqp _),(34,eqp _),(35,eqp _),(36,fun v w'=>∃ g,v=.slice (some ⟨g,0,none⟩) 2 2∧Blk w' g 3 ([((nv (sAt ss 9):Nat):Int),((nv (sAt ss 10):Nat):Int)].map iV).toArray),(37,eqp _),(38,eqp _),(39,eqp _)] (by kernel_rfl) (by kernel_rfl) ⟨ai _,ai _,ai _,ai _,ai _,ai _,ai _,ai _,ai _,(fun _ _ _ hF ⟨g,h1,h2⟩=>⟨g,h1,h2.from_ hF⟩),ai _,ai _,ai _,trivial⟩
  case hop=>
   constructor
   ·intro w8 D8;exact au (az rfl) rfl
   constructor
   ·intro w9 D9;rintro _ rfl;exact au (ch rfl) rfl
   constructor
   ·intro w10 D10;rintro _ rfl;exact au (az rfl) rfl
   constructor
   ·intro w11 D11;rintro _ rfl;exact aN rfl (az (v:=.slice _ _ _) rfl) rfl
   constructor
   ·intro w12 D12;rintro _ rfl _ rfl;exact aN rfl (aQ (i:=9) bh rfl rfl (by omega)) rfl
   constructor
   ·intro w13 D13;rintro _ rfl _ rfl;exact aN rfl (av ar rfl ((cY (ho4.kept_from D13) 9 (by omega)).trans (by rw [cr (by omega) (by omega)]))) rfl
   constructor
   ·intro w14 D14;rintro _ rfl;exact aN rfl (az (v:=.slice _ _ _) rfl) rfl
   constructor
   ·intro w15 D15;rintro _ rfl _ rfl;exact aN rfl (aQ (i:=10) bh rfl rfl (by omega)) rfl
   constructor
   ·intro w16 D16;rintro _ rfl _ rfl;exact aN rfl (av ar rfl ((cY (ho4.kept_from D16) 10 (by omega)).trans (by rw [cr (by omega) (by omega)]))) rfl
   constructor
   ·intro w17 D17;rintro _ rfl _ rfl _ rfl;exact nN rfl (fN [.tmp 32,.tmp 35] [.int .i64 (nv (sAt ss 9):Nat),.int .i64 (nv (sAt ss 10):Nat)] bk rfl rfl rfl rfl (by simp [Value.cells])) (af.rfl_.new _) ⟨_,rfl,Blk.new _ _ _⟩
   constructor
   ·intro w18 D18;rintro _ rfl v18_36 ⟨g18,rfl,hg18⟩;refine fT rfl dr ((eh 0 1 g18 2 2 [((nv (sAt ss 9):Nat):Int),((nv (sAt ss 10):Nat):Int)] _ rfl hg18 (by simp)).mono ?_);rintro v _ ⟨rfl,rfl⟩;exact ⟨af.rfl_,rfl⟩
   constructor
   ·intro w19 D19;rintro _ rfl _ rfl;exact aN rfl (ch rfl) rfl
   constructor
   ·intro w20 D20;rintro _ rfl _ rfl;exact au (ao (v:=.bool _) rfl rfl) rfl
   exact trivial
  case hend=>
   intro w21 D21;rintro _ rfl _ rfl _ rfl _ rfl _ rfl _ rfl _ rfl _ rfl _ rfl v36 ⟨g21,rfl,hg21⟩ _ rfl _ rfl _ rfl;show St ..;replace ho4:=ho4.kept_from D21;refine ak (ag (aK rfl (fun Q22=>?_) (fun Q22=>?_)))
   ·replace Q22:=cz Q22;replace Q22:=dF_ Q22;simp only [bK,bW,and_true] at Q22;refine an (ah (aa (bf (l:=[]) (bR)) (aM (vs:=[_,_,_,_,_,_,_,_,_,_,_,_,_]) aq rfl rfl (by simp [Value.oneCell']) ((hk2.from_ ((af.rfl_.next E24).next D21))) rfl ?_)));intro w23 O5 P5;refine asb rfl (ak (ag (aA (aI (eO rfl (aX (cs:=[_,_,_,_,_,_,_,_,_,_,_,_,_]) ax aq rfl (by first | exact P2.whole | exact P5.whole | exact P12.whole | exact P14.whole)) (bp (v:=.bool _) rfl) ?_)))))
    first
     |exact ⟨.inr ⟨fun es hg=>hall hg.2.1,rfl⟩,((((af.rfl_.next E2).next E24).next D21).only O5 (hg2))⟩
     |exact ⟨.inr ⟨fun es hg=>(by have h1:=hg.2.2.1;have h2:=hg.2.2.2.1;omega),rfl⟩,((((af.rfl_.next E2).next E24).next D21).only O5 (hg2))⟩
   replace Q22:=cB Q22;replace Q22:=dT_ Q22;simp only [bK,bW,and_true] at Q22;refine aY (ag (an ?_));apply fr 40 [(41,eqp _),(42,eqp _),(43,eqp _),(44,eqp _),(45,eqp _),(46,eqp _),(47,eqp _),(48,eqp _),(49,eqp _),(50,eqp _),(51,eqp _),(52,eqp _),(53,eqp _),(54,eqp _),(55,eqp _),(56,eqp _),(57,eqp _),(58,eqp _),(59,eqp _),(60,eqp _),(61,eqp _),(62,eqp _),(63,eqp _),(64,eqp _),(65,eqp _),(66,eqp _),(67,eqp _),(68,eqp _),(69,eqp _),(70,eqp _),(71,eqp _),(72,eqp _),(73,eqp _),(74,eqp _),(75,eqp _),(76,eqp _),(77,eqp _),(78,eqp _),(79,eqp _),(6,fun v w'=>∃ b,v=.pointer (some ⟨b,0,none⟩)∧(w.heap.size≤b∧b2<b)∧Blk w' b 25 #[.int .i64 0,.int .i64 0,.int .i64 0,.int .i64 0,.int .i64 0,.int .i64 0,.int .i64 0,.int .i64 0,.bool false,.slice none 0 0,.int .i64 0,.string ⟨#[]⟩,.bool false])] (by repeat first | exact fS | refine fR ?_ | refine eY ?_) (by kernel_rfl) (by kernel_rfl) ⟨ai _,ai _,ai _,ai _,ai _,ai _,ai _,ai _,ai _,ai _,ai _,ai _,ai _,ai _,ai _,ai _,ai _,ai _,ai _,ai _,ai _,ai _,ai _,ai _,ai _,ai _,ai _,ai _,ai _,ai _,ai _,ai _,ai _,ai _,ai _,ai _,ai _,ai _,ai _,(fun _ _ _ hF ⟨b,e,h,hb⟩=>⟨b,e,h,hb.from_ hF⟩),trivial⟩
   case hop=>
    constructor
    ·rintro-w25 D25;exact au (az (v:=.slice _ _ _) rfl) rfl
    constructor
    ·rintro-w26 D26;rintro _ rfl;exact au (aQ (i:=0) bh rfl rfl (by omega)) rfl
    constructor
    ·rintro-w27 D27;rintro _ rfl;exact au (av ar rfl ((cY (ho4.kept_from D27) 0 (by omega)).trans (by rw [cr (by omega) (by omega)]))) rfl
    constructor
    ·rintro-w28 D28;exact au (az (v:=.slice _ _ _) rfl) rfl
    constructor
    ·rintro-w29 D29;rintro _ rfl;exact au (aQ (i:=1) bh rfl rfl (by omega)) rfl
    constructor
    ·rintro-w30 D30;rintro _ rfl;exact au (av ar rfl ((cY (ho4.kept_from D30) 1 (by omega)).trans (by rw [cr (by omega) (by omega)]))) rfl
    constructor
    ·rintro-w31 D31;exact au (az (v:=.slice _ _ _) rfl) rfl
    constructor
    ·rintro-w32 D32;rintro _ rfl;exact au (aQ (i:=2) bh rfl rfl (by omega)) rfl
    constructor
    ·rintro-w33 D33;rintro _ rfl;exact au (av ar rfl ((cY (ho4.kept_from D33) 2 (by omega)).trans (by rw [cr (by omega) (by omega)]))) rfl
    constructor
    ·rintro-w34 D34;exact au (az (v:=.slice _ _ _) rfl) rfl
    constructor
    ·rintro-w35 D35;rintro _ rfl;exact au (aQ (i:=3) bh rfl rfl (by omega)) rfl
    constructor
    ·rintro-w36 D36;rintro _ rfl;exact au (av ar rfl ((cY (ho4.kept_from D36) 3 (by omega)).trans (by rw [cr (by omega) (by omega)]))) rfl
    constructor
    ·rintro-w37 D37;exact au (az (v:=.slice _ _ _) rfl) rfl
    constructor
    ·rintro-w38 D38;rintro _ rfl;exact au (aQ (i:=4) bh rfl rfl (by omega)) rfl
    constructor
    ·rintro-w39 D39;rintro _ rfl;exact au (av ar rfl ((cY (ho4.kept_from D39) 4 (by omega)).trans (by rw [cr (by omega) (by omega)]))) rfl
    constructor
    ·rintro-w40 D40;exact au (az (v:=.slice _ _ _) rfl) rfl
    constructor
    ·rintro-w41 D41;rintro _ rfl;exact au (aQ (i:=5) bh rfl rfl (by omega)) rfl
    constructor
    ·rintro-w42 D42;rintro _ rfl;exact au (av ar rfl ((cY (ho4.kept_from D42) 5 (by omega)).trans (by rw [cr (by omega) (by omega)]))) rfl
    constructor
    ·rintro-w43 D43;exact au (az (v:=.slice _ _ _) rfl) rfl
    constructor
    ·rintro-w44 D44;rintro _ rfl;exact au (aQ (i:=6) bh rfl rfl (by omega)) rfl
    constructor
    ·rintro-w45 D45;rintro _ rfl;exact au (av ar rfl ((cY (ho4.kept_from D45) 6 (by omega)).trans (by rw [cr (by omega) (by omega)]))) rfl
    constructor
    ·rintro-w46 D46;exact au (az (v:=.slice _ _ _) rfl) rfl
    constructor
    ·rintro-w47 D47;rintro _ rfl;exact au (aQ (i:=7) bh rfl rfl (by omega)) rfl
    constructor
    ·rintro-w48 D48;rintro _ rfl;exact au (av ar rfl ((cY (ho4.kept_from D48) 7 (by omega)).trans (by rw [cr (by omega) (by omega)]))) rfl
    constructor
    ·rintro-w49 D49;exact au (az (v:=.slice _ _ _) rfl) rfl
    constructor
    ·rintro-w50 D50;rintro _ rfl;exact au (aQ (i:=8) bh rfl rfl (by omega)) rfl
    constructor
    ·rintro-w51 D51;rintro _ rfl;exact au (av ar rfl ((cY (ho4.kept_from D51) 8 (by omega)).trans (by rw [cr (by omega) (by omega)]))) rfl
    constructor
    ·rintro-w52 D52;exact au (az (v:=.slice _ _ _) rfl) rfl
    constructor
    ·rintro-w53 D53;rintro _ rfl;exact au (aQ (i:=9) bh rfl rfl (by omega)) rfl
    constructor
    ·rintro-w54 D54;rintro _ rfl;exact au (av ar rfl ((cY (ho4.kept_from D54) 9 (by omega)).trans (by rw [cr (by omega) (by omega)]))) rfl
    constructor
    ·rintro-w55 D55;rintro _ rfl;exact au (bB rfl rfl) rfl
    constructor
    ·rintro-w56 D56;exact au (az (v:=.slice _ _ _) rfl) rfl
    constructor
    ·rintro-w57 D57;rintro _ rfl;exact au (aQ (i:=10) bh rfl rfl (by omega)) rfl
    constructor
    ·rintro-w58 D58;rintro _ rfl;exact au (av ar rfl ((cY (ho4.kept_from D58) 10 (by omega)).trans (by rw [cr (by omega) (by omega)]))) rfl
    constructor
    ·rintro-w59 D59;rintro _ rfl;exact au (bB rfl rfl) rfl
    constructor
    ·rintro-w60 D60;exact au (az (v:=.slice _ _ _) rfl) rfl
    constructor
    ·rintro-w61 D61;rintro _ rfl;exact au (bP (i:=11) bQ rfl rfl (by omega)) rfl
    constructor
    ·rintro-w62 D62;rintro _ rfl;exact au (av bJ rfl (gh (hrow.from_ ((((((af.rfl_.next E2).next E24).next D21).next D62)).next af.rfl_)) 11 (by omega))) rfl
    constructor
    ·rintro-w63 D63;rintro _ rfl _ rfl _ rfl _ rfl _ rfl _ rfl _ rfl _ rfl _ rfl _ rfl _ rfl _ rfl;exact au (bf (l:=[(0,.tmp 43),(1,.tmp 46),(2,.tmp 49),(3,.tmp 52),(4,.tmp 55),(5,.tmp 58),(6,.tmp 61),(7,.tmp 64),(10,.tmp 67),(8,.tmp 71),(12,.tmp 75),(11,.tmp 78)]) (cP _ _ _ _ _ _ _ _ _ _ _ _)) rfl
    constructor
    ·rintro-w64 D64;exact gk (ek a_) (af.rfl_.new _) ⟨_,rfl,⟨(((((af.rfl_.next E2).next E24).next D21).next D64)).size,by have:=(hk2.from_ ((((af.rfl_.next E24).next D21).next D64))).lt;omega⟩,Blk.new _ _ _⟩
    exact trivial
   case hend=>
    intro w65 D65;rintro _ rfl _ rfl _ rfl _ rfl _ rfl _ rfl _ rfl _ rfl _ rfl _ rfl _ rfl _ rfl _ rfl _ rfl _ rfl _ rfl _ rfl _ rfl _ rfl _ rfl _ rfl _ rfl _ rfl _ rfl _ rfl _ rfl _ rfl _ rfl _ rfl _ rfl _ rfl _ rfl _ rfl _ rfl _ rfl _ rfl _ rfl _ rfl _ rfl v6 ⟨b6,rfl,hg6b,hk6⟩;show St ..;replace hk2:=hk2.from_ (((af.rfl_.next E24).next D21).next D65);obtain ⟨hg6,h26⟩:=hg6b;refine aM (vs:=[_,_,_,_,_,_,_,_,_,_,_,_,_]) aq rfl rfl (by simp [Value.oneCell']) (hk6) rfl ?_;intro w66 O6 P6;replace hk2:=hk2.only O6 (by omega);refine ak (ag (an (an (ah (mvs rfl (aa (ir (m:=12) bQ rfl rfl (by omega) hnc) (ass rfl (ak (ag (bt (dJ (G:=List ByteArray×(Nat×Nat×Nat)×List Ent×(Option Addr×Nat)) [3,7,8,82,83,84,85,86,87,88,89,90,91,92,93,94,95,96,97,98,99,100,101,102,103,104,105,106,107,108,109,110,111,112,113,114,115] (fun (zs,(b,o,c0),xs,(A9,c9))=>[(0,.slice (some ⟨b,o,none⟩) zs.length c0)]) (fun (zs,(b,o,c0),xs,(A9,c9)) w'=>cT Value.string w (some ⟨b,o,none⟩) zs∧zs.length≤c0∧zs.length%3=0∧3*xs.length+zs.length+12=ss.length∧(∀ s∈zs,s.size≤140737488351232)∧eP (ss.drop 12)=(eP zs).map (xs++·)∧w'.ownsRow w.heap.size 28 3 (.slice A9 xs.length c9) xs.length (bw xs)∧Blk w' b6 25 #[.int .i64 (nv (sAt ss 0):Nat),.int .i64 (nv (sAt ss 1):Nat),.int .i64 (nv (sAt ss 2):Nat),.int .i64 (nv (sAt ss 3):Nat),.int .i64 (nv (sAt ss 4):Nat),.int .i64 (nv (sAt ss 5):Nat),.int .i64 (nv (sAt ss 6):Nat),.int .i64 (nv (sAt ss 7):Nat),.bool (((nv (sAt ss 9):Nat):Int)==1),.slice A9 xs.length c9,.int .i64 (nv (sAt ss 8):Nat),.string (sAt ss 11),.bool (((nv (sAt ss 10):Nat):Int)==1)]∧Blk w' b2 25 #[.int .i64 0,.int .i64 0,.int .i64 0,.int .i64 0,.int .i64 0,.int .i64 0,.int .i64 0,.int .i64 0,.bool false,.slice none 0 0,.int .i64 0,.string ⟨#[]⟩,.bool false]∧af w w') (fun (zs,_,_,_)=>zs.length) ((ss.drop 12,(b0,(if c=12 then o0 else o0+12),c-12),[],(none,0))) ⟨(by rw [List.length_drop];rfl),trivial⟩ ?_ ?_)))))))))))
    ·exact ⟨jh hrow hnc (by omega),by rw [List.length_drop];omega,by rw [List.length_drop];omega,by rw [List.length_drop];simp only [List.length_nil];omega,fun s hs9=>hs s (List.mem_of_mem_drop hs9),by simp,World.ownsRow_nil _ _ _ _,P6,hk2,(((((af.rfl_.next E2).next E24).next D21).next D65).only O6 (hg6))⟩
    rintro ⟨zs,⟨b,o,c0⟩,xs,⟨A9,c9⟩⟩ ρ67 w67 ⟨hrow0,hzc,hz3,hzx,hzs,hzeq,ho9,hk6,hk2,hB⟩;refine an (an (ah (mvs rfl (aa (cu ea rfl) (aa (eW rfl rfl) (ak (ag (ps rfl (fun Q68=>?_) (fun Q68=>?_)))))))))
    ·obtain ⟨x,y,z,zs',rfl⟩:∃ x y z zs',zs=x::y::z::zs':=by
      match zs,hz3,(show 0<zs.length by omega) with
      |x::y::z::r,_,_=>exact ⟨x,y,z,r,rfl⟩
      |[_],h,_=>simp at h
      |[_,_],h,_=>simp at h
      |[],_,h=>simp at h
     refine aY (ag (an (bt (an ?_))));rcases Classical.em (eK [x,y]) with hab | hab
     ·apply fr 13 [(88,eqp _),(89,eqp _),(90,eqp _),(91,eqp _),(92,eqp _),(93,eqp _),(94,fun v w'=>∃ g,v=.slice (some ⟨g,0,none⟩) 2 2∧Blk w' g 9 #[.string x,.string y]),(95,fun v w'=>∃ A7 c7,v=.tuple #[.slice A7 2 c7,.bool true]∧w'.ownsRow w.heap.size 3 1 (.slice A7 2 c7) 2 ([x,y].map fun s=>Value.int .i64 (nv s:Nat))),(87,fun v w'=>∃ A7 c7,v=.tuple #[.slice A7 2 c7,.bool true]∧w'.ownsRow w.heap.size 3 1 (.slice A7 2 c7) 2 ([x,y].map fun s=>Value.int .i64 (nv s:Nat))),(96,fun v w'=>∃ A7 c7,v=.slice A7 2 c7∧w'.ownsRow w.heap.size 3 1 (.slice A7 2 c7) 2 ([x,y].map fun s=>Value.int .i64 (nv s:Nat))),(97,eqp _),(7,fun v w'=>∃ A7 c7,v=.slice A7 2 c7∧w'.ownsRow w.heap.size 3 1 (.slice A7 2 c7) 2 ([x,y].map fun s=>Value.int .i64 (nv s:Nat))),(8,eqp _)] (by repeat first | exact fS | refine fR ?_ | refine eY ?_) (by kernel_rfl) (by kernel_rfl) ⟨ai _,ai _,ai _,ai _,ai _,ai _,(fun _ _ _ hF ⟨g,h1,h2⟩=>⟨g,h1,h2.from_ hF⟩),(fun _ _ _ hF ⟨A7,c7,h1,h2⟩=>⟨A7,c7,h1,h2.kept_from hF⟩),(fun _ _ _ hF ⟨A7,c7,h1,h2⟩=>⟨A7,c7,h1,h2.kept_from hF⟩),(fun _ _ _ hF ⟨A7,c7,h1,h2⟩=>⟨A7,c7,h1,h2.kept_from hF⟩),ai _,(fun _ _ _ hF ⟨A7,c7,h1,h2⟩=>⟨A7,c7,h1,h2.kept_from hF⟩),ai _,trivial⟩
      case hop=>
       constructor
       ·rintro-w70 D70;exact au (az (v:=.slice _ _ _) rfl) rfl
       constructor
       ·rintro-w71 D71;rintro _ rfl;exact au (bP (i:=0) bQ rfl rfl (by omega)) rfl
       constructor
       ·rintro-w72 D72;rintro _ rfl;exact au (av bJ rfl ((gh (hrow0.from_ (((hB.next D72)).next af.rfl_)) 0 (by simp)))) rfl
       constructor
       ·rintro-w73 D73;exact au (az (v:=.slice _ _ _) rfl) rfl
       constructor
       ·rintro-w74 D74;rintro _ rfl;exact au (bP (i:=1) bQ rfl rfl (by omega)) rfl
       constructor
       ·rintro-w75 D75;rintro _ rfl;exact au (av bJ rfl ((gh (hrow0.from_ (((hB.next D75)).next af.rfl_)) 1 (by simp)))) rfl
       constructor
       ·rintro-w76 D76;rintro _ rfl _ rfl;exact gk (fN [.tmp 90,.tmp 93] [.string x,.string y] cg rfl rfl rfl rfl (by simp [Value.cells])) (af.rfl_.new _) ⟨_,rfl,Blk.new _ _ _⟩
       constructor
       ·rintro-w77 D77;rintro v77_94 ⟨g77,rfl,hg77⟩;refine lH fG ((lX _ 2 2 [x,y] _ rfl (oY hg77) (by intro s hs9;simp only [List.mem_cons,List.not_mem_nil,or_false] at hs9;rcases hs9 with rfl | rfl <;> exact hzs _ (by simp)) (by simp) hab).mono ?_);rintro v _ ⟨⟨A7,c7,rfl,ho7⟩,F7⟩;exact ⟨F7,A7,c7,rfl,e5 ho7 ((hB.next D77)).size⟩
       constructor
       ·rintro-w78 D78;rintro v78_95 ⟨A78,c78,rfl,hq78⟩;exact au (az rfl) ⟨_,_,rfl,hq78⟩
       constructor
       ·rintro-w79 D79;rintro v79_87 ⟨A79,c79,rfl,hq79⟩;exact au (ay rfl rfl) ⟨_,_,rfl,hq79⟩
       constructor
       ·rintro-w80 D80;rintro v80_87 ⟨A80,c80,rfl,hq80⟩;exact au (ay rfl rfl) rfl
       constructor
       ·rintro-w81 D81;rintro v81_96 ⟨A81,c81,rfl,hq81⟩;exact au (b_ rfl) ⟨_,_,rfl,hq81⟩
       constructor
       ·rintro-w82 D82;rintro _ rfl;exact au (b_ (v:=.bool _) rfl) rfl
       exact trivial
      case hend=>
       intro w83 D83;rintro _ rfl _ rfl _ rfl _ rfl _ rfl _ rfl v94 ⟨g83,rfl,hg83⟩ v95 ⟨A83,c83,rfl,hq83⟩ v87 ⟨A83,c83,rfl,hq83⟩ v96 ⟨A83,c83,rfl,hq83⟩ _ rfl v7 ⟨A7,c7,rfl,ho7⟩ _ rfl;show St ..;obtain ⟨g7,rfl⟩:=iw ho7 (by omega);replace ho9:=ho9.kept_from D83;replace hk6:=hk6.from_ D83;replace hk2:=hk2.from_ D83;refine ak (ag (an (an (ah (mvb rfl (aa (ch rfl) (ak (ag (po rfl (fun Q84=>?_) (fun Q84=>?_))))))))))
       ·exfalso;contradiction
       have hlt9:∀ q,A9.map (·.block)=some q→q<w83.heap.size:=fun q hq=>(e_ ho9 q hq).2
       refine aY (ag ?_);apply jU [(0,101,fun _ v _=>v=_),(1,102,fun _ v _=>v=_),(2,103,fun _ v _=>v=_),(3,104,fun _ v _=>v=_),(4,105,fun _ v _=>v=_),(5,106,fun _ v _=>v=_),(6,107,fun _ v _=>v=_),(7,108,fun _ v _=>v=_),(8,109,fun _ v _=>v=_),(9,110,fun _ v _=>v=_),(10,111,fun _ v _=>v=_),(11,112,fun _ v _=>v=_),(12,113,fun S v w'=>∃ g,v=.slice (some ⟨g,0,none⟩) 1 1∧(∀ q,A9.map (·.block)=some q→q≠g)∧(S 13=false→Blk w' g 28 [.int .i64 (nv x:Nat),.int .i64 (nv y:Nat),.string z].toArray)),(13,114,fun S v w'=>(S 15=false→∃ A' c',v=.slice A' (xs.length+1) c'∧w'.ownsRow w.heap.size 28 3 (.slice A' (xs.length+1) c') (xs.length+1) (bw xs++[.int .i64 (nv x:Nat),.int .i64 (nv y:Nat),.string z]))∧∃ A' c',v=.slice A' (xs.length+1) c'),(14,115,fun _ v _=>v=_)] [13,15] (fun S w'=>w83.heap.size≤w'.heap.size∧af w w'∧(S 15=false→Blk w' b6 25 #[.int .i64 (nv (sAt ss 0):Nat),.int .i64 (nv (sAt ss 1):Nat),.int .i64 (nv (sAt ss 2):Nat),.int .i64 (nv (sAt ss 3):Nat),.int .i64 (nv (sAt ss 4):Nat),.int .i64 (nv (sAt ss 5):Nat),.int .i64 (nv (sAt ss 6):Nat),.int .i64 (nv (sAt ss 7):Nat),.bool (((nv (sAt ss 9):Nat):Int)==1),.slice A9 xs.length c9,.int .i64 (nv (sAt ss 8):Nat),.string (sAt ss 11),.bool (((nv (sAt ss 10):Nat):Int)==1)])∧(S 15=true→∃ A' c',Blk w' b6 25 #[.int .i64 (nv (sAt ss 0):Nat),.int .i64 (nv (sAt ss 1):Nat),.int .i64 (nv (sAt ss 2):Nat),.int .i64 (nv (sAt ss 3):Nat),.int .i64 (nv (sAt ss 4):Nat),.int .i64 (nv (sAt ss 5):Nat),.int .i64 (nv (sAt ss 6):Nat),.int .i64 (nv (sAt ss 7):Nat),.bool (((nv (sAt ss 9):Nat):Int)==1),(.slice A' (xs.length+1) c'),.int .i64 (nv (sAt ss 8):Nat),.string (sAt ss 11),.bool (((nv (sAt ss 10):Nat):Int)==1)]∧w'.ownsRow w.heap.size 28 3 (.slice A' (xs.length+1) c') (xs.length+1) (bw xs++[.int .i64 (nv x:Nat),.int .i64 (nv y:Nat),.string z]))∧Blk w' b2 25 #[.int .i64 0,.int .i64 0,.int .i64 0,.int .i64 0,.int .i64 0,.int .i64 0,.int .i64 0,.int .i64 0,.bool false,.slice none 0 0,.int .i64 0,.string ⟨#[]⟩,.bool false]∧w'.ownsRow w.heap.size 3 1 (.slice (some ⟨g7,0,none⟩) 2 c7) 2 ([x,y].map fun s=>Value.int .i64 (nv s:Nat))∧(S 13=false→w'.ownsRow w.heap.size 28 3 (.slice A9 xs.length c9) xs.length (bw xs))) (by kernel_rfl) (by kernel_rfl) rfl rfl ⟨fun _ _ _ _ _ _ _ h=>h,fun _ _ _ _ _ _ _ h=>h,fun _ _ _ _ _ _ _ h=>h,fun _ _ _ _ _ _ _ h=>h,fun _ _ _ _ _ _ _ h=>h,fun _ _ _ _ _ _ _ h=>h,fun _ _ _ _ _ _ _ h=>h,fun _ _ _ _ _ _ _ h=>h,fun _ _ _ _ _ _ _ h=>h,fun _ _ _ _ _ _ _ h=>h,fun _ _ _ _ _ _ _ h=>h,fun _ _ _ _ _ _ _ h=>h,fun S i v w1 w2 hq hF ⟨g,h1,h2,h3⟩=>⟨g,h1,h2,fun h0=>(h3 (gV h0)).from_ hF⟩,fun S i v w1 w2 hq hF ⟨h1,h2⟩=>⟨fun h0=>let ⟨A2,c2,h3,h4⟩:=h1 (gV h0);⟨A2,c2,h3,h4.kept_from hF⟩,h2⟩,fun _ _ _ _ _ _ _ h=>h,trivial⟩ (fun S i w1 w2 hq hF h=>⟨Nat.le_trans h.1 hF.size,h.2.1.next hF,fun h0=>(h.2.2.1 (gV h0)).from_ hF,fun h0=>let ⟨A2,c2,h1,h2⟩:=h.2.2.2.1 (mE (by rintro rfl;cases hq) h0);⟨A2,c2,h1.from_ hF,h2.kept_from hF⟩,h.2.2.2.2.1.from_ hF,h.2.2.2.2.2.1.kept_from hF,fun h0=>(h.2.2.2.2.2.2 (gV h0)).kept_from hF⟩) (⟨Nat.le_refl _,((hB.next D83)).d1,fun _=>hk6.from_ af.rfl_.d1,fun h=>(by cases h),hk2.from_ af.rfl_.d1,ho7.kept_from af.rfl_.d1,fun _=>ho9.kept_from af.rfl_.d1⟩)
       case hstep=>
        constructor
        ·rintro S L' w86 hU hmo hme hI hM hC hS ⟨-⟩;have hM':=hM;obtain ⟨hz,hB86,hk6,hk6b,hk2,ho7,ho9⟩:=hM';have e6:=hI.1 6 (eD rfl);exact aF [(6,_)] hU hmo hme hI hM (.head _) rfl rfl (by kernel_rfl) ⟨e6,trivial⟩ (aj bc rfl) af.rfl_ rfl
        constructor
        ·rintro S L' w87 hU hmo hme hI hM hC hS ⟨d0,-⟩;have hM':=hM;obtain ⟨hz,hB87,hk6,hk6b,hk2,ho7,ho9⟩:=hM';obtain ⟨v87_101,e101,h101⟩:=hI.get (i:=0) (.head _) d0;obtain rfl:=h101;exact aF [(101,_)] hU hmo hme hI hM (.tail _ (.head _)) rfl rfl (by kernel_rfl) ⟨e101,trivial⟩ (av cn rfl ((hk6 (bm hC (j:=15) rfl (by kernel_rfl) hS)).rd 9 rfl)) (af.rfl_) (rfl)
        constructor
        ·rintro S L' w88 hU hmo hme hI hM hC hS ⟨-⟩;have hM':=hM;obtain ⟨hz,hB88,hk6,hk6b,hk2,ho7,ho9⟩:=hM';have e7:=hI.1 7 (eD rfl);exact aF [(7,_)] hU hmo hme hI hM (.tail _ (.tail _ (.head _))) rfl rfl (by kernel_rfl) ⟨e7,trivial⟩ (az (v:=.slice _ _ _) rfl) af.rfl_ rfl
        constructor
        ·rintro S L' w89 hU hmo hme hI hM hC hS ⟨d2,-⟩;have hM':=hM;obtain ⟨hz,hB89,hk6,hk6b,hk2,ho7,ho9⟩:=hM';obtain ⟨v89_103,e103,h103⟩:=hI.get (i:=2) (.tail _ (.tail _ (.head _))) d2;obtain rfl:=h103;exact aF [(103,_)] hU hmo hme hI hM (.tail _ (.tail _ (.tail _ (.head _)))) rfl rfl (by kernel_rfl) ⟨e103,trivial⟩ (aQ (i:=0) bh rfl rfl (by omega)) af.rfl_ rfl
        constructor
        ·rintro S L' w90 hU hmo hme hI hM hC hS ⟨d3,-⟩;have hM':=hM;obtain ⟨hz,hB90,hk6,hk6b,hk2,ho7,ho9⟩:=hM';obtain ⟨v90_104,e104,h104⟩:=hI.get (i:=3) (.tail _ (.tail _ (.tail _ (.head _)))) d3;obtain rfl:=h104;exact aF [(104,_)] hU hmo hme hI hM (.tail _ (.tail _ (.tail _ (.tail _ (.head _))))) rfl rfl (by kernel_rfl) ⟨e104,trivial⟩ (av ar rfl (by exact cY ho7 0 (by simp))) af.rfl_ rfl
        constructor
        ·rintro S L' w91 hU hmo hme hI hM hC hS ⟨-⟩;have hM':=hM;obtain ⟨hz,hB91,hk6,hk6b,hk2,ho7,ho9⟩:=hM';have e7:=hI.1 7 (eD rfl);exact aF [(7,_)] hU hmo hme hI hM (.tail _ (.tail _ (.tail _ (.tail _ (.tail _ (.head _)))))) rfl rfl (by kernel_rfl) ⟨e7,trivial⟩ (az (v:=.slice _ _ _) rfl) af.rfl_ rfl
        constructor
        ·rintro S L' w92 hU hmo hme hI hM hC hS ⟨d5,-⟩;have hM':=hM;obtain ⟨hz,hB92,hk6,hk6b,hk2,ho7,ho9⟩:=hM';obtain ⟨v92_106,e106,h106⟩:=hI.get (i:=5) (.tail _ (.tail _ (.tail _ (.tail _ (.tail _ (.head _)))))) d5;obtain rfl:=h106;exact aF [(106,_)] hU hmo hme hI hM (.tail _ (.tail _ (.tail _ (.tail _ (.tail _ (.tail _ (.head _))))))) rfl rfl (by kernel_rfl) ⟨e106,trivial⟩ (aQ (i:=1) bh rfl rfl (by omega)) af.rfl_ rfl
        constructor
        ·rintro S L' w93 hU hmo hme hI hM hC hS ⟨d6,-⟩;have hM':=hM;obtain ⟨hz,hB93,hk6,hk6b,hk2,ho7,ho9⟩:=hM';obtain ⟨v93_107,e107,h107⟩:=hI.get (i:=6) (.tail _ (.tail _ (.tail _ (.tail _ (.tail _ (.tail _ (.head _))))))) d6;obtain rfl:=h107;exact aF [(107,_)] hU hmo hme hI hM (.tail _ (.tail _ (.tail _ (.tail _ (.tail _ (.tail _ (.tail _ (.head _)))))))) rfl rfl (by kernel_rfl) ⟨e107,trivial⟩ (av ar rfl (by exact cY ho7 1 (by simp))) af.rfl_ rfl
        constructor
        ·rintro S L' w94 hU hmo hme hI hM hC hS ⟨-⟩;have hM':=hM;obtain ⟨hz,hB94,hk6,hk6b,hk2,ho7,ho9⟩:=hM';have e0:=hI.1 0 (eD rfl);exact aF [(0,_)] hU hmo hme hI hM (.tail _ (.tail _ (.tail _ (.tail _ (.tail _ (.tail _ (.tail _ (.tail _ (.head _))))))))) rfl rfl (by kernel_rfl) ⟨e0,trivial⟩ (az (v:=.slice _ _ _) rfl) af.rfl_ rfl
        constructor
        ·rintro S L' w95 hU hmo hme hI hM hC hS ⟨d8,-⟩;have hM':=hM;obtain ⟨hz,hB95,hk6,hk6b,hk2,ho7,ho9⟩:=hM';obtain ⟨v95_109,e109,h109⟩:=hI.get (i:=8) (.tail _ (.tail _ (.tail _ (.tail _ (.tail _ (.tail _ (.tail _ (.tail _ (.head _))))))))) d8;obtain rfl:=h109;exact aF [(109,_)] hU hmo hme hI hM (.tail _ (.tail _ (.tail _ (.tail _ (.tail _ (.tail _ (.tail _ (.tail _ (.tail _ (.head _)))))))))) rfl rfl (by kernel_rfl) ⟨e109,trivial⟩ (bP (i:=2) bQ rfl rfl (by omega)) af.rfl_ rfl
        constructor
        ·rintro S L' w96 hU hmo hme hI hM hC hS ⟨d9,-⟩;have hM':=hM;obtain ⟨hz,hB96,hk6,hk6b,hk2,ho7,ho9⟩:=hM';obtain ⟨v96_110,e110,h110⟩:=hI.get (i:=9) (.tail _ (.tail _ (.tail _ (.tail _ (.tail _ (.tail _ (.tail _ (.tail _ (.tail _ (.head _)))))))))) d9;obtain rfl:=h110;exact aF [(110,_)] hU hmo hme hI hM (.tail _ (.tail _ (.tail _ (.tail _ (.tail _ (.tail _ (.tail _ (.tail _ (.tail _ (.tail _ (.head _))))))))))) rfl rfl (by kernel_rfl) ⟨e110,trivial⟩ (av bJ rfl (by exact gh (hrow0.from_ hB96) 2 (by simp))) af.rfl_ rfl
        constructor
        ·rintro S L' w97 hU hmo hme hI hM hC hS ⟨d4,d7,d10,-⟩;have hM':=hM;obtain ⟨hz,hB97,hk6,hk6b,hk2,ho7,ho9⟩:=hM';obtain ⟨v97_105,e105,h105⟩:=hI.get (i:=4) (.tail _ (.tail _ (.tail _ (.tail _ (.head _))))) d4;obtain rfl:=h105;obtain ⟨v97_108,e108,h108⟩:=hI.get (i:=7) (.tail _ (.tail _ (.tail _ (.tail _ (.tail _ (.tail _ (.tail _ (.head _)))))))) d7;obtain rfl:=h108;obtain ⟨v97_111,e111,h111⟩:=hI.get (i:=10) (.tail _ (.tail _ (.tail _ (.tail _ (.tail _ (.tail _ (.tail _ (.tail _ (.tail _ (.tail _ (.head _))))))))))) d10;obtain rfl:=h111;exact aF [(105,_),(108,_),(111,_)] hU hmo hme hI hM (.tail _ (.tail _ (.tail _ (.tail _ (.tail _ (.tail _ (.tail _ (.tail _ (.tail _ (.tail _ (.tail _ (.head _)))))))))))) rfl rfl (by kernel_rfl) ⟨e105,e108,e111,trivial⟩ (bf (l:=[(0,.tmp 105),(1,.tmp 108),(2,.tmp 111)]) (gB _ _ _)) af.rfl_ rfl
        constructor
        ·rintro S L' w98 hU hmo hme hI hM hC hS ⟨d11,-⟩;have hM':=hM;obtain ⟨hz,hB98,hk6,hk6b,hk2,ho7,ho9⟩:=hM';obtain ⟨v98_112,e112,h112⟩:=hI.get (i:=11) (.tail _ (.tail _ (.tail _ (.tail _ (.tail _ (.tail _ (.tail _ (.tail _ (.tail _ (.tail _ (.tail _ (.head _)))))))))))) d11;obtain rfl:=h112;exact aF [(112,_)] hU hmo hme hI hM (.tail _ (.tail _ (.tail _ (.tail _ (.tail _ (.tail _ (.tail _ (.tail _ (.tail _ (.tail _ (.tail _ (.tail _ (.head _))))))))))))) rfl rfl (by kernel_rfl) ⟨e112,trivial⟩ (iq (l:=[(0,.tmp 112)]) (cells:=[.int .i64 (nv x:Nat),.int .i64 (nv y:Nat),.string z].toArray) dq rfl rfl (by show Instr.fill _ _ [(0,Value.agg #[.int .i64 (nv x:Nat),.int .i64 (nv y:Nat),.string z])]=_;kernel_rfl)) (af.rfl_.new _) (⟨_,rfl,fun q hq=>by have:=hlt9 q hq;omega,fun _=>Blk.new _ _ _⟩)
        constructor
        ·rintro S L' w99 hU hmo hme hI hM hC hS ⟨d1,d12,-⟩;have hM':=hM;obtain ⟨hz,hB99,hk6,hk6b,hk2,ho7,ho9⟩:=hM';obtain ⟨v99_102,e102,h102⟩:=hI.get (i:=1) (.tail _ (.head _)) d1;obtain rfl:=h102;obtain ⟨v99_113,e113,h113⟩:=hI.get (i:=12) (.tail _ (.tail _ (.tail _ (.tail _ (.tail _ (.tail _ (.tail _ (.tail _ (.tail _ (.tail _ (.tail _ (.tail _ (.head _))))))))))))) d12;obtain ⟨g113,rfl,hx113,hk113⟩:=h113;have h13:=ho9 hS;have h15:S 15=false:=bm hC (j:=15) rfl (by kernel_rfl) hS;obtain ⟨A',c',w2,hR,ho,hg⟩:=eC (P:=prog) (ρ:=ev 117 [(102,_),(113,_)]) (s:=.tmp 102) (x:=.tmp 113) (j:=1) (news:=[.int .i64 (nv x:Nat),.int .i64 (nv y:Nat),.string z]) dq rfl (by decide) rfl h13 hB99.size rfl rfl ⟨g113,0,rfl,(hk113 hS).whole⟩ (by simp [Value.oneCell']) (by omega) (by omega);exact ig [(102,_),(113,_)] hU hI (.tail _ (.tail _ (.tail _ (.tail _ (.tail _ (.tail _ (.tail _ (.tail _ (.tail _ (.tail _ (.tail _ (.tail _ (.tail _ (.head _)))))))))))))) rfl (by kernel_rfl) ⟨e102,e113,trivial⟩ hR ⟨Nat.le_trans hz hg.size,hB99.grew hg (fun q hq=>(e_ h13 q hq).1),fun h0=>(hk6 h15).grown hg (aP h13 (hk6 h15) (by decide)),fun h0=>absurd (mE (by decide) h0) (by rw [h15];decide),hk2.grown hg (aP h13 hk2 (by decide)),kZ ho7 hg (lZ h13 ho7 (by decide)),fun h0=>(by rw [il] at h0;cases h0)⟩ ⟨fun _=>⟨A',c',rfl,ho⟩,A',c',rfl⟩ ⟨fun _ _ _ h=>h,fun _ _ _ h=>h,fun _ _ _ h=>h,fun _ _ _ h=>h,fun _ _ _ h=>h,fun _ _ _ h=>h,fun _ _ _ h=>h,fun _ _ _ h=>h,fun _ _ _ h=>h,fun _ _ _ h=>h,fun _ _ _ h=>h,fun _ _ _ h=>h,fun _ _ _ ⟨g,h1,h2,h3⟩=>⟨g,h1,h2,fun h0=>(by rw [il] at h0;cases h0)⟩,(fun h=>by cases h),fun _ _ _ h=>h,trivial⟩
        constructor
        ·rintro S L' w100 hU hmo hme hI hM hC hS ⟨d0,d1,d2,d3,d4,d5,d6,d7,d8,d9,d10,d11,d12,d13,-⟩;have hM':=hM;obtain ⟨hz,hB100,hk6,hk6b,hk2,ho7,ho9⟩:=hM';have e6:=hI.1 6 (eD rfl);exact aF [(6,_)] hU hmo hme hI hM (.tail _ (.tail _ (.tail _ (.tail _ (.tail _ (.tail _ (.tail _ (.tail _ (.tail _ (.tail _ (.tail _ (.tail _ (.tail _ (.tail _ (.head _))))))))))))))) rfl rfl (by kernel_rfl) ⟨e6,trivial⟩ (aj bc rfl) af.rfl_ rfl
        constructor
        ·rintro S L' w101 hU hmo hme hI hM hC hS ⟨d14,d13,d13,d0,d1,d2,d3,d4,d5,d6,d7,d8,d9,d10,d11,d12,d13,-⟩;have hM':=hM;obtain ⟨hz,hB101,hk6,hk6b,hk2,ho7,ho9⟩:=hM';obtain ⟨v101_114,e114,h114⟩:=hI.get (i:=13) (.tail _ (.tail _ (.tail _ (.tail _ (.tail _ (.tail _ (.tail _ (.tail _ (.tail _ (.tail _ (.tail _ (.tail _ (.tail _ (.head _)))))))))))))) d13;obtain ⟨hx114,A114,c114,rfl⟩:=h114;obtain ⟨v101_115,e115,h115⟩:=hI.get (i:=14) (.tail _ (.tail _ (.tail _ (.tail _ (.tail _ (.tail _ (.tail _ (.tail _ (.tail _ (.tail _ (.tail _ (.tail _ (.tail _ (.tail _ (.head _))))))))))))))) d14;obtain rfl:=h115;obtain ⟨A2,c2,he2,ho2⟩:=hx114 hS;cases he2;have hkb:=hk6 hS;obtain ⟨w2,hR,hO,hb⟩:=ou (n:=117) (L:=[(114,_),(115,_)]) (x:=.tmp 115) (y:=.tmp 114) (v:=.slice A114 (xs.length+1) c114) dT rfl rfl rfl hkb (by show 0+9<13;decide);exact mB [(114,_),(115,_)] hI (pH rfl) rfl (by kernel_rfl) ⟨e114,e115,trivial⟩ hR ⟨by rw [hO.size];exact hz,hB101.only hO hg6,fun h0=>(by rw [il] at h0;cases h0),fun _=>⟨A114,c114,hb,aW ho2 hO (aP ho2 hkb (by decide))⟩,hk2.only hO (by omega),aW ho7 hO (aP ho7 hkb (by decide)),fun h0=>(by rw [dH (by decide)] at h0;rw [d13] at h0;cases h0)⟩ ⟨fun _ _ _ h=>h,fun _ _ _ h=>h,fun _ _ _ h=>h,fun _ _ _ h=>h,fun _ _ _ h=>h,fun _ _ _ h=>h,fun _ _ _ h=>h,fun _ _ _ h=>h,fun _ _ _ h=>h,fun _ _ _ h=>h,fun _ _ _ h=>h,fun _ _ _ h=>h,fun _ _ _ ⟨g,h1,h2,h3⟩=>⟨g,h1,h2,fun h0=>(by rw [dH (by decide)] at h0;rw [d13] at h0;cases h0)⟩,fun _ _ _ h=>⟨fun h0=>(by rw [il] at h0;cases h0),h.2⟩,fun _ _ _ h=>h,trivial⟩
        exact trivial
       case hend=>
        intro w102 hM;obtain ⟨hz,hB102,hk6,hk6b,hk2,ho7,ho9⟩:=hM;rintro v102_101 rfl v102_102 rfl v102_103 rfl v102_104 rfl v102_105 rfl v102_106 rfl v102_107 rfl v102_108 rfl v102_109 rfl v102_110 rfl v102_111 rfl v102_112 rfl v102_113 ⟨g113,rfl,hx113,hk113⟩ v102_114 ⟨hx114,A114,c114,rfl⟩ v102_115 rfl;refine iH ?_;obtain ⟨A14,c14,hk6c,ho14⟩:=hk6b rfl;clear hk6;have hk6:=hk6c;refine bG (ag (ah (mvs rfl (aa (ir (m:=3) bQ rfl rfl (by simp) hzc) ?_))));refine ass rfl (ak ?_);refine cI ((zs',(b,(if c0=3 then o else o+3),c0-3),xs++[⟨(nv x:Nat),(nv y:Nat),z⟩],(A14,c14))) ⟨(congrArg (fun n=>Value.slice _ n _) (show zs'.length+1+1+1-3=zs'.length by omega)),trivial⟩ (by (iterate 74 refine bH rfl ?_);exact cf) ⟨?_,?_⟩
        ·refine ⟨jh hrow0 hzc (by simp),by simp only [List.length_cons] at hzc ⊢;omega,by simp only [List.length_cons] at hz3;omega,by simp only [List.length_cons,List.length_append,List.length_nil] at hzx ⊢;omega,fun s hs9=>hzs s (by simp [hs9]),?_,?_,?_,hk2,hB102⟩
         ·rw [hzeq];show Option.map _ (if (df x).isSome=true∧(df y).isSome=true then _ else _)=_;rw [if_pos (ot.1 hab)];cases eP zs' <;> simp
         ·rw [gu,List.length_append];exact ho14
         ·rw [List.length_append];exact hk6
        ·simp only [List.length_cons];omega
     apply fr 13 [(88,eqp _),(89,eqp _),(90,eqp _),(91,eqp _),(92,eqp _),(93,eqp _),(94,fun v w'=>∃ g,v=.slice (some ⟨g,0,none⟩) 2 2∧Blk w' g 9 #[.string x,.string y]),(95,eqp _),(87,eqp _),(96,eqp _),(97,eqp _),(7,eqp _),(8,eqp _)] (by repeat first | exact fS | refine fR ?_ | refine eY ?_) (by kernel_rfl) (by kernel_rfl) ⟨ai _,ai _,ai _,ai _,ai _,ai _,(fun _ _ _ hF ⟨g,h1,h2⟩=>⟨g,h1,h2.from_ hF⟩),ai _,ai _,ai _,ai _,ai _,ai _,trivial⟩
     case hop=>
      constructor
      ·rintro-w104 D104;exact au (az (v:=.slice _ _ _) rfl) rfl
      constructor
      ·rintro-w105 D105;rintro _ rfl;exact au (bP (i:=0) bQ rfl rfl (by omega)) rfl
      constructor
      ·rintro-w106 D106;rintro _ rfl;exact au (av bJ rfl ((gh (hrow0.from_ (((hB.next D106)).next af.rfl_)) 0 (by simp)))) rfl
      constructor
      ·rintro-w107 D107;exact au (az (v:=.slice _ _ _) rfl) rfl
      constructor
      ·rintro-w108 D108;rintro _ rfl;exact au (bP (i:=1) bQ rfl rfl (by omega)) rfl
      constructor
      ·rintro-w109 D109;rintro _ rfl;exact au (av bJ rfl ((gh (hrow0.from_ (((hB.next D109)).next af.rfl_)) 1 (by simp)))) rfl
      constructor
      ·rintro-w110 D110;rintro _ rfl _ rfl;exact gk (fN [.tmp 90,.tmp 93] [.string x,.string y] cg rfl rfl rfl rfl (by simp [Value.cells])) (af.rfl_.new _) ⟨_,rfl,Blk.new _ _ _⟩
      constructor
      ·rintro-w111 D111;rintro v111_94 ⟨g111,rfl,hg111⟩;refine lH fG ((mN _ 2 2 [x,y] _ rfl (oY hg111) (by intro s hs9;simp only [List.mem_cons,List.not_mem_nil,or_false] at hs9;rcases hs9 with rfl | rfl <;> exact hzs _ (by simp)) (by simp) hab).mono ?_);rintro v _ ⟨rfl,F7⟩;exact ⟨F7,rfl⟩
      constructor
      ·rintro-w112 D112;rintro _ rfl;exact au (az (v:=.tuple _) rfl) rfl
      constructor
      ·rintro-w113 D113;rintro _ rfl;exact au (ay rfl rfl) rfl
      constructor
      ·rintro-w114 D114;rintro _ rfl;exact au (ay rfl rfl) rfl
      constructor
      ·rintro-w115 D115;rintro _ rfl;exact au (b_ (v:=.slice _ _ _) rfl) rfl
      constructor
      ·rintro-w116 D116;rintro _ rfl;exact au (b_ (v:=.bool _) rfl) rfl
      exact trivial
     case hend=>
      intro w117 D117;rintro _ rfl _ rfl _ rfl _ rfl _ rfl _ rfl v94 ⟨g117,rfl,hg117⟩ _ rfl _ rfl _ rfl _ rfl _ rfl _ rfl;show St ..;replace ho9:=ho9.kept_from D117;replace hk6:=hk6.from_ D117;replace hk2:=hk2.from_ D117;refine ak (ag (an (an (ah (mvb rfl (aa (ch rfl) (ak (ag (po rfl (fun Q118=>?_) (fun Q118=>?_))))))))));rotate_left
      ·have hlt9:∀ q,A9.map (·.block)=some q→q<w117.heap.size:=fun q hq=>(e_ ho9 q hq).2
       exfalso;contradiction
      refine an (ah (aa (bf (l:=[]) (bR)) (aM (vs:=[_,_,_,_,_,_,_,_,_,_,_,_,_]) aq rfl rfl (by simp [Value.oneCell']) (hk2) rfl ?_)));intro w136 O12 P12;refine asb rfl (ak (ag (aA (aI (cD (aI (aI (cD (aI (eO rfl (aX (cs:=[_,_,_,_,_,_,_,_,_,_,_,_,_]) ax aq rfl (by first | exact P2.whole | exact P5.whole | exact P12.whole | exact P14.whole)) (bp (v:=.bool _) rfl) ?_))))))))));exact ⟨.inr ⟨fun es hg=>(by have h1:=hg.2.2.2.2;rw [hzeq,mf hab] at h1;cases h1),rfl⟩,((hB.next D117).only O12 (hg2))⟩
    refine dd (bA (bA (cJ (ag (an (ah (aa (aD (cs:=[_,_,_,_,_,_,_,_,_,_,_,_,_]) ax aq rfl (by exact (hk6.from_ af.rfl_).whole)) ?_)))))));refine aM (vs:=[_,_,_,_,_,_,_,_,_,_,_,_,_]) aq rfl rfl (by simp [Value.oneCell']) ((hk2.from_ af.rfl_)) rfl ?_;intro w137 O14 P14;refine asb rfl (ak (ag (aA (eO rfl (aX (cs:=[_,_,_,_,_,_,_,_,_,_,_,_,_]) ax aq rfl (by first | exact P2.whole | exact P5.whole | exact P12.whole | exact P14.whole)) (bp (v:=.bool _) rfl) ?_))));obtain rfl:zs=[]:=List.eq_nil_of_length_eq_zero (by omega);exact ⟨.inl ⟨xs,⟨h12,hall,by omega,by omega,by rw [hzeq];simp [eP]⟩,A9,c9,rfl,aW ho9 O14 (aP ho9 hk2 (by decide))⟩,(hB.only O14 (hg2))⟩
 apply dD 13 [(27,eqp _),(28,eqp _),(29,eqp _),(30,eqp _),(31,eqp _),(32,eqp _),(33,eqp _),(34,eqp _),(35,eqp _),(36,eqp _),(37,eqp _),(38,eqp _),(39,eqp _)] (by kernel_rfl) (by kernel_rfl) ⟨ai _,ai _,ai _,ai _,ai _,ai _,ai _,ai _,ai _,ai _,ai _,ai _,ai _,trivial⟩
 case hop=>
  constructor
  ·intro w139 D139;exact au (az rfl) rfl
  constructor
  ·intro w140 D140;rintro _ rfl;exact au (ch rfl) rfl
  constructor
  ·intro w141 D141;rintro _ rfl;exact au (az rfl) rfl
  constructor
  ·intro w142 D142;rintro _ rfl;exact aU rfl rfl rfl
  constructor
  ·intro w143 D143;rintro _ rfl _ rfl;exact aU rfl rfl rfl
  constructor
  ·intro w144 D144;rintro _ rfl _ rfl;exact aU rfl rfl rfl
  constructor
  ·intro w145 D145;rintro _ rfl;exact aU rfl rfl rfl
  constructor
  ·intro w146 D146;rintro _ rfl _ rfl;exact aU rfl rfl rfl
  constructor
  ·intro w147 D147;rintro _ rfl _ rfl;exact aU rfl rfl rfl
  constructor
  ·intro w148 D148;rintro _ rfl _ rfl _ rfl;exact aU rfl rfl rfl
  constructor
  ·intro w149 D149;rintro _ rfl _ rfl;exact aU rfl rfl rfl
  constructor
  ·intro w150 D150;rintro _ rfl _ rfl;exact aU rfl rfl rfl
  constructor
  ·intro w151 D151;rintro _ rfl _ rfl;exact au (aG (v:=.bool _) rfl rfl) rfl
  exact trivial
 case hend=>
  intro w152 D152;rintro _ rfl _ rfl _ rfl _ rfl _ rfl _ rfl _ rfl _ rfl _ rfl _ rfl _ rfl _ rfl _ rfl;show St ..;refine ak (ag (cd rfl (an (ah (aa (bf (l:=[]) (bR)) (aM (vs:=[_,_,_,_,_,_,_,_,_,_,_,_,_]) aq rfl rfl (by simp [Value.oneCell']) ((hk2.from_ ((af.rfl_.next E24).next D152))) rfl ?_))))));intro w153 O5 P5;refine asb rfl (ak (ag (aA (aI (eO rfl (aX (cs:=[_,_,_,_,_,_,_,_,_,_,_,_,_]) ax aq rfl (by first | exact P2.whole | exact P5.whole | exact P12.whole | exact P14.whole)) (bp (v:=.bool _) rfl) ?_)))))
  first
   |exact ⟨.inr ⟨fun es hg=>hall hg.2.1,rfl⟩,((((af.rfl_.next E2).next E24).next D152).only O5 (hg2))⟩
   |exact ⟨.inr ⟨fun es hg=>(by have h1:=hg.2.2.1;have h2:=hg.2.2.2.1;omega),rfl⟩,((((af.rfl_.next E2).next E24).next D152).only O5 (hg2))⟩
theorem kL:aJ prog 15=true:=by kernel_rfl
theorem fk:c6 prog 26=some (5,1):=by kernel_rfl
theorem kI:(c6 prog 26).isSome=true:=by kernel_rfl
theorem kK:aJ prog 16=true:=by kernel_rfl
theorem kJ:aJ prog 17=true:=by kernel_rfl
theorem lT {w:World} {b o n c:Nat} {vs:List Value} (h:bI w (.slice (some ⟨b,o,none⟩) n c) vs) {m:Nat} (hm:m≤vs.length):bI w (.slice (some ⟨b,if c=m then o else o+m,none⟩) (n-m) (c-m)) (vs.drop m):=by
 have:=h.rest hm
 have e:restA (some ⟨b,o,none⟩) c m=some ⟨b,if c=m then o else o+m,none⟩:=by
  unfold restA;split
  ·rfl
  ·simp [Addr.add_lit]
 rw [e] at this;exact this
theorem kC (l:List Nat) (m:Nat):aH (l.take m)=(aH l).take m:=by unfold aH;rw [List.map_take]
theorem kD (l:List Nat) (m:Nat):aH (l.drop m)=(aH l).drop m:=by unfold aH;rw [List.map_drop]
theorem lf {l:List Nat} {ss:List ByteArray} (hb:∀ b∈l,b<256) (h:dV l=some ss):(∀ s∈ss,s.size≤1048576)∧ss.length≤1048576:=by
 obtain ⟨h1,h2⟩:=me hb h;refine ⟨fun s hs=>?_,?_⟩
 ·have:=kf hs;rw [h1] at this;omega
 ·have:=eJ ss;have h3:(cx ss).length=l.length:=by rw [h1]
  rw [cx,List.length_append] at h3;omega
def OkS (ss:List ByteArray) (es:List Ent):Prop:=OkR (nv (sAt ss 0):Nat) (nv (sAt ss 1):Nat) (nv (sAt ss 2):Nat) (nv (sAt ss 3):Nat) (nv (sAt ss 4):Nat) (nv (sAt ss 5):Nat) (nv (sAt ss 6):Nat) (nv (sAt ss 7):Nat) (((nv (sAt ss 9):Nat):Int)==1) es (nv (sAt ss 8):Nat) (sAt ss 11) (((nv (sAt ss 10):Nat):Int)==1)
def m8 (l:List Nat) (ss:List ByteArray) (es:List Ent):Prop:=4≤l.length∧l.drop (l.length-4)=ck (l.take (l.length-4))∧dV (l.take (l.length-4))=some ss∧jo ss es∧OkS ss es
theorem fC {ss:List ByteArray} {es es2:List Ent} (h:jo ss es) (h2:jo ss es2):es=es2:=by
 have:=h.2.2.2.2.symm.trans h2.2.2.2.2;exact Option.some.inj this
theorem nf (A:Option Addr) (c n:Nat) (l:List Nat) (w:World) (hn:n=l.length) (hr:bI w (.slice A n c) (aH l)) (hl:∀ b∈l,b<256) (hlen:l.length≤140737488351232) (hT:dE w) :
 Rt prog 5 [.slice A n c] w (fun v w'=>((∃ ss es,m8 l ss es∧∃ A' c',v=.tuple #[.agg #[.int .i64 (nv (sAt ss 0):Nat),.int .i64 (nv (sAt ss 1):Nat),.int .i64 (nv (sAt ss 2):Nat),.int .i64 (nv (sAt ss 3):Nat),.int .i64 (nv (sAt ss 4):Nat),.int .i64 (nv (sAt ss 5):Nat),.int .i64 (nv (sAt ss 6):Nat),.int .i64 (nv (sAt ss 7):Nat),.bool (((nv (sAt ss 9):Nat):Int)==1),.slice A' es.length c',.int .i64 (nv (sAt ss 8):Nat),.string (sAt ss 11),.bool (((nv (sAt ss 10):Nat):Int)==1)],.int .i64 0]∧w'.ownsRow w.heap.size 28 3 (.slice A' es.length c') es.length (bw es))∨((∀ ss es,¬ m8 l ss es)∧v=.tuple #[.agg #[.int .i64 0,.int .i64 0,.int .i64 0,.int .i64 0,.int .i64 0,.int .i64 0,.int .i64 0,.int .i64 0,.bool false,.slice none 0 0,.int .i64 0,.string ⟨#[]⟩,.bool false],.int .i64 1]))∧af w w'):=by
 subst hn;refine enter (n:=50) Tryd.func5 rfl rfl rfl (an (ah (bF a_ ?_)));intro b2 w1 E2 hb2 hk2;have hg2:w.heap.size≤b2:=by rw [hb2];exact Nat.le_refl _
 refine asi rfl (ak (ag (an (ah (mvs rfl (aa (cu kI rfl) ?_))))));obtain ⟨q,hq⟩:∃ q:Int,((l.length:Nat):Int)-4=q:=⟨_,rfl⟩;refine aa (ji (r:=q) rfl rfl hq (by omega)) (asi rfl (ak (ag (an (an ?_)))));rcases Int.lt_or_le q 0 with hq0 | hq0
 ·apply dD 13 [(12,eqp _),(13,eqp _),(14,eqp _),(15,eqp _),(16,eqp _),(17,eqp _),(18,eqp _),(19,eqp _),(20,eqp _),(21,eqp _),(22,eqp _),(23,eqp _),(24,eqp _)] (by kernel_rfl) (by kernel_rfl) ⟨ai _,ai _,ai _,ai _,ai _,ai _,ai _,ai _,ai _,ai _,ai _,ai _,ai _,trivial⟩
  case hop=>
   constructor
   ·intro w3 D3;exact au (az (v:=.int _ _) rfl) rfl
   constructor
   ·intro w4 D4;rintro _ rfl;exact au (ke (dL rfl rfl) (decide_eq_true (by omega))) rfl
   constructor
   ·intro w5 D5;rintro _ rfl;exact au (az rfl) rfl
   constructor
   ·intro w6 D6;rintro _ rfl;exact aU rfl rfl rfl
   constructor
   ·intro w7 D7;rintro _ rfl;exact aU rfl rfl rfl
   constructor
   ·intro w8 D8;rintro _ rfl _ rfl _ rfl;exact aU rfl rfl rfl
   constructor
   ·intro w9 D9;rintro _ rfl;exact aU rfl rfl rfl
   constructor
   ·intro w10 D10;rintro _ rfl;exact aU rfl rfl rfl
   constructor
   ·intro w11 D11;rintro _ rfl _ rfl _ rfl;exact aU rfl rfl rfl
   constructor
   ·intro w12 D12;rintro _ rfl _ rfl;exact aU rfl rfl rfl
   constructor
   ·intro w13 D13;rintro _ rfl _ rfl _ rfl;exact aU rfl rfl rfl
   constructor
   ·intro w14 D14;rintro _ rfl _ rfl;exact aU rfl rfl rfl
   constructor
   ·intro w15 D15;rintro _ rfl _ rfl;exact au (aG (v:=.bool _) rfl rfl) rfl
   exact trivial
  case hend=>
   intro w16 D16;rintro _ rfl _ rfl _ rfl _ rfl _ rfl _ rfl _ rfl _ rfl _ rfl _ rfl _ rfl _ rfl _ rfl;show St ..;refine ak (ag (aK rfl (fun Q17=>?_) (fun Q17=>?_)));rotate_left
   ·try simp only [Bool.not_eq_false',decide_eq_true_eq] at Q17
    exfalso;contradiction
   try simp only at Q17
   refine an (ah (aa (bf (l:=[]) (bR)) (aM (vs:=[_,_,_,_,_,_,_,_,_,_,_,_,_]) aq rfl rfl (by simp [Value.oneCell']) ((hk2.from_ (af.rfl_.next D16))) rfl ?_)));intro w57 O3 P3;refine asi rfl (ak (ag (aA (aI (eO rfl (aX (cs:=[_,_,_,_,_,_,_,_,_,_,_,_,_]) ax aq rfl (by first | exact P3.whole | exact P6.whole | exact P9.whole | exact P10.whole)) (bp (v:=.int _ _) rfl) ?_)))))
   first
    |exact ⟨.inr ⟨fun ss2 es2 hg=>(by have:=hg.1;omega),rfl⟩,(((af.rfl_.next E2).next D16).only O3 (hg2))⟩
    |exact ⟨.inr ⟨fun ss2 es2 hg=>(by have h1:=hg.2.1;rw [←hm] at h1;exact absurd h1 (by assumption)),rfl⟩,(((af.rfl_.next E2).next D16).only O3 (hg2))⟩
 obtain ⟨m,rfl⟩:∃ m:Nat,q=(m:Nat):=⟨l.length-4,by omega⟩;have hm:m=l.length-4:=by omega
 obtain ⟨b0,o0,rfl⟩:∃ b o,A=some ⟨b,o,none⟩:=by
  obtain ⟨A2,c2,hv,_,_,hp⟩:=hr.parts;simp only [Value.slice.injEq] at hv;obtain ⟨rfl,_,_⟩:=hv;obtain ⟨b,o,hA,_⟩:=hp (by rw [bd];omega);exact ⟨b,o,hA⟩
 have hnc:l.length≤c:=by
  obtain ⟨A2,c2,hv,hc2,_,_⟩:=hr.parts;simp only [Value.slice.injEq] at hv;rw [bd] at hc2;omega
 have hrT:bI w (.slice (some ⟨b0,o0,none⟩) m c) (aH (l.take m)):=by rw [kC];exact hr.cut (by rw [bd];omega)
 have hrD:bI w (.slice (some ⟨b0,if c=m then o0 else o0+m,none⟩) (l.length-m) (c-m)) (aH (l.drop m)):=by rw [kD];exact lT hr (by rw [bd];omega)
 have hbT:∀ b∈l.take m,b<256:=fun b hb=>hl b (List.mem_of_mem_take hb)
 have hbD:∀ b∈l.drop m,b<256:=fun b hb=>hl b (List.mem_of_mem_drop hb)
 apply dD 13 [(12,eqp _),(13,eqp _),(14,eqp _),(15,eqp _),(16,eqp _),(17,eqp _),(18,eqp _),(19,eqp _),(20,eqp _),(21,fun v w'=>∃ g,v=.slice (some ⟨g,0,none⟩) 4 4∧Blk w' g 5 ((ck (l.take m)).map bV).toArray),(22,eqp _),(23,eqp _),(24,eqp _)] (by kernel_rfl) (by kernel_rfl) ⟨ai _,ai _,ai _,ai _,ai _,ai _,ai _,ai _,ai _,(fun _ _ _ hF ⟨g,h1,h2⟩=>⟨g,h1,h2.from_ hF⟩),ai _,ai _,ai _,trivial⟩
 case hop=>
  constructor
  ·intro w59 D59;exact au (az (v:=.int _ _) rfl) rfl
  constructor
  ·intro w60 D60;rintro _ rfl;exact au (mL (dL rfl rfl) (decide_eq_false (by omega))) rfl
  constructor
  ·intro w61 D61;rintro _ rfl;exact au (az rfl) rfl
  constructor
  ·intro w62 D62;rintro _ rfl;exact aN rfl (az (v:=.slice _ _ _) rfl) rfl
  constructor
  ·intro w63 D63;rintro _ rfl;exact aN rfl (az (v:=.int _ _) rfl) rfl
  constructor
  ·intro w64 D64;rintro _ rfl _ rfl _ rfl;exact aN rfl (ir (m:=m) fk rfl rfl (by omega) hnc) rfl
  constructor
  ·intro w65 D65;rintro _ rfl;exact aN rfl (az (v:=.slice _ _ _) rfl) rfl
  constructor
  ·intro w66 D66;rintro _ rfl;exact aN rfl (az (v:=.int _ _) rfl) rfl
  constructor
  ·intro w67 D67;rintro _ rfl _ rfl _ rfl;exact aN rfl (im (m:=m) fk rfl rfl (by omega)) rfl
  constructor
  ·intro w68 D68;rintro _ rfl _ rfl;refine fT rfl iK ((pj (some ⟨b0,o0,none⟩) c m (l.take m) _ (hrT.from_ ((af.rfl_.next E2).next D68)) hbT (by rw [List.length_take];omega) (hT.from_ ((af.rfl_.next E2).next D68))).mono ?_);rintro v _ ⟨⟨g,rfl,_,hg⟩,F7⟩;exact ⟨F7,g,rfl,hg⟩
  constructor
  ·intro w69 D69;rintro _ rfl _ rfl v69_21 ⟨g69,rfl,hg69⟩;refine fT rfl kL ((n1 _ _ (c-m) 4 (l.length-m) 4 (l.drop m) (ck (l.take m)) _ (hrD.from_ ((af.rfl_.next E2).next D69)) (bI.blk (cs:=((ck (l.take m)).map bV).toArray) hg69 4 (by simp [ck]) (by omega)) hbD (lM _)).mono ?_);rintro v _ ⟨rfl,rfl⟩;exact ⟨af.rfl_,rfl⟩
  constructor
  ·intro w70 D70;rintro _ rfl _ rfl;exact aN rfl (ch rfl) rfl
  constructor
  ·intro w71 D71;rintro _ rfl _ rfl;exact au (ao (v:=.bool _) rfl rfl) rfl
  exact trivial
 case hend=>
  intro w72 D72;rintro _ rfl _ rfl _ rfl _ rfl _ rfl _ rfl _ rfl _ rfl _ rfl v21 ⟨g72,rfl,hg72⟩ _ rfl _ rfl _ rfl;show St ..;refine ak (ag (aK rfl (fun Q73=>?_) (fun Q73=>?_)))
  ·replace Q73:=cz Q73;replace Q73:=dF_ Q73
   try simp only [Bool.not_eq_true',decide_eq_false_iff_not] at Q73
   refine an (ah (aa (bf (l:=[]) (bR)) (aM (vs:=[_,_,_,_,_,_,_,_,_,_,_,_,_]) aq rfl rfl (by simp [Value.oneCell']) ((hk2.from_ (af.rfl_.next D72))) rfl ?_)));intro w74 O3 P3;refine asi rfl (ak (ag (aA (aI (eO rfl (aX (cs:=[_,_,_,_,_,_,_,_,_,_,_,_,_]) ax aq rfl (by first | exact P3.whole | exact P6.whole | exact P9.whole | exact P10.whole)) (bp (v:=.int _ _) rfl) ?_)))))
   first
    |exact ⟨.inr ⟨fun ss2 es2 hg=>(by have:=hg.1;omega),rfl⟩,(((af.rfl_.next E2).next D72).only O3 (hg2))⟩
    |exact ⟨.inr ⟨fun ss2 es2 hg=>(by have h1:=hg.2.1;rw [←hm] at h1;exact absurd h1 (by assumption)),rfl⟩,(((af.rfl_.next E2).next D72).only O3 (hg2))⟩
  replace Q73:=cB Q73;replace Q73:=dT_ Q73
  try simp only [Bool.not_eq_false',decide_eq_true_eq] at Q73
  refine aY (ag (an (ah (mvs rfl (mvi rfl (aa (im (m:=m) fk rfl rfl (by omega)) (aC kK (pd (some ⟨b0,o0,none⟩) c m (l.take m) hbT _ (hrT.from_ ((af.rfl_.next E2).next D72))) ?_)))))));rintro v30 w75 ⟨hn30,E30⟩;rcases hn30 with ⟨hg30,rfl⟩ | ⟨ss,A30,c30,hg30,rfl,hos⟩
  ·refine mvt rfl (aa (ay rfl rfl) (aa (ay rfl rfl) (ass rfl (asi rfl (ak (ag (an (an (ah (mvi rfl (aa (cj rfl rfl) (ak (ag ?_)))))))))))));refine aK rfl (fun Q76=>?_) (fun Q76=>?_);rotate_left
   ·replace Q76:=cB Q76;replace Q76:=bT Q76;exfalso;omega
   replace Q76:=cz Q76;replace Q76:=bU Q76;refine an (ah (aa (bf (l:=[]) (bR)) (aM (vs:=[_,_,_,_,_,_,_,_,_,_,_,_,_]) aq rfl rfl (by simp [Value.oneCell']) ((hk2.from_ ((af.rfl_.next D72).next E30))) rfl ?_)));intro w94 O6 P6;refine asi rfl (ak (ag (aA (aI (eO rfl (aX (cs:=[_,_,_,_,_,_,_,_,_,_,_,_,_]) ax aq rfl (by first | exact P3.whole | exact P6.whole | exact P9.whole | exact P10.whole)) (bp (v:=.int _ _) rfl) ?_)))));exact ⟨.inr ⟨fun ss2 es2 hg=>(by have h1:=hg.2.2.1;rw [←hm,hg30] at h1;cases h1),rfl⟩,((((af.rfl_.next E2).next D72).next E30).only O6 (hg2))⟩
  obtain ⟨hsz,hsl⟩:=lf hbT hg30;have hrs:=bI.of_own hos
  have hsc:ss.length≤c30:=by
   obtain ⟨A2,c2,hv,hc2,_⟩:=hrs.2;simp only [Value.slice.injEq] at hv;simp only [List.length_map] at hc2;omega
  refine mvt rfl (aa (ay rfl rfl) (aa (ay rfl rfl) (ass rfl (asi rfl (ak (ag (an (an (ah (mvi rfl (aa (cj rfl rfl) (ak (ag ?_)))))))))))));refine aK rfl (fun Q95=>?_) (fun Q95=>?_)
  ·replace Q95:=cz Q95;replace Q95:=bU Q95;exfalso;omega
  replace Q95:=cB Q95;replace Q95:=bT Q95;refine aY (ag (an (ah (mvs rfl ?_))));have hB38:=((((af.rfl_.next E2).next D72).next E30)).size;refine aC kJ (l6 A30 c30 _ ss _ rfl hsc ((cT.of_row (f:=Value.string) hrs.1).2.from_ af.rfl_) (fun s h=>by have:=hsz s h;omega) (by omega)) ?_;rintro v38 w97 ⟨hn38,E38⟩;rcases hn38 with ⟨es,hgs,A38,c38,rfl,he38⟩ | ⟨hno38,rfl⟩
  ·replace he38:=e5 he38 hB38;refine mvt rfl (aa (ay rfl rfl) (aa (ay rfl rfl) ?_));have hlt7:=(hk2.from_ (((af.rfl_.next D72).next E30).next E38)).lt;refine bF a_ ?_;intro b7 w98 E7 hb7 hk7;have hg7:w.heap.size≤b7:=by rw [hb7];exact (((((af.rfl_.next E2).next D72).next E30).next E38)).size
   replace hk2:=hk2.from_ ((((af.rfl_.next D72).next E30).next E38).next E7);have h27:b2<b7:=by omega
   try replace he38:=he38.kept_from E7
   refine aM (vs:=[_,_,_,_,_,_,_,_,_,_,_,_,_]) aq rfl rfl (by simp [Value.oneCell']) (hk7) rfl ?_;intro w99 O7 P7;replace hk2:=hk2.only O7 (by omega)
   try replace he38:=aW he38 O7 (aP he38 hk7 (by decide))
   refine asb rfl (ak (ag (an (an (ah (mvb rfl (aa (ch rfl) (mvb rfl (oS (t:=43) rfl (fun Q100=>?_) (fun Q100=>?_))))))))))
   ·exfalso;contradiction
   refine ae rfl (aa (aD (cs:=[_,_,_,_,_,_,_,_,_,_,_,_,_]) ax aq rfl (by exact P7.whole)) ?_);refine ae rfl (aC c8 (jT (nv (sAt ss 0):Nat) (nv (sAt ss 1):Nat) (nv (sAt ss 2):Nat) (nv (sAt ss 3):Nat) (nv (sAt ss 4):Nat) (nv (sAt ss 5):Nat) (nv (sAt ss 6):Nat) (nv (sAt ss 7):Nat) (((nv (sAt ss 9):Nat):Int)==1) A38 _ c38 (nv (sAt ss 8):Nat) (sAt ss 11) (((nv (sAt ss 10):Nat):Int)==1) _ es rfl (aV.of_own he38 rfl) (by have:=fq hgs.2.2.2.2;rw [List.length_drop] at this;omega)) ?_);rintro v45 w102 ⟨rfl,E45⟩;refine ae rfl (aa (cj rfl rfl) (aa (ao (v:=.bool _) rfl rfl) (ak (ag (aK rfl (fun Q103=>?_) (fun Q103=>?_))))))
   ·replace Q103:=cz Q103;replace Q103:=bU Q103
    try (have hno:¬ OkS ss es:=fun h=>by (have h2:=Q103;rw [if_pos (show OkR (nv (sAt ss 0):Nat) (nv (sAt ss 1):Nat) (nv (sAt ss 2):Nat) (nv (sAt ss 3):Nat) (nv (sAt ss 4):Nat) (nv (sAt ss 5):Nat) (nv (sAt ss 6):Nat) (nv (sAt ss 7):Nat) (((nv (sAt ss 9):Nat):Int)==1) es (nv (sAt ss 8):Nat) (sAt ss 11) (((nv (sAt ss 10):Nat):Int)==1) from h)] at h2;simp at h2))
    refine an (ah (aa (bf (l:=[]) (bR)) (aM (vs:=[_,_,_,_,_,_,_,_,_,_,_,_,_]) aq rfl rfl (by simp [Value.oneCell']) ((hk2.from_ (af.rfl_.next E45))) rfl ?_)));intro w104 O9 P9;refine asi rfl (ak (ag (aA (aI (eO rfl (aX (cs:=[_,_,_,_,_,_,_,_,_,_,_,_,_]) ax aq rfl (by first | exact P3.whole | exact P6.whole | exact P9.whole | exact P10.whole)) (bp (v:=.int _ _) rfl) ?_)))))
    first
     |exact ⟨.inr ⟨fun ss2 es2 hg=>(by have h1:=hg.2.2.1;rw [←hm,hg30] at h1;cases h1;exact hno38 _ hg.2.2.2.1),rfl⟩,((((((((af.rfl_.next E2).next D72).next E30).next E38).next E7).only O7 (hg7)).next E45).only O9 (hg2))⟩
     |exact ⟨.inr ⟨fun ss2 es2 hg=>(by have h1:=hg.2.2.1;rw [←hm,hg30] at h1;cases h1;obtain rfl:=fC hgs hg.2.2.2.1;exact hno hg.2.2.2.2),rfl⟩,((((((((af.rfl_.next E2).next D72).next E30).next E38).next E7).only O7 (hg7)).next E45).only O9 (hg2))⟩
   replace Q103:=cB Q103;replace Q103:=bT Q103;have hyes:OkS ss es:=Classical.byContradiction fun h=>by (have h2:=Q103;rw [if_neg (show ¬ OkR (nv (sAt ss 0):Nat) (nv (sAt ss 1):Nat) (nv (sAt ss 2):Nat) (nv (sAt ss 3):Nat) (nv (sAt ss 4):Nat) (nv (sAt ss 5):Nat) (nv (sAt ss 6):Nat) (nv (sAt ss 7):Nat) (((nv (sAt ss 9):Nat):Int)==1) es (nv (sAt ss 8):Nat) (sAt ss 11) (((nv (sAt ss 10):Nat):Int)==1) from h)] at h2;simp at h2)
   refine aY (ag (an (ah (aa (aD (cs:=[_,_,_,_,_,_,_,_,_,_,_,_,_]) ax aq rfl (by exact (P7.from_ (af.rfl_.next E45)).whole)) ?_))));refine aM (vs:=[_,_,_,_,_,_,_,_,_,_,_,_,_]) aq rfl rfl (by simp [Value.oneCell']) ((hk2.from_ (af.rfl_.next E45))) rfl ?_;intro w105 O10 P10;refine asi rfl (ak (ag (aA (eO rfl (aX (cs:=[_,_,_,_,_,_,_,_,_,_,_,_,_]) ax aq rfl (by first | exact P3.whole | exact P6.whole | exact P9.whole | exact P10.whole)) (bp (v:=.int _ _) rfl) ?_))));exact ⟨.inl ⟨ss,es,⟨by omega,by rw [←hm];assumption,by rw [←hm];exact hg30,hgs,hyes⟩,A38,c38,rfl,aW (he38.kept_from E45) O10 (aP (he38.kept_from E45) (hk2.from_ E45) (by decide))⟩,((((((((af.rfl_.next E2).next D72).next E30).next E38).next E7).only O7 (hg7)).next E45).only O10 (hg2))⟩
  refine mvt rfl (aa (ay rfl rfl) (aa (ay rfl rfl) ?_));have hlt7:=(hk2.from_ (((af.rfl_.next D72).next E30).next E38)).lt;refine bF a_ ?_;intro b7 w106 E7 hb7 hk7;have hg7:w.heap.size≤b7:=by rw [hb7];exact (((((af.rfl_.next E2).next D72).next E30).next E38)).size
  replace hk2:=hk2.from_ ((((af.rfl_.next D72).next E30).next E38).next E7);have h27:b2<b7:=by omega
  try replace he38:=he38.kept_from E7
  refine aM (vs:=[_,_,_,_,_,_,_,_,_,_,_,_,_]) aq rfl rfl (by simp [Value.oneCell']) (hk7) rfl ?_;intro w107 O7 P7;replace hk2:=hk2.only O7 (by omega)
  try replace he38:=aW he38 O7 (aP he38 hk7 (by decide))
  refine asb rfl (ak (ag (an (an (ah (mvb rfl (aa (ch rfl) (mvb rfl (oS (t:=43) rfl (fun Q108=>?_) (fun Q108=>?_))))))))));rotate_left
  ·exfalso;contradiction
  refine ab rfl rfl (ab rfl rfl (ab rfl rfl (aa (aG (v:=.bool _) rfl rfl) (ak (ag (cd rfl (an (ah (aa (bf (l:=[]) (bR)) (aM (vs:=[_,_,_,_,_,_,_,_,_,_,_,_,_]) aq rfl rfl (by simp [Value.oneCell']) ((hk2.from_ af.rfl_)) rfl ?_))))))))));intro w113 O9 P9;refine asi rfl (ak (ag (aA (aI (eO rfl (aX (cs:=[_,_,_,_,_,_,_,_,_,_,_,_,_]) ax aq rfl (by first | exact P3.whole | exact P6.whole | exact P9.whole | exact P10.whole)) (bp (v:=.int _ _) rfl) ?_)))))
  first
   |exact ⟨.inr ⟨fun ss2 es2 hg=>(by have h1:=hg.2.2.1;rw [←hm,hg30] at h1;cases h1;exact hno38 _ hg.2.2.2.1),rfl⟩,(((((((af.rfl_.next E2).next D72).next E30).next E38).next E7).only O7 (hg7)).only O9 (hg2))⟩
   |exact ⟨.inr ⟨fun ss2 es2 hg=>(by have h1:=hg.2.2.1;rw [←hm,hg30] at h1;cases h1;obtain rfl:=fC hgs hg.2.2.2.1;exact hno hg.2.2.2.2),rfl⟩,(((((((af.rfl_.next E2).next D72).next E30).next E38).next E7).only O7 (hg7)).only O9 (hg2))⟩
theorem lr:aJ prog 18=true:=by kernel_rfl
instance:DecidableEq Ent:=fun x y=>decidable_of_iff (x.i=y.i∧x.t=y.t∧x.d=y.d) ⟨fun h=>by cases x;cases y;simp_all,fun h=>by rw [h];exact ⟨rfl,rfl,rfl⟩⟩
theorem pe {α:Type} {a b:List α} {k:Nat} (hl:a.length=b.length) (hk:¬ k<a.length) (h:a.take k=b.take k):a=b:=by
 rw [List.take_of_length_le (by omega),List.take_of_length_le (by omega)] at h;exact h
theorem nx {α:Type} {a b:List α} {k:Nat} (ha:k<a.length) (hb:k<b.length) (h:a.take k=b.take k) (he:a[k]=b[k]):a.take (k+1)=b.take (k+1):=by
 rw [List.take_succ_eq_append_getElem ha,List.take_succ_eq_append_getElem hb,h,he]
theorem pf (a b:Ent) (w:World):(Op.equalIn 10000 28 (.agg #[.int .i64 a.i,.int .i64 a.t,.string a.d]) (.agg #[.int .i64 b.i,.int .i64 b.t,.string b.d])).run prog w=.ok (decide (a=b)) w:=by
 have u3:=Tryd.underlying3;have a3:=Tryd.isAgg3;have z3:=Tryd.sizeOf3;have u9:=Tryd.underlying9;have a9:=Tryd.isAgg9;have z9:=Tryd.sizeOf9;have hS:prog.underlying 28=some (.struct (prog.fieldsOf 28)):=by kernel_rfl
 have hp:prog.stoodInHeld 28=false:=by kernel_rfl
 obtain ⟨i1,t1,d1⟩:=a;obtain ⟨i2,t2,d2⟩:=b;rw [show (10000:Nat)=9999+1 from rfl,run_equalIn_agg w 9999 28 _ _ hS hp];simp only [Program.fieldsOf,Tryd.underlying28 ]
 go_simp
 simp only [et];by_cases h1:i1=i2 <;> by_cases h2:t1=t2 <;> by_cases h3:d1=d2 <;> simp [h1,h2,h3]
theorem lU {ρ:Operand→Value} {w:World} {yt:TypeId} {x y:Operand} {a b:Ent} (hx:ρ x=.agg #[.int .i64 a.i,.int .i64 a.t,.string a.d]) (hy:ρ y=.agg #[.int .i64 b.i,.int .i64 b.t,.string b.d]):RO prog ρ (.binOp .neq 28 x y yt) w (.bool (!decide (a=b))) w:=by
 refine gj hx hy (run_eqGuard_agg w _ _ _ _ _ _ (by kernel_rfl)) ?_;rw [run_neq_struct,pf];rfl
theorem jq {w:World} {A:Option Addr} {n c:Nat} {es:List Ent} (h:aV w (.slice A n c) es) (hn:0<es.length):∃ b o,A=some ⟨b,o,none⟩∧∀ i (hi:i<es.length),w.rangeAt b (o+i*3) [.int .i64 es[i].i,.int .i64 es[i].t,.string es[i].d]:=by
 obtain ⟨A',c',hv,_,_,_,hp⟩:=h;simp only [Value.slice.injEq] at hv;obtain ⟨rfl,_,_⟩:=hv;obtain ⟨b,o,hA,_,hc⟩:=hp hn;exact ⟨b,o,hA,fun i hi=>kY (hc i hi).1 (hc i hi).2.1 (hc i hi).2.2⟩
theorem pL (a b:ByteArray):(a.toList==b.toList)=decide (a=b):=by
 rw [Bool.eq_iff_iff,beq_iff_eq,decide_eq_true_eq,et]
theorem pw (a b:Bool):(a==b)=decide (a=b):=by cases a <;> cases b <;> rfl
theorem na (A B:Option Addr) (ca cb n m:Nat) (xs ys:List Ent) (w:World) (hn:n=xs.length) (hm:m=ys.length) (h1:aV w (.slice A n ca) xs) (h2:aV w (.slice B m cb) ys) (hl:xs.length≤400000000000) :
 Rt prog 18 [.slice A n ca,.slice B m cb] w (fun v w'=>v=.bool (decide (xs=ys))∧af w w'):=by
 subst hn hm;refine enter (n:=26) Tryd.func18 rfl rfl rfl (an (ah (asb rfl (ak (ag (an (an (ah (mvs rfl (aa (cu bl rfl) (mvs rfl (aa (cu bl rfl) (aa (cj rfl rfl) ?_)))))))))))));refine ak (ag (aK rfl (fun Q1=>?_) (fun Q1=>?_)))
 ·replace Q1:=cz Q1;replace Q1:=bU Q1;refine an (ah (asb rfl (ak (ag (aA (aI (bX (v:=.bool _) rfl rfl (⟨congrArg Value.bool (decide_eq_false (fun e=>absurd (congrArg List.length e) (by omega))).symm,af.rfl_⟩))))))))
 replace Q1:=cB Q1;replace Q1:=bT Q1;have hlen:xs.length=ys.length:=by omega
 refine aY (ag (an (an (ah (asi rfl (ak (ag (bt (dJ (G:=Nat) [4,11,12,13,14,15,16,17,18,19,20,21,22,23,24,25] (fun k=>[(5,.int .i64 (k:Nat))]) (fun k w'=>k≤xs.length∧xs.take k=ys.take k∧af w w') (fun k=>xs.length-k) (0) ⟨rfl,trivial⟩ ?_ ?_)))))))))
 ·exact ⟨Nat.zero_le _,rfl,af.rfl_⟩
 rintro k ρ2 w2 ⟨hk,ht,hB⟩;refine an (an (ah (mvi rfl (mvs rfl (aa (cu bl rfl) (aa (dL rfl rfl) (ak (ag (ps rfl (fun Q3=>?_) (fun Q3=>?_))))))))))
 ·have hkx:k<xs.length:=by omega
  have hky:k<ys.length:=by omega
  obtain ⟨ba,oa,rfl,hca⟩:=jq h1 (by omega);obtain ⟨bb,ob,rfl,hcb⟩:=jq h2 (by omega);refine aY (ag (an (bt (an ?_))));apply fr 9 [(17,eqp _),(18,eqp _),(19,eqp _),(20,eqp (.agg #[.int .i64 (xs[k]'hkx).i,.int .i64 (xs[k]'hkx).t,.string (xs[k]'hkx).d])),(21,eqp _),(22,eqp _),(23,eqp _),(24,eqp (.agg #[.int .i64 (ys[k]'hky).i,.int .i64 (ys[k]'hky).t,.string (ys[k]'hky).d])),(25,eqp (.bool (!decide (xs[k]'hkx=ys[k]'hky))))] (by repeat first | exact fS | refine fR ?_ | refine eY ?_) (by kernel_rfl) (by kernel_rfl) ⟨ai _,ai _,ai _,ai _,ai _,ai _,ai _,ai _,ai _,trivial⟩
  case hop=>
   constructor
   ·rintro-w5 D5;exact au (az (v:=.slice _ _ _) rfl) rfl
   constructor
   ·rintro-w6 D6;exact au (az (v:=.int _ _) rfl) rfl
   constructor
   ·rintro-w7 D7;rintro _ rfl _ rfl;exact au (du bC rfl rfl (by omega)) rfl
   constructor
   ·rintro-w8 D8;rintro _ rfl;exact au (aD (cs:=[.int .i64 xs[k].i,.int .i64 xs[k].t,.string xs[k].d]) fF eM rfl (eX (hB.next D8) (hca k hkx))) rfl
   constructor
   ·rintro-w9 D9;exact au (az (v:=.slice _ _ _) rfl) rfl
   constructor
   ·rintro-w10 D10;exact au (az (v:=.int _ _) rfl) rfl
   constructor
   ·rintro-w11 D11;rintro _ rfl _ rfl;exact au (du bC rfl rfl (by omega)) rfl
   constructor
   ·rintro-w12 D12;rintro _ rfl;exact au (aD (cs:=[.int .i64 ys[k].i,.int .i64 ys[k].t,.string ys[k].d]) fF eM rfl (eX (hB.next D12) (hcb k hky))) rfl
   constructor
   ·rintro-w13 D13;rintro v13_20 rfl v13_24 rfl;exact au (lU (a:=xs[k]) (b:=ys[k]) rfl rfl) rfl
   exact trivial
  case hend=>
   intro w14 D14;rintro _ rfl _ rfl _ rfl v20 rfl _ rfl _ rfl _ rfl v24 rfl v25 rfl;show St ..;refine ak (ag (aK rfl (fun Q15=>?_) (fun Q15=>?_)))
   ·replace Q15:=cz Q15;replace Q15:=dF_ Q15;have hne:¬ xs[k]=ys[k]:=by simpa using Q15
    refine an (ah (asb rfl (ak (ag (aA (cD (aI (aI (cD (aI (bX (v:=.bool _) rfl rfl (⟨congrArg Value.bool (decide_eq_false (fun e=>by subst e;exact hne rfl)).symm,(hB.next D14)⟩))))))))))))
   replace Q15:=cB Q15;replace Q15:=dT_ Q15;have heq:xs[k]=ys[k]:=by simpa using Q15
   refine aY (bG (ag (ah (mvi rfl (aa (fP (b:=1) rfl rfl (by omega)) (asi rfl (ak ?_)))))));refine cI (k+1) ⟨(by first | rfl | (refine bY ?_;omega)),trivial⟩ (by (iterate 33 refine bH rfl ?_);exact cf) ⟨?_,?_⟩
   ·exact ⟨by omega,nx hkx hky ht heq,(hB.next D14)⟩
   ·omega
 refine dd (bA (bA (cJ (ag (an (ah (asb rfl (ak (ag (aA (bX (v:=.bool _) rfl rfl (⟨congrArg Value.bool (decide_eq_true (pe hlen (by omega) ht)).symm,hB⟩))))))))))))
theorem n4 (k f t tm ix lt cm rd:Int) (ok:Bool) (E:Option Addr) (n c:Nat) (a:Int) (d:ByteArray) (dn:Bool) (k2 f2 t2 tm2 ix2 lt2 cm2 rd2:Int) (ok2:Bool) (Eb:Option Addr) (n2 c2:Nat) (a2:Int) (d2:ByteArray) (dn2:Bool) (w:World) (es es2:List Ent) (hn:n=es.length) (hn2:n2=es2.length) (he:aV w (.slice E n c) es) (he2:aV w (.slice Eb n2 c2) es2) (hl:es.length≤400000000000) :
 Rt prog 7 [.agg #[.int .i64 k,.int .i64 f,.int .i64 t,.int .i64 tm,.int .i64 ix,.int .i64 lt,.int .i64 cm,.int .i64 rd,.bool ok,.slice E n c,.int .i64 a,.string d,.bool dn],.agg #[.int .i64 k2,.int .i64 f2,.int .i64 t2,.int .i64 tm2,.int .i64 ix2,.int .i64 lt2,.int .i64 cm2,.int .i64 rd2,.bool ok2,.slice Eb n2 c2,.int .i64 a2,.string d2,.bool dn2]] w (fun v w'=>v=.bool (decide (k=k2∧f=f2∧t=t2∧tm=tm2∧ix=ix2∧lt=lt2∧cm=cm2∧rd=rd2∧ok=ok2∧es=es2∧a=a2∧d=d2∧dn=dn2))∧af w w'):=by
 refine enter (n:=94) Tryd.func7 rfl rfl rfl (an (ah (ee (v:=.agg _) rfl ?_)));intro b2 w1 E2 hb2 hk2;refine ee (v:=.agg _) rfl ?_;intro b3 w2 E3 hb3 hk3;replace hk2:=hk2.from_ E3;refine asb rfl (ak (ag (an (ah (aa (aj cC rfl) (aa (av ar rfl (by exact (hk2.from_ af.rfl_).rd 0 rfl)) ?_))))));refine aa (aj cC rfl) (aa (av ar rfl (by exact (hk3.from_ af.rfl_).rd 0 rfl)) ?_);refine aa (bB rfl rfl) (mvb rfl (oT (t:=10) rfl (fun Q3=>?_) (fun Q3=>?_)))
 ·have q0:=Q3;refine ae rfl (aa (aj dy rfl) (ae rfl (aa (av ar rfl (by exact (hk2.from_ af.rfl_).rd 1 rfl)) ?_)));refine ae rfl (aa (aj dy rfl) (ae rfl (aa (av ar rfl (by exact (hk3.from_ af.rfl_).rd 1 rfl)) ?_)));refine ae rfl (aa (bB rfl rfl) (aa (aG (v:=.bool _) rfl rfl) (mvb rfl (oT (t:=17) rfl (fun Q4=>?_) (fun Q4=>?_)))))
  ·have q1:=Q4;refine ae rfl (aa (aj dx rfl) (ae rfl (aa (av ar rfl (by exact (hk2.from_ af.rfl_).rd 2 rfl)) ?_)));refine ae rfl (aa (aj dx rfl) (ae rfl (aa (av ar rfl (by exact (hk3.from_ af.rfl_).rd 2 rfl)) ?_)));refine ae rfl (aa (bB rfl rfl) (aa (aG (v:=.bool _) rfl rfl) (mvb rfl (oT (t:=24) rfl (fun Q5=>?_) (fun Q5=>?_)))))
   ·have q2:=Q5;refine ae rfl (aa (aj dw rfl) (ae rfl (aa (av ar rfl (by exact (hk2.from_ af.rfl_).rd 3 rfl)) ?_)));refine ae rfl (aa (aj dw rfl) (ae rfl (aa (av ar rfl (by exact (hk3.from_ af.rfl_).rd 3 rfl)) ?_)));refine ae rfl (aa (bB rfl rfl) (aa (aG (v:=.bool _) rfl rfl) (mvb rfl (oT (t:=31) rfl (fun Q6=>?_) (fun Q6=>?_)))))
    ·have q3:=Q6;refine ae rfl (aa (aj bg rfl) (ae rfl (aa (av ar rfl (by exact (hk2.from_ af.rfl_).rd 4 rfl)) ?_)));refine ae rfl (aa (aj bg rfl) (ae rfl (aa (av ar rfl (by exact (hk3.from_ af.rfl_).rd 4 rfl)) ?_)));refine ae rfl (aa (bB rfl rfl) (aa (aG (v:=.bool _) rfl rfl) (mvb rfl (oT (t:=38) rfl (fun Q7=>?_) (fun Q7=>?_)))))
     ·have q4:=Q7;refine ae rfl (aa (aj bO rfl) (ae rfl (aa (av ar rfl (by exact (hk2.from_ af.rfl_).rd 5 rfl)) ?_)));refine ae rfl (aa (aj bO rfl) (ae rfl (aa (av ar rfl (by exact (hk3.from_ af.rfl_).rd 5 rfl)) ?_)));refine ae rfl (aa (bB rfl rfl) (aa (aG (v:=.bool _) rfl rfl) (mvb rfl (oT (t:=45) rfl (fun Q8=>?_) (fun Q8=>?_)))))
      ·have q5:=Q8;refine ae rfl (aa (aj cR rfl) (ae rfl (aa (av ar rfl (by exact (hk2.from_ af.rfl_).rd 6 rfl)) ?_)));refine ae rfl (aa (aj cR rfl) (ae rfl (aa (av ar rfl (by exact (hk3.from_ af.rfl_).rd 6 rfl)) ?_)));refine ae rfl (aa (bB rfl rfl) (aa (aG (v:=.bool _) rfl rfl) (mvb rfl (oT (t:=52) rfl (fun Q9=>?_) (fun Q9=>?_)))))
       ·have q6:=Q9;refine ae rfl (aa (aj bN rfl) (ae rfl (aa (av ar rfl (by exact (hk2.from_ af.rfl_).rd 7 rfl)) ?_)));refine ae rfl (aa (aj bN rfl) (ae rfl (aa (av ar rfl (by exact (hk3.from_ af.rfl_).rd 7 rfl)) ?_)));refine ae rfl (aa (bB rfl rfl) (aa (aG (v:=.bool _) rfl rfl) (mvb rfl (oT (t:=59) rfl (fun Q10=>?_) (fun Q10=>?_)))))
        ·have q7:=Q10;refine ae rfl (aa (aj cQ rfl) (ae rfl (aa (av c_ rfl (by exact (hk2.from_ af.rfl_).rd 8 rfl)) ?_)));refine ae rfl (aa (aj cQ rfl) (ae rfl (aa (av c_ rfl (by exact (hk3.from_ af.rfl_).rd 8 rfl)) ?_)));refine ae rfl (aa (ej (lD (by kernel_rfl) rfl rfl) (congrArg Value.bool (pw ok ok2))) (aa (aG (v:=.bool _) rfl rfl) (mvb rfl (oU (t:=66) rfl (fun Q11=>?_) (fun Q11=>?_)))))
         ·have q8:=Q11;refine ae rfl (aa (aj bc rfl) (ae rfl (aa (av cn rfl (by exact (hk2.from_ af.rfl_).rd 9 rfl)) ?_)));refine ae rfl (aa (aj bc rfl) (ae rfl (aa (av cn rfl (by exact (hk3.from_ af.rfl_).rd 9 rfl)) ?_)));refine ae rfl (aC lr (na E Eb c c2 n n2 es es2 _ hn hn2 (he.from_ ((af.rfl_.next E2).next E3)) (he2.from_ ((af.rfl_.next E2).next E3)) hl) ?_);rintro v71 w12 ⟨rfl,E71⟩;refine aa (aG (v:=.bool _) rfl rfl) (mvb rfl (oU (t:=73) rfl (fun Q13=>?_) (fun Q13=>?_)))
          ·have q9:=Q13;refine ae rfl (aa (aj bq rfl) (ae rfl (aa (av ar rfl (by exact (hk2.from_ (af.rfl_.next E71)).rd 10 rfl)) ?_)));refine ae rfl (aa (aj bq rfl) (ae rfl (aa (av ar rfl (by exact (hk3.from_ (af.rfl_.next E71)).rd 10 rfl)) ?_)));refine ae rfl (aa (bB rfl rfl) (aa (aG (v:=.bool _) rfl rfl) (mvb rfl (oT (t:=80) rfl (fun Q14=>?_) (fun Q14=>?_)))))
           ·have q10:=Q14;refine ae rfl (aa (aj bS rfl) (ae rfl (aa (av bJ rfl (by exact (hk2.from_ (af.rfl_.next E71)).rd 11 rfl)) ?_)));refine ae rfl (aa (aj bS rfl) (ae rfl (aa (av bJ rfl (by exact (hk3.from_ (af.rfl_.next E71)).rd 11 rfl)) ?_)));refine ae rfl (aa (ej (jJ rfl rfl) (congrArg Value.bool (pL d d2))) (aa (aG (v:=.bool _) rfl rfl) (mvb rfl (oU (t:=87) rfl (fun Q15=>?_) (fun Q15=>?_)))))
            ·have q11:=Q15;refine ae rfl (aa (aj cW rfl) (ae rfl (aa (av c_ rfl (by exact (hk2.from_ (af.rfl_.next E71)).rd 12 rfl)) ?_)));refine ae rfl (aa (aj cW rfl) (ae rfl (aa (av c_ rfl (by exact (hk3.from_ (af.rfl_.next E71)).rd 12 rfl)) ?_)));refine ae rfl (aa (ej (lD (by kernel_rfl) rfl rfl) (congrArg Value.bool (pw dn dn2))) (aa (aG (v:=.bool _) rfl rfl) (asb rfl (ak (ag (aA (bX (v:=.bool _) rfl rfl (⟨congrArg Value.bool ?_,(((af.rfl_.next E2).next E3).next E71)⟩))))))))
             first
              |exact (decide_eq_false hno).symm
              |(rw [decide_eq_decide];exact ⟨fun h=>⟨q0,q1,q2,q3,q4,q5,q6,q7,q8,q9,q10,q11,h⟩,fun h=>h.2.2.2.2.2.2.2.2.2.2.2.2⟩)
            have hno:¬ (k=k2∧f=f2∧t=t2∧tm=tm2∧ix=ix2∧lt=lt2∧cm=cm2∧rd=rd2∧ok=ok2∧es=es2∧a=a2∧d=d2∧dn=dn2):=fun e=>Q15 e.2.2.2.2.2.2.2.2.2.2.2.1
            refine ab rfl rfl (ab rfl rfl (ab rfl rfl (ab rfl rfl (ab rfl rfl (aa (ao (v:=.bool _) rfl rfl) (asb rfl (ak (ag (aA (bX (v:=.bool _) rfl rfl ?_))))))))));refine ⟨congrArg Value.bool ?_,(((af.rfl_.next E2).next E3).next E71)⟩
            first
             |exact (decide_eq_false hno).symm
             |(rw [decide_eq_decide];exact ⟨fun h=>⟨q0,q1,q2,q3,q4,q5,q6,q7,q8,q9,q10,q11,h⟩,fun h=>h.2.2.2.2.2.2.2.2.2.2.2.2⟩)
           have hno:¬ (k=k2∧f=f2∧t=t2∧tm=tm2∧ix=ix2∧lt=lt2∧cm=cm2∧rd=rd2∧ok=ok2∧es=es2∧a=a2∧d=d2∧dn=dn2):=fun e=>Q14 e.2.2.2.2.2.2.2.2.2.2.1
           refine ab rfl rfl (ab rfl rfl (ab rfl rfl (ab rfl rfl (ab rfl rfl (aa (ao (v:=.bool _) rfl rfl) (mvb rfl (ab rfl rfl (ab rfl rfl ?_))))))));refine ab rfl rfl (ab rfl rfl (ab rfl rfl (aa (ao (v:=.bool _) rfl rfl) (asb rfl (ak (ag (aA (bX (v:=.bool _) rfl rfl (⟨congrArg Value.bool ?_,(((af.rfl_.next E2).next E3).next E71)⟩)))))))))
           first
            |exact (decide_eq_false hno).symm
            |(rw [decide_eq_decide];exact ⟨fun h=>⟨q0,q1,q2,q3,q4,q5,q6,q7,q8,q9,q10,q11,h⟩,fun h=>h.2.2.2.2.2.2.2.2.2.2.2.2⟩)
          have hno:¬ (k=k2∧f=f2∧t=t2∧tm=tm2∧ix=ix2∧lt=lt2∧cm=cm2∧rd=rd2∧ok=ok2∧es=es2∧a=a2∧d=d2∧dn=dn2):=fun e=>Q13 e.2.2.2.2.2.2.2.2.2.1
          refine ab rfl rfl (ab rfl rfl (ab rfl rfl (ab rfl rfl (ab rfl rfl (aa (ao (v:=.bool _) rfl rfl) (mvb rfl (ab rfl rfl (ab rfl rfl ?_))))))));refine ab rfl rfl (ab rfl rfl (ab rfl rfl (aa (ao (v:=.bool _) rfl rfl) (mvb rfl (ab rfl rfl (ab rfl rfl (ab rfl rfl (ab rfl rfl ?_))))))));refine ab rfl rfl (aa (ao (v:=.bool _) rfl rfl) (asb rfl (ak (ag (aA (bX (v:=.bool _) rfl rfl (⟨congrArg Value.bool ?_,(((af.rfl_.next E2).next E3).next E71)⟩)))))))
          first
           |exact (decide_eq_false hno).symm
           |(rw [decide_eq_decide];exact ⟨fun h=>⟨q0,q1,q2,q3,q4,q5,q6,q7,q8,q9,q10,q11,h⟩,fun h=>h.2.2.2.2.2.2.2.2.2.2.2.2⟩)
         have hno:¬ (k=k2∧f=f2∧t=t2∧tm=tm2∧ix=ix2∧lt=lt2∧cm=cm2∧rd=rd2∧ok=ok2∧es=es2∧a=a2∧d=d2∧dn=dn2):=fun e=>Q11 e.2.2.2.2.2.2.2.2.1
         refine ab rfl rfl (ab rfl rfl (ab rfl rfl (ab rfl rfl (ab rfl rfl (aa (ao (v:=.bool _) rfl rfl) (mvb rfl (ab rfl rfl (ab rfl rfl ?_))))))));refine ab rfl rfl (ab rfl rfl (ab rfl rfl (aa (ao (v:=.bool _) rfl rfl) (mvb rfl (ab rfl rfl (ab rfl rfl (ab rfl rfl (ab rfl rfl ?_))))))));refine ab rfl rfl (aa (ao (v:=.bool _) rfl rfl) (mvb rfl (ab rfl rfl (ab rfl rfl (ab rfl rfl (ab rfl rfl (ab rfl rfl (aa (ao (v:=.bool _) rfl rfl) ?_))))))));refine asb rfl (ak (ag (aA (bX (v:=.bool _) rfl rfl (⟨congrArg Value.bool ?_,((af.rfl_.next E2).next E3)⟩)))))
         first
          |exact (decide_eq_false hno).symm
          |(rw [decide_eq_decide];exact ⟨fun h=>⟨q0,q1,q2,q3,q4,q5,q6,q7,q8,q9,q10,q11,h⟩,fun h=>h.2.2.2.2.2.2.2.2.2.2.2.2⟩)
        have hno:¬ (k=k2∧f=f2∧t=t2∧tm=tm2∧ix=ix2∧lt=lt2∧cm=cm2∧rd=rd2∧ok=ok2∧es=es2∧a=a2∧d=d2∧dn=dn2):=fun e=>Q10 e.2.2.2.2.2.2.2.1
        refine ab rfl rfl (ab rfl rfl (ab rfl rfl (ab rfl rfl (ab rfl rfl (aa (ao (v:=.bool _) rfl rfl) (mvb rfl (ab rfl rfl (ab rfl rfl ?_))))))));refine ab rfl rfl (ab rfl rfl (ab rfl rfl (aa (ao (v:=.bool _) rfl rfl) (mvb rfl (ab rfl rfl (ab rfl rfl (ab rfl rfl (ab rfl rfl ?_))))))));refine ab rfl rfl (aa (ao (v:=.bool _) rfl rfl) (mvb rfl (ab rfl rfl (ab rfl rfl (ab rfl rfl (ab rfl rfl (ab rfl rfl (aa (ao (v:=.bool _) rfl rfl) ?_))))))));refine mvb rfl (ab rfl rfl (ab rfl rfl (ab rfl rfl (ab rfl rfl (ab rfl rfl (aa (ao (v:=.bool _) rfl rfl) (asb rfl (ak (ag (aA ?_))))))))));refine bX (v:=.bool _) rfl rfl (⟨congrArg Value.bool ?_,((af.rfl_.next E2).next E3)⟩)
        first
         |exact (decide_eq_false hno).symm
         |(rw [decide_eq_decide];exact ⟨fun h=>⟨q0,q1,q2,q3,q4,q5,q6,q7,q8,q9,q10,q11,h⟩,fun h=>h.2.2.2.2.2.2.2.2.2.2.2.2⟩)
       have hno:¬ (k=k2∧f=f2∧t=t2∧tm=tm2∧ix=ix2∧lt=lt2∧cm=cm2∧rd=rd2∧ok=ok2∧es=es2∧a=a2∧d=d2∧dn=dn2):=fun e=>Q9 e.2.2.2.2.2.2.1
       refine ab rfl rfl (ab rfl rfl (ab rfl rfl (ab rfl rfl (ab rfl rfl (aa (ao (v:=.bool _) rfl rfl) (mvb rfl (ab rfl rfl (ab rfl rfl ?_))))))));refine ab rfl rfl (ab rfl rfl (ab rfl rfl (aa (ao (v:=.bool _) rfl rfl) (mvb rfl (ab rfl rfl (ab rfl rfl (ab rfl rfl (ab rfl rfl ?_))))))));refine ab rfl rfl (aa (ao (v:=.bool _) rfl rfl) (mvb rfl (ab rfl rfl (ab rfl rfl (ab rfl rfl (ab rfl rfl (ab rfl rfl (aa (ao (v:=.bool _) rfl rfl) ?_))))))));refine mvb rfl (ab rfl rfl (ab rfl rfl (ab rfl rfl (ab rfl rfl (ab rfl rfl (aa (ao (v:=.bool _) rfl rfl) (mvb rfl (ab rfl rfl ?_))))))));refine ab rfl rfl (ab rfl rfl (ab rfl rfl (ab rfl rfl (aa (ao (v:=.bool _) rfl rfl) (asb rfl (ak (ag (aA (bX (v:=.bool _) rfl rfl (⟨congrArg Value.bool ?_,((af.rfl_.next E2).next E3)⟩))))))))))
       first
        |exact (decide_eq_false hno).symm
        |(rw [decide_eq_decide];exact ⟨fun h=>⟨q0,q1,q2,q3,q4,q5,q6,q7,q8,q9,q10,q11,h⟩,fun h=>h.2.2.2.2.2.2.2.2.2.2.2.2⟩)
      have hno:¬ (k=k2∧f=f2∧t=t2∧tm=tm2∧ix=ix2∧lt=lt2∧cm=cm2∧rd=rd2∧ok=ok2∧es=es2∧a=a2∧d=d2∧dn=dn2):=fun e=>Q8 e.2.2.2.2.2.1
      refine ab rfl rfl (ab rfl rfl (ab rfl rfl (ab rfl rfl (ab rfl rfl (aa (ao (v:=.bool _) rfl rfl) (mvb rfl (ab rfl rfl (ab rfl rfl ?_))))))));refine ab rfl rfl (ab rfl rfl (ab rfl rfl (aa (ao (v:=.bool _) rfl rfl) (mvb rfl (ab rfl rfl (ab rfl rfl (ab rfl rfl (ab rfl rfl ?_))))))));refine ab rfl rfl (aa (ao (v:=.bool _) rfl rfl) (mvb rfl (ab rfl rfl (ab rfl rfl (ab rfl rfl (ab rfl rfl (ab rfl rfl (aa (ao (v:=.bool _) rfl rfl) ?_))))))));refine mvb rfl (ab rfl rfl (ab rfl rfl (ab rfl rfl (ab rfl rfl (ab rfl rfl (aa (ao (v:=.bool _) rfl rfl) (mvb rfl (ab rfl rfl ?_))))))));refine ab rfl rfl (ab rfl rfl (ab rfl rfl (ab rfl rfl (aa (ao (v:=.bool _) rfl rfl) (mvb rfl (ab rfl rfl (ab rfl rfl (ab rfl rfl ?_))))))));refine ab rfl rfl (ab rfl rfl (aa (ao (v:=.bool _) rfl rfl) (asb rfl (ak (ag (aA (bX (v:=.bool _) rfl rfl (⟨congrArg Value.bool ?_,((af.rfl_.next E2).next E3)⟩))))))))
      first
       |exact (decide_eq_false hno).symm
       |(rw [decide_eq_decide];exact ⟨fun h=>⟨q0,q1,q2,q3,q4,q5,q6,q7,q8,q9,q10,q11,h⟩,fun h=>h.2.2.2.2.2.2.2.2.2.2.2.2⟩)
     have hno:¬ (k=k2∧f=f2∧t=t2∧tm=tm2∧ix=ix2∧lt=lt2∧cm=cm2∧rd=rd2∧ok=ok2∧es=es2∧a=a2∧d=d2∧dn=dn2):=fun e=>Q7 e.2.2.2.2.1
     refine ab rfl rfl (ab rfl rfl (ab rfl rfl (ab rfl rfl (ab rfl rfl (aa (ao (v:=.bool _) rfl rfl) (mvb rfl (ab rfl rfl (ab rfl rfl ?_))))))));refine ab rfl rfl (ab rfl rfl (ab rfl rfl (aa (ao (v:=.bool _) rfl rfl) (mvb rfl (ab rfl rfl (ab rfl rfl (ab rfl rfl (ab rfl rfl ?_))))))));refine ab rfl rfl (aa (ao (v:=.bool _) rfl rfl) (mvb rfl (ab rfl rfl (ab rfl rfl (ab rfl rfl (ab rfl rfl (ab rfl rfl (aa (ao (v:=.bool _) rfl rfl) ?_))))))));refine mvb rfl (ab rfl rfl (ab rfl rfl (ab rfl rfl (ab rfl rfl (ab rfl rfl (aa (ao (v:=.bool _) rfl rfl) (mvb rfl (ab rfl rfl ?_))))))));refine ab rfl rfl (ab rfl rfl (ab rfl rfl (ab rfl rfl (aa (ao (v:=.bool _) rfl rfl) (mvb rfl (ab rfl rfl (ab rfl rfl (ab rfl rfl ?_))))))));refine ab rfl rfl (ab rfl rfl (aa (ao (v:=.bool _) rfl rfl) (mvb rfl (ab rfl rfl (ab rfl rfl (ab rfl rfl (ab rfl rfl (ab rfl rfl ?_))))))));refine aa (ao (v:=.bool _) rfl rfl) (asb rfl (ak (ag (aA (bX (v:=.bool _) rfl rfl (⟨congrArg Value.bool ?_,((af.rfl_.next E2).next E3)⟩))))))
     first
      |exact (decide_eq_false hno).symm
      |(rw [decide_eq_decide];exact ⟨fun h=>⟨q0,q1,q2,q3,q4,q5,q6,q7,q8,q9,q10,q11,h⟩,fun h=>h.2.2.2.2.2.2.2.2.2.2.2.2⟩)
    have hno:¬ (k=k2∧f=f2∧t=t2∧tm=tm2∧ix=ix2∧lt=lt2∧cm=cm2∧rd=rd2∧ok=ok2∧es=es2∧a=a2∧d=d2∧dn=dn2):=fun e=>Q6 e.2.2.2.1
    refine ab rfl rfl (ab rfl rfl (ab rfl rfl (ab rfl rfl (ab rfl rfl (aa (ao (v:=.bool _) rfl rfl) (mvb rfl (ab rfl rfl (ab rfl rfl ?_))))))));refine ab rfl rfl (ab rfl rfl (ab rfl rfl (aa (ao (v:=.bool _) rfl rfl) (mvb rfl (ab rfl rfl (ab rfl rfl (ab rfl rfl (ab rfl rfl ?_))))))));refine ab rfl rfl (aa (ao (v:=.bool _) rfl rfl) (mvb rfl (ab rfl rfl (ab rfl rfl (ab rfl rfl (ab rfl rfl (ab rfl rfl (aa (ao (v:=.bool _) rfl rfl) ?_))))))));refine mvb rfl (ab rfl rfl (ab rfl rfl (ab rfl rfl (ab rfl rfl (ab rfl rfl (aa (ao (v:=.bool _) rfl rfl) (mvb rfl (ab rfl rfl ?_))))))));refine ab rfl rfl (ab rfl rfl (ab rfl rfl (ab rfl rfl (aa (ao (v:=.bool _) rfl rfl) (mvb rfl (ab rfl rfl (ab rfl rfl (ab rfl rfl ?_))))))));refine ab rfl rfl (ab rfl rfl (aa (ao (v:=.bool _) rfl rfl) (mvb rfl (ab rfl rfl (ab rfl rfl (ab rfl rfl (ab rfl rfl (ab rfl rfl ?_))))))));refine aa (ao (v:=.bool _) rfl rfl) (mvb rfl (ab rfl rfl (ab rfl rfl (ab rfl rfl (ab rfl rfl (ab rfl rfl (aa (ao (v:=.bool _) rfl rfl) (asb rfl ?_))))))));refine ak (ag (aA (bX (v:=.bool _) rfl rfl (⟨congrArg Value.bool ?_,((af.rfl_.next E2).next E3)⟩))))
    first
     |exact (decide_eq_false hno).symm
     |(rw [decide_eq_decide];exact ⟨fun h=>⟨q0,q1,q2,q3,q4,q5,q6,q7,q8,q9,q10,q11,h⟩,fun h=>h.2.2.2.2.2.2.2.2.2.2.2.2⟩)
   have hno:¬ (k=k2∧f=f2∧t=t2∧tm=tm2∧ix=ix2∧lt=lt2∧cm=cm2∧rd=rd2∧ok=ok2∧es=es2∧a=a2∧d=d2∧dn=dn2):=fun e=>Q5 e.2.2.1
   refine ab rfl rfl (ab rfl rfl (ab rfl rfl (ab rfl rfl (ab rfl rfl (aa (ao (v:=.bool _) rfl rfl) (mvb rfl (ab rfl rfl (ab rfl rfl ?_))))))));refine ab rfl rfl (ab rfl rfl (ab rfl rfl (aa (ao (v:=.bool _) rfl rfl) (mvb rfl (ab rfl rfl (ab rfl rfl (ab rfl rfl (ab rfl rfl ?_))))))));refine ab rfl rfl (aa (ao (v:=.bool _) rfl rfl) (mvb rfl (ab rfl rfl (ab rfl rfl (ab rfl rfl (ab rfl rfl (ab rfl rfl (aa (ao (v:=.bool _) rfl rfl) ?_))))))));refine mvb rfl (ab rfl rfl (ab rfl rfl (ab rfl rfl (ab rfl rfl (ab rfl rfl (aa (ao (v:=.bool _) rfl rfl) (mvb rfl (ab rfl rfl ?_))))))));refine ab rfl rfl (ab rfl rfl (ab rfl rfl (ab rfl rfl (aa (ao (v:=.bool _) rfl rfl) (mvb rfl (ab rfl rfl (ab rfl rfl (ab rfl rfl ?_))))))));refine ab rfl rfl (ab rfl rfl (aa (ao (v:=.bool _) rfl rfl) (mvb rfl (ab rfl rfl (ab rfl rfl (ab rfl rfl (ab rfl rfl (ab rfl rfl ?_))))))));refine aa (ao (v:=.bool _) rfl rfl) (mvb rfl (ab rfl rfl (ab rfl rfl (ab rfl rfl (ab rfl rfl (ab rfl rfl (aa (ao (v:=.bool _) rfl rfl) (mvb rfl ?_))))))));refine ab rfl rfl (ab rfl rfl (ab rfl rfl (ab rfl rfl (ab rfl rfl (aa (ao (v:=.bool _) rfl rfl) (asb rfl (ak (ag (aA (bX (v:=.bool _) rfl rfl ?_))))))))));refine ⟨congrArg Value.bool ?_,((af.rfl_.next E2).next E3)⟩
   first
    |exact (decide_eq_false hno).symm
    |(rw [decide_eq_decide];exact ⟨fun h=>⟨q0,q1,q2,q3,q4,q5,q6,q7,q8,q9,q10,q11,h⟩,fun h=>h.2.2.2.2.2.2.2.2.2.2.2.2⟩)
  have hno:¬ (k=k2∧f=f2∧t=t2∧tm=tm2∧ix=ix2∧lt=lt2∧cm=cm2∧rd=rd2∧ok=ok2∧es=es2∧a=a2∧d=d2∧dn=dn2):=fun e=>Q4 e.2.1
  refine ab rfl rfl (ab rfl rfl (ab rfl rfl (ab rfl rfl (ab rfl rfl (aa (ao (v:=.bool _) rfl rfl) (mvb rfl (ab rfl rfl (ab rfl rfl ?_))))))));refine ab rfl rfl (ab rfl rfl (ab rfl rfl (aa (ao (v:=.bool _) rfl rfl) (mvb rfl (ab rfl rfl (ab rfl rfl (ab rfl rfl (ab rfl rfl ?_))))))));refine ab rfl rfl (aa (ao (v:=.bool _) rfl rfl) (mvb rfl (ab rfl rfl (ab rfl rfl (ab rfl rfl (ab rfl rfl (ab rfl rfl (aa (ao (v:=.bool _) rfl rfl) ?_))))))));refine mvb rfl (ab rfl rfl (ab rfl rfl (ab rfl rfl (ab rfl rfl (ab rfl rfl (aa (ao (v:=.bool _) rfl rfl) (mvb rfl (ab rfl rfl ?_))))))));refine ab rfl rfl (ab rfl rfl (ab rfl rfl (ab rfl rfl (aa (ao (v:=.bool _) rfl rfl) (mvb rfl (ab rfl rfl (ab rfl rfl (ab rfl rfl ?_))))))));refine ab rfl rfl (ab rfl rfl (aa (ao (v:=.bool _) rfl rfl) (mvb rfl (ab rfl rfl (ab rfl rfl (ab rfl rfl (ab rfl rfl (ab rfl rfl ?_))))))));refine aa (ao (v:=.bool _) rfl rfl) (mvb rfl (ab rfl rfl (ab rfl rfl (ab rfl rfl (ab rfl rfl (ab rfl rfl (aa (ao (v:=.bool _) rfl rfl) (mvb rfl ?_))))))));refine ab rfl rfl (ab rfl rfl (ab rfl rfl (ab rfl rfl (ab rfl rfl (aa (ao (v:=.bool _) rfl rfl) (mvb rfl (ab rfl rfl (ab rfl rfl ?_))))))));refine ab rfl rfl (ab rfl rfl (ab rfl rfl (aa (ao (v:=.bool _) rfl rfl) (asb rfl (ak (ag (aA (bX (v:=.bool _) rfl rfl (⟨congrArg Value.bool ?_,((af.rfl_.next E2).next E3)⟩)))))))))
  first
   |exact (decide_eq_false hno).symm
   |(rw [decide_eq_decide];exact ⟨fun h=>⟨q0,q1,q2,q3,q4,q5,q6,q7,q8,q9,q10,q11,h⟩,fun h=>h.2.2.2.2.2.2.2.2.2.2.2.2⟩)
 have hno:¬ (k=k2∧f=f2∧t=t2∧tm=tm2∧ix=ix2∧lt=lt2∧cm=cm2∧rd=rd2∧ok=ok2∧es=es2∧a=a2∧d=d2∧dn=dn2):=fun e=>Q3 e.1
 refine ab rfl rfl (ab rfl rfl (ab rfl rfl (ab rfl rfl (ab rfl rfl (aa (ao (v:=.bool _) rfl rfl) (mvb rfl (ab rfl rfl (ab rfl rfl ?_))))))));refine ab rfl rfl (ab rfl rfl (ab rfl rfl (aa (ao (v:=.bool _) rfl rfl) (mvb rfl (ab rfl rfl (ab rfl rfl (ab rfl rfl (ab rfl rfl ?_))))))));refine ab rfl rfl (aa (ao (v:=.bool _) rfl rfl) (mvb rfl (ab rfl rfl (ab rfl rfl (ab rfl rfl (ab rfl rfl (ab rfl rfl (aa (ao (v:=.bool _) rfl rfl) ?_))))))));refine mvb rfl (ab rfl rfl (ab rfl rfl (ab rfl rfl (ab rfl rfl (ab rfl rfl (aa (ao (v:=.bool _) rfl rfl) (mvb rfl (ab rfl rfl ?_))))))));refine ab rfl rfl (ab rfl rfl (ab rfl rfl (ab rfl rfl (aa (ao (v:=.bool _) rfl rfl) (mvb rfl (ab rfl rfl (ab rfl rfl (ab rfl rfl ?_))))))));refine ab rfl rfl (ab rfl rfl (aa (ao (v:=.bool _) rfl rfl) (mvb rfl (ab rfl rfl (ab rfl rfl (ab rfl rfl (ab rfl rfl (ab rfl rfl ?_))))))));refine aa (ao (v:=.bool _) rfl rfl) (mvb rfl (ab rfl rfl (ab rfl rfl (ab rfl rfl (ab rfl rfl (ab rfl rfl (aa (ao (v:=.bool _) rfl rfl) (mvb rfl ?_))))))));refine ab rfl rfl (ab rfl rfl (ab rfl rfl (ab rfl rfl (ab rfl rfl (aa (ao (v:=.bool _) rfl rfl) (mvb rfl (ab rfl rfl (ab rfl rfl ?_))))))));refine ab rfl rfl (ab rfl rfl (ab rfl rfl (aa (ao (v:=.bool _) rfl rfl) (mvb rfl (ab rfl rfl (ab rfl rfl (ab rfl rfl (ab rfl rfl ?_))))))));refine ab rfl rfl (aa (ao (v:=.bool _) rfl rfl) (asb rfl (ak (ag (aA (bX (v:=.bool _) rfl rfl (⟨congrArg Value.bool ?_,((af.rfl_.next E2).next E3)⟩)))))))
 first
  |exact (decide_eq_false hno).symm
  |(rw [decide_eq_decide];exact ⟨fun h=>⟨q0,q1,q2,q3,q4,q5,q6,q7,q8,q9,q10,q11,h⟩,fun h=>h.2.2.2.2.2.2.2.2.2.2.2.2⟩)
theorem jt {n:Nat} (hn:n≤9223372036854775807):∀ (ts:List ByteArray),(∀ s∈ts,s.size≤n)→(cy ts).length≤ts.length*(n+9)
 |[],_=>by simp [cy]
 |x::r,h=>by
  have ih:=jt hn r (fun s hs=>h s (.tail _ hs));have h1:=h x (.head _);have h2:=cN (show x.size≤9223372036854775807 by omega);rw [cy,List.length_append,dC,List.length_cons,Nat.succ_mul];omega
theorem lg {k f t tm ix lt cm rd:Int} {ok:Bool} {es:List Ent} {a:Int} {d:ByteArray} {dn:Bool} (h:OkR k f t tm ix lt cm rd ok es a d dn):(cx (tsR k f t tm ix lt cm rd ok es a d dn)).length≤1048576:=by
 obtain ⟨h1,h2,h3⟩:=iA h;have hnum:=h.1;unfold ga at hnum;have hlen:(tsR k f t tm ix lt cm rd ok es a d dn).length=12+3*es.length:=by unfold tsR;rw [List.length_append,List.length_append,jG,el];rfl
 have hs:∀ s∈tsR k f t tm ix lt cm rd ok es a d dn,s.size≤4096:=by
  intro s hs;unfold tsR at hs;rcases List.mem_append.1 hs with hs | hs
  ·rcases List.mem_append.1 hs with hs | hs
   ·unfold dg at hs;obtain ⟨x,hx,rfl⟩:=List.mem_map.1 hs;rw [dk]
    have hx9:x.toNat≤9223372036854775807:=by
     unfold hdR at hx;simp only [List.mem_cons,List.not_mem_nil,or_false] at hx;have o1:ok.toNat≤1:=by cases ok <;> decide
     have o2:dn.toNat≤1:=by cases dn <;> decide
     omega
    have:=cN hx9;omega
   ·simp only [List.mem_singleton] at hs;subst hs;omega
  ·unfold tsE at hs;obtain ⟨e,he,hs⟩:=List.mem_flatMap.1 hs;obtain ⟨e1,e2,e3⟩:=h2 e he;simp only [List.mem_cons,List.not_mem_nil,or_false] at hs;rcases hs with rfl | rfl | rfl
   ·rw [dk];have:=cN (show e.i.toNat≤9223372036854775807 by omega);omega
   ·rw [dk];have:=cN (show e.t.toNat≤9223372036854775807 by omega);omega
   ·exact e3
 have h4:=jt (n:=4096) (by omega) (tsR k f t tm ix lt cm rd ok es a d dn) hs;have h5:=cN (show (tsR k f t tm ix lt cm rd ok es a d dn).length≤9223372036854775807 by omega);rw [cx,List.length_append];rw [hlen] at h4 h5 ⊢;omega
theorem kx:∀ {es:List Ent},(∀ e∈es,(0≤e.i∧e.i≤1099511627776)∧(0≤e.t∧e.t≤1099511627775)∧e.d.size≤4096)→eP (tsE es)=some es
 |[],_=>rfl
 |e::r,h=>by
  obtain ⟨h1,h2,_⟩:=h e (.head _);have ih:=kx (fun x hx=>h x (.tail _ hx));have a1:df (br (aZ e.i.toNat))=some e.i.toNat:=gl (by omega);have a2:df (br (aZ e.t.toNat))=some e.t.toNat:=gl (by omega);show (if (df (br (aZ e.i.toNat))).isSome=true∧(df (br (aZ e.t.toNat))).isSome=true then (eP (tsE r)).map fun es=>(⟨(nv (br (aZ e.i.toNat)):Nat),(nv (br (aZ e.t.toNat)):Nat),e.d⟩:Ent)::es else none)=_;rw [if_pos (by rw [a1,a2];exact ⟨rfl,rfl⟩),ih,lI a1,lI a2];simp only [Option.map_some,Option.some.injEq,List.cons.injEq,and_true];rw [Int.toNat_of_nonneg h1.1,Int.toNat_of_nonneg h2.1]
theorem lz {k f t tm ix lt cm rd:Int} {ok:Bool} {es:List Ent} {a:Int} {d:ByteArray} {dn:Bool} (h:OkR k f t tm ix lt cm rd ok es a d dn):jo (tsR k f t tm ix lt cm rd ok es a d dn) es∧((nv (sAt (tsR k f t tm ix lt cm rd ok es a d dn) 0):Nat):Int)=k∧((nv (sAt (tsR k f t tm ix lt cm rd ok es a d dn) 1):Nat):Int)=f∧((nv (sAt (tsR k f t tm ix lt cm rd ok es a d dn) 2):Nat):Int)=t∧((nv (sAt (tsR k f t tm ix lt cm rd ok es a d dn) 3):Nat):Int)=tm∧((nv (sAt (tsR k f t tm ix lt cm rd ok es a d dn) 4):Nat):Int)=ix∧((nv (sAt (tsR k f t tm ix lt cm rd ok es a d dn) 5):Nat):Int)=lt∧((nv (sAt (tsR k f t tm ix lt cm rd ok es a d dn) 6):Nat):Int)=cm∧((nv (sAt (tsR k f t tm ix lt cm rd ok es a d dn) 7):Nat):Int)=rd∧((nv (sAt (tsR k f t tm ix lt cm rd ok es a d dn) 8):Nat):Int)=a∧(((nv (sAt (tsR k f t tm ix lt cm rd ok es a d dn) 9):Nat):Int)==1)=ok∧(((nv (sAt (tsR k f t tm ix lt cm rd ok es a d dn) 10):Nat):Int)==1)=dn∧sAt (tsR k f t tm ix lt cm rd ok es a d dn) 11=d:=by
 obtain ⟨h1,h2,h3⟩:=iA h;have hnum:=h.1;unfold ga at hnum;have o1:ok.toNat≤1:=by cases ok <;> decide
 have o2:dn.toNat≤1:=by cases dn <;> decide
 have val:∀ x:Int,0≤x→x≤9223372036854775807→df (br (aZ x.toNat))=some x.toNat:=fun x a b=>gl (by omega)
 have nvv:∀ x:Int,0≤x→x≤9223372036854775807→((nv (br (aZ x.toNat)):Nat):Int)=x:=fun x a b=>by rw [lI (val x a b),Int.toNat_of_nonneg a]
 have e9:((nv (br (aZ ((ok.toNat:Nat):Int).toNat)):Nat):Int)=(ok.toNat:Nat):=nvv _ (by omega) (by omega);have e10:((nv (br (aZ ((dn.toNat:Nat):Int).toNat)):Nat):Int)=(dn.toNat:Nat):=nvv _ (by omega) (by omega);have hlen:(tsR k f t tm ix lt cm rd ok es a d dn).length=12+3*es.length:=by unfold tsR;rw [List.length_append,List.length_append,jG,el];rfl
 refine ⟨⟨by omega,?_,?_,?_,?_⟩,nvv k (by omega) (by omega),nvv f (by omega) (by omega),nvv t (by omega) (by omega),nvv tm (by omega) (by omega),nvv ix (by omega) (by omega),nvv lt (by omega) (by omega),nvv cm (by omega) (by omega),nvv rd (by omega) (by omega),nvv a (by omega) (by omega),?_,?_,rfl⟩
 ·show eK (dg (hdR k f t tm ix lt cm rd ok a dn));intro s hs;unfold dg at hs;obtain ⟨x,hx,rfl⟩:=List.mem_map.1 hs;unfold hdR at hx;simp only [List.mem_cons,List.not_mem_nil,or_false] at hx;rw [val x (by omega) (by omega)];rfl
 ·have:((nv (sAt (tsR k f t tm ix lt cm rd ok es a d dn) 9):Nat):Int)=(ok.toNat:Nat):=e9;omega
 ·have:((nv (sAt (tsR k f t tm ix lt cm rd ok es a d dn) 10):Nat):Int)=(dn.toNat:Nat):=e10;omega
 ·exact kx h2
 ·have:((nv (sAt (tsR k f t tm ix lt cm rd ok es a d dn) 9):Nat):Int)=(ok.toNat:Nat):=e9;rw [this];cases ok <;> rfl
 ·have:((nv (sAt (tsR k f t tm ix lt cm rd ok es a d dn) 10):Nat):Int)=(dn.toNat:Nat):=e10;rw [this];cases dn <;> rfl
theorem mb {k f t tm ix lt cm rd:Int} {ok:Bool} {es:List Ent} {a:Int} {d:ByteArray} {dn:Bool} (h:OkR k f t tm ix lt cm rd ok es a d dn):m8 (dG (tsR k f t tm ix lt cm rd ok es a d dn)) (tsR k f t tm ix lt cm rd ok es a d dn) es∧∀ b∈dG (tsR k f t tm ix lt cm rd ok es a d dn),b<256:=by
 have hf:=lg h;obtain ⟨g1,g2⟩:=lF rfl hf;obtain ⟨v,v0,v1,v2,v3,v4,v5,v6,v7,v8,v9,v10,v11⟩:=lz h;have hl:(dG (tsR k f t tm ix lt cm rd ok es a d dn)).length=(cx (tsR k f t tm ix lt cm rd ok es a d dn)).length+4:=by unfold dG;rw [List.length_append,lj]
 have ht:(dG (tsR k f t tm ix lt cm rd ok es a d dn)).take ((dG (tsR k f t tm ix lt cm rd ok es a d dn)).length-4)=cx (tsR k f t tm ix lt cm rd ok es a d dn):=by rw [hl];unfold dG;exact List.take_left' (by omega)
 have hd:(dG (tsR k f t tm ix lt cm rd ok es a d dn)).drop ((dG (tsR k f t tm ix lt cm rd ok es a d dn)).length-4)=ck (cx (tsR k f t tm ix lt cm rd ok es a d dn)):=by rw [hl];unfold dG;exact List.drop_left' (by omega)
 refine ⟨⟨by omega,by rw [ht,hd],by rw [ht];exact mc g1 hf,v,?_⟩,fun b hb=>?_⟩
 ·unfold OkS;rw [v0,v1,v2,v3,v4,v5,v6,v7,v8,v9,v10,v11];exact h
 ·unfold dG at hb;rcases List.mem_append.1 hb with hb | hb
  ·exact g2 b hb
  ·exact lM _ b hb
theorem bx:prog.built 25 [(0,.int .i64 2),(1,.int .i64 1),(2,.int .i64 2),(3,.int .i64 3),(8,.bool true)]=some #[.int .i64 2,.int .i64 1,.int .i64 2,.int .i64 3,.int .i64 0,.int .i64 0,.int .i64 0,.int .i64 0,.bool true,.slice none 0 0,.int .i64 0,.string ⟨#[]⟩,.bool false]:=by kernel_rfl
theorem gz:aJ prog 4=true:=by kernel_rfl
theorem gy:aJ prog 5=true:=by kernel_rfl
theorem cc:aJ prog 6=true:=by kernel_rfl
theorem gx:aJ prog 7=true:=by kernel_rfl
theorem my {W:World} (h:laidMetH prog Rows.rpcGreatRow.laid W):dE W:=by
 have gTab : prog.globalNamed "lectern/sum.remainders" = some 0 := by kernel_rfl
 have gType:(prog.globals[0]?).map (·.type)=some 82:=by kernel_rfl
 have c1:prog.cellsOf 69=1:=by kernel_rfl
 have c16:prog.cellsOf 82=16:=by kernel_rfl
 have ht : Lib.TabIs prog W "lectern/sum.remainders" .u32 [0, 498536548, 997073096, 651767980, 1994146192, 1802195444, 1303535960, 1342533948, 3988292384, 4027552580, 3604390888, 3412177804, 2607071920, 2262029012, 2685067896, 3183342108] :=
  Lib.tabIs_of_head (rest:=[]) gTab gType Tryd.underlying82 Tryd.underlying69 c1 c16 h
 intro i hi;rw [ht.cell gTab i hi];have:i=0∨i=1∨i=2∨i=3∨i=4∨i=5∨i=6∨i=7∨i=8∨i=9∨i=10∨i=11∨i=12∨i=13∨i=14∨i=15:=by omega
 rcases this with rfl | rfl | rfl | rfl | rfl | rfl | rfl | rfl | rfl | rfl | rfl | rfl | rfl | rfl | rfl | rfl <;> rfl
theorem jE {H:Type} {enc:TypeId×Value→H} {F:FuncId} {T:TypeId} (t:Ty) (hf:(Ty.sl t).fits prog (.inl T)=true) (laid:List (String×DataW Unit)) (hl:∀ W,laidMetH prog laid W→dE W)
 (h:∀ (A:Option Addr) (c:Nat) (xs:List t.den) (w:World),xs.length*t.bytes≤140737488351232→(0<xs.length→∃ b o,A=some ⟨b,o,none⟩∧∀ (i:Nat) (hi:i<xs.length),t.At w (fun j=>w.cell? ⟨b,o+i*t.size+j,none⟩) xs[i])→dE w→
  Rt prog F [.slice A xs.length c] w fun v w'=>v=.bool true∧af w w')
 (W:World) (base:Nat) (v:Value) (d:DataW H) (p:List MemPlace) (hL:laidMetH prog laid W) (_:W.ShapedOpen prog) (hok:Value.okWide prog W .any base T v) (ht:DataW.Trod enc prog W 0 (fun _=>true) true T v d p) (hsz:∀ n∈d.weights prog T,n≤140737488351232) :
 Calls prog F #[v] W fun e W'=>e=.returned (.bool true)∧af W W':=by
 obtain ⟨A,cap,xs,rfl,hb,_,he⟩:=oL t hf hok ht hsz;refine Rt.to (h A cap xs W hb (fun h0=>?_) (hl W hL));obtain ⟨b,o,hA,_,hi⟩:=he h0;exact ⟨b,o,hA,fun i h=>hi i _ (List.getElem?_eq_getElem h)⟩
theorem fB (k f t tm ix lt cm rd:Int) (ok:Bool) (E:Option Addr) (n c:Nat) (a:Int) (d:ByteArray) (dn:Bool) (es:List Ent) (E2:Option Addr) (n2 c2:Nat) (w:World) (hn:n=es.length) (hn2:n2=es.length) (he:aV w (.slice E n c) es) (he2:aV w (.slice E2 n2 c2) es) (hl:es.length≤400000000000) :
 Rt prog 7 [.agg #[.int .i64 k,.int .i64 f,.int .i64 t,.int .i64 tm,.int .i64 ix,.int .i64 lt,.int .i64 cm,.int .i64 rd,.bool ok,.slice E n c,.int .i64 a,.string d,.bool dn],.agg #[.int .i64 k,.int .i64 f,.int .i64 t,.int .i64 tm,.int .i64 ix,.int .i64 lt,.int .i64 cm,.int .i64 rd,.bool ok,.slice E2 n2 c2,.int .i64 a,.string d,.bool dn]] w fun v w'=>v=.bool true∧af w w':=
 (n4 k f t tm ix lt cm rd ok E n c a d dn k f t tm ix lt cm rd ok E2 n2 c2 a d dn w es es hn hn2 he he2 hl).mono fun v w' h=>⟨by rw [h.1,decide_eq_true ⟨rfl,rfl,rfl,rfl,rfl,rfl,rfl,rfl,rfl,rfl,rfl,rfl,rfl⟩],h.2⟩
theorem nd (k f t tm ix lt cm rd:Int) (ok:Bool) (E:Option Addr) (n c:Nat) (a:Int) (d:ByteArray) (dn:Bool) (es:List Ent) (L:Nat) (w:World) (hn:n=es.length) (hL:(dG (tsR k f t tm ix lt cm rd ok es a d dn)).length=L) (he:aV w (.slice E n c) es) (ho:OkR k f t tm ix lt cm rd ok es a d dn) (hT:dE w) :
 Rt prog 4 [.agg #[.int .i64 k,.int .i64 f,.int .i64 t,.int .i64 tm,.int .i64 ix,.int .i64 lt,.int .i64 cm,.int .i64 rd,.bool ok,.slice E n c,.int .i64 a,.string d,.bool dn]] w fun v w'=>(∃ A c',v=.tuple #[.slice A L c',.int .i64 0]∧bI w' (.slice A L c') (aH (dG (tsR k f t tm ix lt cm rd ok es a d dn))))∧af w w':=by
 refine (mh k f t tm ix lt cm rd ok E n c a d dn w es hn he ho _ rfl (lg ho) hT).mono fun v w' ⟨⟨A',c',hv,hw⟩,hF⟩=>?_
 have hl:(dG (tsR k f t tm ix lt cm rd ok es a d dn)).length=(cx (tsR k f t tm ix lt cm rd ok es a d dn)).length+4:=by unfold dG;rw [List.length_append,lj]
 rw [←hl,hL] at hv hw;exact ⟨⟨A',c',hv,bI.of_own hw⟩,hF⟩
theorem ng (k f t tm ix lt cm rd:Int) (ok:Bool) (a:Int) (d:ByteArray) (dn:Bool) (es:List Ent) (A:Option Addr) (cA L:Nat) (w:World) (hL:(dG (tsR k f t tm ix lt cm rd ok es a d dn)).length=L) (ho:OkR k f t tm ix lt cm rd ok es a d dn) (hr:bI w (.slice A L cA) (aH (dG (tsR k f t tm ix lt cm rd ok es a d dn)))) (hT:dE w) :
 Rt prog 5 [.slice A L cA] w fun v w'=>(∃ A' c',v=.tuple #[.agg #[.int .i64 k,.int .i64 f,.int .i64 t,.int .i64 tm,.int .i64 ix,.int .i64 lt,.int .i64 cm,.int .i64 rd,.bool ok,.slice A' es.length c',.int .i64 a,.string d,.bool dn],.int .i64 0]∧w'.ownsRow w.heap.size 28 3 (.slice A' es.length c') es.length (bw es))∧af w w':=by
 obtain ⟨hg,hb⟩:=mb ho;have hf:=lg ho;have hl:(dG (tsR k f t tm ix lt cm rd ok es a d dn)).length=(cx (tsR k f t tm ix lt cm rd ok es a d dn)).length+4:=by unfold dG;rw [List.length_append,lj]
 refine (nf A cA L (dG (tsR k f t tm ix lt cm rd ok es a d dn)) w hL.symm hr hb (by omega) hT).mono fun v w' ⟨h,hF⟩=>⟨?_,hF⟩
 rcases h with ⟨ss,es2,hg2,A',c',hv,hw⟩ | ⟨hno,_⟩
 ·obtain rfl:ss=tsR k f t tm ix lt cm rd ok es a d dn:=by
   have:=hg2.2.2.1.symm.trans hg.2.2.1;exact Option.some.inj this
  obtain rfl:=fC hg2.2.2.2.1 hg.2.2.2.1;obtain ⟨v,v0,v1,v2,v3,v4,v5,v6,v7,v8,v9,v10,v11⟩:=lz ho;rw [v0,v1,v2,v3,v4,v5,v6,v7,v8,v9,v10,v11] at hv;exact ⟨A',c',hv,hw⟩
 ·exact absurd hg (hno _ _)
theorem okW:OkR 2 1 2 3 0 0 0 0 true [] 0 ⟨#[]⟩ false:=by
 refine ⟨by unfold ga;omega,?_,fun h=>by omega,fun h=>by omega⟩;unfold ExR;rw [if_neg (by omega),if_pos rfl];exact ⟨rfl,rfl,rfl,rfl,rfl,rfl,rfl,rfl⟩
theorem lQ (w:World) (hT:dE w) :
 Rt prog 10 [] w (fun v w'=>v=.bool true∧af w w'):=by
 obtain ⟨L,hL⟩:∃ L,(dG (tsR 2 1 2 3 0 0 0 0 true [] 0 ⟨#[]⟩ false)).length=L:=⟨_,rfl⟩;refine enter (n:=30) Tryd.func10 rfl rfl rfl (an (ah (asb rfl (ak (ag (an (ah (aa (bf (l:=[(0,.const (.int .i64 2)),(1,.const (.int .i64 1)),(2,.const (.int .i64 2)),(3,.const (.int .i64 3)),(8,.const (.bool true))]) (bx)) (bF a_ ?_)))))))));intro b1 w1 E1 hb1 hk1;have hg1:w.heap.size≤b1:=by rw [hb1];exact (af.rfl_).size
 refine aM (vs:=[_,_,_,_,_,_,_,_,_,_,_,_,_]) aq rfl rfl (by simp [Value.oneCell']) (hk1) rfl ?_;intro w2 O1 P1;refine ak (ag (an (ah (aa (aD (cs:=[_,_,_,_,_,_,_,_,_,_,_,_,_]) ax aq rfl (by exact P1.whole)) ?_))));refine aC gz (nd 2 1 2 3 0 0 0 0 true none 0 0 0 ⟨#[]⟩ false [] L _ rfl hL (aV.nil_ _) okW (hT.from_ ((af.rfl_.next E1).only O1 (hg1)))) ?_;rintro v9 w3 ⟨⟨A9,c9,rfl,hr9⟩,E9⟩;refine mvt rfl (aa (ay rfl rfl) (aa (ay rfl rfl) (ass rfl (asi rfl (ak (ag (an (ah (mvs rfl (aC gy (ng 2 1 2 3 0 0 0 0 true 0 ⟨#[]⟩ false [] A9 c9 L _ hL okW hr9 (hT.from_ (((af.rfl_.next E1).only O1 (hg1)).next E9))) ?_))))))))));rintro v14 w4 ⟨⟨A14,c14,rfl,ho14⟩,E14⟩;refine mvt rfl (aa (ay rfl rfl) (aa (ay rfl rfl) ?_));have hlt1:=(P1.from_ ((af.rfl_.next E9).next E14)).lt;refine bF a_ ?_;intro b4 w5 E4 hb4 hk4;have hg4:w.heap.size≤b4:=by rw [hb4];exact (((((af.rfl_.next E1).only O1 (hg1)).next E9).next E14)).size
 replace P1:=(P1.from_ (((af.rfl_.next E9).next E14).next E4));have h14:b1≠b4:=by have:=P1.lt;have:=hlt1;omega
 refine aM (vs:=[_,_,_,_,_,_,_,_,_,_,_,_,_]) aq rfl rfl (by simp [Value.oneCell']) (hk4) rfl ?_;intro w6 O3 P3;replace P1:=P1.only O3 h14;refine asi rfl (ak (ag (an (ah (mvi rfl (aC cc (cE _ _) ?_))))));rintro v18 w7 ⟨rfl,rfl⟩;refine aa (bB rfl rfl) (mvb rfl (oT (t:=20) rfl (fun Q8=>?_) (fun Q8=>?_)));rotate_left
 ·exfalso;omega
 refine ae rfl (mvi rfl (ae rfl (aC cc (cE _ _) ?_)));rintro v22 w9 ⟨rfl,rfl⟩;refine ae rfl (aa (bB rfl rfl) (aa (aG (v:=.bool _) rfl rfl) (mvb rfl (oT (t:=25) rfl (fun Q10=>?_) (fun Q10=>?_)))));rotate_left
 ·exfalso;omega
 refine ae rfl (aa (aD (cs:=[_,_,_,_,_,_,_,_,_,_,_,_,_]) ax aq rfl (by exact P3.whole)) ?_);refine ae rfl (aa (aD (cs:=[_,_,_,_,_,_,_,_,_,_,_,_,_]) ax aq rfl (by exact P1.whole)) ?_);refine ae rfl (aC gx (fB 2 1 2 3 0 0 0 0 true A14 0 c14 0 ⟨#[]⟩ false [] none 0 0 _ rfl rfl (aV.of_own (aW (ho14.kept_from E4) O3 (aP (ho14.kept_from E4) hk4 (by decide))) rfl) (aV.nil_ _) (by simp)) ?_);rintro v28 w11 ⟨rfl,E28⟩;refine aa (aG (v:=.bool _) rfl rfl) (asb rfl (ak (ag (aA (bX (v:=.bool _) rfl rfl (⟨rfl,(((((((af.rfl_.next E1).only O1 (hg1)).next E9).next E14).next E4).only O3 (hg4)).next E28)⟩))))))
end Go.Proofs.YtmaaljhcojcjhaaDoor
namespace Go.Proofs.YtmaaljhcojcjhaaDoor
open Go.Proofs.Tryd (prog)
open Go.RowKit
abbrev XT (X:Type):=List (Nat×Nat×(X→Value))
abbrev fL {X:Type} (T:XT X) (x:X):List (Nat×Nat×Value):=T.map fun p=>(p.1,p.2.1,p.2.2 x)
theorem g6 {X:Type}:∀ {T:XT X} {x:X},fZ (T.map fun p=>(p.1,p.2.1))→mj (fL T x)
 |[],_,_=>trivial
 |p::r,x,h=>⟨fun q hq=>by
   obtain ⟨y,hy,rfl⟩:=List.mem_map.1 hq;exact h.1 (y.1,y.2.1) (List.mem_map.2 ⟨y,hy,rfl⟩),g6 h.2⟩
def nt {X:Type} (S:Nat→Bool) (x x':X):XT X→Prop
 |[]=>True
 |p::r=>(S p.1=true→p.2.2 x'=p.2.2 x)∧nt S x x' r
theorem jN {X:Type} {S:Nat→Bool} {x x':X}:∀ {T:XT X},nt S x x' T→∀ p∈T,S p.1=true→p.2.2 x'=p.2.2 x
 |_::_,⟨h1,h2⟩,p,hp=>by
  rcases List.mem_cons.1 hp with rfl | hp
  ·exact h1
  ·exact jN h2 p hp
theorem fg {X:Type} {S:Nat→Bool} {x:X}:∀ {T:XT X},nt S x x T
 |[]=>trivial
 |_::_=>⟨fun _=>rfl,fg⟩
section
variable {X:Type} {P:Program} {Q:Exit→Act→World→Prop} {n:Fr} {L L' M:List (Nat×Value)} {w w' w'':World} {l:List Oper} {T:XT X} {I:X→(Nat→Bool)→World→Prop} {S:Nat→Bool} {op:Op} {ty:TypeId} {pos:String} {after:Array Edge} {i d:Nat} {f:X→Value} {x:X}
theorem InvX.get (h:dU L (fL T x) S L') (hp:(i,d,f)∈T) (hs:S i=true):aL L' d=f x:=h.get (i:=i) (d:=d) (List.mem_map.2 ⟨_,hp,rfl⟩) hs
theorem InvX.out {t:Nat} (h:dU L (fL T x) S L') (ht:(T.map fun p=>p.2.1).elem t=false):aL L' t=aL L t:=h.1 t fun p hp e=>by
 obtain ⟨y,hy,rfl⟩:=List.mem_map.1 hp;have:t∈T.map fun p=>p.2.1:=List.mem_map.2 ⟨y,hy,e⟩
 rw [List.elem_eq_mem,decide_eq_false_iff_not] at ht;exact ht this
theorem nV {i:Nat} (h:(T.map fun p=>p.1).elem i=false):∀ p∈T,p.1≠i:=fun p hp e=>by
 rw [List.elem_eq_mem,decide_eq_false_iff_not] at h;exact h (List.mem_map.2 ⟨p,hp,e⟩)
theorem InvX.chg {x':X} (h:dU L (fL T x) S L') (hc:∀ p∈T,S p.1=true→p.2.2 x'=p.2.2 x):dU L (fL T x') S L':=by
 refine ⟨fun t ht=>h.1 t fun p hp=>?_,fun p hp hs=>?_,fun p hp hs=>?_⟩
 ·obtain ⟨y,hy,rfl⟩:=List.mem_map.1 hp;exact ht (y.1,y.2.1,y.2.2 x') (List.mem_map.2 ⟨y,hy,rfl⟩)
 ·obtain ⟨y,hy,rfl⟩:=List.mem_map.1 hp;have:=h.2.1 (y.1,y.2.1,y.2.2 x) (List.mem_map.2 ⟨y,hy,rfl⟩) hs;rw [this];exact (hc y hy hs).symm
 ·obtain ⟨y,hy,rfl⟩:=List.mem_map.1 hp;exact h.2.2 (y.1,y.2.1,y.2.2 x) (List.mem_map.2 ⟨y,hy,rfl⟩) hs
abbrev kE (P:Program) (n:Fr) (L:List (Nat×Value)) (T:XT X) (I:X→(Nat→Bool)→World→Prop) (S:Nat→Bool) (i:Nat) (o:Oper) (L':List (Nat×Value)) (w':World):Prop:=fj P n o (fun L2 w2=>∃ x,dU L (fL T x) (bu S i) L2∧I x (bu S i) w2) L' w'
theorem dz (M:List (Nat×Value)) (x':X) (hU:fZ (T.map fun p=>(p.1,p.2.1))) (hI:dU L (fL T x) S L') (hp:(i,d,f)∈T)
 (hs:bj op=false) (hk:(((⟨some d,op,ty,pos,after,none⟩:Oper).looksAt #[]).all fun t=>(M.map Prod.fst).elem t)=true) (hag:iZ L' M) (hr:RO P (ev n M) op w' (f x') w'') (hc:nt S x x' T) (hM:I x' (bu S i) w''):kE P n L T I S i ⟨some d,op,ty,pos,after,none⟩ L' w':=
 .inl ⟨d,f x',w'',rfl,by rw [dQ hs hk hag];exact hr _ _ _ _ _,x',(InvX.chg hI (jN hc)).put (g6 hU) (List.mem_map.2 ⟨_,hp,rfl⟩),hM⟩
theorem ew (M:List (Nat×Value)) {g:FuncId} {al:List Operand} {ats:Array TypeId} (hU:fZ (T.map fun p=>(p.1,p.2.1))) (hI:dU L (fL T x) S L') (hp:(i,d,f)∈T)
 (hk:(((⟨some d,.call { callee:=.value (.func g),args:=al.toArray,argTypes:=ats },ty,pos,after,none⟩:Oper).looksAt #[]).all fun t=>(M.map Prod.fst).elem t)=true) (hag:iZ L' M) (hf:aJ P g=true)
 (hc:Rt P g (al.map (ev n M)) w' fun v w''=>∃ x',v=f x'∧nt S x x' T∧I x' (bu S i) w''):kE P n L T I S i ⟨some d,.call { callee:=.value (.func g),args:=al.toArray,argTypes:=ats },ty,pos,after,none⟩ L' w':=
 .inr (.inr ⟨d,g,al.map (ev n M),rfl,by rw [dQ rfl hk hag,ep (fun _=>rfl),eV hf],Calls.mono hc fun e w2 ⟨v,he,x',hv,hd,hM⟩=>⟨v,he,x',by rw [hv];exact (InvX.chg hI (jN hd)).put (g6 hU) (List.mem_map.2 ⟨_,hp,rfl⟩),hM⟩⟩)
theorem fM (M:List (Nat×Value)) (hI:dU L (fL T x) S L') (hi:∀ p∈T,p.1≠i)
 (hs:bj op=false) (hk:(((⟨none,op,ty,pos,after,none⟩:Oper).looksAt #[]).all fun t=>(M.map Prod.fst).elem t)=true) (hag:iZ L' M) (hr:RS P (ev n M) op w' w'') (hM:I x (bu S i) w''):kE P n L T I S i ⟨none,op,ty,pos,after,none⟩ L' w':=
 .inr (.inl ⟨w'',rfl,by rw [dQ hs hk hag];exact hr _ _ _ _ _,x,hI.skip (fun p hp=>by
  obtain ⟨y,hy,rfl⟩:=List.mem_map.1 hp;exact hi y hy),hM⟩)
def lp (P:Program) (n:Fr) (L:List (Nat×Value)) (T:XT X) (Mu:List Nat) (I:X→(Nat→Bool)→World→Prop) (l:List Oper):Nat→List Oper→Prop
 |_,[]=>True
 |i,o::r=>(∀ S L' w' x,fZ (T.map fun p=>(p.1,p.2.1))→(∀ x S i w1 w2,Mu.elem i=false→af w1 w2→I x S w1→I x (bu S i) w2)→dU L (fL T x) S L'→I x S w'→dK l S→S i=false→ec S o.after.toList→kE P n L T I S i o L' w')∧lp P n L T Mu I l (i+1) r
theorem jb {Mu:List Nat} {L0:List (Nat×Value)} {l0:List Oper}:∀ {r:List Oper} {k:Nat},lp P n L0 T Mu I l0 k r→fZ (T.map fun p=>(p.1,p.2.1))→(∀ x S i w1 w2,Mu.elem i=false→af w1 w2→I x S w1→I x (bu S i) w2)→∀ (i:Nat) (o:Oper),r[i]? =some o→∀ S L' w' x,dU L0 (fL T x) S L'→I x S w'→dK l0 S→S (k+i)=false→ec S o.after.toList→kE P n L0 T I S (k+i) o L' w'
 |[],_,_,_,_,i,o,h=>by simp at h
 |y::r,k,⟨h1,h2⟩,a,b,0,o,h=>by
  simp only [List.getElem?_cons_zero,Option.some.injEq] at h;subst h;exact fun S L' w' x=>h1 S L' w' x a b
 |y::r,k,⟨h1,h2⟩,a,b,i+1,o,h=>by
  have:=jb h2 a b i o (by simpa using h)
  rwa [show k+1+i=k+(i+1) by omega] at this
theorem nk {id:Nat} (T:XT X) (Mu:List Nat) (I:X→(Nat→Bool)→World→Prop) (hm:P.follows .mixedOrders=true) (hwf:jR l=true) (hlt:(T.all fun p=>Nat.blt p.1 l.length)=true) (hU:mr (T.map fun p=>(p.1,p.2.1))=true) (hme:∀ x S i w1 w2,Mu.elem i=false→af w1 w2→I x S w1→I x (bu S i) w2) (h0:∃ x,I x (fun _=>false) { w with drawn:=w.drawn+1 })
 (hstep:lp P n L T Mu I l 0 l) (hend:∀ x w',I x (fun i=>decide (i<l.length)) w'→Q .normal (mkA n ((fL T x).map (fun p=>(p.2.1,p.2.2))++L)) w'):Cd P (.region id l.toArray true) Q n L w:=
 nj (fun S L' w'=>(∃ x,dU L (fL T x) S L'∧I x S w')∧dK l S) hm hwf ⟨let ⟨x,hx⟩:=h0;⟨x,⟨fun _ _=>rfl,fun _ _ h=>(by cases h),fun _ _ _=>rfl⟩,hx⟩,fun _ _ _ h=>by cases h⟩ (fun i o S L' w' ho ⟨⟨x,hI,hM⟩,hC⟩ hS hE=>by
  have:=jb hstep (g8 hU) hme i o ho S L' w' x hI hM hC (by rw [Nat.zero_add];exact hS) (iF fun e he=>hE e (by simpa using he));rw [Nat.zero_add] at this;exact fj.mono (fun L2 w2 h=>⟨h,gR hC ho hE⟩) this) fun L' w' ⟨⟨x,hI,hM⟩,_⟩=>by
  have h:=hend x w' hM
  have hlt':∀ p∈fL T x,decide (p.1<l.length)=true:=fun p hp=>by
   obtain ⟨y,hy,rfl⟩:=List.mem_map.1 hp;exact decide_eq_true (Nat.le_of_ble_eq_true (List.all_eq_true.1 hlt y hy))
  rw [nS (g6 (g8 hU)) hlt' hI];exact h
end
end Go.Proofs.YtmaaljhcojcjhaaDoor
