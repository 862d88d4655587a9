/- The law DiskTorn. -/
import Derived.Test.YtmbcbinocebodaaSlDkLawT2

set_option maxRecDepth 100000
set_option maxHeartbeats 4000000
namespace Go.Proofs.Ytmbcbinocebodaa
open Go.Proofs.Try (prog)
open Go.RowKit
open Go.ChangeShapes Go.WideShapes Go.ChangeAt
theorem fa:bU prog 32=some (5,1):=by kernel_rfl
theorem nx:mV prog 32=some (5,1,(.int .u8 0)):=by kernel_rfl
theorem jW:aO prog 45=true:=by kernel_rfl
theorem gL:dJ prog 61=some true:=by kernel_rfl
theorem gK:b8 prog 61=some 2:=by kernel_rfl
theorem ny:aO prog 46=true:=by kernel_rfl
theorem mc {P:Program} {w:World} {t:TypeId} {x:Operand} {ρ:Operand→Value} {e sz h m c:Nat} {A:Option Addr} {y:Operand} {k:IntKind} (ht:bU P t=some (e,sz)) (hx:ρ x=.slice A m c) (hy:ρ y=.int k (h:Nat)) (hh:h≤c) :
 RO P ρ (.slice t x none (some y) none) w (.slice A h c) w:=by
 have:=bJ (P:=P) (ρ:=ρ) (w:=w) (l:=0) (h:=h) ht (lo:=none) (hi:=some y) hx (.inl ⟨rfl,rfl⟩) (.inr ⟨y,k,_,rfl,hy,rfl⟩) (Nat.zero_le _) hh
 rwa [eV,Nat.sub_zero,Nat.sub_zero] at this
theorem RB.tk {w:World} {A:Option Addr} {c:Nat} {l:List Nat} (h:RB w A c l) (k:Nat) (h0:0<(aT (l.take k)).length):∃ b o,A=some ⟨b,o,none⟩∧w.rangeAt b o (aT (l.take k)):=
 (RB.pre (l:=l.take k) (r:=l.drop k) (by rwa [List.take_append_drop])).at_ (by rwa [aN] at h0)
def jd (vs ds:List Nat) (n:Nat):List Nat:=vs.take n++(ds.take vs.length++List.replicate (vs.length-ds.length) 0).drop n
theorem fW (vs ds:List Nat) (n:Nat):(jd vs ds n).length=vs.length:=by simp [jd];omega
theorem nH (vs ds:List Nat) (n:Nat):cB (cB (List.replicate vs.length (.int .u8 0)) 0 (aT (ds.take vs.length))) 0 (aT (vs.take (min n vs.length)))=aT (jd vs ds n):=by
 have h1:cB (List.replicate vs.length (.int .u8 0)) 0 (aT (ds.take vs.length))=aT (ds.take vs.length++List.replicate (vs.length-ds.length) 0):=by
  unfold cB aT;rw [List.take_zero,List.nil_append,List.map_append,List.map_replicate,List.drop_replicate]
  congr 2
  simp;omega
 rw [h1];unfold cB jd;rw [List.take_zero,List.nil_append,Nat.zero_add,aN,List.length_take,cZ];rcases Nat.le_total n vs.length with h | h
 ·rw [Nat.min_eq_left h,Nat.min_eq_left h];simp [aT]
 ·rw [Nat.min_eq_right h,Nat.min_self,List.take_of_length_le (Nat.le_refl _),List.take_of_length_le h,List.drop_of_length_le (by simp [aT];omega),List.drop_of_length_le (by simp;omega),List.append_nil,List.append_nil]
theorem nP {vs ds:List Nat} {n:Nat} (hv:∀ b∈vs,b<256) (hd:∀ b∈ds,b<256):∀ b∈jd vs ds n,b<256:=fun b hb=>by
 rcases List.mem_append.1 hb with h | h
 ·exact hv b (List.mem_of_mem_take h)
 ·rcases List.mem_append.1 (List.mem_of_mem_drop h) with h | h
  ·exact hd b (List.mem_of_mem_take h)
  ·have:=List.eq_of_mem_replicate h;omega
def fP (vs ds:List Nat) (pick:Int):List Nat:=
 if pick%3=0 then ds else if pick%3=1 then vs else jd vs ds (((pick/3)%(((max vs.length ds.length+31)/32+1:Nat):Int)).toNat*32)
theorem nk {vs ds:List Nat} {p:Int} (hv:∀ b∈vs,b<256) (hd:∀ b∈ds,b<256):∀ b∈fP vs ds p,b<256:=by
 unfold fP;split
 ·exact hd
 ·split
  ·exact hv
  ·exact nP hv hd
theorem mE {vs ds:List Nat} {p:Int}:(fP vs ds p).length≤max vs.length ds.length:=by
 unfold fP;split
 ·exact Nat.le_max_right _ _
 ·split
  ·exact Nat.le_max_left _ _
  ·rw [fW];exact Nat.le_max_left _ _
theorem n3 (VA DA:Option Addr) (vc dc:Nat) (vs ds:List Nat) (n:Nat) (w:World) (hv:RB w VA vc vs) (hd:RB w DA dc ds) (hvl:vs.length≤2000000) (_:ds.length≤2000000) (_:n≤1000000000) :
 Rt prog 46 [.agg #[.slice VA vs.length vc,.slice DA ds.length dc],.int .i64 (n:Nat)] w (fun v w'=>(∃ A' c',v=.slice A' vs.length c'∧w'.ownsRow w.heap.size 5 1 (.slice A' vs.length c') vs.length (aT (jd vs ds n)))∧ak w w'):=by
 refine enter (n:=25) Try.func46 rfl rfl rfl (ai (ag (gB (v:=.agg _) rfl ?_)));intro b2 w1 E2 hb2 hk2;refine ass rfl (ah (ae (ai (ag (aa (aj cm rfl) (aa (ar a8 rfl (by exact (hk2.from_ ak.rfl_).rd 0 rfl)) ?_))))));refine aa (aX dD rfl) ?_;have hB9:ak w w1:=(ak.rfl_.next E2);have hM9:=hk2.from_ (ak.rfl_);refine n7 nx rfl rfl rfl (by omega) (by omega) ?_;intro b9 w2 E9 hb9 hk9;have hn9:b2≠b9:=by have:=hM9.lt;omega
 refine ass rfl (ah (ae (ai (ag (mvs rfl (aa (aj gJ rfl) (aa (ar a8 rfl (by exact (hk2.from_ (ak.rfl_.next E9)).rd 1 rfl)) ?_)))))));have hB13:ak w w2:=((ak.rfl_.next E2).next E9);refine ej (news:=aT (ds.take vs.length)) (g:=b9) (o:=0) (cur:=List.replicate vs.length (.int .u8 0)) fa rfl rfl (by rw [aN,List.length_take,Nat.mul_one,Nat.min_comm]) (fun _=>rfl) (fun h=>(hd.from_ hB13).tk _ h) (hk9.from_ (ak.rfl_)) (by rw [aN,List.length_take,List.length_replicate];omega) (d_ _) ?_;intro w3 O13 P13;have hP2:=(hk2.from_ (ak.rfl_.next E9)).only O13 hn9;refine ah (ae (ai (ag (mvs rfl (aa (aj cm rfl) (aa (ar a8 rfl (by exact (hP2.from_ ak.rfl_).rd 0 rfl)) ?_))))));refine mvi rfl (aa (aj cm rfl) (aa (ar a8 rfl (by exact (hP2.from_ ak.rfl_).rd 0 rfl)) ?_));refine aa (aX dD rfl) (aa (oz rfl rfl) (j5 (t:=21) (v:=.int _ _) (v':=.int .i64 ((min n vs.length:Nat):Int)) rfl (by congr 1;omega) ?_));refine aa (mc fa rfl rfl (by have:=hv.le;omega)) ?_;have hB23:ak w w3:=(hB13.only O13 (by rw [hb9];exact hB9.size));refine ej (news:=aT (vs.take (min n vs.length))) (g:=b9) (o:=0) fa rfl rfl (by rw [aN,List.length_take];omega) (fun _=>rfl) (fun h=>(hv.from_ hB23).tk _ h) P13 (by rw [bu _ _ _ (by rw [aN,List.length_take,List.length_replicate];omega),aN,List.length_take,List.length_replicate];omega) (d_ _) ?_;intro w4 O23 P23;refine ah (ae (ai (ag (mvs rfl (ass rfl (ah (ae (aA (a_ (v:=.slice _ _ _) rfl rfl ?_)))))))));rw [nH] at P23;exact ⟨⟨some ⟨b9,0,none⟩,vs.length,rfl,iL (by rw [hb9];exact hB9.size) P23 (Nat.le_refl _) (by unfold maxLen;omega) (by rw [aN,fW,Nat.mul_one]) (List.take_of_length_le (by rw [aN,fW,Nat.mul_one];exact Nat.le_refl _))⟩,(hB23.only O23 (by rw [hb9];exact hB9.size))⟩
theorem nj (VA DA:Option Addr) (vc dc:Nat) (vs ds:List Nat) (pick:Int) (w:World) (hv:RB w VA vc vs) (hd:RB w DA dc ds) (hvl:vs.length≤2000000) (hdl:ds.length≤2000000) (hp:-9223372036854775808≤pick∧pick≤9223372036854775807) :
 Rt prog 34 [.agg #[.slice VA vs.length vc,.slice DA ds.length dc],.int .i64 pick] w (fun v w'=>(∃ A' c' n,v=.slice A' n c'∧n=(fP vs ds pick).length∧w'.ownsRow w.heap.size 5 1 (.slice A' n c') n (aT (fP vs ds pick)))∧ak w w'):=by
 refine enter (n:=49) Try.func34 rfl rfl rfl (ai (ag (gB (v:=.agg _) rfl ?_)));intro b2 w1 E2 hb2 hk2;refine ass rfl (ah (ae (ai (ag (mvi rfl (aG jW (ni pick 3 _ (by decide) (by decide) hp) ?_))))));rintro v13 w2 ⟨rfl,E13⟩;refine mvt rfl (aa (aI rfl rfl) (aa (aI rfl rfl) (asi rfl (asi rfl (ah (ae (ai (ai (ag (mvi rfl (ah (ae (a7 (ai (ag (aa (bO rfl rfl) ?_))))))))))))))));refine asb rfl (ah (ae (mC rfl (fun Q3=>?_) (fun Q3=>?_))))
 ·refine ai (ag (aa (aj gJ rfl) (aa (ar a8 rfl (by exact (hk2.from_ (ak.rfl_.next E13)).rd 1 rfl)) ?_)));have hB21:ak w w2:=((ak.rfl_.next E2).next E13);refine aG eh (aP DA dc ds.length ds _ (hd.from_ ((ak.rfl_.next E2).next E13)) rfl (by omega)) ?_;rintro v21 w4 ⟨⟨A21,c21,rfl,ho21⟩,E21⟩;refine ass rfl (ah (ae (aA (aU (az (a_ (v:=.slice _ _ _) rfl rfl ?_))))));have e1:fP vs ds pick=ds:=by unfold fP;rw [if_pos (by omega)]
  rw [e1];exact ⟨⟨A21,c21,_,rfl,rfl,iM ho21 hB21.size⟩,(((ak.rfl_.next E2).next E13).next E21)⟩
 refine ai (ag (aa (bO rfl rfl) (asb rfl (ah (ae (mC rfl (fun Q5=>?_) (fun Q5=>?_)))))))
 ·refine ai (ag (aa (aj cm rfl) (aa (ar a8 rfl (by exact (hk2.from_ (ak.rfl_.next E13)).rd 0 rfl)) ?_)));have hB26:ak w w2:=((ak.rfl_.next E2).next E13);refine aG eh (aP VA vc vs.length vs _ (hv.from_ ((ak.rfl_.next E2).next E13)) rfl (by omega)) ?_;rintro v26 w6 ⟨⟨A26,c26,rfl,ho26⟩,E26⟩;refine ass rfl (ah (ae (aA (aU (az (a_ (v:=.slice _ _ _) rfl rfl ?_))))));have e1:fP vs ds pick=vs:=by unfold fP;rw [if_neg (by omega),if_pos (by omega)]
  rw [e1];exact ⟨⟨A26,c26,_,rfl,rfl,iM ho26 hB26.size⟩,(((ak.rfl_.next E2).next E13).next E26)⟩
 refine aD (bk (ae (ai (ag (aa (aj cm rfl) (aa (ar a8 rfl (by exact (hk2.from_ (ak.rfl_.next E13)).rd 0 rfl)) ?_))))));refine aa (aX dD rfl) (aa (aj gJ rfl) (aa (ar a8 rfl (by exact (hk2.from_ (ak.rfl_.next E13)).rd 1 rfl)) ?_));refine aa (aX dD rfl) (aa (oA rfl rfl) (j5 (t:=33) (v:=.int _ _) (v':=.int .i64 ((max vs.length ds.length:Nat):Int)) rfl (by congr 1;omega) ?_));refine asi rfl (ah (ae (ai (ag (mvi rfl (aa (aW (b:=32) rfl rfl (by omega)) (aa (fh (b:=1) rfl rfl (by omega)) (aa (n9 (b:=32) rfl rfl (by omega)) (asi rfl (ah (ae (ai (ag (mvi rfl ?_))))))))))))));refine mvi rfl (aa (aW (b:=1) rfl rfl (by omega)) (aG jW (ni (pick/3) _ _ (by omega) (by omega) (by omega)) ?_));rintro v42 w7 ⟨rfl,E42⟩;have hz1:=Int.emod_nonneg (pick/3) (show (((max vs.length ds.length+31)/32+1:Nat):Int)≠0 by omega);have hz2:=Int.emod_lt_of_pos (pick/3) (show (0:Int)<(((max vs.length ds.length+31)/32+1:Nat):Int) by omega);obtain ⟨q,hq,hq2⟩:∃ q:Nat,(pick/3)%(((max vs.length ds.length+31)/32+1:Nat):Int)=(q:Int)∧q≤(max vs.length ds.length+31)/32:=⟨((pick/3)%(((max vs.length ds.length+31)/32+1:Nat):Int)).toNat,by omega,by omega⟩;rw [show max vs.length ds.length+32-1=max vs.length ds.length+31 by omega,hq];refine mvt rfl (aa (aI rfl rfl) (aa (aI rfl rfl) (asi rfl (asi rfl (ah (ae (ai (ag (aa (el (cs:=[_,_]) gL gK rfl (by exact (hk2.from_ ((ak.rfl_.next E13).next E42)).whole)) ?_)))))))));refine mvi rfl (aa (n_ (b:=32) rfl rfl (by omega)) ?_);have hB48:ak w w7:=(((ak.rfl_.next E2).next E13).next E42);refine aG ny (n3 VA DA vc dc vs ds (q*32) _ (hv.from_ (((ak.rfl_.next E2).next E13).next E42)) (hd.from_ (((ak.rfl_.next E2).next E13).next E42)) hvl hdl (by omega)) ?_;rintro v48 w8 ⟨⟨A48,c48,rfl,ho48⟩,E48⟩;refine ass rfl (ah (ae (aA (a_ (v:=.slice _ _ _) rfl rfl ?_))));have e1:fP vs ds pick=jd vs ds (q*32):=by unfold fP;rw [if_neg (by omega),if_neg (by omega),hq];rfl
 rw [e1];exact ⟨⟨A48,c48,_,rfl,(fW _ _ _).symm,iM ho48 hB48.size⟩,((((ak.rfl_.next E2).next E13).next E42).next E48)⟩
theorem fV:cF prog 22=some (53,2,40,(.agg #[.string ⟨#[]⟩,.slice none 0 0])):=by kernel_rfl
theorem jB:bU prog 35=some (3,1):=by kernel_rfl
theorem nr:gN prog 63=some (.agg #[.string ⟨#[]⟩,.slice none 0 0,.slice none 0 0]):=by kernel_rfl
theorem ns:aO prog 33=true:=by kernel_rfl
theorem ga:(bU prog 35).isSome=true:=by kernel_rfl
theorem je:aO prog 34=true:=by kernel_rfl
def afB (f:Af):ByteArray×List Nat:=(f.nm,f.bs)
def fO:List Fe→List Int→List (ByteArray×List Nat)
 |[],_=>[]
 |e::D,ps=>if e.2.1=e.2.2 then (e.1,e.2.1)::fO D ps else (e.1,fP e.2.1 e.2.2 (ps.headD 0))::fO D ps.tail
def jc (w:World) (N:Nat) (f:Af):Prop:=w.ownsRow N 5 1 (.slice f.A f.bs.length f.c) f.bs.length (aT f.bs)∧(∀ b∈f.bs,b<256)∧f.nm.size≤140737488351232∧f.bs.length≤1048576
theorem jc.from_ {w w':World} {N:Nat} {f:Af} (h:jc w N f) (hF:ak w w'):jc w' N f:=⟨h.1.kept_from hF,h.2⟩
theorem jc.aside {w w':World} {N e s n c:Nat} {A:Option Addr} {xs:List Value} {f:Af} (h:jc w N f) (ho:w.ownsRow N e s (.slice A n c) n xs) (hne:5≠e) (hg:w.grownBy w' (A.map (·.block))):jc w' N f:=⟨nJ h.1 hg (nK ho h.1 hne.symm),h.2⟩
theorem nY {D:List Fe} {i:Nat} (hi:i<D.length) {ps:List Int} (h:D[i].2.1=D[i].2.2):fO (D.drop i) ps=(D[i].1,D[i].2.1)::fO (D.drop (i+1)) ps:=by
 rw [List.drop_eq_getElem_cons hi];rw [fO,if_pos h]
theorem nw {D:List Fe} {i:Nat} (hi:i<D.length) {ps:List Int} (h:¬ D[i].2.1=D[i].2.2):fO (D.drop i) ps=(D[i].1,fP D[i].2.1 D[i].2.2 (ps.headD 0))::fO (D.drop (i+1)) ps.tail:=by
 rw [List.drop_eq_getElem_cons hi];rw [fO,if_neg h]
theorem nG {w:World} {g t:Nat} {a b c:Value} (h:Blk w g t #[a,b,c]):w.rangeAt g (0+1) [b,c]:=fun j v hv=>by
 match j,hv with
 |0,hv=>exact h.whole 1 v hv
 |1,hv=>exact h.whole 2 v hv
 |j+2,hv=>simp at hv
theorem oc {w:World} {b o c:Nat} {a:Int} {l:List Int} (h:cr iV w (some ⟨b,o,none⟩) (a::l)) (hc:(a::l).length≤c):cr iV w (dS (some ⟨b,o,none⟩) c 1 1) l:=fun h0=>by
 obtain ⟨b2,o2,e,hh⟩:=h (by simp);cases e;refine ⟨b,o+1,?_,fun i hi=>?_⟩
 ·unfold dS;rw [if_neg (by simp at hc;omega)];rfl
 ·have:=hh (i+1) (by simpa using hi);rw [show o+1+i=o+(i+1) by omega];simpa using this
theorem nX (U:Nat→Prop) (d:Nat) (D:List Fe) (fu:Nat) (off:Bool) (w:World) (hd:dk w U d D fu off) (PA:Option Addr) (pc pn:Nat) (ps:List Int) (hr:cr iV w PA ps) (hpn:pn=ps.length) (hpc:ps.length≤pc) (hpc9:pc≤9223372036854775807) (hpb:∀ q∈ps,-9223372036854775808≤q∧q≤9223372036854775807) (hnms:∀ e∈D,e.1.size≤140737488351232) :
 Rt prog 16 [.pointer (some ⟨d,0,none⟩),.slice PA pn pc] w (fun v w'=>(∃ A' c' n,∃ gs:List Af,v=.slice A' n c'∧n=gs.length∧gs.map afB=fO D ps∧w'.ownsRow w.heap.size 53 2 (.slice A' n c') n (gs.flatMap afV)∧∀ g∈gs,jc w' w.heap.size g)∧ak w w'):=by
 subst hpn;have hd0:=hd;obtain ⟨fs,Ap,cp,ca,h,hD,hok,hfu0,hU⟩:=hd;subst hD;obtain ⟨hs,hl,hz⟩:=hok;rw [aF] at hl;refine enter (n:=52) Try.func16 rfl rfl rfl (ai (ag (ass rfl (ah (ae (ai (ag (ass rfl (ah (ae (ai (ai (ag (mvp rfl (aa (aB rfl) (aa (aj aV rfl) ?_))))))))))))))));refine aa (ar bM rfl (by exact (h.blk.from_ ak.rfl_).rd 0 rfl)) ?_;refine aa (aX c6 rfl) (mvi rfl (ah (ae (a7 (cJ (G:=Nat×List Af×Option Addr×Nat×Option Addr×List Int×Nat) [7,8,9,16,17,18,19,20,21,22,23,24,25,26,27,28,29,30,31,32,33,34,35,36,37,38,39,40,41,42,43,44,45,46,47,48,49,50] (fun (i,_,A5,c5,Q,qs,qc)=>[(1,.slice Q qs.length qc),(5,.slice A5 i c5),(15,.int .i64 (i:Nat))]) (fun (i,gs,A5,c5,Q,qs,qc) w'=>i≤fs.length∧gs.length=i∧fO (aH fs) ps=gs.map afB++fO ((aH fs).drop i) qs∧cr iV w Q qs∧qs.length≤qc∧qc≤9223372036854775807∧(∀ q∈qs,-9223372036854775808≤q∧q≤9223372036854775807)∧w'.ownsRow w.heap.size 53 2 (.slice A5 i c5) i (gs.flatMap afV)∧(∀ g∈gs,jc w' w.heap.size g)∧ak w w') (fun (i,_)=>fs.length-i) ((0,[],none,0,PA,ps,pc)) ⟨rfl,rfl,rfl,trivial⟩ ?_ ?_)))))
 ·exact ⟨Nat.zero_le _,rfl,rfl,hr,hpc,hpc9,hpb,World.ownsRow_nil _ _ _ _,fun g hg=>(by cases hg),ak.rfl_⟩
 rintro ⟨i,gs,A5,c5,Q,qs,qc⟩ ρ1 w1 ⟨hi,hgl,hcl,hrq,hqc,hqc9,hqb,ho,hgs,hB⟩;refine ai (ag (aa (bG rfl rfl) (ah (ae (ai (mC rfl (fun Q2=>?_) (fun Q2=>?_)))))))
 ·have hil:i<fs.length:=by omega
  have hila:i<(aH fs).length:=by rw [aF];exact hil
  obtain ⟨bp,op,rfl,hcd⟩:=(gU h.row).2 (by omega);have hce:=hcd i hil;have hfi:=h.ok _ (List.getElem_mem hil);have hzi:=hz _ (List.getElem_mem hila);rw [aY] at hzi;have hz1:fs[i].vs.length≤1048576:=hzi.1;have hz2:fs[i].ds.length≤1048576:=hzi.2;have hnm:fs[i].nm.size≤140737488351232:=by have:=hnms _ (List.getElem_mem hila);rwa [aY] at this
  refine aD (ae (ai (a7 (ai (ag (aa (aJ aM rfl rfl (by omega)) (aa (el (cs:=[_,_,_]) gv gu rfl (by exact dW hB hce)) ?_)))))));refine j7 nr ?_;intro b7 w3 E7 hb7 hk7;have hg7:w.heap.size≤b7:=by rw [hb7];exact (hB).size
  refine kX (vs:=[_,_,_]) gu rfl rfl (by simp [Value.oneCell']) (hk7) rfl ?_;intro w4 O4 P4;have hF7:ak _ w4:=E7.only O4 (by rw [hb7];exact Nat.le_refl _);replace ho:=ho.kept_from hF7;replace hgs:=fun g hg=>(hgs g hg).from_ hF7
  refine ah (ae (ai (ag (aa (aj eS rfl) (aa (aj cm rfl) (aa (ar a8 rfl (by exact (P4.from_ ak.rfl_).rd 1 rfl)) ?_))))));replace ho:=ho.kept_from (ak.rfl_);replace hgs:=fun g hg=>(hgs g hg).from_ (ak.rfl_)
  replace P4:=P4.from_ (ak.rfl_);have hz22:=(((hB.next E7).only O4 (hg7))).size;refine aG eh (aP fs[i].vA fs[i].vc fs[i].vs.length fs[i].vs _ (hfi.v.from_ ((hB.next E7).only O4 (hg7))) rfl (by omega)) ?_;rintro v22 w5 ⟨⟨A22,c22,rfl,ho22⟩,E22⟩;replace ho:=ho.kept_from E22;replace hgs:=fun g hg=>(hgs g hg).from_ E22
  replace P4:=P4.from_ E22;have hodx:jc w5 w.heap.size ⟨fs[i].nm,A22,c22,fs[i].vs⟩:=⟨iM ho22 hz22,hfi.v.bt,hnm,hz1⟩;refine ass rfl (ah (ae (ai (ai (ag (aa (aj eS rfl) (aa (aj cm rfl) (aa (ar a8 rfl (by exact (P4.from_ ak.rfl_).rd 1 rfl)) ?_))))))));refine aa (aj eS rfl) (aa (aj gJ rfl) (aa (ar a8 rfl (by exact (P4.from_ ak.rfl_).rd 2 rfl)) ?_));refine aG ns (nL fs[i].vA fs[i].dA fs[i].vc fs[i].dc _ _ fs[i].vs fs[i].ds _ (hfi.v.from_ (((hB.next E7).only O4 (hg7)).next E22)) (hfi.d.from_ (((hB.next E7).only O4 (hg7)).next E22)) rfl rfl) ?_;rintro v29 w6 ⟨rfl,rfl⟩;refine aa (fx rfl) (ah (ae (aE rfl (fun Q7=>?_) (fun Q7=>?_))))
  ·with_reducible (replace Q7:=jJ Q7;replace Q7:=dF_ Q7)
   have hne:¬ fs[i].vs=fs[i].ds:=by simpa using Q7
   refine ai (ag (asi rfl (ah (ae (ai (ai (ag (mvs rfl (aa (aX ga rfl) (aa (bh rfl rfl) (ah (ae (mC rfl (fun Q8=>?_) (fun Q8=>?_))))))))))))))
   ·obtain ⟨pk,qn,rfl⟩:∃ a b,qs=a::b:=by cases qs with | nil=>(simp at Q8) | cons a b=>exact ⟨a,b,rfl⟩
    obtain ⟨bq,oq,rfl,hcq⟩:=hrq (by simp);have hq0:=hqb pk (List.mem_cons_self ..);obtain ⟨Qn,hQn⟩:∃ x,x=dS (some ⟨bq,oq,none⟩) qc 1 1:=⟨_,rfl⟩;obtain ⟨qm,hqm⟩:∃ x,x=qc-1:=⟨_,rfl⟩;have hrn:=oc hrq hqc;rw [←hQn] at hrn;have hnc:qn.length≤qm:=by rw [hqm];simp at hqc;omega
    have hnc9:qm≤9223372036854775807:=by omega
    have hnb:∀ q∈qn,-9223372036854775808≤q∧q≤9223372036854775807:=fun q hq=>hqb q (List.mem_cons_of_mem _ hq)
    have hpk:=hq0;obtain ⟨bsC,hbsC⟩:∃ l,l=fP fs[i].vs fs[i].ds pk:=⟨_,rfl⟩;have hcr0:fO ((aH fs).drop i) (pk::qn)=(fs[i].nm,bsC)::fO ((aH fs).drop (i+1)) qn:=by rw [nw hila (by rw [aY];exact hne),aY,hbsC];rfl
    apply bZ 7 [(34,eqp _),(35,eqp _),(36,eqp (.int .i64 pk)),(37,eqp _),(38,eqp (.slice Qn qn.length qm)),(9,eqp _),(1,eqp _)] (by repeat first | exact ck | refine cj ?_ | refine bS ?_) (by kernel_rfl) (by kernel_rfl) ⟨af _,af _,af _,af _,af _,af _,af _,trivial⟩
    case hop=>
     constructor
     ·rintro-w10 D10;exact al (av (v:=.slice _ _ _) rfl) rfl
     constructor
     ·rintro-w11 D11;rintro _ rfl;exact al (gC jB rfl rfl (by omega)) rfl
     constructor
     ·rintro-w12 D12;rintro _ rfl;exact al (ar (v:=.int .i64 pk) eD rfl (cg ((((hB.next E7).only O4 (hg7)).next E22).next D12) (by have h9:=hcq 0 (by simp);exact h9))) rfl
     constructor
     ·rintro-w13 D13;exact al (av (v:=.slice _ _ _) rfl) rfl
     constructor
     ·rintro-w14 D14;rintro _ rfl;exact al (cn (v':=.slice Qn qn.length qm) (bJ (l:=1) (h:=(pk::qn).length) jB rfl (.inr ⟨_,_,_,rfl,rfl,rfl⟩) (.inl ⟨rfl,rfl⟩) (by simp) hqc) (by rw [hQn,hqm];rfl)) rfl
     constructor
     ·rintro-w15 D15;rintro v15_36 rfl;exact al (ct (v:=.int _ _) rfl) rfl
     constructor
     ·rintro-w16 D16;rintro v16_38 rfl;exact al (ct (v:=.slice _ _ _) rfl) rfl
     exact trivial
    case hend=>
     intro w17 D17;rintro _ rfl _ rfl v36 rfl _ rfl v38 rfl _ rfl _ rfl;show St ..;refine ah (ae (ag (aa (aj eS rfl) (aa (el (cs:=[_,_]) gL gK rfl (by exact nG (P4.from_ (ak.rfl_.next D17)))) ?_))));refine mvi rfl ?_;replace ho:=ho.kept_from ((ak.rfl_.next D17));replace hgs:=fun g hg=>(hgs g hg).from_ ((ak.rfl_.next D17))
     replace P4:=P4.from_ ((ak.rfl_.next D17));have hz42:=(((((hB.next E7).only O4 (hg7)).next E22).next D17)).size;refine aG je (nj fs[i].vA fs[i].dA fs[i].vc fs[i].dc fs[i].vs fs[i].ds _ _ (hfi.v.from_ ((((hB.next E7).only O4 (hg7)).next E22).next D17)) (hfi.d.from_ ((((hB.next E7).only O4 (hg7)).next E22).next D17)) (by omega) (by omega) hpk) ?_;rintro v42 w18 ⟨⟨A42,c42,n42,rfl,hn42,ho42⟩,E42⟩;replace ho:=ho.kept_from E42;replace hgs:=fun g hg=>(hgs g hg).from_ E42
     replace P4:=P4.from_ E42;rw [←hbsC] at hn42 ho42;subst hn42;obtain ⟨g2,hg2⟩:∃ g2:Af,g2=⟨fs[i].nm,A42,c42,bsC⟩:=⟨_,rfl⟩;have hod:jc w18 w.heap.size g2:=by rw [hg2];exact ⟨iM ho42 hz42,by show ∀ b∈bsC,b<256;rw [hbsC];exact nk hfi.v.bt hfi.d.bt,hnm,by show bsC.length≤1048576;rw [hbsC];exact Nat.le_trans mE (Nat.max_le.2 ⟨hz1,hz2⟩)⟩
     have hcr:=hcr0;rw [show (fs[i].nm,bsC)=afB g2 by rw [hg2] <;> rfl] at hcr;refine ass rfl (ah (ae (ag (mvs rfl (aa (aj ir rfl) (aa (ar bl rfl (by exact (P4.from_ ak.rfl_).rd 0 rfl)) ?_))))));refine mvs rfl ?_;refine aa (cn (v':=.agg (afV g2).toArray) (cM (by kernel_rfl)) (by rw [hg2] <;> rfl)) ?_;have hM48:ak _ w18:=ak.rfl_;refine j6 fV rfl rfl rfl ?_;intro b48 w19 E48 hb48 hk48;have hM49:ak _ w19:=(ak.rfl_.next E48);have ho49p:=ho.kept_from hM49;replace hgs:=fun g hg=>(hgs g hg).from_ hM49
     replace hod:=hod.from_ hM49;refine jy (a0:=w) (news:=afV g2) fV rfl (by decide) rfl ho49p ((((((hB.next E7).only O4 (hg7)).next E22).next D17).next E42).next E48) rfl rfl (fun _=>⟨b48,0,rfl,hk48.whole⟩) (fun h=>by cases h) (mK g2) (by omega) (by omega) ?_;intro A49 c49 w20 ho49 B49 hg49;refine ass rfl (ah (bk (ae (ag (aa (aW (b:=1) rfl rfl (by omega)) (mvi rfl (ah ?_)))))));refine bo ((i+1,gs++[g2],A49,c49,Qn,qn,qm)) ⟨(by first | rfl | (rw [hqn] <;> rfl)),rfl,(by first | rfl | (refine bw ?_;omega)),trivial⟩ (by (iterate 84 refine aR rfl ?_);exact aZ) ⟨?_,?_⟩
     ·refine ⟨by omega,by rw [List.length_append,hgl];rfl,?_,hrn,hnc,hnc9,hnb,by rw [List.flatMap_append];simpa using ho49,fun g hg=>?_,B49⟩
      ·(rw [hcl,hcr,List.map_append,List.append_assoc];try rfl)
      ·rcases List.mem_append.1 hg with hg | hg
       ·exact (hgs g hg).aside ho49p (by decide) hg49
       ·rw [List.mem_singleton.1 hg];exact hod.aside ho49p (by decide) hg49
     ·show fs.length-(i+1)<fs.length-i;omega
   obtain rfl:qs=[]:=by cases qs with | nil=>rfl | cons a b=>(simp at Q8 <;> omega)
   have hpk:(-9223372036854775808:Int)≤0∧(0:Int)≤9223372036854775807:=by decide
   obtain ⟨bsC,hbsC⟩:∃ l,l=fP fs[i].vs fs[i].ds 0:=⟨_,rfl⟩;obtain ⟨qn,hqn⟩:∃ x:List Int,x=[]:=⟨_,rfl⟩;obtain ⟨Qn,rfl⟩:∃ x,x=Q:=⟨_,rfl⟩;obtain ⟨qm,rfl⟩:∃ x,x=qc:=⟨_,rfl⟩;have hrn:=hrq;rw [←hqn] at hrn;have hnc:qn.length≤qm:=by rw [hqn];exact hqc
   have hnc9:=hqc9;have hnb:∀ q∈qn,-9223372036854775808≤q∧q≤9223372036854775807:=by rw [hqn];exact hqb
   have hcr0:fO ((aH fs).drop i) []=(fs[i].nm,bsC)::fO ((aH fs).drop (i+1)) qn:=by rw [nw hila (by rw [aY];exact hne),aY,hqn,hbsC];rfl
   refine aD (ae (ag (aa (aj eS rfl) (aa (el (cs:=[_,_]) gL gK rfl (by exact nG (P4.from_ ak.rfl_))) ?_))));refine mvi rfl ?_;replace ho:=ho.kept_from (ak.rfl_);replace hgs:=fun g hg=>(hgs g hg).from_ (ak.rfl_)
   replace P4:=P4.from_ (ak.rfl_);have hz42:=((((hB.next E7).only O4 (hg7)).next E22)).size;refine aG je (nj fs[i].vA fs[i].dA fs[i].vc fs[i].dc fs[i].vs fs[i].ds _ _ (hfi.v.from_ (((hB.next E7).only O4 (hg7)).next E22)) (hfi.d.from_ (((hB.next E7).only O4 (hg7)).next E22)) (by omega) (by omega) hpk) ?_;rintro v42 w21 ⟨⟨A42,c42,n42,rfl,hn42,ho42⟩,E42⟩;replace ho:=ho.kept_from E42;replace hgs:=fun g hg=>(hgs g hg).from_ E42
   replace P4:=P4.from_ E42;rw [←hbsC] at hn42 ho42;subst hn42;obtain ⟨g2,hg2⟩:∃ g2:Af,g2=⟨fs[i].nm,A42,c42,bsC⟩:=⟨_,rfl⟩;have hod:jc w21 w.heap.size g2:=by rw [hg2];exact ⟨iM ho42 hz42,by show ∀ b∈bsC,b<256;rw [hbsC];exact nk hfi.v.bt hfi.d.bt,hnm,by show bsC.length≤1048576;rw [hbsC];exact Nat.le_trans mE (Nat.max_le.2 ⟨hz1,hz2⟩)⟩
   have hcr:=hcr0;rw [show (fs[i].nm,bsC)=afB g2 by rw [hg2] <;> rfl] at hcr;refine ass rfl (ah (ae (ag (mvs rfl (aa (aj ir rfl) (aa (ar bl rfl (by exact (P4.from_ ak.rfl_).rd 0 rfl)) ?_))))));refine mvs rfl ?_;refine aa (cn (v':=.agg (afV g2).toArray) (cM (by kernel_rfl)) (by rw [hg2] <;> rfl)) ?_;have hM48:ak _ w21:=ak.rfl_;refine j6 fV rfl rfl rfl ?_;intro b48 w22 E48 hb48 hk48;have hM49:ak _ w22:=(ak.rfl_.next E48);have ho49p:=ho.kept_from hM49;replace hgs:=fun g hg=>(hgs g hg).from_ hM49
   replace hod:=hod.from_ hM49;refine jy (a0:=w) (news:=afV g2) fV rfl (by decide) rfl ho49p (((((hB.next E7).only O4 (hg7)).next E22).next E42).next E48) rfl rfl (fun _=>⟨b48,0,rfl,hk48.whole⟩) (fun h=>by cases h) (mK g2) (by omega) (by omega) ?_;intro A49 c49 w23 ho49 B49 hg49;refine ass rfl (ah (bk (ae (ag (aa (aW (b:=1) rfl rfl (by omega)) (mvi rfl (ah ?_)))))));refine bo ((i+1,gs++[g2],A49,c49,Qn,qn,qm)) ⟨(by first | rfl | (rw [hqn] <;> rfl)),rfl,(by first | rfl | (refine bw ?_;omega)),trivial⟩ (by (iterate 77 refine aR rfl ?_);exact aZ) ⟨?_,?_⟩
   ·refine ⟨by omega,by rw [List.length_append,hgl];rfl,?_,hrn,hnc,hnc9,hnb,by rw [List.flatMap_append];simpa using ho49,fun g hg=>?_,B49⟩
    ·(rw [hcl,hcr,List.map_append,List.append_assoc];try rfl)
    ·rcases List.mem_append.1 hg with hg | hg
     ·exact (hgs g hg).aside ho49p (by decide) hg49
     ·rw [List.mem_singleton.1 hg];exact hod.aside ho49p (by decide) hg49
   ·show fs.length-(i+1)<fs.length-i;omega
  with_reducible (replace Q7:=c3 Q7;replace Q7:=dT_ Q7)
  have heq:fs[i].vs=fs[i].ds:=by simpa using Q7
  obtain ⟨Qn,rfl⟩:∃ x,x=Q:=⟨_,rfl⟩;obtain ⟨qn,rfl⟩:∃ x,x=qs:=⟨_,rfl⟩;obtain ⟨qm,rfl⟩:∃ x,x=qc:=⟨_,rfl⟩;have hrn:=hrq;have hnc:=hqc;have hnc9:=hqc9;have hnb:=hqb;obtain ⟨g2,hg2⟩:∃ g2:Af,g2=⟨fs[i].nm,A22,c22,fs[i].vs⟩:=⟨_,rfl⟩;have hod:=hodx;rw [←hg2] at hod;have hcr:fO ((aH fs).drop i) qn=afB g2::fO ((aH fs).drop (i+1)) qn:=by rw [nY hila (by rw [aY];exact heq),aY,hg2];rfl
  refine aD (ae (ag (mvs rfl (aa (aj ir rfl) (aa (ar bl rfl (by exact (P4.from_ ak.rfl_).rd 0 rfl)) ?_)))));refine mvs rfl ?_;refine aa (cn (v':=.agg (afV g2).toArray) (cM (by kernel_rfl)) (by rw [hg2] <;> rfl)) ?_;have hM48:ak _ w5:=ak.rfl_;refine j6 fV rfl rfl rfl ?_;intro b48 w24 E48 hb48 hk48;have hM49:ak _ w24:=(ak.rfl_.next E48);have ho49p:=ho.kept_from hM49;replace hgs:=fun g hg=>(hgs g hg).from_ hM49
  replace hod:=hod.from_ hM49;refine jy (a0:=w) (news:=afV g2) fV rfl (by decide) rfl ho49p ((((hB.next E7).only O4 (hg7)).next E22).next E48) rfl rfl (fun _=>⟨b48,0,rfl,hk48.whole⟩) (fun h=>by cases h) (mK g2) (by omega) (by omega) ?_;intro A49 c49 w25 ho49 B49 hg49;refine ass rfl (ah (bk (ae (ag (aa (aW (b:=1) rfl rfl (by omega)) (mvi rfl (ah ?_)))))));refine bo ((i+1,gs++[g2],A49,c49,Qn,qn,qm)) ⟨(by first | rfl | (rw [hqn] <;> rfl)),rfl,(by first | rfl | (refine bw ?_;omega)),trivial⟩ (by (iterate 68 refine aR rfl ?_);exact aZ) ⟨?_,?_⟩
  ·refine ⟨by omega,by rw [List.length_append,hgl];rfl,?_,hrn,hnc,hnc9,hnb,by rw [List.flatMap_append];simpa using ho49,fun g hg=>?_,B49⟩
   ·(rw [hcl,hcr,List.map_append,List.append_assoc];try rfl)
   ·rcases List.mem_append.1 hg with hg | hg
    ·exact (hgs g hg).aside ho49p (by decide) hg49
    ·rw [List.mem_singleton.1 hg];exact hod.aside ho49p (by decide) hg49
  ·show fs.length-(i+1)<fs.length-i;omega
 refine bY (aS (aS (fN (ae (ai (ag (mvs rfl (ass rfl (ah (ae (aA (a_ (v:=.slice _ _ _) rfl rfl ?_))))))))))));obtain rfl:i=fs.length:=by omega
 rw [List.drop_of_length_le (by rw [aF];exact Nat.le_refl _)] at hcl;exact ⟨⟨A5,c5,_,gs,rfl,hgl.symm,by rw [hcl,fO,List.append_nil],ho,hgs⟩,hB⟩
structure Ak where
 d:Int
 A:ByteArray
 B:ByteArray
 n:Int
 X:Option Addr
 xc:Nat
 xs:List Nat
 Y:Option Addr
 yc:Nat
 ys:List Int
def akV (x:Ak):List Value:=[.int .i64 x.d,.string x.A,.string x.B,.int .i64 x.n,.slice x.X x.xs.length x.xc,.slice x.Y x.ys.length x.yc]
structure j0 (w:World) (x:Ak):Prop where
 a:x.A.size≤140737488351232
 b:x.B.size≤140737488351232
 n:-9223372036854775808≤x.n∧x.n≤9223372036854775807
 rx:RB w x.X x.xc x.xs
 ry:cr iV w x.Y x.ys
 lx:x.xs.length≤140737488351232
 ly:x.ys.length≤140737488351232
 fy:∀ y∈x.ys,-9223372036854775808≤y∧y≤9223372036854775807
 cy:x.ys.length≤x.yc∧x.yc≤9223372036854775807
theorem j0.from_ {w w':World} {x:Ak} (h:j0 w x) (hF:ak w w'):j0 w' x:=⟨h.a,h.b,h.n,h.rx.from_ hF,h.ry.from_ hF,h.lx,h.ly,h.fy,h.cy⟩
theorem jf.from_ {w w':World} {x:Af} (h:jf w x) (hF:ak w w'):jf w' x:=⟨h.1.from_ hF,h.2⟩
abbrev jr:Ty:=.pr .str (.pr (.sl (.int .u8)) .unit)
abbrev lK:Ty:=.pr (.int .i64) (.pr .str (.pr .str (.pr (.int .i64) (.pr (.sl (.int .u8)) (.pr (.sl (.int .i64)) .unit)))))
abbrev k6:Ty:=.pr (.sl jr) (.pr (.sl lK) .unit)
theorem eW {α:Type} {n:Nat} {P:Nat→α→Prop} (h:∀ i,i<n→∃ x,P i x):∃ L:List α,L.length=n∧∀ i (hi:i<L.length),P i L[i]:=
 ⟨List.ofFn fun i:Fin n=>Classical.choose (h i i.2),by simp,fun i hi=>by
  rw [List.getElem_ofFn];exact Classical.choose_spec (h i (by simpa using hi))⟩
theorem lT {w:World} {c:Nat→Option Value} {xs:List Int} (h:(Ty.sl (.int .u8)).At w c xs):∃ (A:Option Addr) (cap:Nat) (l:List Nat),c 0=some (.slice A l.length cap)∧RB w A cap l∧l.length≤140737488351232:=by
 obtain ⟨A,cap,l,h0,hr,hb,hl,hc⟩:=jM h;obtain ⟨A',cap',h0',_,h3,_⟩:=h;rw [h0] at h0';simp only [Option.some.injEq,Value.slice.injEq] at h0';obtain ⟨rfl,_,rfl⟩:=h0';refine ⟨A,cap,l,h0,⟨hc,h3.2.1,fun hp=>?_,hb⟩,hl⟩;obtain ⟨b,o,e,hh⟩:=hr hp;refine ⟨b,o,e,fun j v hv=>?_⟩;unfold aT at hv;rw [List.getElem?_map] at hv;rcases Nat.lt_or_ge j l.length with hj | hj
 ·rw [List.getElem?_eq_getElem hj] at hv;simp only [Option.map_some,Option.some.injEq] at hv;rw [←hv];exact hh j hj
 ·rw [List.getElem?_eq_none hj] at hv;cases hv
theorem nZ {w:World} {c:Nat→Option Value} {xs:List Int} (h:(Ty.sl (.int .i64)).At w c xs) :
 ∃ (A:Option Addr) (cap:Nat),c 0=some (.slice A xs.length cap)∧cr iV w A xs∧(∀ x∈xs,-9223372036854775808≤x∧x≤9223372036854775807)∧xs.length*8≤140737488351232∧xs.length≤cap∧cap≤9223372036854775807:=by
 obtain ⟨A,cap,h0,hr,hb,hl,hc⟩:=lH h;obtain ⟨A',cap',h0',_,h3,_⟩:=h;rw [h0] at h0';simp only [Option.some.injEq,Value.slice.injEq] at h0';obtain ⟨rfl,_,rfl⟩:=h0';exact ⟨A,cap,h0,hr,hb,hl,hc,h3.2.1⟩
theorem l3 {w:World} {b a:Nat} {v0 v1:Value} (h0:w.cell? ⟨b,a+0,none⟩=some v0) (h1:w.cell? ⟨b,a+1,none⟩=some v1):w.rangeAt b a [v0,v1]:=fun j v hv=>by
 match j,hv with
 |0,hv=>simp at hv;subst hv;exact h0
 |1,hv=>simp at hv;subst hv;exact h1
 |j+2,hv=>simp at hv
theorem lZ {w:World} {b a:Nat} {v0 v1 v2 v3 v4 v5:Value} (h0:w.cell? ⟨b,a+0,none⟩=some v0) (h1:w.cell? ⟨b,a+1,none⟩=some v1) (h2:w.cell? ⟨b,a+2,none⟩=some v2) (h3:w.cell? ⟨b,a+3,none⟩=some v3) (h4:w.cell? ⟨b,a+4,none⟩=some v4) (h5:w.cell? ⟨b,a+5,none⟩=some v5):w.rangeAt b a [v0,v1,v2,v3,v4,v5]:=fun j v hv=>by
 match j,hv with
 |0,hv=>simp at hv;subst hv;exact h0
 |1,hv=>simp at hv;subst hv;exact h1
 |2,hv=>simp at hv;subst hv;exact h2
 |3,hv=>simp at hv;subst hv;exact h3
 |4,hv=>simp at hv;subst hv;exact h4
 |5,hv=>simp at hv;subst hv;exact h5
 |j+6,hv=>simp at hv
theorem kM {w:World} {c:Nat→Option Value} {xs:List jr.den} (h:(Ty.sl jr).At w c xs):∃ (A:Option Addr) (cap:Nat) (L:List Af),c 0=some (.slice A L.length cap)∧di 2 afV w A L∧(∀ f∈L,jf w f)∧L.length≤140737488351232:=by
 obtain ⟨A,cap,h0,hb,_,hi⟩:=h;have hb2:xs.length*40≤140737488351232:=hb;rcases Nat.eq_zero_or_pos (List.length xs) with hz | hz
 ·exact ⟨A,cap,[],by rw [h0,hz];rfl,fun h=>absurd h (by simp),fun f hf=>(by cases hf),by simp⟩
 ·obtain ⟨b,o,hA,_,hx⟩:=hi hz
  obtain ⟨L,hL,hP⟩:=eW (α:=Af) (n:=xs.length) (P:=fun i x=>w.rangeAt b (o+i*2) (afV x)∧jf w x) (fun i hi=>by
   obtain ⟨g0,g1,_⟩:=hx i _ (List.getElem?_eq_getElem hi);obtain ⟨X,xc,l,k0,k1,k2⟩:=lT g1;exact ⟨⟨_,X,xc,l⟩,l3 (a:=o+i*2) g0.1 k0,k1,g0.2,by show l.length≤_;omega⟩)
  refine ⟨A,cap,L,by rw [h0,hL],fun _=>⟨b,o,hA,fun i hi=>(hP i hi).1⟩,fun f hf=>?_,by omega⟩;obtain ⟨i,hi,rfl⟩:=List.getElem_of_mem hf;exact (hP i hi).2
theorem lJ {w:World} {c:Nat→Option Value} {xs:List lK.den} (h:(Ty.sl lK).At w c xs):∃ (A:Option Addr) (cap:Nat) (L:List Ak),c 0=some (.slice A L.length cap)∧di 6 akV w A L∧(∀ x∈L,j0 w x)∧L.length≤140737488351232:=by
 obtain ⟨A,cap,h0,hb,_,hi⟩:=h;have hb2:xs.length*96≤140737488351232:=hb;rcases Nat.eq_zero_or_pos (List.length xs) with hz | hz
 ·exact ⟨A,cap,[],by rw [h0,hz];rfl,fun h=>absurd h (by simp),fun f hf=>(by cases hf),by simp⟩
 ·obtain ⟨b,o,hA,_,hx⟩:=hi hz
  obtain ⟨L,hL,hP⟩:=eW (α:=Ak) (n:=xs.length) (P:=fun i x=>w.rangeAt b (o+i*6) (akV x)∧j0 w x) (fun i hi=>by
   obtain ⟨g0,g1,g2,g3,g4,g5,_⟩:=hx i _ (List.getElem?_eq_getElem hi);obtain ⟨X,xc,l,k0,k1,k2⟩:=lT g4;obtain ⟨Y,yc,m0,m1,m2,m3,m4⟩:=nZ g5;exact ⟨⟨_,_,_,_,X,xc,l,Y,yc,_⟩,lZ (a:=o+i*6) g0.1 g1.1 g2.1 g3.1 k0 m0,g1.2,g2.2,nO g3.2,k1,m1,k2,Nat.le_trans (Nat.le_mul_of_pos_right _ (by decide)) m3,m2,m4⟩)
  refine ⟨A,cap,L,by rw [h0,hL],fun _=>⟨b,o,hA,fun i hi=>(hP i hi).1⟩,fun f hf=>?_,by omega⟩;obtain ⟨i,hi,rfl⟩:=List.getElem_of_mem hf;exact (hP i hi).2
structure jY (w:World) (A B:Option Addr) (fs:List Af) (L:List Ak):Prop where
 rowF:di 2 afV w A fs
 okF:∀ f∈fs,jf w f
 lenF:fs.length≤140737488351232
 rowL:di 6 akV w B L
 okL:∀ x∈L,j0 w x
 lenL:L.length≤140737488351232
theorem jY.from_ {w w':World} {A B:Option Addr} {fs:List Af} {L:List Ak} (h:jY w A B fs L) (hF:ak w w'):jY w' A B fs L:=⟨h.rowF.from_ hF,fun f hf=>(h.okF f hf).from_ hF,h.lenF,h.rowL.from_ hF,fun x hx=>(h.okL x hx).from_ hF,h.lenL⟩
theorem kN {w:World} {cs:Array Value} {x:k6.den} (hs:cs.size=2) (h:k6.At w (fun j=>cs[j]?) x) :
 ∃ (A B:Option Addr) (ca cb:Nat) (fs:List Af) (L:List Ak),cs=#[.slice A fs.length ca,.slice B L.length cb]∧jY w A B fs L:=by
 obtain ⟨h1,h2,_⟩:=h;obtain ⟨A,ca,fs,a0,a1,a2,a3⟩:=kM h1;obtain ⟨B,cb,L,b0,b1,b2,b3⟩:=lJ h2;have e0:cs[0]? =some _:=a0;have e1:cs[1]? =some _:=b0;refine ⟨A,B,ca,cb,fs,L,?_,⟨a1,a2,a3,b1,b2,b3⟩⟩;obtain ⟨l⟩:=cs
 match l,hs with
 |[a,b],_=>
  simp only [List.getElem?_toArray,List.getElem?_cons_zero,List.getElem?_cons_succ,Option.some.injEq] at e0 e1;rw [e0,e1]
theorem gR {ops:Array Oper} {Q:Exit→Act→World→Prop} {rest:List Oper} {n:Fr} {L:List (Nat×Value)} {w:World} {ty:TypeId} {pos:String} {after:Array Edge} {d g m c:Nat} {x:Operand} {l:List Nat} (hd:prog.underlying 32=some (.slice 5)) (he:prog.underlying 5=some (.int .u8)) (hx:ev n L x=.slice (some ⟨g,0,none⟩) m c) (hb:Blk w g 5 (aT l).toArray) (hl:l.length≤9223372036854775807) (hbt:∀ b∈l,b<256)
 (k:∀ w',bI g w w'→RB w' (some ⟨g,0,none⟩) l.length l→St prog ops Q rest n ((d,.slice (some ⟨g,0,none⟩) m c)::L) w'):St prog ops Q (⟨some d,.convert 32 32 x,ty,pos,after,none⟩::rest) n L w:=by
 have hsh:w.shape? g=some (5,(aT l).toArray.size):=by
  unfold World.shape?;rw [show w.heap[g]? =some (.cells (aT l).toArray 5 (0,0)) from hb]
 have hh:∀ j,(w.freeze ⟨g,(aT l).toArray.size,none⟩ 1).heap[j]? =if g=j then some (.cells (aT l).toArray 5 ((aT l).toArray.size,(aT l).toArray.size+1)) else w.heap[j]? :=fun j=>by
  unfold World.freeze;rw [if_neg (by decide)];simp only [Array.getElem?_modify];split
  ·next e=>
   subst e;rw [show w.heap[g]? =some (.cells (aT l).toArray 5 (0,0)) from hb];rfl
  ·rfl
 refine aa (w':=w.freeze ⟨g,(aT l).toArray.size,none⟩ 1) (fun _ _ _ _ _=>?_) (k _ ?_ ⟨Nat.le_refl _,hl,fun _=>⟨g,0,rfl,fun j v hv=>?_⟩,hbt⟩)
 ·have key:(convert 32 32 (.slice (some ⟨g,0,none⟩) m c)).run prog w=.ok (.slice (some ⟨g,0,none⟩) m c) (w.freeze ⟨g,(aT l).toArray.size,none⟩ 1):=by
   simp [convert,run_underlying hd,run_underlying he,markStringish,hsh]
  simp [execOp,hx,key]
 ·exact ⟨by unfold World.freeze;rw [if_neg (by decide)],by unfold World.freeze;rw [if_neg (by decide)],by unfold World.freeze;rw [if_neg (by decide)],by unfold World.freeze;rw [if_neg (by decide)];simp,fun j hj=>by rw [hh,if_neg (fun e=>hj e.symm)]⟩
 ·unfold World.cell?;rw [hh,if_pos rfl];simpa using hv
theorem RB.row {w:World} {A:Option Addr} {c:Nat} {l:List Nat} (h:RB w A c l):cr bV w A l:=fun h0=>by
 obtain ⟨b,o,e,hc⟩:=h.at_ h0;exact ⟨b,o,e,fun i hi=>hc i _ (by unfold aT;rw [List.getElem?_map,List.getElem?_eq_getElem hi];rfl)⟩
theorem cl (e:Int) (w:World) :
 Rt prog 9 [.int .i64 e] w (fun v w'=>v=.int .i64 e∧w=w'):=by
 refine enter (n:=4) Try.func9 rfl rfl rfl (ai (ag (asi rfl (ah (ae (ai (ag (mvi rfl (asi rfl (ah (ae (aA (a_ (v:=.int _ _) rfl rfl (⟨rfl,rfl⟩))))))))))))))
theorem fb:dJ prog 35=some false:=by kernel_rfl
theorem bN:bT prog 25 0=some 0:=by kernel_rfl
theorem ch:dJ prog 22=some false:=by kernel_rfl
theorem bj:bT prog 25 1=some 1:=by kernel_rfl
theorem bB:dJ prog 23=some false:=by kernel_rfl
theorem dy:(bU prog 23).isSome=true:=by kernel_rfl
theorem cE:bU prog 23=some (37,6):=by kernel_rfl
theorem dQ:bT prog 37 4=some 4:=by kernel_rfl
theorem dP:bT prog 37 5=some 5:=by kernel_rfl
theorem fS:dJ prog 5=some false:=by kernel_rfl
theorem fR:prog.underlying 5=some (.int .u8):=by kernel_rfl
theorem ei:aO prog 8=true:=by kernel_rfl
theorem bm:aO prog 9=true:=by kernel_rfl
theorem dz:aO prog 10=true:=by kernel_rfl
theorem iv:aO prog 18=true:=by kernel_rfl
theorem iu:aO prog 20=true:=by kernel_rfl
theorem kB (A B:Option Addr) (ca cb:Nat) (fs:List Af) (L:List Ak) (w:World) (ha:jY w A B fs L) :
 Rt prog 7 [.agg #[.slice A fs.length ca,.slice B L.length cb]] w (fun v w'=>(∃ hv:Bool,v=.bool hv∧(hv=false→fs.length≤40∧(∀ j (h:j<fs.length),fs[j].bs.length≤10000)∧∀ j (h:j<L.length),j<40→L[j].xs.length≤10000∧L[j].ys.length≤10000))∧ak w w'):=by
 have hlF:=ha.lenF;have hlL:=ha.lenL;refine enter (n:=62) Try.func7 rfl rfl rfl (ai (ag (gB (v:=.agg _) rfl ?_)));intro b1 w1 E1 hb1 hk1;refine asb rfl (ah (ae (ai (ag (asi rfl (ah (ae (ai (ai (ag (asi rfl (ah (ae (a7 (cJ (G:=Nat×Nat) [6,7,8,9,10,11,12,13,14,15,16,17,18,19,20,21,22,23,24,25] (fun (m,i)=>[(3,.int .i64 (m:Nat)),(4,.int .i64 (i:Nat))]) (fun (m,i) w'=>i≤fs.length∧i≤40∧(∀ j (h:j<fs.length),j<i→fs[j].bs.length≤m)∧m≤i*1000000000000000∧Blk w' b1 25 #[.slice A fs.length ca,.slice B L.length cb]∧ak w w') (fun (_,i)=>fs.length-i) ((0,0)) ⟨rfl,rfl,trivial⟩ ?_ ?_)))))))))))))))
 ·exact ⟨Nat.zero_le _,Nat.zero_le _,fun j _ h=>absurd h (Nat.not_lt_zero _),by omega,hk1.from_ ak.rfl_,(ak.rfl_.next E1)⟩
 rintro ⟨m,i⟩ ρ2 w2 ⟨hi,hi40,hmx,hmb,hP,hB⟩;refine ai (ai (ag (mvi rfl (aa (aj bN rfl) (aa (ar ch rfl (by exact (hP.from_ ak.rfl_).rd 0 rfl)) ?_)))));refine aa (aX cx rfl) (aa (bG rfl rfl) (mvb rfl (mj (t:=11) rfl (fun Q3=>?_) (fun Q3=>?_))))
 ·refine ab rfl (mvi rfl (ab rfl (aa (bG rfl rfl) (aa (ax (v:=.bool _) rfl rfl) (ah (ae (mC rfl (fun Q4=>?_) (fun Q4=>?_))))))))
  ·have hil:i<fs.length:=by omega
   obtain ⟨bF,oF,rfl,hcF⟩:=ha.rowF (by omega);have hce:=hcF i hil;have hbf:=(ha.okF _ (List.getElem_mem hil)).2.2;refine aD (ae (ai (a7 (ag (mvi rfl (aa (aj bN rfl) (aa (ar ch rfl (by exact (hP.from_ ak.rfl_).rd 0 rfl)) ?_)))))));refine mvi rfl (aa (aJ dF rfl rfl (by omega)) (aa (aj bX rfl) (aa (ar a8 rfl (by exact cg hB (hce 1 _ rfl))) ?_)));refine aa (aX dD rfl) (aa (aW rfl rfl (by omega)) (asi rfl (ah (bk (ae (ag (mvi rfl (aa (aW (b:=1) rfl rfl (by omega)) (asi rfl (ah ?_))))))))));refine bo ((m+fs[i].bs.length,i+1)) ⟨(by first | rfl | (refine bw ?_;omega)),(by first | rfl | (refine bw ?_;omega)),trivial⟩ (by (iterate 45 refine aR rfl ?_);exact aZ) ⟨?_,?_⟩
   ·refine ⟨by omega,by omega,fun j h hj=>?_,by omega,hP.from_ ak.rfl_,hB⟩;rcases Nat.eq_or_lt_of_le (Nat.le_of_lt_succ hj) with e | e
    ·subst e;omega
    ·have:=hmx j h e;omega
   ·show fs.length-(i+1)<fs.length-i;omega
  refine bY (aS (aS (fN (ae (ai (ai (ag (asi rfl (ah (ae (a7 (cJ (G:=Nat×Nat) [26,27,28,29,30,31,32,33,34,35,36,37,38,39,40,41,42,43,44,45,46,47,48,49,50,51,52,53] (fun (m,k)=>[(3,.int .i64 (m:Nat)),(5,.int .i64 (k:Nat))]) (fun (m,k) w'=>k≤L.length∧k≤40∧(∀ j (h:j<fs.length),j<40→fs[j].bs.length≤m)∧(∀ j (h:j<L.length),j<k→L[j].xs.length≤m∧L[j].ys.length≤m)∧m≤40000000000000000+k*1000000000000000∧Blk w' b1 25 #[.slice A fs.length ca,.slice B L.length cb]∧ak w w') (fun (_,k)=>L.length-k) ((m,0)) ⟨rfl,rfl,trivial⟩ ?_ ?_))))))))))))
  ·exact ⟨Nat.zero_le _,Nat.zero_le _,fun j h h2=>hmx j h (by omega),fun j _ h=>absurd h (Nat.not_lt_zero _),by omega,hP.from_ ak.rfl_,hB⟩
  rintro ⟨m,k⟩ ρ5 w5 ⟨hk,hk40,hmf,hml,hmb,hP,hB⟩;refine ai (ai (ag (mvi rfl (aa (aj bj rfl) (aa (ar bB rfl (by exact (hP.from_ ak.rfl_).rd 1 rfl)) ?_)))));refine aa (aX dy rfl) (aa (bG rfl rfl) (mvb rfl (mj (t:=31) rfl (fun Q6=>?_) (fun Q6=>?_))))
  ·refine ab rfl (mvi rfl (ab rfl (aa (bG rfl rfl) (aa (ax (v:=.bool _) rfl rfl) (ah (ae (mC rfl (fun Q7=>?_) (fun Q7=>?_))))))))
   ·have hkl:k<L.length:=by omega
    obtain ⟨bL,oL,rfl,hcL⟩:=ha.rowL (by omega);have hce:=hcL k hkl;have hbx:=(ha.okL _ (List.getElem_mem hkl)).lx;have hby:=(ha.okL _ (List.getElem_mem hkl)).ly;refine aD (ae (ai (a7 ?_)));apply bZ 18 [(37,eqp _),(38,eqp _),(39,eqp _),(40,eqp _),(41,eqp _),(42,eqp _),(43,eqp (.slice L[k].X L[k].xs.length L[k].xc)),(44,eqp _),(45,eqp _),(46,eqp _),(47,eqp _),(48,eqp _),(49,eqp _),(50,eqp _),(51,eqp (.slice L[k].Y L[k].ys.length L[k].yc)),(52,eqp _),(53,eqp _),(3,eqp _)] (by repeat first | exact ck | refine cj ?_ | refine bS ?_) (by kernel_rfl) (by kernel_rfl) ⟨af _,af _,af _,af _,af _,af _,af _,af _,af _,af _,af _,af _,af _,af _,af _,af _,af _,af _,trivial⟩
    case hop=>
     constructor
     ·rintro-w9 D9;exact al (av (v:=.int _ _) rfl) rfl
     constructor
     ·rintro-w10 D10;exact al (aj bj rfl) rfl
     constructor
     ·rintro-w11 D11;rintro _ rfl;exact al (ar bB rfl (by exact (hP.from_ (ak.rfl_.next D11)).rd 1 rfl)) rfl
     constructor
     ·rintro-w12 D12;exact al (av (v:=.int _ _) rfl) rfl
     constructor
     ·rintro-w13 D13;rintro _ rfl _ rfl;exact al (aJ cE rfl rfl (by omega)) rfl
     constructor
     ·rintro-w14 D14;rintro _ rfl;exact al (aj dQ rfl) rfl
     constructor
     ·rintro-w15 D15;rintro _ rfl;exact al (ar (v:=.slice L[k].X L[k].xs.length L[k].xc) a8 rfl (cg (hB.next D15) (hce 4 _ rfl))) rfl
     constructor
     ·rintro-w16 D16;rintro v16_43 rfl;exact al (aX dD rfl) rfl
     constructor
     ·rintro-w17 D17;rintro _ rfl _ rfl;exact al (aW rfl rfl (by omega)) rfl
     constructor
     ·rintro-w18 D18;exact al (aj bj rfl) rfl
     constructor
     ·rintro-w19 D19;rintro _ rfl;exact al (ar bB rfl (by exact (hP.from_ (ak.rfl_.next D19)).rd 1 rfl)) rfl
     constructor
     ·rintro-w20 D20;exact al (av (v:=.int _ _) rfl) rfl
     constructor
     ·rintro-w21 D21;rintro _ rfl _ rfl;exact al (aJ cE rfl rfl (by omega)) rfl
     constructor
     ·rintro-w22 D22;rintro _ rfl;exact al (aj dP rfl) rfl
     constructor
     ·rintro-w23 D23;rintro _ rfl;exact al (ar (v:=.slice L[k].Y L[k].ys.length L[k].yc) fb rfl (cg (hB.next D23) (hce 5 _ rfl))) rfl
     constructor
     ·rintro-w24 D24;rintro v24_51 rfl;exact al (aX ga rfl) rfl
     constructor
     ·rintro-w25 D25;rintro _ rfl _ rfl;exact al (aW rfl rfl (by omega)) rfl
     constructor
     ·rintro-w26 D26;rintro _ rfl;exact al (ct (v:=.int _ _) rfl) rfl
     exact trivial
    case hend=>
     intro w27 D27;rintro _ rfl _ rfl _ rfl _ rfl _ rfl _ rfl v43 rfl _ rfl _ rfl _ rfl _ rfl _ rfl _ rfl _ rfl v51 rfl _ rfl _ rfl _ rfl;show St ..;refine ah (bk (ae (ag (mvi rfl (aa (aW (b:=1) rfl rfl (by omega)) (asi rfl (ah ?_)))))));refine bo ((m+L[k].xs.length+L[k].ys.length,k+1)) ⟨(by first | rfl | (refine bw ?_;omega)),(by first | rfl | (refine bw ?_;omega)),trivial⟩ (by (iterate 61 refine aR rfl ?_);exact aZ) ⟨?_,?_⟩
     ·refine ⟨by omega,by omega,fun j h hj=>by have:=hmf j h hj;omega,fun j h hj=>?_,by omega,hP.from_ (ak.rfl_.next D27),(hB.next D27)⟩;rcases Nat.eq_or_lt_of_le (Nat.le_of_lt_succ hj) with e | e
      ·subst e;omega
      ·have:=hml j h e;omega
     ·show L.length-(k+1)<L.length-k;omega
   refine bY (aS (aS (fN (ae (ai (ag (mvi rfl (aa (bh rfl rfl) (mvb rfl (mj (t:=56) rfl (fun Q28=>?_) (fun Q28=>?_)))))))))))
   ·refine ao rfl rfl (ao rfl rfl (ao rfl rfl (ao rfl rfl (aa (ax (v:=.bool _) rfl rfl) (asb rfl (ah (ae (aA (a_ (v:=.bool _) rfl rfl (⟨⟨_,rfl,fun h=>?_⟩,hB⟩))))))))))
    first
     |(cases h;done)
     |(have hq:=dF_ h
       exact ⟨by omega,fun j h=>by have:=hmf j h (by omega);omega,fun j h h40=>by have:=hml j h (by omega);omega⟩)
   refine ab rfl (aa (aj bN rfl) (ab rfl (aa (ar ch rfl (by exact (hP.from_ ak.rfl_).rd 0 rfl)) ?_)));refine ab rfl (aa (aX cx rfl) (ab rfl (aa (bh rfl rfl) (aa (aq (v:=.bool _) rfl rfl) (asb rfl (ah (ae (aA (a_ (v:=.bool _) rfl rfl (⟨⟨_,rfl,fun h=>?_⟩,hB⟩))))))))))
   first
    |(cases h;done)
    |(have hq:=dF_ h
      exact ⟨by omega,fun j h=>by have:=hmf j h (by omega);omega,fun j h h40=>by have:=hml j h (by omega);omega⟩)
  refine ao rfl rfl (ao rfl rfl (aa (aq (v:=.bool _) rfl rfl) (ah (ae (bA rfl (bY (aS (aS (fN (ae (ai (ag (mvi rfl (aa (bh rfl rfl) ?_))))))))))))));refine mvb rfl (mj (t:=56) rfl (fun Q29=>?_) (fun Q29=>?_))
  ·refine ao rfl rfl (ao rfl rfl (ao rfl rfl (ao rfl rfl (aa (ax (v:=.bool _) rfl rfl) (asb rfl (ah (ae (aA (a_ (v:=.bool _) rfl rfl (⟨⟨_,rfl,fun h=>?_⟩,hB⟩))))))))))
   first
    |(cases h;done)
    |(have hq:=dF_ h
      exact ⟨by omega,fun j h=>by have:=hmf j h (by omega);omega,fun j h h40=>by have:=hml j h (by omega);omega⟩)
  refine ab rfl (aa (aj bN rfl) (ab rfl (aa (ar ch rfl (by exact (hP.from_ ak.rfl_).rd 0 rfl)) ?_)));refine ab rfl (aa (aX cx rfl) (ab rfl (aa (bh rfl rfl) (aa (aq (v:=.bool _) rfl rfl) (asb rfl (ah (ae (aA (a_ (v:=.bool _) rfl rfl (⟨⟨_,rfl,fun h=>?_⟩,hB⟩))))))))))
  first
   |(cases h;done)
   |(have hq:=dF_ h
     exact ⟨by omega,fun j h=>by have:=hmf j h (by omega);omega,fun j h h40=>by have:=hml j h (by omega);omega⟩)
 refine ao rfl rfl (ao rfl rfl (aa (aq (v:=.bool _) rfl rfl) (ah (ae (bA rfl (bY (aS (aS (fN (ae (ai (ai (ag (asi rfl (ah (ae (a7 ?_)))))))))))))))));refine cJ (G:=Nat×Nat) [26,27,28,29,30,31,32,33,34,35,36,37,38,39,40,41,42,43,44,45,46,47,48,49,50,51,52,53] (fun (m,k)=>[(3,.int .i64 (m:Nat)),(5,.int .i64 (k:Nat))]) (fun (m,k) w'=>k≤L.length∧k≤40∧(∀ j (h:j<fs.length),j<40→fs[j].bs.length≤m)∧(∀ j (h:j<L.length),j<k→L[j].xs.length≤m∧L[j].ys.length≤m)∧m≤40000000000000000+k*1000000000000000∧Blk w' b1 25 #[.slice A fs.length ca,.slice B L.length cb]∧ak w w') (fun (_,k)=>L.length-k) ((m,0)) ⟨rfl,rfl,trivial⟩ ?_ ?_
 ·exact ⟨Nat.zero_le _,Nat.zero_le _,fun j h h2=>hmx j h (by omega),fun j _ h=>absurd h (Nat.not_lt_zero _),by omega,hP.from_ ak.rfl_,hB⟩
 rintro ⟨m,k⟩ ρ30 w30 ⟨hk,hk40,hmf,hml,hmb,hP,hB⟩;refine ai (ai (ag (mvi rfl (aa (aj bj rfl) (aa (ar bB rfl (by exact (hP.from_ ak.rfl_).rd 1 rfl)) ?_)))));refine aa (aX dy rfl) (aa (bG rfl rfl) (mvb rfl (mj (t:=31) rfl (fun Q31=>?_) (fun Q31=>?_))))
 ·refine ab rfl (mvi rfl (ab rfl (aa (bG rfl rfl) (aa (ax (v:=.bool _) rfl rfl) (ah (ae (mC rfl (fun Q32=>?_) (fun Q32=>?_))))))))
  ·have hkl:k<L.length:=by omega
   obtain ⟨bL,oL,rfl,hcL⟩:=ha.rowL (by omega);have hce:=hcL k hkl;have hbx:=(ha.okL _ (List.getElem_mem hkl)).lx;have hby:=(ha.okL _ (List.getElem_mem hkl)).ly;refine aD (ae (ai (a7 ?_)));apply bZ 18 [(37,eqp _),(38,eqp _),(39,eqp _),(40,eqp _),(41,eqp _),(42,eqp _),(43,eqp (.slice L[k].X L[k].xs.length L[k].xc)),(44,eqp _),(45,eqp _),(46,eqp _),(47,eqp _),(48,eqp _),(49,eqp _),(50,eqp _),(51,eqp (.slice L[k].Y L[k].ys.length L[k].yc)),(52,eqp _),(53,eqp _),(3,eqp _)] (by repeat first | exact ck | refine cj ?_ | refine bS ?_) (by kernel_rfl) (by kernel_rfl) ⟨af _,af _,af _,af _,af _,af _,af _,af _,af _,af _,af _,af _,af _,af _,af _,af _,af _,af _,trivial⟩
   case hop=>
    constructor
    ·rintro-w34 D34;exact al (av (v:=.int _ _) rfl) rfl
    constructor
    ·rintro-w35 D35;exact al (aj bj rfl) rfl
    constructor
    ·rintro-w36 D36;rintro _ rfl;exact al (ar bB rfl (by exact (hP.from_ (ak.rfl_.next D36)).rd 1 rfl)) rfl
    constructor
    ·rintro-w37 D37;exact al (av (v:=.int _ _) rfl) rfl
    constructor
    ·rintro-w38 D38;rintro _ rfl _ rfl;exact al (aJ cE rfl rfl (by omega)) rfl
    constructor
    ·rintro-w39 D39;rintro _ rfl;exact al (aj dQ rfl) rfl
    constructor
    ·rintro-w40 D40;rintro _ rfl;exact al (ar (v:=.slice L[k].X L[k].xs.length L[k].xc) a8 rfl (cg (hB.next D40) (hce 4 _ rfl))) rfl
    constructor
    ·rintro-w41 D41;rintro v41_43 rfl;exact al (aX dD rfl) rfl
    constructor
    ·rintro-w42 D42;rintro _ rfl _ rfl;exact al (aW rfl rfl (by omega)) rfl
    constructor
    ·rintro-w43 D43;exact al (aj bj rfl) rfl
    constructor
    ·rintro-w44 D44;rintro _ rfl;exact al (ar bB rfl (by exact (hP.from_ (ak.rfl_.next D44)).rd 1 rfl)) rfl
    constructor
    ·rintro-w45 D45;exact al (av (v:=.int _ _) rfl) rfl
    constructor
    ·rintro-w46 D46;rintro _ rfl _ rfl;exact al (aJ cE rfl rfl (by omega)) rfl
    constructor
    ·rintro-w47 D47;rintro _ rfl;exact al (aj dP rfl) rfl
    constructor
    ·rintro-w48 D48;rintro _ rfl;exact al (ar (v:=.slice L[k].Y L[k].ys.length L[k].yc) fb rfl (cg (hB.next D48) (hce 5 _ rfl))) rfl
    constructor
    ·rintro-w49 D49;rintro v49_51 rfl;exact al (aX ga rfl) rfl
    constructor
    ·rintro-w50 D50;rintro _ rfl _ rfl;exact al (aW rfl rfl (by omega)) rfl
    constructor
    ·rintro-w51 D51;rintro _ rfl;exact al (ct (v:=.int _ _) rfl) rfl
    exact trivial
   case hend=>
    intro w52 D52;rintro _ rfl _ rfl _ rfl _ rfl _ rfl _ rfl v43 rfl _ rfl _ rfl _ rfl _ rfl _ rfl _ rfl _ rfl v51 rfl _ rfl _ rfl _ rfl;show St ..;refine ah (bk (ae (ag (mvi rfl (aa (aW (b:=1) rfl rfl (by omega)) (asi rfl (ah ?_)))))));refine bo ((m+L[k].xs.length+L[k].ys.length,k+1)) ⟨(by first | rfl | (refine bw ?_;omega)),(by first | rfl | (refine bw ?_;omega)),trivial⟩ (by (iterate 61 refine aR rfl ?_);exact aZ) ⟨?_,?_⟩
    ·refine ⟨by omega,by omega,fun j h hj=>by have:=hmf j h hj;omega,fun j h hj=>?_,by omega,hP.from_ (ak.rfl_.next D52),(hB.next D52)⟩;rcases Nat.eq_or_lt_of_le (Nat.le_of_lt_succ hj) with e | e
     ·subst e;omega
     ·have:=hml j h e;omega
    ·show L.length-(k+1)<L.length-k;omega
  refine bY (aS (aS (fN (ae (ai (ag (mvi rfl (aa (bh rfl rfl) (mvb rfl (mj (t:=56) rfl (fun Q53=>?_) (fun Q53=>?_)))))))))))
  ·refine ao rfl rfl (ao rfl rfl (ao rfl rfl (ao rfl rfl (aa (ax (v:=.bool _) rfl rfl) (asb rfl (ah (ae (aA (a_ (v:=.bool _) rfl rfl (⟨⟨_,rfl,fun h=>?_⟩,hB⟩))))))))))
   first
    |(cases h;done)
    |(have hq:=dF_ h
      exact ⟨by omega,fun j h=>by have:=hmf j h (by omega);omega,fun j h h40=>by have:=hml j h (by omega);omega⟩)
  refine ab rfl (aa (aj bN rfl) (ab rfl (aa (ar ch rfl (by exact (hP.from_ ak.rfl_).rd 0 rfl)) ?_)));refine ab rfl (aa (aX cx rfl) (ab rfl (aa (bh rfl rfl) (aa (aq (v:=.bool _) rfl rfl) (asb rfl (ah (ae (aA (a_ (v:=.bool _) rfl rfl (⟨⟨_,rfl,fun h=>?_⟩,hB⟩))))))))))
  first
   |(cases h;done)
   |(have hq:=dF_ h
     exact ⟨by omega,fun j h=>by have:=hmf j h (by omega);omega,fun j h h40=>by have:=hml j h (by omega);omega⟩)
 refine ao rfl rfl (ao rfl rfl (aa (aq (v:=.bool _) rfl rfl) (ah (ae (bA rfl (bY (aS (aS (fN (ae (ai (ag (mvi rfl (aa (bh rfl rfl) ?_))))))))))))));refine mvb rfl (mj (t:=56) rfl (fun Q54=>?_) (fun Q54=>?_))
 ·refine ao rfl rfl (ao rfl rfl (ao rfl rfl (ao rfl rfl (aa (ax (v:=.bool _) rfl rfl) (asb rfl (ah (ae (aA (a_ (v:=.bool _) rfl rfl (⟨⟨_,rfl,fun h=>?_⟩,hB⟩))))))))))
  first
   |(cases h;done)
   |(have hq:=dF_ h
     exact ⟨by omega,fun j h=>by have:=hmf j h (by omega);omega,fun j h h40=>by have:=hml j h (by omega);omega⟩)
 refine ab rfl (aa (aj bN rfl) (ab rfl (aa (ar ch rfl (by exact (hP.from_ ak.rfl_).rd 0 rfl)) ?_)));refine ab rfl (aa (aX cx rfl) (ab rfl (aa (bh rfl rfl) (aa (aq (v:=.bool _) rfl rfl) (asb rfl (ah (ae (aA (a_ (v:=.bool _) rfl rfl (⟨⟨_,rfl,fun h=>?_⟩,hB⟩))))))))))
 first
  |(cases h;done)
  |(have hq:=dF_ h
    exact ⟨by omega,fun j h=>by have:=hmf j h (by omega);omega,fun j h h40=>by have:=hml j h (by omega);omega⟩)
theorem gm (w:World):Rt prog 8 [.slice none 0 0] w fun v w'=>(∃ d,v=.tuple #[.pointer (some ⟨d,0,none⟩),.int .i64 0]∧dk w' (fun k=>w.heap.size≤k∧k<w'.heap.size) d [] 0 false)∧ak w w':=
 (oC none 0 0 [] w (fun h=>absurd h (Nat.lt_irrefl _)) rfl (fun f hf=>by cases hf)).mono fun v w' h=>by
  obtain ⟨h,hF⟩:=h;rcases h with ⟨h,_⟩ | ⟨_,d,h,hd⟩
  ·exact absurd ⟨Nat.zero_le _,fun j hj=>absurd hj (Nat.not_lt_zero _)⟩ h
  ·exact ⟨⟨d,h,hd.wide fun k h1 h2=>⟨h1,h2⟩⟩,hF⟩
theorem my {α:Type} {a b:List α} {k:Nat} (hl:a.length=b.length) (hk:¬ k<a.length) (h:a.take k=b.take k):a=b:=by
 rw [List.take_of_length_le (by omega),List.take_of_length_le (by omega)] at h;exact h
theorem kW {α:Type} {a b:List α} {k:Nat} (ha:k<a.length) (hb:k<b.length) (h:a.take k=b.take k) (he:a[k]=b[k]):a.take (k+1)=b.take (k+1):=by
 rw [List.take_succ_eq_append_getElem ha,List.take_succ_eq_append_getElem hb,h,he]
theorem lU:okN ⟨#[97]⟩=true:=by decide
theorem mm:dI [] 0 false ⟨#[97]⟩ [97,98,99].length=0:=by unfold dI bE;rw [lU];rfl
theorem mI:ec [] 0 false ⟨#[97]⟩ [97,98,99]=[(⟨#[97]⟩,[97,98,99],[])]:=by unfold ec;rw [mm];rfl
theorem mH:dX (okN ⟨#[97]⟩) 0 false=false:=by rw [lU];rfl
theorem lN:dh [(⟨#[97]⟩,[97,98,99],[])] false ⟨#[97]⟩=0:=by unfold dh;rw [lU];rfl
theorem ml:cV [(⟨#[97]⟩,[97,98,99],[])] false ⟨#[97]⟩=[97,98,99]:=by unfold cV;rw [lN];rfl
theorem iU (A B:Option Addr) (ca cb:Nat) (a b:List Nat) (w:World) (ha:cr bV w A a) (hb:cr bV w B b) (hla:a.length*1≤140737488351232) :
 Rt prog 20 [.slice A a.length ca,.slice B b.length cb] w (fun v w'=>v=.bool (decide (a=b))∧ak w w'):=by
 refine enter (n:=26) Try.func20 rfl rfl rfl (ai (ag (asb rfl (ah (ae (ai (ai (ag (mvs rfl (aa (aX dD rfl) (mvs rfl (aa (aX dD rfl) (aa (bD rfl rfl) ?_)))))))))))));refine ah (ae (aE rfl (fun Q1=>?_) (fun Q1=>?_)))
 ·replace Q1:=jJ Q1;replace Q1:=gI Q1;refine ai (ag (asb rfl (ah (ae (aA (az (a_ (v:=.bool _) rfl rfl ?_)))))));exact ⟨by rw [decide_eq_false];rintro rfl;omega,ak.rfl_⟩
 replace Q1:=c3 Q1;replace Q1:=gH Q1;refine aD (ae (ai (ai (ag (asi rfl (ah (ae (a7 (cJ (G:=Nat) [4,11,12,13,14,15,16,17,18,19,20,21,22,23,24,25] (fun k=>[(5,.int .i64 (k:Nat))]) (fun k w'=>k≤a.length∧a.take k=b.take k∧ak w w') (fun k=>a.length-k) (0) ⟨rfl,trivial⟩ ?_ ?_)))))))))
 ·exact ⟨Nat.zero_le _,rfl,ak.rfl_⟩
 rintro k ρ2 w2 ⟨hk,ht,hB⟩;refine ai (ai (ag (mvi rfl (mvs rfl (aa (aX dD rfl) (aa (bG rfl rfl) (ah (ae (mC rfl (fun Q3=>?_) (fun Q3=>?_))))))))))
 ·obtain ⟨ba,oa,rfl,ca⟩:=ha (by omega);obtain ⟨bb,ob,rfl,cb⟩:=hb (by omega);refine aD (ae (ai (a7 (ai ?_))));apply kL 9 [(17,eqp _),(18,eqp _),(19,eqp _),(20,eqp _),(21,eqp _),(22,eqp _),(23,eqp _),(24,eqp _),(25,eqp _)] (by kernel_rfl) (by kernel_rfl) ⟨af _,af _,af _,af _,af _,af _,af _,af _,af _,trivial⟩
  case hop=>
   constructor
   ·intro w5 D5;exact al (av (v:=.slice _ _ _) rfl) rfl
   constructor
   ·intro w6 D6;exact al (av (v:=.int _ _) rfl) rfl
   constructor
   ·intro w7 D7;rintro _ rfl _ rfl;exact al (fc fa rfl rfl (by omega)) rfl
   constructor
   ·intro w8 D8;rintro _ rfl;exact al (ar fS rfl (by first | (exact cg (hB.next D8) (ca k (by omega))) | (exact cg (hB.next D8) (cb k (by omega))))) rfl
   constructor
   ·intro w9 D9;exact al (av (v:=.slice _ _ _) rfl) rfl
   constructor
   ·intro w10 D10;exact al (av (v:=.int _ _) rfl) rfl
   constructor
   ·intro w11 D11;rintro _ rfl _ rfl;exact al (fc fa rfl rfl (by omega)) rfl
   constructor
   ·intro w12 D12;rintro _ rfl;exact al (ar fS rfl (by first | (exact cg (hB.next D12) (ca k (by omega))) | (exact cg (hB.next D12) (cb k (by omega))))) rfl
   constructor
   ·intro w13 D13;rintro _ rfl _ rfl;exact al (bD rfl rfl) rfl
   exact trivial
  case hend=>
   intro w14 D14;rintro _ rfl _ rfl _ rfl _ rfl _ rfl _ rfl _ rfl _ rfl _ rfl;show St ..;refine ah (ae (aE rfl (fun Q15=>?_) (fun Q15=>?_)))
   ·replace Q15:=jJ Q15;replace Q15:=gI Q15;refine ai (ag (asb rfl (ah (ae (aA (aU (az (az (aU (az (a_ (v:=.bool _) rfl rfl ?_)))))))))));exact ⟨by rw [decide_eq_false];rintro rfl;exact absurd rfl (by assumption),(hB.next D14)⟩
   replace Q15:=c3 Q15;replace Q15:=gH Q15;refine aD (bk (ae (ag (mvi rfl (aa (eo rfl rfl (by omega)) (asi rfl (ah ?_)))))));refine bo (k+1) ⟨(by first | rfl | (refine bw ?_;omega)),trivial⟩ (by (iterate 33 refine aR rfl ?_);exact aZ) ⟨?_,?_⟩
   ·exact ⟨by omega,kW (by omega) (by omega) ht (by omega),(hB.next D14)⟩
   ·omega
 refine bY (aS (aS (fN (ae (ai (ag (asb rfl (ah (ae (aA (a_ (v:=.bool _) rfl rfl (⟨by rw [decide_eq_true (my (by omega) (by omega) ht)],hB⟩))))))))))))
theorem gP (w:World) :
 Rt prog 23 [] w (fun v w'=>v=.bool true∧ak w w'):=by
 refine enter (n:=38) Try.func23 rfl rfl rfl (ai (ag (asb rfl (ah (ae (ai (ag (aG ei (gm _) ?_))))))));rintro v6 w1 ⟨⟨d,rfl,hd6⟩,E6⟩;refine mvt rfl (aa (aI rfl rfl) (aa (aI rfl rfl) (asp rfl (asi rfl (ah (ae (ai (ai (ag (mvi rfl (aG bm (cl _ _) ?_)))))))))));rintro v10 w2 ⟨rfl,rfl⟩;refine aa (cG (bD rfl rfl) (bne_self_eq_false _)) (mvb rfl (ab rfl (mvp rfl (ab rfl (aa (cG (eF (by kernel_rfl) rfl rfl) rfl) (aa (aq (v:=.bool _) rfl rfl) (mvb rfl (ab rfl ?_))))))));refine mvp rfl (ab rfl ?_);have hB18:ak w w1:=(ak.rfl_.next E6);have hM18:ak _ w1:=(ak.rfl_.next E6);refine jj [.const (.int .u8 97),.const (.int .u8 98),.const (.int .u8 99)] [.int .u8 97,.int .u8 98,.int .u8 99] dG rfl rfl rfl rfl (by simp [Value.cells]) ?_;intro b18 w3 E18 hb18 hk18;refine ab rfl (gR (l:=[97,98,99]) eQ fR rfl hk18 (by decide) (by decide) ?_);intro w4 O19 hr19;have hd19:=(hd6.from_ E18).chg (O19.toChg (U:=fun k=>k=b18) rfl) (fun k h1 h2=>by have h3:k<_:=h1.2;have h4:k=b18:=h2;omega);refine ab rfl (aG dz (eO _ d [] 0 false _ hd19 ⟨#[97]⟩ (by decide) (some ⟨b18,0,none⟩) 3 3 [97,98,99] hr19 rfl (by decide) (fun _ q hq h=>by have h3:q<_:=h.2;have h4:b18=q:=Option.some.inj hq;omega)) ?_);rintro v20 w5 ⟨rfl,hd20,hC20⟩;rw [mm];rw [mI,mH] at hd20;refine ab rfl (aG bm (cl _ _) ?_);rintro v21 w6 ⟨rfl,rfl⟩;refine ab rfl (aa (cG (bD rfl rfl) (bne_self_eq_false _)) (aa (aq (v:=.bool _) rfl rfl) (ah (ae (bA rfl (aD (ae (ai (ag (mvp rfl (aG iv (lf _ d _ _ _ _ hd20 ⟨#[97]⟩ (by decide)) ?_)))))))))));rintro v26 w7 ⟨⟨A26,c26,rfl,ho26⟩,E26⟩;rw [ml] at ho26 ⊢;rw [lN];refine mvt rfl (aa (aI rfl rfl) (aa (aI rfl rfl) (ass rfl (asi rfl (ah (ae (ai (ag (mvi rfl (aG bm (cl _ _) ?_))))))))));rintro v30 w8 ⟨rfl,rfl⟩;refine aa (fv (bO rfl rfl) rfl) (mvb rfl (ab rfl (mvs rfl (ab rfl ?_))));have hB34:ak w w7:=(((((((ak.rfl_.next E6).next E18)).only O19 (by rw [hb18];exact hB18.size))).chg hC20 (fun k hk=>hk.1)).next E26);have hM34:ak _ w7:=ak.rfl_;refine jj [.const (.int .u8 97),.const (.int .u8 98),.const (.int .u8 99)] [.int .u8 97,.int .u8 98,.int .u8 99] dG rfl rfl rfl rfl (by simp [Value.cells]) ?_;intro b34 w9 E34 hb34 hk34;refine ab rfl (gR (l:=[97,98,99]) eQ fR rfl hk34 (by decide) (by decide) ?_);intro w10 O35 hr35;refine ab rfl (aG iu (iU A26 (some ⟨b34,0,none⟩) c26 3 [97,98,99] [97,98,99] _ ((cr.own ho26).2.from_ (((ak.rfl_.next E34)).only O35 (by rw [hb34];exact hM34.size))) hr35.row (by decide)) ?_);rintro v36 w11 ⟨rfl,E36⟩;refine aa (ax (v:=.bool _) rfl rfl) (asb rfl (ah (ae (aA (a_ (v:=.bool _) rfl rfl (⟨rfl,(((((((((((ak.rfl_.next E6).next E18)).only O19 (by rw [hb18];exact hB18.size))).chg hC20 (fun k hk=>hk.1)).next E26).next E34)).only O35 (by rw [hb34];exact hB34.size)).next E36)⟩))))))
abbrev nmF:ByteArray:=⟨#[102]⟩
abbrev syF:List Nat:=[115,121,110,99,101,100]
theorem nt {vs ds:List Nat} {n k:Nat} (hk:k<vs.length):(jd vs ds n)[k]? =if k<n then vs[k]? else if k<ds.length then ds[k]? else some 0:=by
 unfold jd;by_cases h:k<n
 ·rw [if_pos h,List.getElem?_append_left (by rw [List.length_take];omega),List.getElem?_take_of_lt h]
 ·rw [if_neg h,List.getElem?_append_right (by rw [List.length_take];omega),List.length_take,List.getElem?_drop];rw [show n+(k-min n vs.length)=k by omega];by_cases h2:k<ds.length
  ·rw [if_pos h2,List.getElem?_append_left (by rw [List.length_take];omega),List.getElem?_take_of_lt hk]
  ·rw [if_neg h2,List.getElem?_append_right (by rw [List.length_take];omega),List.length_take,List.getElem?_replicate,if_pos (by omega)]
structure nz (bs bb:List Nat):Prop where
 len:bb.length=6∨bb.length=6+bs.length
 hd:bb.take 6=syF
 tl:∀ k (h:k<bb.length),6≤k→bb[k]=0∨(∃ h2:k-6<bs.length,bb[k]=bs[k-6])
theorem ng (bs:List Nat):nz bs (syF++bs):=⟨.inr (by simp;omega),List.take_left' rfl,fun k h h6=>.inr ⟨by simp at h;omega,by rw [List.getElem_append_right (by simpa using h6)];rfl⟩⟩
theorem n5 (bs:List Nat) (p:Int):nz bs (fP (syF++bs) syF p):=by
 unfold fP;split
 ·exact ⟨.inl rfl,rfl,fun k h h6=>by have:k<6:=h;omega⟩
 ·split
  ·exact ng bs
  ·obtain ⟨q,hq⟩:∃ q:Nat,q=((p/3)%(((max (syF++bs).length syF.length+31)/32+1:Nat):Int)).toNat:=⟨_,rfl⟩;rw [←hq];have hV:(syF++bs).length=6+bs.length:=by simp;omega
   have hD:syF.length=6:=rfl;refine ⟨.inr (by rw [fW,hV]),?_,fun k h h6=>?_⟩
   ·apply List.ext_getElem?;intro k;by_cases hk:k<6
    ·rw [List.getElem?_take_of_lt hk,nt (by omega),if_pos (show k<syF.length from hk)];split
     ·rw [List.getElem?_append_left (show k<syF.length from hk)]
     ·rfl
    ·rw [List.getElem?_eq_none (by rw [List.length_take];omega),List.getElem?_eq_none (by omega)]
   ·have hk:k<(syF++bs).length:=by rwa [fW] at h
    have hg:=nt (vs:=syF++bs) (ds:=syF) (n:=q*32) hk;rw [List.getElem?_eq_getElem h] at hg;split at hg
    ·right
     rw [List.getElem?_append_right (show syF.length≤k from h6),List.getElem?_eq_getElem (show k-syF.length<bs.length by omega)] at hg;exact ⟨by omega,Option.some.inj hg⟩
    ·left
     rw [if_neg (by omega)] at hg;exact Option.some.inj hg
theorem nQ:okN nmF=true:=by decide
theorem oo:dI [] 0 false nmF syF.length=0:=by unfold dI bE;rw [nQ];rfl
theorem oH:ec [] 0 false nmF syF=[(nmF,syF,[])]:=by unfold ec;rw [oo];rfl
theorem ot:dX (okN nmF) 0 false=false:=by rw [nQ];rfl
theorem ou:fuB (okN nmF) 0=0:=by rw [nQ];rfl
theorem oi:opE [(nmF,syF,[])] (okN nmF) 0 false nmF=0:=by unfold opE;rw [nQ];rfl
theorem oG:dp [(nmF,syF,[])] 0 false nmF=[(nmF,syF,syF)]:=by unfold dp;rw [oi];rfl
theorem oh {n:Nat} (h:n≤10000):dI [(nmF,syF,syF)] 0 false nmF n=0:=by
 unfold dI;rw [nQ,if_neg (by decide),show (cX [(nmF,syF,syF)] nmF).length=6 from rfl,if_neg (by omega),if_neg (fun h=>by have:=h.1;revert this;decide)]
theorem oE {bs:List Nat} (h:bs.length≤10000):ec [(nmF,syF,syF)] 0 false nmF bs=[(nmF,syF++bs,syF)]:=by
 unfold ec;rw [if_pos (oh h)];rfl
theorem oI {bs:List Nat} {ps:List Int}:∃ bb,fO [(nmF,syF++bs,syF)] ps=[(nmF,bb)]∧nz bs bb:=by
 unfold fO;split
 ·exact ⟨_,rfl,ng bs⟩
 ·exact ⟨_,rfl,n5 bs _⟩
theorem oB {gs:List Af} {nm:ByteArray} {bb:List Nat} (h:gs.map afB=[(nm,bb)]):∃ g,gs=[g]∧g.nm=nm∧g.bs=bb:=by
 match gs,h with
 |[g],h=>
  simp only [List.map_cons,List.map_nil,List.cons.injEq,and_true] at h;exact ⟨g,rfl,congrArg Prod.fst h,congrArg Prod.snd h⟩
theorem kG {U:Nat→Prop} {w w':World} {d fu N:Nat} {D:List Fe} {off:Bool} (_:dk w' (Nx U w w') d D fu off) (hU:∀ k,U k→N≤k) (hz:N≤w.heap.size):∀ k,Nx U w w' k→N≤k:=fun k hk=>hk.elim (hU k) fun h=>Nat.le_trans hz h.1
theorem nF:dJ prog 25=some true:=by kernel_rfl
theorem nA:b8 prog 25=some 2:=by kernel_rfl
theorem nM:aO prog 7=true:=by kernel_rfl
theorem nE:dJ prog 37=some true:=by kernel_rfl
theorem mL:b8 prog 37=some 6:=by kernel_rfl
theorem nB:gN prog 37=some (.agg #[.int .i64 0,.string ⟨#[]⟩,.string ⟨#[]⟩,.int .i64 0,.slice none 0 0,.slice none 0 0]):=by kernel_rfl
theorem nD:aO prog 11=true:=by kernel_rfl
theorem nC:aO prog 16=true:=by kernel_rfl
theorem mR:aO prog 23=true:=by kernel_rfl
theorem l9 {w:World} {b o k:Nat} {l:List Nat} (hc:w.rangeAt b o (aT l)) (hk:k<l.length):w.cell? ⟨b,o+k,none⟩=some (.int .u8 ((l[k]:Nat):Int)):=hc k _ (by simp [aT,hk])
theorem np (A B:Option Addr) (ca cb:Nat) (fs:List Af) (L:List Ak) (w:World) (ha:jY w A B fs L) :
 Rt prog 5 [.agg #[.slice A fs.length ca,.slice B L.length cb]] w (fun v w'=>v=.bool true∧ak w w'):=by
 have hlF:=ha.lenF;have hlL:=ha.lenL;refine enter (n:=122) Try.func5 rfl rfl rfl (ai (ag (gB (v:=.agg _) rfl ?_)));intro b1 w1 E1 hb1 hk1;refine asb rfl (ah (ae (ai (ai (ag (aa (el (cs:=[_,_]) nF nA rfl (by exact (hk1.from_ ak.rfl_).whole)) ?_))))));refine aG nM (kB A B ca cb fs L _ (ha.from_ (ak.rfl_.next E1))) ?_;rintro v11 w2 ⟨⟨hv,rfl,hli⟩,E11⟩;replace hk1:=hk1.from_ E11;refine ah (ae (aE rfl (fun Q3=>?_) (fun Q3=>?_)))
 ·refine ai (ag (asb rfl (ah (ae (aA (az (a_ (v:=.bool _) rfl rfl (⟨rfl,((ak.rfl_.next E1).next E11)⟩))))))))
 refine aD (ae (ai (ai (ag (asi rfl (ah (ae (a7 (cJ (G:=Nat) (2::4::5::6::7::8::9::12::13::14::15::16::17::18::19::20::21::22::23::24::25::26::27::28::29::30::31::32::33::34::35::36::37::38::39::40::41::42::43::44::45::46::47::48::49::50::51::52::53::54::55::56::57::58::59::60::61::62::63::64::65::66::67::68::69::70::71::72::73::74::75::76::77::78::79::80::81::82::83::84::85::86::87::88::89::90::91::92::93::94::95::96::97::98::99::100::101::102::103::104::105::106::107::108::109::110::111::112::113::114::115::116::117::118::119::120::[]) (fun i=>[(3,.int .i64 (i:Nat))]) (fun i w'=>i≤L.length∧Blk w' b1 25 #[.slice A fs.length ca,.slice B L.length cb]∧ak w w') (fun i=>L.length-i) (0) ⟨rfl,trivial⟩ ?_ ?_)))))))))
 ·exact ⟨Nat.zero_le _,hk1.from_ ak.rfl_,((ak.rfl_.next E1).next E11)⟩
 rintro i ρ4 w4 ⟨hi,hP,hB⟩;refine ai (ai (ag (mvi rfl (aa (aj bj rfl) (aa (ar bB rfl (by exact (hP.from_ ak.rfl_).rd 1 rfl)) ?_)))));refine aa (aX dy rfl) (aa (bG rfl rfl) (mvb rfl (mj (t:=17) rfl (fun Q5=>?_) (fun Q5=>?_))))
 ·refine ab rfl (mvi rfl (ab rfl (aa (bG rfl rfl) (aa (ax (v:=.bool _) rfl rfl) (ah (ae (mC rfl (fun Q6=>?_) (fun Q6=>?_))))))))
  ·have hil:i<L.length:=by omega
   obtain ⟨bL,oL,rfl,hcL⟩:=ha.rowL (by omega);have hce:=hcL i hil;have hok:=ha.okL _ (List.getElem_mem hil);have hxl:=(hli (by first | assumption | simp_all)).2.2 i hil (by omega);refine aD (ae (ai (a7 (ai (ag (aa (aj bj rfl) (aa (ar bB rfl (by exact (hP.from_ ak.rfl_).rd 1 rfl)) ?_)))))));refine mvi rfl (aa (aJ cE rfl rfl (by omega)) (aa (el (cs:=[_,_,_,_,_,_]) nE mL rfl (by exact dW hB hce)) ?_));refine j7 nB ?_;intro b4 w7 E4 hb4 hk4;have hg4:w.heap.size≤b4:=by rw [hb4];exact (hB).size
   refine kX (vs:=[_,_,_,_,_,_]) mL rfl rfl (by simp [Value.oneCell']) (hk4) rfl ?_;intro w8 O6 P6;replace hP:=(hP.from_ E4).only O6 (by have:=hP.lt;omega);refine ah (ae (ai (ag ?_)));obtain ⟨N,hN⟩:∃ N,N=(w8).heap.size:=⟨_,rfl⟩;have hNw:w.heap.size≤N:=by rw [hN];exact (((hB.next E4).only O6 (hg4))).size
   have hP29:=hP.from_ (ak.rfl_);have Q29:=P6.from_ (ak.rfl_);have hNb:b1<N:=by rw [hN];exact hP29.lt
   have hNc:b4<N:=by rw [hN];exact Q29.lt
   refine aG ei (gm _) ?_;rintro v29 w9 ⟨⟨d,rfl,hd29⟩,E29⟩;rw [←hN] at hd29;have hzM:N≤(w9).heap.size:=by rw [hN];exact E29.size
   replace hP:=hP29.from_ E29;replace P6:=Q29.from_ E29;refine mvt rfl (aa (aI rfl rfl) (aa (aI rfl rfl) (asp rfl (asi rfl (ah (ae (ai (ai (ag (mvi rfl (aG bm (cl _ _) ?_)))))))))));rintro v33 w10 ⟨rfl,rfl⟩;refine aa (cG (bD rfl rfl) (bne_self_eq_false _)) (mvb rfl (ab rfl (mvp rfl (ab rfl (aa (cG (eF (by kernel_rfl) rfl rfl) rfl) (aa (aq (v:=.bool _) rfl rfl) (mvb rfl (ab rfl ?_))))))));refine mvp rfl (ab rfl ?_);have hM41:ak _ w9:=ak.rfl_;have hB41:ak w w9:=(((hB.next E4).only O6 (hg4)).next E29);refine jj [.const (.int .u8 115),.const (.int .u8 121),.const (.int .u8 110),.const (.int .u8 99),.const (.int .u8 101),.const (.int .u8 100)] [.int .u8 115,.int .u8 121,.int .u8 110,.int .u8 99,.int .u8 101,.int .u8 100] dG rfl rfl rfl rfl (by simp [Value.cells]) ?_;intro b41 w11 E41 hb41 hk41;refine ab rfl (gR (l:=syF) eQ fR rfl hk41 (by decide) (by decide) ?_);intro w12 O42 hr42;have hd42:=((hd29.from_ hM41).from_ E41).chg (O42.toChg (U:=fun k=>k=b41) rfl) (fun k h1 h2=>by have h3:k<_:=h1.2;have h4:k=b41:=h2;have:=hM41.size;omega);refine ab rfl ?_;have hP43:=hP.from_ ((((ak.rfl_.next E41)).only O42 (by rw [hb41];exact hM41.size)));have Q43:=P6.from_ ((((ak.rfl_.next E41)).only O42 (by rw [hb41];exact hM41.size)));have hz43:N≤(w12).heap.size:=Nat.le_trans hzM ((((ak.rfl_.next E41)).only O42 (by rw [hb41];exact hM41.size))).size;refine aG dz (eO _ d [] 0 false _ hd42 nmF (by decide) (some ⟨b41,0,none⟩) 6 6 syF hr42 rfl (by decide) (fun _ q hq h=>by have h3:q<_:=h.2;have h4:b41=q:=Option.some.inj hq;have:=hM41.size;omega)) ?_;rintro v43 w13 ⟨rfl,hd43,hC43⟩;have hU43:=kG hd43 (fun k hk=>hk.1) hz43;replace hP:=hP43.chg hC43 (fun h=>by have h3:=(And.left h:N≤_);omega);replace P6:=Q43.chg hC43 (fun h=>by have h3:=(And.left h:N≤_);omega);rw [oo];rw [oH,ot,ou] at hd43;have hz43b:N≤(w13).heap.size:=Nat.le_trans hz43 hC43.size;refine ab rfl (aG bm (cl _ _) ?_);rintro v44 w14 ⟨rfl,rfl⟩;refine ab rfl (aa (cG (bD rfl rfl) rfl) (aa (aq (v:=.bool _) rfl rfl) (mvb rfl (ab rfl (mvp rfl (ab rfl ?_))))));have hP49:=hP.from_ (ak.rfl_);have Q49:=P6.from_ (ak.rfl_);have hz49:N≤(w13).heap.size:=Nat.le_trans hz43b (ak.rfl_).size;refine aG nD (jh _ d _ _ _ _ (hd43.from_ ak.rfl_) nmF (by decide)) ?_;rintro v49 w15 ⟨rfl,hd49,hC49⟩;have hU49:=kG hd49 hU43 hz49;replace hP:=hP49.chg hC49 (fun h=>by have h3:=hU43 _ h;omega);replace P6:=Q49.chg hC49 (fun h=>by have h3:=hU43 _ h;omega);rw [oi];rw [oG,ot,ou] at hd49;have hz49b:N≤(w15).heap.size:=Nat.le_trans hz49 hC49.size;refine ab rfl (aG bm (cl _ _) ?_);rintro v50 w16 ⟨rfl,rfl⟩;refine ab rfl (aa (cG (bD rfl rfl) rfl) (aa (aq (v:=.bool _) rfl rfl) (mvb rfl (ab rfl (mvp rfl (ab rfl (aa (aj dQ rfl) (ab rfl ?_))))))));refine aa (ar a8 rfl (by exact (P6.from_ ak.rfl_).rd 4 rfl)) ?_;refine ab rfl ?_;have hP57:=hP.from_ (ak.rfl_);have Q57:=P6.from_ (ak.rfl_);have hz57:N≤(w15).heap.size:=Nat.le_trans hz49b (ak.rfl_).size;refine aG dz (eO _ d _ _ _ _ (hd49.from_ ak.rfl_) nmF (by decide) L[i].X L[i].xc _ L[i].xs (hok.rx.from_ ((((((((((hB.next E4).only O6 (hg4)).next E29).next E41)).only O42 (by rw [hb41];exact hB41.size))).chg hC43 (fun k hk=>Nat.le_trans hNw hk.1))).chg hC49 (fun k hk=>Nat.le_trans hNw (hU43 k hk)))) rfl (by omega) (fun h0 q hq h=>by have h3:=hU49 _ h;have h4:=hok.rx.lt h0 q hq;omega)) ?_;rintro v57 w17 ⟨rfl,hd57,hC57⟩;replace hP:=hP57.chg hC57 (fun h=>by have h3:=hU49 _ h;omega);replace P6:=Q57.chg hC57 (fun h=>by have h3:=hU49 _ h;omega);rw [oh hxl.1];rw [oE hxl.1,ot,ou] at hd57;refine ab rfl (aG bm (cl _ _) ?_);rintro v58 w18 ⟨rfl,rfl⟩;refine ab rfl (aa (cG (bD rfl rfl) rfl) (aa (aq (v:=.bool _) rfl rfl) (ah (ae (bA rfl (aD (ae (ai (ag (mvp rfl (aa (aj dP rfl) (aa (ar fb rfl (by exact (P6.from_ ak.rfl_).rd 5 rfl)) ?_))))))))))));have hP64:=hP.from_ (ak.rfl_);have Q64:=P6.from_ (ak.rfl_);refine aG nC (nX _ d _ _ _ _ (hd57.from_ ak.rfl_) L[i].Y L[i].yc _ L[i].ys (hok.ry.from_ ((((((((((((hB.next E4).only O6 (hg4)).next E29).next E41)).only O42 (by rw [hb41];exact hB41.size))).chg hC43 (fun k hk=>Nat.le_trans hNw hk.1))).chg hC49 (fun k hk=>Nat.le_trans hNw (hU43 k hk)))).chg hC57 (fun k hk=>Nat.le_trans hNw (hU49 k hk)))) rfl hok.cy.1 hok.cy.2 hok.fy (fun e he=>by rw [List.mem_singleton.1 he];show nmF.size≤_;decide)) ?_;rintro v64 w19 ⟨⟨A64,c64,n64,gs,rfl,hn64,hgs,ho64,hown⟩,E64⟩;obtain ⟨bb,hcb,htk⟩:=oI (bs:=L[i].xs) (ps:=L[i].ys);rw [hcb] at hgs;obtain ⟨g,rfl,hg1,hg2⟩:=oB hgs;subst hn64;obtain ⟨bg,og,rfl,hcg⟩:=(di.own oe (by decide) ho64).2 Nat.zero_lt_one;have hg0:=hcg 0 Nat.zero_lt_one;have hgo:=hown g (List.mem_singleton_self _);have hgr:=(RB.own hgo.1 hgo.2.1).2;rw [←hg2] at htk;have hgl:6≤g.bs.length:=by rcases htk.len with h | h <;> omega
   have hgc:=hgr.le;have hgb:=hgo.2.2.2;obtain ⟨ba,oa,hA,hca⟩:=hgr.at_ (by omega);rw [hA] at hgr;replace hP:=hP64.from_ E64;replace P6:=Q64.from_ E64;refine ass rfl (ah (ae (ai (ai (ag (mvs rfl (aa (aX cx rfl) (aa (cG (bD rfl rfl) rfl) (mvb rfl (ab rfl (mvs rfl (ab rfl ?_))))))))))));refine aa (gC dF rfl rfl (by simp)) ?_;refine ab rfl (aa (aj bc rfl) (ab rfl (aa (ar bl rfl (by exact (by have h9:=hg0 0 _ rfl;simpa using cg ak.rfl_ h9))) ?_)));refine ab rfl (aa (cG (nn rfl rfl) (by rw [hg1];simp)) ?_);refine aa (aq (v:=.bool _) rfl rfl) (ah (ae (bA rfl (aD (ae (ai (ag (mvs rfl (aa (gC dF rfl rfl (by simp)) ?_)))))))));refine aa (aj bX rfl) ?_;refine aa (ar (v:=.slice (some ⟨ba,oa,none⟩) g.bs.length g.c) a8 rfl (by have h9:=cg ak.rfl_ (hg0 1 _ rfl);change _=some (Value.slice g.A g.bs.length g.c) at h9;rw [hA] at h9;simpa using h9)) ?_;refine ass rfl (ah (ae (ai (ai (ag (mvs rfl (aa (aX dD rfl) (aa (bD rfl rfl) (mvb rfl (mg (t:=82) rfl (fun Q20=>?_) (fun Q20=>?_)))))))))))
   ·refine ab rfl (mvs rfl (ab rfl (aa (aX dD rfl) (ab rfl (aa (aj dQ rfl) (ab rfl (aa (ar a8 rfl (by exact (P6.from_ ak.rfl_).rd 4 rfl)) ?_)))))));refine ab rfl (aa (aX dD rfl) (ab rfl (aa (aW (a:=6) rfl rfl (by omega)) (ab rfl ?_))));refine aa (cG (bD rfl rfl) (by rcases htk.len with h | h <;> simp_all <;> omega)) ?_;refine aa (ax (v:=.bool _) rfl rfl) (mvb rfl (ab rfl (mvs rfl (ab rfl (aa (mc (h:=6) fa rfl rfl (by omega)) (ab rfl (aa (lG (RB.pre (l:=g.bs.take 6) (r:=g.bs.drop 6) (by rw [List.take_append_drop];exact hgr.from_ ak.rfl_)) (by rw [List.length_take];omega) rfl) ?_)))))));refine ab rfl (aa (cG (nn rfl rfl) (by rw [htk.hd,show mX syF=⟨#[115,121,110,99,101,100]⟩ from rfl];simp)) ?_);refine aa (aq (v:=.bool _) rfl rfl) (ah (ae (bA rfl (aD (ae (ai (ag (asi rfl (ah (ae (a7 (cJ (G:=Nat) [2,97,98,99,100,101,102,103,104,105,106,107,108,109,110,111,112,113,114,115,116,117,118,119,120] (fun k=>[(9,.int .i64 (k:Nat))]) (fun k w'=>6≤k∧ak w19 w'∧ak w w') (fun k=>g.bs.length-k) (6) ⟨rfl,trivial⟩ ?_ ?_))))))))))))
    ·exact ⟨Nat.le_refl _,ak.rfl_,(((((((((((((hB.next E4).only O6 (hg4)).next E29).next E41)).only O42 (by rw [hb41];exact hB41.size))).chg hC43 (fun k hk=>Nat.le_trans hNw hk.1))).chg hC49 (fun k hk=>Nat.le_trans hNw (hU43 k hk)))).chg hC57 (fun k hk=>Nat.le_trans hNw (hU49 k hk))).next E64)⟩
    rintro k ρ21 w21 ⟨hk6,hFk,hB⟩;refine ai (ai (ag (mvi rfl (mvs rfl (aa (aX dD rfl) (aa (bG rfl rfl) (ah (ae (mC rfl (fun Q22=>?_) (fun Q22=>?_))))))))))
    ·have hkl:k<g.bs.length:=by omega
     refine aD (ae (ai (a7 (ai ?_))));rcases Decidable.em (g.bs[k]=0) with hzk | hzk
     ·apply bZ 18 [(103,eqp _),(104,eqp _),(105,eqp _),(106,eqp (.int .u8 ((g.bs[k]:Nat):Int))),(107,eqp _),(108,eqp _),(109,eqp _),(110,eqp _),(111,eqp _),(112,eqp _),(113,eqp _),(114,eqp _),(115,eqp _),(116,eqp _),(117,eqp _),(118,eqp _),(119,eqp _),(120,eqp _)] (by repeat first | exact ck | refine cj ?_ | refine bS ?_) (by kernel_rfl) (by kernel_rfl) ⟨af _,af _,af _,af _,af _,af _,af _,af _,af _,af _,af _,af _,af _,af _,af _,af _,af _,af _,trivial⟩
      case hop=>
       constructor
       ·rintro-w24 D24;exact al (av (v:=.slice _ _ _) rfl) rfl
       constructor
       ·rintro-w25 D25;exact al (av (v:=.int _ _) rfl) rfl
       constructor
       ·rintro-w26 D26;rintro _ rfl _ rfl;exact al (fc fa rfl rfl (by omega)) rfl
       constructor
       ·rintro-w27 D27;rintro _ rfl;exact al (ar (v:=.int .u8 ((g.bs[k]:Nat):Int)) fS rfl (cg (hFk.next (ak.rfl_.next D27)) (l9 hca hkl))) rfl
       constructor
       ·rintro-w28 D28;rintro v28_106 rfl;exact al (cG (bD rfl rfl) (by rw [hzk];rfl)) rfl
       constructor
       ·rintro-w29 D29;rintro _ rfl;exact al (av (v:=.bool _) rfl) rfl
       constructor
       ·rintro-w30 D30;rintro _ rfl;exact br rfl rfl rfl
       constructor
       ·rintro-w31 D31;rintro _ rfl;exact br rfl rfl rfl
       constructor
       ·rintro-w32 D32;rintro _ rfl _ rfl _ rfl;exact br rfl rfl rfl
       constructor
       ·rintro-w33 D33;rintro _ rfl _ rfl;exact br rfl rfl rfl
       constructor
       ·rintro-w34 D34;rintro _ rfl;exact br rfl rfl rfl
       constructor
       ·rintro-w35 D35;rintro _ rfl _ rfl;exact br rfl rfl rfl
       constructor
       ·rintro-w36 D36;rintro _ rfl;exact br rfl rfl rfl
       constructor
       ·rintro-w37 D37;rintro _ rfl _ rfl;exact br rfl rfl rfl
       constructor
       ·rintro-w38 D38;rintro _ rfl _ rfl _ rfl;exact br rfl rfl rfl
       constructor
       ·rintro-w39 D39;rintro _ rfl _ rfl;exact br rfl rfl rfl
       constructor
       ·rintro-w40 D40;rintro _ rfl _ rfl _ rfl;exact br rfl rfl rfl
       constructor
       ·rintro-w41 D41;rintro _ rfl _ rfl;exact al (aq (v:=.bool _) rfl rfl) rfl
       exact trivial
      case hend=>
       intro w42 D42;rintro _ rfl _ rfl _ rfl v106 rfl _ rfl _ rfl _ rfl _ rfl _ rfl _ rfl _ rfl _ rfl _ rfl _ rfl _ rfl _ rfl _ rfl _ rfl;show St ..;refine ah (ae (bA rfl (aD (bk (ae (ag (mvi rfl (aa (aW (b:=1) rfl rfl (by omega)) (asi rfl (ah ?_))))))))));refine bo (k+1) ⟨(by first | rfl | (refine bw ?_;omega)),trivial⟩ (by (iterate 51 refine aR rfl ?_);exact aZ) ⟨?_,?_⟩
       ·exact ⟨by omega,hFk.next (ak.rfl_.next D42),(hB.next D42)⟩
       ·show g.bs.length-(k+1)<g.bs.length-k;omega
     obtain ⟨h2,hbx⟩:=(htk.tl k hkl hk6).resolve_left hzk;obtain ⟨bx,ox,hX,hcx⟩:=hok.rx.at_ (by omega);apply bZ 18 [(103,eqp _),(104,eqp _),(105,eqp _),(106,eqp (.int .u8 ((g.bs[k]:Nat):Int))),(107,eqp _),(108,eqp _),(109,eqp _),(110,eqp _),(111,eqp _),(112,eqp (.int .u8 ((g.bs[k]:Nat):Int))),(113,eqp _),(114,eqp (.slice (some ⟨bx,ox,none⟩) L[i].xs.length L[i].xc)),(115,eqp _),(116,eqp _),(117,eqp _),(118,eqp (.int .u8 ((L[i].xs[k-6]:Nat):Int))),(119,eqp _),(120,eqp _)] (by repeat first | exact ck | refine cj ?_ | refine bS ?_) (by kernel_rfl) (by kernel_rfl) ⟨af _,af _,af _,af _,af _,af _,af _,af _,af _,af _,af _,af _,af _,af _,af _,af _,af _,af _,trivial⟩
     case hop=>
      constructor
      ·rintro-w44 D44;exact al (av (v:=.slice _ _ _) rfl) rfl
      constructor
      ·rintro-w45 D45;exact al (av (v:=.int _ _) rfl) rfl
      constructor
      ·rintro-w46 D46;rintro _ rfl _ rfl;exact al (fc fa rfl rfl (by omega)) rfl
      constructor
      ·rintro-w47 D47;rintro _ rfl;exact al (ar (v:=.int .u8 ((g.bs[k]:Nat):Int)) fS rfl (cg (hFk.next (ak.rfl_.next D47)) (l9 hca hkl))) rfl
      constructor
      ·rintro-w48 D48;rintro v48_106 rfl;exact al (fv (bD rfl rfl) (bne_iff_ne.2 (by omega))) rfl
      constructor
      ·rintro-w49 D49;rintro _ rfl;exact al (av (v:=.bool _) rfl) rfl
      constructor
      ·rintro-w50 D50;rintro _ rfl;exact ay rfl (av (v:=.slice _ _ _) rfl) rfl
      constructor
      ·rintro-w51 D51;rintro _ rfl;exact ay rfl (av (v:=.int _ _) rfl) rfl
      constructor
      ·rintro-w52 D52;rintro _ rfl _ rfl _ rfl;exact ay rfl (fc fa rfl rfl (by omega)) rfl
      constructor
      ·rintro-w53 D53;rintro _ rfl _ rfl;exact ay rfl (ar (v:=.int .u8 ((g.bs[k]:Nat):Int)) fS rfl (cg (hFk.next (ak.rfl_.next D53)) (l9 hca hkl))) rfl
      constructor
      ·rintro-w54 D54;rintro _ rfl;exact ay rfl (aj dQ rfl) rfl
      constructor
      ·rintro-w55 D55;rintro _ rfl _ rfl;exact ay rfl (ar (v:=.slice (some ⟨bx,ox,none⟩) L[i].xs.length L[i].xc) a8 rfl (by rw [←hX];exact (P6.from_ (hFk.next (ak.rfl_.next D55))).rd 4 rfl)) rfl
      constructor
      ·rintro-w56 D56;rintro _ rfl;exact ay rfl (av (v:=.int _ _) rfl) rfl
      constructor
      ·rintro-w57 D57;rintro _ rfl _ rfl;exact ay rfl (fh (b:=6) rfl rfl (by omega)) rfl
      constructor
      ·rintro-w58 D58;rintro _ rfl v58_114 rfl _ rfl;exact ay rfl (fc fa rfl rfl (by omega)) rfl
      constructor
      ·rintro-w59 D59;rintro _ rfl _ rfl;exact ay rfl (ar (v:=.int .u8 ((L[i].xs[k-6]:Nat):Int)) fS rfl (cg (hB.next D59) (l9 hcx h2))) rfl
      constructor
      ·rintro-w60 D60;rintro _ rfl v60_112 rfl v60_118 rfl;exact ay rfl (cG (bD rfl rfl) (by rw [hbx];exact bne_self_eq_false _)) rfl
      constructor
      ·rintro-w61 D61;rintro _ rfl _ rfl;exact al (ax (v:=.bool _) rfl rfl) rfl
      exact trivial
     case hend=>
      intro w62 D62;rintro _ rfl _ rfl _ rfl v106 rfl _ rfl _ rfl _ rfl _ rfl _ rfl v112 rfl _ rfl v114 rfl _ rfl _ rfl _ rfl v118 rfl _ rfl _ rfl;show St ..;refine ah (ae (bA rfl (aD (bk (ae (ag (mvi rfl (aa (aW (b:=1) rfl rfl (by omega)) (asi rfl (ah ?_))))))))));refine bo (k+1) ⟨(by first | rfl | (refine bw ?_;omega)),trivial⟩ (by (iterate 51 refine aR rfl ?_);exact aZ) ⟨?_,?_⟩
      ·exact ⟨by omega,hFk.next (ak.rfl_.next D62),(hB.next D62)⟩
      ·show g.bs.length-(k+1)<g.bs.length-k;omega
    refine bY (aS (aS (fN (bk (ae (ag (mvi rfl (aa (aW (b:=1) rfl rfl (by omega)) (asi rfl (ah ?_))))))))));refine bo (i+1) ⟨(by first | rfl | (refine bw ?_;omega)),trivial⟩ (by (iterate 241 refine aR rfl ?_);exact aZ) ⟨?_,?_⟩
    ·exact ⟨by omega,hP.from_ (hFk.next ak.rfl_),hB⟩
    ·show L.length-(i+1)<L.length-i;omega
   refine ao rfl rfl (ao rfl rfl (ao rfl rfl (ao rfl rfl (ao rfl rfl (ao rfl rfl (ao rfl rfl (aa (aq (v:=.bool _) rfl rfl) (mvb rfl ?_))))))));refine ab rfl (mvs rfl (ab rfl (aa (mc (h:=6) fa rfl rfl (by omega)) (ab rfl (aa (lG (RB.pre (l:=g.bs.take 6) (r:=g.bs.drop 6) (by rw [List.take_append_drop];exact hgr.from_ ak.rfl_)) (by rw [List.length_take];omega) rfl) ?_)))));refine ab rfl (aa (cG (nn rfl rfl) (by rw [htk.hd,show mX syF=⟨#[115,121,110,99,101,100]⟩ from rfl];simp)) ?_);refine aa (aq (v:=.bool _) rfl rfl) (ah (ae (bA rfl (aD (ae (ai (ag (asi rfl (ah (ae (a7 (cJ (G:=Nat) [2,97,98,99,100,101,102,103,104,105,106,107,108,109,110,111,112,113,114,115,116,117,118,119,120] (fun k=>[(9,.int .i64 (k:Nat))]) (fun k w'=>6≤k∧ak w19 w'∧ak w w') (fun k=>g.bs.length-k) (6) ⟨rfl,trivial⟩ ?_ ?_))))))))))))
   ·exact ⟨Nat.le_refl _,ak.rfl_,(((((((((((((hB.next E4).only O6 (hg4)).next E29).next E41)).only O42 (by rw [hb41];exact hB41.size))).chg hC43 (fun k hk=>Nat.le_trans hNw hk.1))).chg hC49 (fun k hk=>Nat.le_trans hNw (hU43 k hk)))).chg hC57 (fun k hk=>Nat.le_trans hNw (hU49 k hk))).next E64)⟩
   rintro k ρ63 w63 ⟨hk6,hFk,hB⟩;refine ai (ai (ag (mvi rfl (mvs rfl (aa (aX dD rfl) (aa (bG rfl rfl) (ah (ae (mC rfl (fun Q64=>?_) (fun Q64=>?_))))))))))
   ·have hkl:k<g.bs.length:=by omega
    exfalso;omega
   refine bY (aS (aS (fN (bk (ae (ag (mvi rfl (aa (aW (b:=1) rfl rfl (by omega)) (asi rfl (ah ?_))))))))));refine bo (i+1) ⟨(by first | rfl | (refine bw ?_;omega)),trivial⟩ (by (iterate 241 refine aR rfl ?_);exact aZ) ⟨?_,?_⟩
   ·exact ⟨by omega,hP.from_ (hFk.next ak.rfl_),hB⟩
   ·show L.length-(i+1)<L.length-i;omega
  refine bY (aS (aS (fN (ae (ai (ag (aG mR (gP _) ?_)))))));rintro v121 w105 ⟨rfl,E121⟩;refine asb rfl (ah (ae (aA (a_ (v:=.bool _) rfl rfl (⟨rfl,(hB.next E121)⟩)))))
 refine ao rfl rfl (ao rfl rfl (aa (aq (v:=.bool _) rfl rfl) (ah (ae (bA rfl (bY (aS (aS (fN (ae (ai (ag (aG mR (gP _) ?_)))))))))))));rintro v121 w106 ⟨rfl,E121⟩;refine asb rfl (ah (ae (aA (a_ (v:=.bool _) rfl rfl (⟨rfl,(hB.next E121)⟩)))))
theorem nq (cs:Array Value) (x:k6.den) (w:World) (hs:cs.size=2) (h:k6.At w (fun j=>cs[j]?) x):Rt prog 5 [.agg cs] w fun v w'=>v=.bool true∧ak w w':=by
 obtain ⟨A,B,ca,cb,fs,L,rfl,ha⟩:=kN hs h;exact np A B ca cb fs L w ha
theorem kF (os:Os) (started:os.Started) (H:Type) (enc:TypeId×Value→H) :
 ReturnsInHanded {} Try.checked os 5 .any (Rows.diskTornSpec.pre6 enc prog Try.f5 Rows.diskTornRow.domain false) (Rows.diskTornSpec.post enc prog Try.f5 false true false false):=by
 refine returnsInHanded_of_change_sized (C:=Try.checked) Try.own started (by kernel_rfl) Try.func5
  (ChangeSpec.witness6 (enc:=enc) (C:=Try.checked) false ⟨#[],#[.agg #[.slice none 0 0,.slice none 0 0]],[]⟩ 8 (by kernel_rfl) (by kernel_rfl) (by kernel_rfl) (by kernel_rfl)) ?_
 intro W base args ds gs before hval hW _ hsz _;exact kv 5 Try.f5 25 4 Rows.diskTornSpec Try.params5 (by kernel_rfl) Try.underlying4 rfl (fun _=>rfl) (by kernel_rfl) (dT_ (by kernel_rfl)) (gO (.sl jr) (.pr (.sl lK) .unit) (by kernel_rfl) nq) W base args ds gs before hval hW hsz
theorem DiskTorn_holds:Rows.DiskTornSaid:=
 OpenClaim.holds_of_wide 5 Try.f5 rfl rfl rfl rfl rfl rfl rfl ⟨rfl,rfl,rfl,rfl,rfl⟩ rfl rfl rfl rfl rfl (by kernel_rfl) Try.func5 (by kernel_rfl)
  (dT_ (by kernel_rfl)) (by unfold Func.isWrapper;first | (rw [if_pos (by decide+kernel)];kernel_rfl) | (rw [if_neg (by decide+kernel)];exact ⟨rfl,rfl⟩))
  (fun os started H enc _=>kF os started H enc)
end Go.Proofs.Ytmbcbinocebodaa
