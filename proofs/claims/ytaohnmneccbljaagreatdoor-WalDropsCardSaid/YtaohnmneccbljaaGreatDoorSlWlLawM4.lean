/- texts that the claim stands on. -/
import Derived.Test.YtaohnmneccbljaaGreatDoorSlWlLawM3
import Derived.Lib.AppendZeros
import Derived.Lib.SmallJoins
set_option maxRecDepth 100000
set_option maxHeartbeats 4000000
namespace Go.Proofs.YtaohnmneccbljaaGreatDoor
open Go.Proofs.Tryz (prog)
open Go.RowKit
open Go.ChangeShapes Go.WideShapes Go.ChangeAt
theorem cA:cS prog 65=some 5:=by kernel_rfl
theorem dZ:fK prog 65=some true:=by kernel_rfl
theorem fe:ij prog 65=some (.agg #[.int .i64 0,.int .i64 0,.int .i64 0,.string ⟨#[]⟩,.bool false]):=by kernel_rfl
theorem mG:aH prog 88=true:=by kernel_rfl
theorem ga:aH prog 89=true:=by kernel_rfl
theorem jT:aH prog 90=true:=by kernel_rfl
theorem jB:∀ (a0:Int) (a1:Int) (a2:Int) (a3:ByteArray) (a4:Bool),prog.built 65 [(0,.int .i64 a0),(1,.int .i64 a1),(2,.int .i64 a2),(3,.string a3),(4,.bool a4)]=some #[.int .i64 a0,.int .i64 a1,.int .i64 a2,.string a3,.bool a4]:=by intros;kernel_rfl
theorem Ao {P:Program} {fn:Func} {L:List (Nat×Value)} {w:World} {m:Nat} {r r' r'' r3:ResultVar} {R:Value→World→Prop} {v v' v'' v3:Value} (hr:fn.results=#[r,r',r'',r3]) (h1:RV P ⟨m,[]⟩ L w r v) (h2:RV P ⟨m,[]⟩ L w r' v') (h3:RV P ⟨m,[]⟩ L w r'' v'') (h4:RV P ⟨m,[]⟩ L w r3 v3) (h:R (.tuple #[v,v',v'',v3]) w) :
 bodyPost P fn (fun e w'=>∃ v,e=.returned v∧R v w') .ret (mkA ⟨m,[]⟩ L) w:=by
 refine bodyPost_ret (v:=.tuple #[v,v',v'',v3]) ?_ rfl ⟨_,rfl,h⟩;have e1:=h1.out;have e2:=h2.out;have e3:=h3.out;have e4:=h4.out;show (results fn (mkT m L)).run P w=_;cases r <;> cases r' <;> cases r'' <;> cases r3 <;> simp_all only [] <;> (try obtain ⟨_,_,_⟩:=e1) <;> (try obtain ⟨_,_,_⟩:=e2) <;> (try obtain ⟨_,_,_⟩:=e3) <;> (try obtain ⟨_,_,_⟩:=e4) <;> simp_all [results,asAddr]
theorem RB.tailK {w:World} {A:Option Addr} {c k:Nat} {p r:List Nat} (h:RB w A c (p++r)) (hk:p.length=k):RB w (dm A c k 1) (c-k) r:=by subst hk;exact h.tail
theorem nP (A:Option Addr) (c m k n:Nat) (w:World) (hr:RB w A c (leB k n)) (hm:m=k) (hk:k≤8) (hn:n<9223372036854775808) (hp:n<256 ^ k):Rt prog 89 [.slice A m c] w fun v w'=>v=.int .i64 (n:Nat)∧w=w':=by
 have h:=vv A c m (leB k n) w hr (by rw [dr];exact hm) (.inr ⟨by rw [qp k n hp];exact hn,by rw [dr];exact hk⟩)
 rwa [qp k n hp] at h
theorem lt8 {n:Nat} (h:n<9223372036854775808):n<256 ^ 8:=by
 have h8:(256:Nat) ^ 8=18446744073709551616:=by decide
 omega
theorem yU (s:ByteArray):qW (eT s)=s:=by
 unfold qW eT;rw [List.map_map,show (UInt8.ofNat ∘ fun x:UInt8=>x.toNat)=id from funext fun x=>UInt8.ofNat_toNat,List.map_id]
theorem uf {P:Program} {n:Fr} {L:List (Nat×Value)} {w:World} {t:TypeId} {x y:Operand} {g:Nat} {u:TypeId} {cs:Array Value} {vs:List Value} (ht:cS P t=some vs.length) (hx:ev n L x=.pointer (some ⟨g,0,none⟩)) (hy:ev n L y=.agg vs.toArray) (h1:∀ v∈vs,v.oneCell'=true) (hb:Blk w g u cs) (hi:vs.length=cs.size) :
 ∃ w',RS P (ev n L) (.store t x y) w w'∧cY g w w'∧Blk w' g u vs.toArray:=by
 have hb':Blk w g u cs.toList.toArray:=by simpa using hb
 refine ⟨_,pf ht hx hy h1 (hb'.there 0 vs.length (by simp;omega)),cY.sets vs 0 w,?_⟩;have:=Blk.sets vs 0 hb' (by simp;omega)
 rwa [rq cs.toList vs (by simp;omega)] at this
theorem x3 (A:Option Addr) (c n:Nat) (l rest:List Nat) (w:World) (hr:RB w A c (cF l++rest)) (hn:n=(cF l++rest).length) (hl:(cF l++rest).length≤2000000) (hne:l≠[]):Rt prog 88 [.slice A n c] w fun v w'=>(∃ A' c',v=.tuple #[.slice A' (ld l).length c',.int .i64 ((cF l).length:Nat),.bool true]∧w'.ownsRow w.heap.size 5 1 (.slice A' (ld l).length c') (ld l).length (aK (ld l)))∧ag w w':=
 (jK A c n (cF l++rest) w hr hn hl).mono fun v w' h=>by
  obtain ⟨h,hF⟩:=h;refine ⟨?_,hF⟩;have e:=wC _ l rest rfl hne;rcases h with ⟨p,A',c',h1,h2,h3⟩ | ⟨h1,_⟩
  ·rw [e] at h1;obtain rfl:=Option.some.inj h1;exact ⟨A',c',h2,h3⟩
  ·rw [e] at h1;cases h1
theorem Ae {r:Rc} (h:r.Ok):bits BinOp.andNot IntKind.i64 ((r.k8:Nat):Int) 8=((r.k:Nat):Int):=by
 have h1:=h.k1;have h3:=h.k3;unfold Rc.k8;have:r.k=1∨r.k=2∨r.k=3:=by omega
 cases r.fin <;> rcases this with e | e | e <;> rw [e] <;> rfl
theorem B8 {r:Rc} (h:r.Ok):(!(bits BinOp.and IntKind.i64 ((r.k8:Nat):Int) 8==0))=r.fin:=by
 have h1:=h.k1;have h3:=h.k3;unfold Rc.k8;have:r.k=1∨r.k=2∨r.k=3:=by omega
 cases r.fin <;> rcases this with e | e | e <;> rw [e] <;> rfl
def zz (s:BitVec 32) (r:Rc):List Nat:=List.replicate ((31-(b_ s r).length%31)%31) 0
theorem AY (s:BitVec 32) (r:Rc):ld (b_ s r)=leB 4 (eo s r).toNat++(leB 1 r.k8++(leB 8 r.i++(leB 8 r.t++(leB 2 r.d.size++(eT r.d++zz s r))))):=by
 unfold ld zz
 generalize List.replicate ((31-(b_ s r).length%31)%31) 0=q
 unfold b_ rcB;simp only [List.append_assoc]
theorem x4 (s:BitVec 32) (r:Rc):∀ b∈cF (b_ s r),b<256:=y6 _ _ rfl (oh s r)
theorem vm (A:Option Addr) (c n:Nat) (r:Rc) (s:BitVec 32) (rest:List Nat) (w:World) (hr:RB w A c (cF (b_ s r)++rest)) (hn:n=(cF (b_ s r)++rest).length) (hl:(cF (b_ s r)++rest).length≤2000000) (hk:r.Ok) (hT:cO w) :
 Rt prog 69 [.slice A n c,.int .u32 (s.toNat:Nat)] w (fun v w'=>v=.tuple #[.agg (rcV r).toArray,.int .i64 ((cF (b_ s r)).length:Nat),.int .u32 ((eo s r).toNat:Nat),.bool true]∧ag w w'):=by
 have hsz:=hk.d;have hk8:=Av hk;have hbl:=kf s r;have hpl:23+r.d.size≤(ld (b_ s r)).length:=by rw [←hbl];exact xp _
 have hne:b_ s r≠[]:=fun e=>by have h9:=congrArg List.length e;rw [hbl] at h9;simp only [List.length_nil] at h9;omega
 have hfs:((r.d.size+53)/31*32:Nat)=(cF (b_ s r)).length:=by rw [iJ _ _ rfl,hbl,show 23+r.d.size+30=r.d.size+53 by omega]
 have hcl:=qy s r;have hc4:(eo s r).toNat<256 ^ 4:=(eo s r).isLt;refine enter (n:=70) Tryz.func69 rfl rfl rfl (af (ab (aZ fe ?_)));intro b4 w1 E4 hb4 hk4;have hg4:w.heap.size≤b4:=by rw [hb4];exact (ag.rfl_).size
 refine asi rfl (asi rfl (asb rfl (ah (ae (af (ab (mvs rfl (av mG (x3 A c n (b_ s r) rest _ (hr.from_ (ag.rfl_.next E4)) hn hl hne) ?_))))))));rintro v13 w2 ⟨⟨A8,c8,rfl,ho8⟩,E13⟩
 obtain ⟨hnp,hrP0⟩:=RB.own ho8 (fun b hb=>by
  unfold ld at hb;rcases List.mem_append.1 hb with hb | hb
  ·exact oh s r b hb
  ·rw [List.eq_of_mem_replicate hb];decide)
 have hcap:=hrP0.le;have hr4:=hrP0;rw [AY] at hr4;have hr5:RB w2 A8 c8 ((leB 4 (eo s r).toNat++leB 1 r.k8)++(leB 8 r.i++(leB 8 r.t++(leB 2 r.d.size++(eT r.d++zz s r))))):=by simpa only [List.append_assoc] using hr4
 have hr13:RB w2 A8 c8 ((leB 4 (eo s r).toNat++(leB 1 r.k8++leB 8 r.i))++(leB 8 r.t++(leB 2 r.d.size++(eT r.d++zz s r)))):=by simpa only [List.append_assoc] using hr4
 have hr21:RB w2 A8 c8 ((leB 4 (eo s r).toNat++(leB 1 r.k8++(leB 8 r.i++leB 8 r.t)))++(leB 2 r.d.size++(eT r.d++zz s r))):=by simpa only [List.append_assoc] using hr4
 have hr23:RB w2 A8 c8 ((leB 4 (eo s r).toNat++(leB 1 r.k8++(leB 8 r.i++(leB 8 r.t++leB 2 r.d.size))))++(eT r.d++zz s r)):=by simpa only [List.append_assoc] using hr4
 have hrs:RB w2 A8 c8 (leB 4 (eo s r).toNat++(rcB r++zz s r)):=by unfold rcB;simpa only [List.append_assoc] using hr4
 have l5:(leB 4 (eo s r).toNat++leB 1 r.k8).length=5:=by simp only [List.length_append,dr]
 have l13:(leB 4 (eo s r).toNat++(leB 1 r.k8++leB 8 r.i)).length=13:=by simp only [List.length_append,dr]
 have l21:(leB 4 (eo s r).toNat++(leB 1 r.k8++(leB 8 r.i++leB 8 r.t))).length=21:=by simp only [List.length_append,dr]
 have l23:(leB 4 (eo s r).toNat++(leB 1 r.k8++(leB 8 r.i++(leB 8 r.t++leB 2 r.d.size)))).length=23:=by simp only [List.length_append,dr]
 refine mvt rfl (aa (ar rfl rfl) (aa (ar rfl rfl) (aa (ar rfl rfl) (ass rfl (asi rfl (asb rfl (ah (ae (af (af (ab (mvb rfl ?_))))))))))));refine aa (bG rfl) (ah (ae (aI rfl (aE (ae (af (ab (mvs rfl (aa (bk (l:=21) (h:=23) bj rfl (.inr ⟨_,_,_,rfl,rfl,rfl⟩) (.inr ⟨_,_,_,rfl,rfl,rfl⟩) (by omega) (by omega)) (av ga (nP _ _ _ 2 r.d.size _ ((hr21.from_ ag.rfl_).tailK l21).pre rfl (by decide) (by omega) (by show r.d.size<65536;omega)) ?_))))))))));rintro v22 w3 ⟨rfl,rfl⟩;refine aa (br rfl rfl (by omega)) (asi rfl (ah (ae (af (af (ab (mvi rfl (mvs rfl (aa (bb bZ rfl) (aa (bh (cn rfl rfl) (decide_eq_false (by omega))) (mvb rfl (ak rfl ?_))))))))))));refine mvi rfl (ak rfl (aa (bH (dv rfl rfl (by omega)) (congrArg (Value.int .i64) (show (23+((r.d.size:Nat):Int)-23)=((r.d.size:Nat):Int) by omega))) ?_));refine ak rfl (av jT (jg r.d.size _ (by omega)) ?_);rintro v31 w4 ⟨rfl,rfl⟩;refine ak rfl (mvi rfl (ak rfl (aa (bh (cv rfl rfl) (by rw [hfs];exact bne_self_eq_false _)) ?_)));refine aa (aQ (v:=.bool _) rfl rfl) (ah (ae (aI rfl (aE (ae (af (ab (mvi rfl (mvs rfl (mvi rfl (aa (bk (l:=4) (h:=23+r.d.size) bj rfl (.inr ⟨_,_,_,rfl,rfl,rfl⟩) (.inr ⟨_,_,_,rfl,rfl,by omega⟩) (by omega) (by omega)) ?_)))))))))));refine av mI (wX s (((hrs.from_ ag.rfl_).tailK (dr 4 _)).pre.rowR (by rw [j9];omega)) (sZ r) (by rw [j9];omega) (hT.from_ ((ag.rfl_.next E4).next E13))) ?_;rintro v40 w5 ⟨rfl,E40⟩;refine asi rfl (ah (ae (af (af (ab (mvs rfl (aa (bk (l:=0) (h:=4) bj rfl (.inl ⟨rfl,rfl⟩) (.inr ⟨_,_,_,rfl,rfl,rfl⟩) (by omega) (by omega)) ?_)))))));refine av ga (nP _ _ _ 4 (eo s r).toNat _ (by rw [ep];exact (hr4.from_ (ag.rfl_.next E40)).pre) rfl (by decide) hcl hc4) ?_;rintro v43 w6 ⟨rfl,rfl⟩;refine mvi rfl (aa (jE mH jZ rfl (by omega)) (aa (bh (cv rfl rfl) (bne_self_eq_false _)) (ah (ae (aI rfl (aE (ae (af (ab (mvs rfl (aa (bk (l:=4) (h:=5) bj rfl (.inr ⟨_,_,_,rfl,rfl,rfl⟩) (.inr ⟨_,_,_,rfl,rfl,rfl⟩) (by omega) (by omega)) (av ga (nP _ _ _ 1 r.k8 _ ((hr4.from_ (ag.rfl_.next E40)).tailK (dr 4 _)).pre rfl (by decide) (by omega) (by show r.k8<256;omega)) ?_))))))))))));rintro v50 w7 ⟨rfl,rfl⟩;refine asi rfl (ah (ae (af ?_)));apply gz [(0,51,fun _ v _=>v=_),(1,52,fun _ v _=>v=_),(2,53,fun _ v _=>v=_),(3,54,fun _ v _=>v=_),(4,55,fun _ v _=>v=_),(5,56,fun _ v _=>v=_),(6,57,fun _ v _=>v=_),(7,58,fun _ v _=>v=_),(8,59,fun _ v _=>v=_),(9,60,fun _ v _=>v=_),(10,61,fun _ v _=>v=_),(11,62,fun _ v _=>v=_),(12,63,fun _ v _=>v=_),(13,64,fun _ v _=>v=_),(14,65,fun _ v _=>v=_),(15,66,fun _ v _=>v=_)] [16] (fun S w'=>(S 16=false→ag w5 w')∧(S 16=true→Blk w' b4 65 (rcV r).toArray∧ag w w')) (by kernel_rfl) (by kernel_rfl) rfl rfl ⟨fun _ _ _ _ _ _ _ h=>h,fun _ _ _ _ _ _ _ h=>h,fun _ _ _ _ _ _ _ h=>h,fun _ _ _ _ _ _ _ h=>h,fun _ _ _ _ _ _ _ h=>h,fun _ _ _ _ _ _ _ h=>h,fun _ _ _ _ _ _ _ h=>h,fun _ _ _ _ _ _ _ h=>h,fun _ _ _ _ _ _ _ h=>h,fun _ _ _ _ _ _ _ h=>h,fun _ _ _ _ _ _ _ h=>h,fun _ _ _ _ _ _ _ h=>h,fun _ _ _ _ _ _ _ h=>h,fun _ _ _ _ _ _ _ h=>h,fun _ _ _ _ _ _ _ h=>h,fun _ _ _ _ _ _ _ h=>h,trivial⟩ (fun S i w1 w2 hq hF h=>⟨fun h0=>(h.1 (lP h0)).next hF,fun h1=>(fun h=>⟨h.1.from_ hF,h.2.next hF⟩) (h.2 (mP (show 16≠i by rintro rfl;exact absurd hq (by decide)) h1))⟩) ⟨fun _=>ag.rfl_.d1,fun h=>by cases h⟩
 case hstep=>
  constructor
  ·rintro S L' w8 hU hmo hme hI hM hC hS ⟨-⟩;have hS0:S 16=false:=(ay hC (j:=16) rfl (by kernel_rfl) hS);have hM8:=hM.1 hS0;have e10:=hI.1 10 (fj rfl);exact aN [(10,_)] hU hmo hme hI hM (.head _) rfl rfl (by kernel_rfl) ⟨e10,trivial⟩ (aB (v:=.int _ _) rfl) ag.rfl_ (rfl)
  constructor
  ·rintro S L' w9 hU hmo hme hI hM hC hS ⟨d0,-⟩;have hS0:S 16=false:=(ay hC (j:=16) rfl (by kernel_rfl) hS);have hM9:=hM.1 hS0;obtain ⟨v9_51,e51,h51⟩:=hI.get (i:=0) (.head _) d0;obtain rfl:=h51;exact aN [(51,_)] hU hmo hme hI hM (.tail _ (.head _)) rfl rfl (by kernel_rfl) ⟨e51,trivial⟩ (bH (u_ rfl rfl) (congrArg (Value.int .i64) (Ae hk))) ag.rfl_ (rfl)
  constructor
  ·rintro S L' w10 hU hmo hme hI hM hC hS ⟨-⟩;have hS0:S 16=false:=(ay hC (j:=16) rfl (by kernel_rfl) hS);have hM10:=hM.1 hS0;have e8:=hI.1 8 (fj rfl);exact aN [(8,_)] hU hmo hme hI hM (.tail _ (.tail _ (.head _))) rfl rfl (by kernel_rfl) ⟨e8,trivial⟩ (aB (v:=.slice _ _ _) rfl) ag.rfl_ (rfl)
  constructor
  ·rintro S L' w11 hU hmo hme hI hM hC hS ⟨d2,-⟩;have hS0:S 16=false:=(ay hC (j:=16) rfl (by kernel_rfl) hS);have hM11:=hM.1 hS0;obtain ⟨v11_53,e53,h53⟩:=hI.get (i:=2) (.tail _ (.tail _ (.head _))) d2;obtain rfl:=h53;exact aN [(53,_)] hU hmo hme hI hM (.tail _ (.tail _ (.tail _ (.head _)))) rfl rfl (by kernel_rfl) ⟨e53,trivial⟩ (bk (l:=5) (h:=13) bj rfl (.inr ⟨_,_,_,rfl,rfl,rfl⟩) (.inr ⟨_,_,_,rfl,rfl,rfl⟩) (by omega) (by omega)) ag.rfl_ (rfl)
  constructor
  ·rintro S L' w12 hU hmo hme hI hM hC hS ⟨d3,-⟩;have hS0:S 16=false:=(ay hC (j:=16) rfl (by kernel_rfl) hS);have hM12:=hM.1 hS0;obtain ⟨v12_54,e54,h54⟩:=hI.get (i:=3) (.tail _ (.tail _ (.tail _ (.head _)))) d3;obtain rfl:=h54;refine fB (al:=[.tmp 54]) [(54,_)] hU hmo hme hI hM (.tail _ (.tail _ (.tail _ (.tail _ (.head _))))) rfl (by kernel_rfl) ⟨e54,trivial⟩ ga ((nP _ _ _ 8 r.i _ ((hr5.from_ ((ag.rfl_.next E40).next hM12)).tailK l5).pre rfl (by decide) hk.i (lt8 hk.i)).mono ?_);rintro v w2 ⟨rfl,rfl⟩;exact ⟨ag.rfl_,rfl⟩
  constructor
  ·rintro S L' w13 hU hmo hme hI hM hC hS ⟨-⟩;have hS0:S 16=false:=(ay hC (j:=16) rfl (by kernel_rfl) hS);have hM13:=hM.1 hS0;have e8:=hI.1 8 (fj rfl);exact aN [(8,_)] hU hmo hme hI hM (.tail _ (.tail _ (.tail _ (.tail _ (.tail _ (.head _)))))) rfl rfl (by kernel_rfl) ⟨e8,trivial⟩ (aB (v:=.slice _ _ _) rfl) ag.rfl_ (rfl)
  constructor
  ·rintro S L' w14 hU hmo hme hI hM hC hS ⟨d5,-⟩;have hS0:S 16=false:=(ay hC (j:=16) rfl (by kernel_rfl) hS);have hM14:=hM.1 hS0;obtain ⟨v14_56,e56,h56⟩:=hI.get (i:=5) (.tail _ (.tail _ (.tail _ (.tail _ (.tail _ (.head _)))))) d5;obtain rfl:=h56;exact aN [(56,_)] hU hmo hme hI hM (.tail _ (.tail _ (.tail _ (.tail _ (.tail _ (.tail _ (.head _))))))) rfl rfl (by kernel_rfl) ⟨e56,trivial⟩ (bk (l:=13) (h:=21) bj rfl (.inr ⟨_,_,_,rfl,rfl,rfl⟩) (.inr ⟨_,_,_,rfl,rfl,rfl⟩) (by omega) (by omega)) ag.rfl_ (rfl)
  constructor
  ·rintro S L' w15 hU hmo hme hI hM hC hS ⟨d6,d4,-⟩;have hS0:S 16=false:=(ay hC (j:=16) rfl (by kernel_rfl) hS);have hM15:=hM.1 hS0;obtain ⟨v15_57,e57,h57⟩:=hI.get (i:=6) (.tail _ (.tail _ (.tail _ (.tail _ (.tail _ (.tail _ (.head _))))))) d6;obtain rfl:=h57;refine fB (al:=[.tmp 57]) [(57,_)] hU hmo hme hI hM (.tail _ (.tail _ (.tail _ (.tail _ (.tail _ (.tail _ (.tail _ (.head _)))))))) rfl (by kernel_rfl) ⟨e57,trivial⟩ ga ((nP _ _ _ 8 r.t _ ((hr13.from_ ((ag.rfl_.next E40).next hM15)).tailK l13).pre rfl (by decide) hk.t (lt8 hk.t)).mono ?_);rintro v w2 ⟨rfl,rfl⟩;exact ⟨ag.rfl_,rfl⟩
  constructor
  ·rintro S L' w16 hU hmo hme hI hM hC hS ⟨-⟩;have hS0:S 16=false:=(ay hC (j:=16) rfl (by kernel_rfl) hS);have hM16:=hM.1 hS0;have e8:=hI.1 8 (fj rfl);exact aN [(8,_)] hU hmo hme hI hM (.tail _ (.tail _ (.tail _ (.tail _ (.tail _ (.tail _ (.tail _ (.tail _ (.head _))))))))) rfl rfl (by kernel_rfl) ⟨e8,trivial⟩ (aB (v:=.slice _ _ _) rfl) ag.rfl_ (rfl)
  constructor
  ·rintro S L' w17 hU hmo hme hI hM hC hS ⟨-⟩;have hS0:S 16=false:=(ay hC (j:=16) rfl (by kernel_rfl) hS);have hM17:=hM.1 hS0;have e9:=hI.1 9 (fj rfl);exact aN [(9,_)] hU hmo hme hI hM (.tail _ (.tail _ (.tail _ (.tail _ (.tail _ (.tail _ (.tail _ (.tail _ (.tail _ (.head _)))))))))) rfl rfl (by kernel_rfl) ⟨e9,trivial⟩ (aB (v:=.int _ _) rfl) ag.rfl_ (rfl)
  constructor
  ·rintro S L' w18 hU hmo hme hI hM hC hS ⟨d8,d9,-⟩;have hS0:S 16=false:=(ay hC (j:=16) rfl (by kernel_rfl) hS);have hM18:=hM.1 hS0;obtain ⟨v18_59,e59,h59⟩:=hI.get (i:=8) (.tail _ (.tail _ (.tail _ (.tail _ (.tail _ (.tail _ (.tail _ (.tail _ (.head _))))))))) d8;obtain rfl:=h59;obtain ⟨v18_60,e60,h60⟩:=hI.get (i:=9) (.tail _ (.tail _ (.tail _ (.tail _ (.tail _ (.tail _ (.tail _ (.tail _ (.tail _ (.head _)))))))))) d9;obtain rfl:=h60;exact aN [(59,_),(60,_)] hU hmo hme hI hM (.tail _ (.tail _ (.tail _ (.tail _ (.tail _ (.tail _ (.tail _ (.tail _ (.tail _ (.tail _ (.head _))))))))))) rfl rfl (by kernel_rfl) ⟨e59,e60,trivial⟩ (bk (l:=23) (h:=23+r.d.size) bj rfl (.inr ⟨_,_,_,rfl,rfl,rfl⟩) (.inr ⟨_,_,_,rfl,rfl,by omega⟩) (by omega) (by omega)) ag.rfl_ (rfl)
  constructor
  ·rintro S L' w19 hU hmo hme hI hM hC hS ⟨d10,-⟩;have hS0:S 16=false:=(ay hC (j:=16) rfl (by kernel_rfl) hS);have hM19:=hM.1 hS0;obtain ⟨v19_61,e61,h61⟩:=hI.get (i:=10) (.tail _ (.tail _ (.tail _ (.tail _ (.tail _ (.tail _ (.tail _ (.tail _ (.tail _ (.tail _ (.head _))))))))))) d10;obtain rfl:=h61;exact aN [(61,_)] hU hmo hme hI hM (.tail _ (.tail _ (.tail _ (.tail _ (.tail _ (.tail _ (.tail _ (.tail _ (.tail _ (.tail _ (.tail _ (.head _)))))))))))) rfl rfl (by kernel_rfl) ⟨e61,trivial⟩ (bH (v':=.string r.d) (p7 ((hr23.from_ ((ag.rfl_.next E40).next hM19)).tailK l23).pre (by rw [eJ];omega) rfl) (by rw [yU])) ag.rfl_ (rfl)
  constructor
  ·rintro S L' w20 hU hmo hme hI hM hC hS ⟨-⟩;have hS0:S 16=false:=(ay hC (j:=16) rfl (by kernel_rfl) hS);have hM20:=hM.1 hS0;have e10:=hI.1 10 (fj rfl);exact aN [(10,_)] hU hmo hme hI hM (.tail _ (.tail _ (.tail _ (.tail _ (.tail _ (.tail _ (.tail _ (.tail _ (.tail _ (.tail _ (.tail _ (.tail _ (.head _))))))))))))) rfl rfl (by kernel_rfl) ⟨e10,trivial⟩ (aB (v:=.int _ _) rfl) ag.rfl_ (rfl)
  constructor
  ·rintro S L' w21 hU hmo hme hI hM hC hS ⟨d12,-⟩;have hS0:S 16=false:=(ay hC (j:=16) rfl (by kernel_rfl) hS);have hM21:=hM.1 hS0;obtain ⟨v21_63,e63,h63⟩:=hI.get (i:=12) (.tail _ (.tail _ (.tail _ (.tail _ (.tail _ (.tail _ (.tail _ (.tail _ (.tail _ (.tail _ (.tail _ (.tail _ (.head _))))))))))))) d12;obtain rfl:=h63;exact aN [(63,_)] hU hmo hme hI hM (.tail _ (.tail _ (.tail _ (.tail _ (.tail _ (.tail _ (.tail _ (.tail _ (.tail _ (.tail _ (.tail _ (.tail _ (.tail _ (.head _)))))))))))))) rfl rfl (by kernel_rfl) ⟨e63,trivial⟩ (AP rfl rfl) ag.rfl_ (rfl)
  constructor
  ·rintro S L' w22 hU hmo hme hI hM hC hS ⟨d13,-⟩;have hS0:S 16=false:=(ay hC (j:=16) rfl (by kernel_rfl) hS);have hM22:=hM.1 hS0;obtain ⟨v22_64,e64,h64⟩:=hI.get (i:=13) (.tail _ (.tail _ (.tail _ (.tail _ (.tail _ (.tail _ (.tail _ (.tail _ (.tail _ (.tail _ (.tail _ (.tail _ (.tail _ (.head _)))))))))))))) d13;obtain rfl:=h64;exact aN [(64,_)] hU hmo hme hI hM (.tail _ (.tail _ (.tail _ (.tail _ (.tail _ (.tail _ (.tail _ (.tail _ (.tail _ (.tail _ (.tail _ (.tail _ (.tail _ (.tail _ (.head _))))))))))))))) rfl rfl (by kernel_rfl) ⟨e64,trivial⟩ (bH (cv rfl rfl) (congrArg Value.bool (B8 hk))) ag.rfl_ (rfl)
  constructor
  ·rintro S L' w23 hU hmo hme hI hM hC hS ⟨d1,d4,d7,d11,d14,-⟩;have hS0:S 16=false:=(ay hC (j:=16) rfl (by kernel_rfl) hS);have hM23:=hM.1 hS0;obtain ⟨v23_52,e52,h52⟩:=hI.get (i:=1) (.tail _ (.head _)) d1;obtain rfl:=h52;obtain ⟨v23_55,e55,h55⟩:=hI.get (i:=4) (.tail _ (.tail _ (.tail _ (.tail _ (.head _))))) d4;obtain rfl:=h55;obtain ⟨v23_58,e58,h58⟩:=hI.get (i:=7) (.tail _ (.tail _ (.tail _ (.tail _ (.tail _ (.tail _ (.tail _ (.head _)))))))) d7;obtain rfl:=h58;obtain ⟨v23_62,e62,h62⟩:=hI.get (i:=11) (.tail _ (.tail _ (.tail _ (.tail _ (.tail _ (.tail _ (.tail _ (.tail _ (.tail _ (.tail _ (.tail _ (.head _)))))))))))) d11;obtain rfl:=h62;obtain ⟨v23_65,e65,h65⟩:=hI.get (i:=14) (.tail _ (.tail _ (.tail _ (.tail _ (.tail _ (.tail _ (.tail _ (.tail _ (.tail _ (.tail _ (.tail _ (.tail _ (.tail _ (.tail _ (.head _))))))))))))))) d14;obtain rfl:=h65;exact aN [(52,_),(55,_),(58,_),(62,_),(65,_)] hU hmo hme hI hM (.tail _ (.tail _ (.tail _ (.tail _ (.tail _ (.tail _ (.tail _ (.tail _ (.tail _ (.tail _ (.tail _ (.tail _ (.tail _ (.tail _ (.tail _ (.head _)))))))))))))))) rfl rfl (by kernel_rfl) ⟨e52,e55,e58,e62,e65,trivial⟩ (bN (l:=[(0,.tmp 52),(1,.tmp 55),(2,.tmp 58),(3,.tmp 62),(4,.tmp 65)]) (jB _ _ _ _ _)) ag.rfl_ (rfl)
  constructor
  ·rintro S L' w24 hU hmo hme hI hM hC hS ⟨d15,d7,d0,d1,d2,d3,d4,d5,d6,d7,d8,d9,d10,d11,d12,d13,d14,d15,-⟩;have hS0:S 16=false:=hS;have hM24:=hM.1 hS0;have e4:=hI.1 4 (fj rfl);obtain ⟨v24_66,e66,h66⟩:=hI.get (i:=15) (.tail _ (.tail _ (.tail _ (.tail _ (.tail _ (.tail _ (.tail _ (.tail _ (.tail _ (.tail _ (.tail _ (.tail _ (.tail _ (.tail _ (.tail _ (.head _)))))))))))))))) d15;obtain rfl:=h66;obtain ⟨w2,hR,hO,hb2⟩:=uf (n:=70) (L:=[(4,_),(66,_)]) (x:=.tmp 4) (y:=.tmp 66) (vs:=rcV r) cA rfl rfl (by simp [rcV,Value.oneCell']) (hk4.from_ (E13.next ((ag.rfl_.next E40).next hM24))) rfl;exact qX [(4,_),(66,_)] hI (BE rfl) rfl (by kernel_rfl) ⟨e4,e66,trivial⟩ hR ⟨fun h0=>(by rw [mQ] at h0;cases h0),fun _=>⟨hb2,(((((ag.rfl_.next E4).next E13).next E40).next hM24)).only hO hg4⟩⟩ ⟨fun _ _ _ h=>h,fun _ _ _ h=>h,fun _ _ _ h=>h,fun _ _ _ h=>h,fun _ _ _ h=>h,fun _ _ _ h=>h,fun _ _ _ h=>h,fun _ _ _ h=>h,fun _ _ _ h=>h,fun _ _ _ h=>h,fun _ _ _ h=>h,fun _ _ _ h=>h,fun _ _ _ h=>h,fun _ _ _ h=>h,fun _ _ _ h=>h,fun _ _ _ h=>h,trivial⟩
  exact trivial
 case hend=>
  intro w25 hM;obtain ⟨hk11,hF11⟩:=hM.2 rfl;rintro v25_51 rfl v25_52 rfl v25_53 rfl v25_54 rfl v25_55 rfl v25_56 rfl v25_57 rfl v25_58 rfl v25_59 rfl v25_60 rfl v25_61 rfl v25_62 rfl v25_63 rfl v25_64 rfl v25_65 rfl v25_66 rfl;refine fq (ae (af (ab (aa (aG (cs:=rcV r) dZ cA rfl hk11.whole) (mvi rfl (mvi rfl (aV (vs:=[_,_,_,_,_]) cA rfl rfl (by simp [Value.oneCell']) (hk11) rfl ?_)))))));intro w26 O12 P12;refine asi rfl (asi rfl (asb rfl (ah (ae (aC (Ao rfl (bx (cs:=[_,_,_,_,_]) dZ cA rfl (by exact P12.whole)) (cD (v:=.int _ _) rfl) (cD (v:=.int _ _) rfl) (cD (v:=.bool _) rfl) ?_))))));exact ⟨rfl,(hF11.only O12 (hg4))⟩
theorem fv:(dq prog 83).isSome=true:=by kernel_rfl
theorem lE:dq prog 83=some (65,5):=by kernel_rfl
theorem qI:aH prog 93=true:=by kernel_rfl
def fi (r:Rc) (b:Bool):Rc:={ r with fin:=b }
theorem uC {r:Rc} {b:Bool} (h:r.Ok):(fi r b).Ok:=⟨h.k1,h.k3,h.i,h.t,h.d⟩
def ax:BitVec 32→List Rc→List Nat×BitVec 32
 |s,[]=>([],s)
 |s,r::rs=>(cF (b_ s r)++(ax (eo s r) rs).1,(ax (eo s r) rs).2)
theorem fH:∀ (rs:List Rc) (s:BitVec 32) (r:Rc),ax s (rs++[r])=((ax s rs).1++cF (b_ (ax s rs).2 r),eo (ax s rs).2 r)
 |[],s,r=>by simp [ax]
 |a::rs,s,r=>by
  show (cF (b_ s a)++(ax (eo s a) (rs++[r])).1,(ax (eo s a) (rs++[r])).2)=_;rw [fH rs];simp [ax]
theorem iP:∀ (rs ts:List Rc) (s:BitVec 32),ax s (rs++ts)=((ax s rs).1++(ax (ax s rs).2 ts).1,(ax (ax s rs).2 ts).2)
 |[],ts,s=>by simp [ax]
 |a::rs,ts,s=>by
  show (cF (b_ s a)++(ax (eo s a) (rs++ts)).1,(ax (eo s a) (rs++ts)).2)=_;rw [iP rs];simp [ax]
def jI (n:Nat):Nat→List Rc→List Rc
 |_,[]=>[]
 |i,r::rs=>fi r (decide (i+1=n))::jI n (i+1) rs
def bl (rs:List Rc):List Rc:=jI rs.length 0 rs
theorem l3 (n:Nat):∀ (rs:List Rc) (i:Nat),(jI n i rs).length=rs.length
 |[],_=>rfl
 |r::rs,i=>by simp [jI,l3 n rs]
theorem rB (n:Nat):∀ (rs:List Rc) (i j:Nat) (h:j<rs.length) (h':j<(jI n i rs).length),(jI n i rs)[j]=fi rs[j] (decide (i+j+1=n))
 |r::rs,i,0,_,_=>rfl
 |r::rs,i,j+1,h,h'=>by
  have:=rB n rs (i+1) j (by simpa using h) (by simpa [jI] using h');simp only [jI,List.getElem_cons_succ];rw [this,show i+1+j+1=i+(j+1)+1 by omega]
theorem gT (rs:List Rc):(bl rs).length=rs.length:=l3 _ _ _
theorem lZ {rs:List Rc} {i:Nat} (h:i<rs.length):(bl rs)[i]'(by rw [gT];exact h)=fi rs[i] (decide (i+1=rs.length)):=by
 have:=rB rs.length rs 0 i h (by rw [l3];exact h);rw [Nat.zero_add] at this;exact this
theorem vH (s:BitVec 32) {r:Rc} (h:r.Ok):(cF (b_ s r)).length≤4400:=by
 have:=h.d;rw [iJ _ _ rfl,kf];omega
theorem lz:∀ (rs:List Rc) (s:BitVec 32),∀ b∈(ax s rs).1,b<256
 |[],_,b,h=>by cases h
 |r::rs,s,b,h=>by
  rcases List.mem_append.1 h with h | h
  ·exact x4 s r b h
  ·exact lz rs _ b h
theorem uo (r:Rc):(rcV r).length=5:=rfl
theorem uq {w:World} {base e n c:Nat} {A:Option Addr} {xs:List Value} (h:w.ownsRow base e 1 (.slice A n c) n xs):0<n→∃ b o,A=some ⟨b,o,none⟩∧w.rangeAt b o xs:=fun h0=>by
 obtain ⟨g,cur,hA,_,hb,_,_,_,hct⟩:=ka h h0;have h1:xs.take (n*1)=xs:=List.take_of_length_le (by rw [h.1];exact Nat.le_refl _);exact ⟨g,0,hA,by have:=ny (o:=n*1) hb hct;rwa [h1] at this⟩
theorem nJ {w:World} {base e s n c:Nat} {xs:List Value} (h:w.ownsRow base e s (.slice none n c) n xs):c=0:=by
 rcases h.2 with ⟨h1,_⟩ | ⟨g,cap,cur,hv,_⟩
 ·simp only [Value.slice.injEq] at h1;omega
 ·simp only [Value.slice.injEq] at hv;cases hv.1
theorem tB (a b:List Nat):aK a++aK b=aK (a++b):=by simp [aK]
theorem pB (A:Option Addr) (c n:Nat) (rs:List Rc) (s:BitVec 32) (w:World) (hr:gH 5 rcV w A rs) (hn:n=rs.length) (hl:rs.length≤600) (hok:∀ r∈rs,r.Ok) (hT:cO w) :
 Rt prog 75 [.slice A n c,.int .u32 (s.toNat:Nat)] w (fun v w'=>(∃ A' c',v=.tuple #[.slice A' (ax s (bl rs)).1.length c',.int .u32 ((ax s (bl rs)).2.toNat:Nat)]∧w'.ownsRow w.heap.size 5 1 (.slice A' (ax s (bl rs)).1.length c') (ax s (bl rs)).1.length (aK (ax s (bl rs)).1))∧ag w w'):=by
 subst hn;refine enter (n:=37) Tryz.func75 rfl rfl rfl (af (ab (ass rfl (asi rfl (ah (ae (af (ab (ass rfl (ah (ae (af (af (ab (mvs rfl (aa (bb fv rfl) ?_))))))))))))))));refine mvi rfl (ah (ae (aP (cH (G:=Nat×BitVec 32×List Nat×(Option Addr×Nat)) [7,8,9,10,14,15,16,17,18,19,20,21,22,23,24,25,26,27,28,29,30,31,32,33,34] (fun (i,s',o,(A6,c6))=>[(1,.int .u32 (s'.toNat:Nat)),(6,.slice A6 o.length c6),(13,.int .i64 (i:Nat))]) (fun (i,s',o,(A6,c6)) w'=>i≤rs.length∧o.length≤i*4400∧(o,s')=ax s ((bl rs).take i)∧w'.ownsRow w.heap.size 5 1 (.slice A6 o.length c6) o.length (aK o)∧ag w w') (fun (i,_)=>rs.length-i) ((0,s,[],(none,0))) ⟨rfl,rfl,rfl,trivial⟩ ?_ ?_))))
 ·exact ⟨Nat.zero_le _,Nat.zero_le _,rfl,World.ownsRow_nil _ _ _ _,ag.rfl_⟩
 rintro ⟨i,s',o,⟨A6,c6⟩⟩ ρ1 w1 ⟨hin,hob,hch,ho,hB⟩;refine af (ab (aa (cl rfl rfl) (ah (ae (af (BM rfl (fun Q2=>?_) (fun Q2=>?_)))))))
 ·have hi:i<rs.length:=by omega
  obtain ⟨ba,oa,hA,hcs⟩:=hr (by omega);subst hA;have hoki:=hok _ (List.getElem_mem hi);have hfl:=vH s' (uC (b:=decide (i+1=rs.length)) hoki);refine aE (ae (af (aP (af (ab (mvi rfl (aa (bf lE rfl rfl (by omega)) (aa (aG (cs:=rcV (rs[i]'hi)) dZ cA rfl (dU hB (hcs i hi))) (aZ fe ?_)))))))));intro b8 w3 E8 hb8 hk8;refine asi rfl (aV (vs:=[_,_,_,_,_]) cA rfl rfl (by simp [Value.oneCell']) (hk8) rfl ?_);intro w4 O4 P4;have hP4:Blk w4 b8 65 (rcV (rs[i]'hi)).toArray:=P4;have hF4:=E8.only O4 (Nat.le_of_eq hb8.symm);refine ah (ae (af (ab (mvi rfl (mvs rfl (aa (bb fv rfl) (aa (dv rfl rfl (by omega)) ?_)))))));refine aa (bH (a7 rfl rfl) (congrArg Value.bool (show (((i:Nat):Int)==((rs.length:Nat):Int)-1)=decide (i+1=rs.length) by rw [Bool.eq_iff_iff,beq_iff_eq,decide_eq_true_eq];omega))) ?_;refine aa (ai fU rfl) (cT (v:=.bool _) lH rfl rfl rfl (hP4) (by show 4<5;decide) ?_);intro w5 O5 P5;have hP5:Blk w5 b8 65 (rcV (fi (rs[i]'hi) (decide (i+1=rs.length)))).toArray:=P5;have hF5:=hF4.only O5 (Nat.le_of_eq hb8.symm);refine ah (ae (af (ab (aa (aG (cs:=rcV (fi (rs[i]'hi) (decide (i+1=rs.length)))) dZ cA rfl hP5.whole) (mvi rfl (av qI (dx (fi (rs[i]'hi) (decide (i+1=rs.length))) s' _ (uC hoki) (hT.from_ (((hB.next E8).only O4 ((by rw [hb8];exact hB.size))).only O5 ((by rw [hb8];exact hB.size))))) ?_))))));rintro v27 w6 ⟨⟨A27,c27,rfl,ho27⟩,E27⟩;have hF27:=hF5.next E27;refine mvt rfl (aa (ar rfl rfl) (aa (ar rfl rfl) (ass rfl (asi rfl (ah (ae (ab (mvs rfl (mvs rfl (dk (a0:=w) (news:=aK (cF (b_ s' (fi (rs[i]'hi) (decide (i+1=rs.length)))))) fP rfl (by decide) rfl (ho.kept_from hF27) ((((hB.next E8).only O4 ((by rw [hb8];exact hB.size))).only O5 ((by rw [hb8];exact hB.size))).next E27) rfl (by rw [aJ,Nat.mul_one]) (uq ho27) (fun h=>by subst h;exact nJ ho27) (dP _) (by omega) (by omega) ?_))))))))));intro A32 c32 w7 ho32 B32 hg32;refine mvi rfl (ass rfl (asi rfl (ah (bI (ae (ab (aa (cf (b:=1) rfl rfl (by omega)) (mvi rfl (ah ?_)))))))));refine bW ((i+1,eo s' (fi (rs[i]'hi) (decide (i+1=rs.length))),o++cF (b_ s' (fi (rs[i]'hi) (decide (i+1=rs.length)))),(A32,c32))) ⟨rfl,(congrArg (fun n=>Value.slice A32 n c32) (by rw [List.length_append])),(by first | rfl | (refine bD ?_;omega)),trivial⟩ (by (iterate 56 refine bg rfl ?_);exact bw) ⟨?_,?_⟩
  ·refine ⟨by omega,by rw [List.length_append];omega,?_,?_,B32⟩
   ·rw [List.take_succ_eq_append_getElem (by rw [gT];exact hi),lZ hi,fH,←hch]
   ·rw [←tB,List.length_append];exact ho32
  ·show rs.length-(i+1)<rs.length-i;omega
 refine cx (bc (bc (bX (ae (af (ab (mvs rfl (mvi rfl (ass rfl (asi rfl (ah (ae (aC (gj (v:=.slice _ _ _) (v':=.int _ _) rfl rfl rfl ?_))))))))))))));obtain rfl:i=rs.length:=by omega
 rw [List.take_of_length_le (by rw [gT];exact Nat.le_refl _)] at hch;rw [←hch];exact ⟨⟨A6,c6,rfl,ho⟩,hB⟩
end Go.Proofs.YtaohnmneccbljaaGreatDoor
namespace Go.Proofs.YtaohnmneccbljaaGreatDoor
open Go.Proofs.Tryz (prog)
open Go.RowKit
structure Ent where
 i:Int
 t:Int
 d:ByteArray
def Ent.Ok (e:Ent):Prop:=-9223372036854775808≤e.i∧e.i≤9223372036854775807∧-9223372036854775808≤e.t∧e.t≤9223372036854775807∧e.d.size≤140737488351232
def inb (lo hi x:Int):Bool:=decide (lo≤x)&&decide (x≤hi)
theorem lq {lo hi x:Int} (h:inb lo hi x=true):lo≤x∧x≤hi:=by simpa [inb] using h
theorem xT {lo hi x:Int} (h:lo≤x∧x≤hi):inb lo hi x=true:=by simpa [inb] using h
def iO (e:Ent) (index term:Int):Bool:=decide (e.i=index+1)&&inb 1 1099511627776 e.i&&inb (max term 0) 1099511627775 e.t&&decide (e.d.size≤4096)
def cG:List Ent→Int→Int→Bool
 |[],_,_=>true
 |e::r,index,term=>iO e index term&&cG r (index+1) e.t
def ek (B T:Int) (xs:List Ent):Bool:=inb 0 1099511625728 B&&inb 0 1099511627775 T&&decide (xs.length≤512)&&cG xs B T
def bm (w:World) (v:Value) (xs:List Ent):Prop:=
 ∃ (A:Option Addr) (cap:Nat),v=.slice A xs.length cap∧xs.length≤cap∧cap≤9223372036854775807∧(A=none→cap=0)∧
  (0<xs.length→∃ b o,A=some ⟨b,o,none⟩∧b<w.heap.size∧∀ i (h:i<xs.length),w.cell? ⟨b,o+i*3,none⟩=some (.int .i64 xs[i].i)∧w.cell? ⟨b,o+i*3+1,none⟩=some (.int .i64 xs[i].t)∧w.cell? ⟨b,o+i*3+2,none⟩=some (.string xs[i].d))
theorem bm.from_ {w w':World} {v:Value} {xs:List Ent} (h:bm w v xs) (hw:ag w w'):bm w' v xs:=by
 obtain ⟨A,cap,hv,h1,h2,h3,hp⟩:=h;refine ⟨A,cap,hv,h1,h2,h3,fun h0=>?_⟩;obtain ⟨b,o,hA,hb,hc⟩:=hp h0;exact ⟨b,o,hA,Nat.lt_of_lt_of_le hb hw.size,fun i hi=>⟨(hw.cells _ _ hb).trans (hc i hi).1,(hw.cells _ _ hb).trans (hc i hi).2.1,(hw.cells _ _ hb).trans (hc i hi).2.2⟩⟩
theorem bm.nil_ (w:World):bm w (.slice none 0 0) []:=⟨none,0,rfl,by simp,by decide,fun _=>rfl,fun h=>absurd h (by simp)⟩
theorem bm.cut {w:World} {A:Option Addr} {n cap:Nat} {xs:List Ent} (h:bm w (.slice A n cap) xs) {k:Nat} (hk:k≤xs.length):bm w (.slice A k cap) (xs.take k):=by
 obtain ⟨A',c',hv,h1,h2,h3,hp⟩:=h;simp only [Value.slice.injEq] at hv;obtain ⟨rfl,rfl,rfl⟩:=hv;have hlen:(xs.take k).length=k:=by simp [Nat.min_eq_left hk]
 refine ⟨A,cap,by rw [hlen],by omega,h2,h3,fun h0=>?_⟩;rw [hlen] at h0;obtain ⟨b,o,hA,hb,hc⟩:=hp (by omega);refine ⟨b,o,hA,hb,fun i hi=>?_⟩;have:=hc i (by omega);simpa using this
theorem bm.rest {w:World} {A:Option Addr} {n cap:Nat} {xs:List Ent} (h:bm w (.slice A n cap) xs) {k:Nat} (hk:k≤xs.length) :
 bm w (.slice (if cap=k then A else Option.map (fun x=>x.add (k*3)) A) (n-k) (cap-k)) (xs.drop k):=by
 obtain ⟨A',c',hv,h1,h2,h3,hp⟩:=h;simp only [Value.slice.injEq] at hv;obtain ⟨rfl,rfl,rfl⟩:=hv;have hlen:(xs.drop k).length=xs.length-k:=by simp
 refine ⟨_,_,by rw [hlen],by omega,by omega,fun hA=>?_,fun h0=>?_⟩
 ·split at hA
  ·have:=h3 hA;omega
  ·cases A with
   |none=>
    have:=h3 rfl;omega
   |some a=>simp at hA
 ·rw [hlen] at h0;obtain ⟨b,o,rfl,hb,hc⟩:=hp (by omega);refine ⟨b,o+k*3,by rw [if_neg (by omega)];simp [Addr.add_lit],hb,fun i hi=>?_⟩;have:=hc (k+i) (by omega);rw [show o+k*3+i*3=o+(k+i)*3 by omega];simpa using this
theorem bm.of_own {w:World} {base:Nat} {e:TypeId} {v:Value} {n:Nat} {xs:List Ent} (h:w.ownsRow base e 3 v n (xs.flatMap fun x=>[.int .i64 x.i,.int .i64 x.t,.string x.d])) (hn:xs.length=n):bm w v xs:=by
 have get:∀ (xs:List Ent) (i:Nat) (h:i<xs.length),(xs.flatMap fun x=>[Value.int .i64 x.i,.int .i64 x.t,.string x.d])[i*3]? =some (.int .i64 xs[i].i)∧(xs.flatMap fun x=>[Value.int .i64 x.i,.int .i64 x.t,.string x.d])[i*3+1]? =some (.int .i64 xs[i].t)∧(xs.flatMap fun x=>[Value.int .i64 x.i,.int .i64 x.t,.string x.d])[i*3+2]? =some (.string xs[i].d):=by
  intro xs
  induction xs with
  |nil=>intro i h;simp at h
  |cons x r ih=>
   intro i h;cases i with
   |zero=>simp
   |succ i=>
    have:=ih i (by simpa using h);rw [Nat.succ_mul];simpa using this
 rcases h.2 with ⟨rfl,rfl⟩ | ⟨g,cap,cur,rfl,hg,hh,h1,h2,h4,h5⟩
 ·have:xs=[]:=List.eq_nil_of_length_eq_zero hn;subst this;exact bm.nil_ w
 ·subst hn;refine ⟨some ⟨g,0,none⟩,cap,rfl,h1,by unfold maxLen at h2;omega,fun hA=>(by cases hA),fun _=>⟨g,0,rfl,?_,fun i hi=>?_⟩⟩
  ·rcases Nat.lt_or_ge g w.heap.size with hlt | hge
   ·exact hlt
   ·rw [Array.getElem?_eq_none hge] at hh;cases hh
  ·obtain ⟨g1,g2,g3⟩:=get xs i hi;have e0:=h.cells (g:=g) rfl _ _ g1;have e1:=h.cells (g:=g) rfl _ _ g2;have e2:=h.cells (g:=g) rfl _ _ g3;rw [Addr.add_lit] at e0 e1 e2;exact ⟨e0,e1,e2⟩
def bJ (xs:List Ent):List Value:=xs.flatMap fun x=>[.int .i64 x.i,.int .i64 x.t,.string x.d]
theorem dz (xs ys:List Ent):bJ (xs++ys)=bJ xs++bJ ys:=by simp [bJ]
theorem cN:∀ (xs:List Ent),(bJ xs).length=xs.length*3
 |[]=>rfl
 |x::r=>by
  have h:bJ (x::r)=.int .i64 x.i::.int .i64 x.t::.string x.d::bJ r:=rfl;rw [h];simp only [List.length_cons,cN r];omega
theorem jN:∀ (xs:List Ent),∀ u∈bJ xs,u.oneCell'=true:=by
 intro xs u hu;simp only [bJ,List.mem_flatMap] at hu;obtain ⟨x,_,hu⟩:=hu;simp only [List.mem_cons,List.not_mem_nil,or_false] at hu;rcases hu with rfl | rfl | rfl <;> rfl
theorem uD:∀ (xs:List Ent) (j:Nat) (u:Value),(bJ xs)[j]? =some u→∃ (i r:Nat) (h:i<xs.length),j=i*3+r∧((r=0∧u=.int .i64 xs[i].i)∨(r=1∧u=.int .i64 xs[i].t)∨(r=2∧u=.string xs[i].d))
 |[],j,u,h=>by simp [bJ] at h
 |x::r,j,u,h=>by
  have hc:bJ (x::r)=.int .i64 x.i::.int .i64 x.t::.string x.d::bJ r:=rfl;rw [hc] at h
  match j,h with
  |0,h=>exact ⟨0,0,by simp,by omega,.inl ⟨rfl,by simpa using h.symm⟩⟩
  |1,h=>exact ⟨0,1,by simp,by omega,.inr (.inl ⟨rfl,by simpa using h.symm⟩)⟩
  |2,h=>exact ⟨0,2,by simp,by omega,.inr (.inr ⟨rfl,by simpa using h.symm⟩)⟩
  |j+3,h=>
   obtain ⟨i,q,hi,hj,hq⟩:=uD r j u (by simpa using h);exact ⟨i+1,q,by simpa using hi,by omega,by simpa using hq⟩
theorem bm.cellV {w:World} {A:Option Addr} {n cap:Nat} {xs:List Ent} (h:bm w (.slice A n cap) xs) {ad:Addr} (hA:A=some ad):∀ j u,(bJ xs)[j]? =some u→w.cell? (ad.add j)=some u:=by
 intro j u hu;obtain ⟨A',c',hv,_,_,_,hp⟩:=h;simp only [Value.slice.injEq] at hv;obtain ⟨rfl,rfl,rfl⟩:=hv;obtain ⟨i,r,hi,rfl,hr⟩:=uD xs j u hu;obtain ⟨b,o,hA',hb,hc⟩:=hp (by omega);rw [hA] at hA';simp only [Option.some.injEq] at hA';subst hA';rw [Go.WideShapes.add_plain,←Nat.add_assoc];obtain ⟨c1,c2,c3⟩:=hc i hi;rcases hr with ⟨rfl,rfl⟩ | ⟨rfl,rfl⟩ | ⟨rfl,rfl⟩
 ·exact c1
 ·exact c2
 ·exact c3
theorem rS:(prog.info? 49).map (fun i=>(i.zero,i.size,i.bytes))=some (some (.agg #[.int .i64 0,.int .i64 0,.string ⟨#[]⟩]),3,32):=by kernel_rfl
theorem pV {ops:Array Oper} {rest:List Oper} {o:Oper} {a:Act} {Q:Exit→Act→World→Prop} {wr:World} (a0:World) (hgd:o.guard=none) (s x:Operand) (t:TypeId)
 (ho:o.op=.call { callee:=.builtin .append,args:=#[s,x],argTypes:=#[t,t] }) (ht:prog.underlying t=some (.slice 49))
 (v:Value) (n:Nat) (xs:List Ent) (hs:a.eval s=v) (hown:wr.ownsRow a0.heap.size 49 3 v n (bJ xs)) (hw:ag a0 wr) (v2:Value) (news:List Ent) (hx:a.eval x=v2) (hr:bm wr v2 news)
 (hroom:n+news.length≤1000000000000)
 (h:∀ v' w',w'.ownsRow a0.heap.size 49 3 v' (n+news.length) (bJ (xs++news))→ag a0 w'→wpList prog ops Q rest (a.put o.dst v') w'):wpList prog ops Q (o::rest) a wr:=by
 obtain ⟨i0,hi0,hz0,hz1,hz2⟩:=info_parts rS;have hr0:=hr;obtain ⟨A,cap,rfl,hc1,hc2,hc3,hp⟩:=hr;cases A with
 |none=>
  have h0:=hc3 rfl;subst h0;have hnn:news=[]:=List.eq_nil_of_length_eq_zero (by omega);subst hnn;refine wpList_append_own_none (P:=prog) hgd s x t ho a0.heap.size 49 i0 3 ht hi0 v n (bJ xs) hs hown hx (h v wr ?_ hw);simpa using hown
 |some ad=>
  refine wpList_append_own (P:=prog) _ hgd s x t ho a0.heap.size 49 i0 _ 3 32 ht hi0 hz0 hz1 hz2 rfl (by decide) v n (bJ xs) hs hown ad news.length cap (bJ news) hx (cN news) (hr0.cellV rfl) (jN news) (by unfold maxLen;omega) (by omega) hw.size ?_;intro v' w' hown' hg _;rw [←dz] at hown';exact h v' w' hown' (hw.grew hg (fun k hk=>(hown.lt k hk).1))
def B_ (xs ys:List Ent):Nat→List Ent | 0=>[] | 1=>xs | _=>xs++ys
end Go.Proofs.YtaohnmneccbljaaGreatDoor
namespace Go.Proofs.YtaohnmneccbljaaGreatDoor
open Go.Proofs.Tryz (prog)
open Go.RowKit
open Go.ChangeShapes Go.WideShapes Go.ChangeAt
theorem kL:fK prog 49=some true:=by kernel_rfl
theorem eZ:cS prog 49=some 3:=by kernel_rfl
theorem eM:eU prog 83=some (65,5,48,(.agg #[.int .i64 0,.int .i64 0,.int .i64 0,.string ⟨#[]⟩,.bool false])):=by kernel_rfl
theorem cj:(dq prog 34).isSome=true:=by kernel_rfl
theorem cM:dq prog 34=some (49,3):=by kernel_rfl
theorem kK:ij prog 49=some (.agg #[.int .i64 0,.int .i64 0,.string ⟨#[]⟩]):=by kernel_rfl
theorem ft:ch prog 49 0=some 0:=by kernel_rfl
theorem dK:ch prog 49 1=some 1:=by kernel_rfl
theorem gC:ch prog 49 2=some 2:=by kernel_rfl
theorem gZ:∀ (a0:Int) (a1:Int) (a2:ByteArray),prog.built 65 [(0,.int .i64 1),(1,.int .i64 a0),(2,.int .i64 a1),(3,.string a2)]=some #[.int .i64 1,.int .i64 a0,.int .i64 a1,.string a2,.bool false]:=by intros;kernel_rfl
theorem a8:ch prog 36 2=some 2:=by kernel_rfl
theorem bC:fK prog 34=some false:=by kernel_rfl
def fG (e:Ent):Rc:=⟨1,e.i.toNat,e.t.toNat,e.d,false⟩
theorem x8 {e:Ent} (h:0≤e.i∧0≤e.t):rcV (fG e)=[.int .i64 1,.int .i64 e.i,.int .i64 e.t,.string e.d,.bool false]:=by
 unfold rcV fG;rw [Int.toNat_of_nonneg h.1,Int.toNat_of_nonneg h.2];rfl
theorem Bi (r:Rc):Instr.fill (fun i=>some (i*5,5)) ((Array.range (1*5)).map ((.agg #[.int .i64 0,.int .i64 0,.int .i64 0,.string ⟨#[]⟩,.bool false]:Value).cells[·%(.agg #[.int .i64 0,.int .i64 0,.int .i64 0,.string ⟨#[]⟩,.bool false]:Value).cells.size]!)) [(0,.agg (rcV r).toArray)]=some (rcV r).toArray:=by
 first
  |kernel_rfl
  |rfl
theorem tq {w:World} {A:Option Addr} {n c:Nat} {es:List Ent} (h:bm w (.slice A n c) es) (hn:0<es.length):∃ b o,A=some ⟨b,o,none⟩∧∀ i (hi:i<es.length),w.rangeAt b (o+i*3) [.int .i64 es[i].i,.int .i64 es[i].t,.string es[i].d]:=by
 obtain ⟨A',c',hv,_,_,_,hp⟩:=h;simp only [Value.slice.injEq] at hv;obtain ⟨rfl,_,_⟩:=hv;obtain ⟨b,o,hA,_,hc⟩:=hp hn
 exact ⟨b,o,hA,fun i hi j v hv=>by
  match j,hv with
  |0,hv=>cases hv;exact (hc i hi).1
  |1,hv=>cases hv;exact (hc i hi).2.1
  |2,hv=>cases hv;exact (hc i hi).2.2
  |j+3,hv=>simp at hv⟩
def cu (es:List Ent):Nat:=(es.map fun e=>(e.d.size+53)/31*32).sum
theorem uZ {es:List Ent} {i:Nat} (h:i<es.length):cu (es.take (i+1))=cu (es.take i)+(es[i].d.size+53)/31*32:=by
 unfold cu;rw [List.take_succ_eq_append_getElem h,List.map_append,List.sum_append];simp
theorem y4 {es:List Ent} (h:∀ e∈es,e.d.size≤4096):cu es≤es.length*4400:=by
 induction es with
 |nil=>exact Nat.le_refl _
 |cons e r ih=>
  have h1:=h e (by simp);have h2:=ih fun x hx=>h x (by simp [hx])
  unfold cu at h2 ⊢;rw [List.map_cons,List.sum_cons,List.length_cons];omega
theorem vj {es:List Ent} {i:Nat} (h:i<es.length):((es.take i).map fG).flatMap rcV++rcV (fG es[i])=((es.take (i+1)).map fG).flatMap rcV:=by
 rw [List.take_succ_eq_append_getElem h,List.map_append,List.flatMap_append];simp
theorem gm (E:Option Addr) (c n:Nat) (es:List Ent) (w:World) (he:bm w (.slice E n c) es) (hn:n=es.length) (hl:es.length≤600) (hp:∀ e∈es,0≤e.i∧0≤e.t) :
 Rt prog 38 [.slice E n c] w (fun v w'=>(∃ A' c',v=.slice A' es.length c'∧w'.ownsRow w.heap.size 65 5 (.slice A' es.length c') es.length ((es.map fG).flatMap rcV))∧ag w w'):=by
 subst hn;refine enter (n:=24) Tryz.func38 rfl rfl rfl (af (ab (ass rfl (ah (ae (af (ab (ass rfl (ah (ae (af (af (ab (mvs rfl (aa (bb cj rfl) (mvi rfl ?_))))))))))))))));refine ah (ae (aP (cH (G:=Nat×(Option Addr×Nat)) [5,9,10,11,12,13,14,15,16,17,18,19,20,21,22] (fun (i,(A3,c3))=>[(3,.slice A3 i c3),(8,.int .i64 (i:Nat))]) (fun (i,(A3,c3)) w'=>i≤es.length∧w'.ownsRow w.heap.size 65 5 (.slice A3 i c3) i (((es.take i).map fG).flatMap rcV)∧ag w w') (fun (i,_)=>es.length-i) ((0,(none,0))) ⟨rfl,rfl,trivial⟩ ?_ ?_)))
 ·exact ⟨Nat.zero_le _,World.ownsRow_nil _ _ _ _,ag.rfl_⟩
 rintro ⟨i,⟨A3,c3⟩⟩ ρ1 w1 ⟨hin,ho,hB⟩;refine af (ab (aa (cl rfl rfl) (ah (ae (af (BM rfl (fun Q2=>?_) (fun Q2=>?_)))))))
 ·have hi:i<es.length:=by omega
  obtain ⟨ba,oa,hA,hcs⟩:=tq he (by omega);subst hA;have hv:=x8 (hp _ (List.getElem_mem hi));refine aE (ae (af (aP (af (ab (aa (bf cM rfl rfl (by omega)) (aa (aG (cs:=[.int .i64 (es[i]'hi).i,.int .i64 (es[i]'hi).t,.string (es[i]'hi).d]) kL eZ rfl (dU hB (hcs i hi))) (aZ kK ?_))))))));intro b5 w3 E5 hb5 hk5;refine aV (vs:=[_,_,_]) eZ rfl rfl (by simp [Value.oneCell']) (hk5) rfl ?_;intro w4 O4 P4;have hP4:Blk w4 b5 49 [.int .i64 (es[i]'hi).i,.int .i64 (es[i]'hi).t,.string (es[i]'hi).d].toArray:=P4;have hF4:=E5.only O4 (Nat.le_of_eq hb5.symm);refine ah (ae (ab (mvs rfl (aa (ai ft rfl) (aa (ao aD rfl (by exact hP4.rd 0 rfl)) ?_)))));refine aa (ai dK rfl) (aa (ao aD rfl (by exact hP4.rd 1 rfl)) ?_);refine aa (ai gC rfl) (aa (ao bY rfl (by exact hP4.rd 2 rfl)) ?_);refine aa (bN (l:=[(0,.const (.int .i64 1)),(1,.tmp 14),(2,.tmp 16),(3,.tmp 18)]) (gZ _ _ _)) ?_;refine gi (l:=[(0,.tmp 19)]) (cells:=(rcV (fG (es[i]'hi))).toArray) eM rfl rfl (by rw [hv];show Instr.fill _ _ [(0,Value.agg #[.int .i64 1,.int .i64 (es[i]'hi).i,.int .i64 (es[i]'hi).t,.string (es[i]'hi).d,.bool false])]=_;kernel_rfl) ?_;intro b20 w5 E20 hb20 hk20;have hF20:=hF4.next E20;refine dk (a0:=w) (news:=rcV (fG (es[i]'hi))) eM rfl (by decide) rfl (ho.kept_from hF20) (((hB.next E5).only O4 ((by rw [hb5];exact hB.size))).next E20) rfl rfl (fun _=>⟨b20,0,rfl,hk20.whole⟩) (fun h=>by cases h) (by simp [rcV,Value.oneCell']) (by omega) (by omega) ?_;intro A21 c21 w6 ho21 B21 hg21;refine ass rfl (ah (bI (ae (ab (aa (cf (b:=1) rfl rfl (by omega)) (mvi rfl (ah ?_)))))));refine bW ((i+1,(A21,c21))) ⟨(by first | rfl | (refine bD ?_;omega)),(by first | rfl | (refine bD ?_;omega)),trivial⟩ (by (iterate 34 refine bg rfl ?_);exact bw) ⟨?_,?_⟩
  ·exact ⟨by omega,by rw [←vj hi];exact ho21,B21⟩
  ·show es.length-(i+1)<es.length-i;omega
 refine cx (bc (bc (bX (ae (af (ab (mvs rfl (ass rfl (ah (ae (aC (bz (v:=.slice _ _ _) rfl rfl ?_))))))))))));obtain rfl:i=es.length:=by omega
 rw [List.take_length] at ho;exact ⟨⟨A3,c3,rfl,ho⟩,hB⟩
theorem td (b t:Int) (E:Option Addr) (c:Nat) (es:List Ent) (w:World) (he:bm w (.slice E es.length c) es) (hl:es.length≤600) (hd:∀ e∈es,e.d.size≤4096) :
 Rt prog 76 [.agg #[.int .i64 b,.int .i64 t,.slice E es.length c]] w (fun v w'=>v=.int .i64 (32+cu es:Nat)∧ag w w'):=by
 refine enter (n:=22) Tryz.func76 rfl rfl rfl (af (ab (bu (v:=.agg _) rfl ?_)));intro b1 w1 E1 hb1 hk1;refine asi rfl (ah (ae (af (ab (av jT (jg 0 _ (by decide)) ?_)))));rintro v6 w2 ⟨rfl,rfl⟩;refine asi rfl (ah (ae (af (af (ab (aa (ai a8 rfl) (aa (ao bC rfl (by exact hk1.rd 2 rfl)) ?_)))))));refine aa (bb cj rfl) (mvi rfl (ah (ae (aP (cH (G:=Nat) [5,11,12,13,14,15,16,17,18,19,20] (fun i=>[(3,.int .i64 (32+cu (es.take i):Nat)),(10,.int .i64 (i:Nat))]) (fun i w'=>i≤es.length∧ag w w') (fun i=>es.length-i) (0) ⟨rfl,rfl,trivial⟩ ?_ ?_)))))
 ·exact ⟨Nat.zero_le _,(ag.rfl_.next E1)⟩
 rintro i ρ3 w3 ⟨hin,hB⟩;refine af (ab (aa (cl rfl rfl) (ah (ae (af (BM rfl (fun Q4=>?_) (fun Q4=>?_)))))))
 ·have hi:i<es.length:=by omega
  obtain ⟨ba,oa,hA,hcs⟩:=tq he (by omega);subst hA;have hdi:=hd _ (List.getElem_mem hi);have hsi:cu (es.take i)≤600*4400:=Nat.le_trans (y4 (fun e h=>hd e (List.mem_of_mem_take h))) (Nat.mul_le_mul_right _ (by rw [List.length_take];omega));refine aE (ae (af (aP (af (ab (aa (bf cM rfl rfl (by omega)) (aa (aG (cs:=[.int .i64 (es[i]'hi).i,.int .i64 (es[i]'hi).t,.string (es[i]'hi).d]) kL eZ rfl (dU hB (hcs i hi))) (aZ kK ?_))))))));intro b5 w5 E5 hb5 hk5;refine aV (vs:=[_,_,_]) eZ rfl rfl (by simp [Value.oneCell']) (hk5) rfl ?_;intro w6 O4 P4;have hP4:Blk w6 b5 49 [.int .i64 (es[i]'hi).i,.int .i64 (es[i]'hi).t,.string (es[i]'hi).d].toArray:=P4;refine ah (ae (ab (mvi rfl (aa (ai gC rfl) (aa (ao bY rfl (by exact hP4.rd 2 rfl)) ?_)))));refine aa (im (by kernel_rfl) rfl) (av jT (jg (es[i]'hi).d.size _ (by omega)) ?_);rintro v18 w7 ⟨rfl,rfl⟩;refine aa (br rfl rfl (by omega)) (asi rfl (ah (bI (ae (ab (aa (cf (b:=1) rfl rfl (by omega)) (mvi rfl (ah ?_))))))));refine bW (i+1) ⟨(bD (by rw [uZ hi];omega)),(by first | rfl | (refine bD ?_;omega)),trivial⟩ (by (iterate 26 refine bg rfl ?_);exact bw) ⟨?_,?_⟩
  ·exact ⟨by omega,((hB.next E5).only O4 ((by rw [hb5];exact hB.size)))⟩
  ·omega
 refine cx (bc (bc (bX (ae (af (ab (mvi rfl (asi rfl (ah (ae (aC (bz (v:=.int _ _) rfl rfl ?_))))))))))));obtain rfl:i=es.length:=by omega
 rw [List.take_length];exact ⟨rfl,hB⟩
theorem az:fK prog 36=some true:=by kernel_rfl
theorem aq:cS prog 36=some 3:=by kernel_rfl
theorem cC:ch prog 36 0=some 0:=by kernel_rfl
theorem gb:ch prog 36 1=some 1:=by kernel_rfl
theorem mb:aH prog 59=true:=by kernel_rfl
def bo (b t:Int) (es:List Ent):Int×Int:=match es.getLast? with | some e=>(e.i,e.t) | none=>(b,t)
theorem o8 (b t:Int) {es:List Ent} (h:0<es.length):bo b t es=((es[es.length-1]'(by omega)).i,(es[es.length-1]'(by omega)).t):=by
 unfold bo;rw [List.getLast?_eq_getElem?,List.getElem?_eq_getElem (by omega)]
theorem uQ (b t:Int) {es:List Ent} (h:es.length=0):bo b t es=(b,t):=by
 obtain rfl:=List.eq_nil_of_length_eq_zero h;rfl
def lgV (b t:Int) (E:Option Addr) (n c:Nat):List Value:=[.int .i64 b,.int .i64 t,.slice E n c]
def OkE (e:Ent) (p t:Int):Prop:=e.i=p+1∧e.i≤1099511627776∧t≤e.t∧e.t<1099511627776∧e.d.size≤4096
theorem j7 {e:Ent} {r:List Ent} {p t:Int} (h:¬ OkE e p t):cG (e::r) p t=false:=by
 have h2:iO e p t=false:=by
  rw [Bool.eq_false_iff];intro h3;apply h;unfold iO inb at h3;simp only [Bool.and_eq_true,decide_eq_true_eq] at h3;unfold OkE;omega
 simp only [cG,h2,Bool.false_and]
theorem q8 {e:Ent} {r:List Ent} {p t:Int} (h:OkE e p t) (hp:0≤p) (ht:0≤t):cG (e::r) p t=cG r (p+1) e.t:=by
 have h2:iO e p t=true:=by
  unfold OkE at h;unfold iO inb;simp only [Bool.and_eq_true,decide_eq_true_eq];omega
 simp only [cG,h2,Bool.true_and]
theorem vD (b t:Int) (E:Option Addr) (c n:Nat) (es:List Ent) (w:World) (he:bm w (.slice E n c) es) (hn:n=es.length) (hl:es.length≤1000000) :
 Rt prog 59 [.agg (lgV b t E n c).toArray] w (fun v w'=>v=.tuple #[.int .i64 (bo b t es).1,.int .i64 (bo b t es).2]∧ag w w'):=by
 subst hn;refine enter (n:=28) Tryz.func59 rfl rfl rfl (af (ab (bu (v:=.agg _) rfl ?_)));intro b1 w1 E1 hb1 hk1;refine asi rfl (asi rfl (ah (ae (af (af (ab (aa (ai a8 rfl) (aa (ao bC rfl (by exact hk1.rd 2 rfl)) ?_))))))));refine aa (bb cj rfl) (asi rfl (ah (ae (af (ab (mvi rfl (aa (cn rfl rfl) (ah (ae (BM rfl (fun Q2=>?_) (fun Q2=>?_)))))))))))
 ·have hpos:0<es.length:=by omega
  obtain ⟨ba,oa,hA,hcs⟩:=tq he hpos;subst hA;have hcl:=hcs (es.length-1) (by omega);have hwl:=o8 b t hpos;refine af ?_;apply bO 16 [(10,eqp _),(11,eqp _),(12,eqp _),(13,eqp _),(14,eqp _),(15,eqp _),(16,eqp _),(17,eqp _),(18,eqp _),(19,eqp _),(20,eqp _),(21,eqp _),(22,eqp _),(23,eqp _),(2,eqp _),(3,eqp _)] (by repeat first | exact cr | refine cq ?_ | refine bU ?_) (by kernel_rfl) (by kernel_rfl) ⟨aj _,aj _,aj _,aj _,aj _,aj _,aj _,aj _,aj _,aj _,aj _,aj _,aj _,aj _,aj _,aj _,trivial⟩
  case hop=>
   constructor
   ·rintro-w4 D4;exact an (ai a8 rfl) rfl
   constructor
   ·rintro-w5 D5;rintro _ rfl;exact an (ao bC rfl ((hk1.from_ (ag.rfl_.next D5)).rd 2 rfl)) rfl
   constructor
   ·rintro-w6 D6;exact an (aB (v:=.int _ _) rfl) rfl
   constructor
   ·rintro-w7 D7;rintro _ rfl;exact an (bH (dv rfl rfl (by omega)) (congrArg (Value.int .i64) (show ((es.length:Nat):Int)-1=((es.length-1:Nat):Int) by omega))) rfl
   constructor
   ·rintro-w8 D8;rintro _ rfl _ rfl;exact an (bf cM rfl rfl (by omega)) rfl
   constructor
   ·rintro-w9 D9;rintro _ rfl;exact an (ai ft rfl) rfl
   constructor
   ·rintro-w10 D10;rintro _ rfl;exact an (ao aD rfl (Ct ((ag.rfl_.next E1).next D10) (hcl 0 _ rfl))) rfl
   constructor
   ·rintro-w11 D11;exact an (ai a8 rfl) rfl
   constructor
   ·rintro-w12 D12;rintro _ rfl;exact an (ao bC rfl ((hk1.from_ (ag.rfl_.next D12)).rd 2 rfl)) rfl
   constructor
   ·rintro-w13 D13;exact an (aB (v:=.int _ _) rfl) rfl
   constructor
   ·rintro-w14 D14;rintro _ rfl;exact an (bH (dv rfl rfl (by omega)) (congrArg (Value.int .i64) (show ((es.length:Nat):Int)-1=((es.length-1:Nat):Int) by omega))) rfl
   constructor
   ·rintro-w15 D15;rintro _ rfl _ rfl;exact an (bf cM rfl rfl (by omega)) rfl
   constructor
   ·rintro-w16 D16;rintro _ rfl;exact an (ai dK rfl) rfl
   constructor
   ·rintro-w17 D17;rintro _ rfl;exact an (ao aD rfl (Ct ((ag.rfl_.next E1).next D17) (hcl 1 _ rfl))) rfl
   constructor
   ·rintro-w18 D18;rintro _ rfl;exact an (bn (v:=.int _ _) rfl) rfl
   constructor
   ·rintro-w19 D19;rintro _ rfl;exact an (bn (v:=.int _ _) rfl) rfl
   exact trivial
  case hend=>
   intro w20 D20;rintro _ rfl _ rfl _ rfl _ rfl _ rfl _ rfl _ rfl _ rfl _ rfl _ rfl _ rfl _ rfl _ rfl _ rfl _ rfl _ rfl;show St ..;refine ah (ae (aC (aF (gj (v:=.int _ _) (v':=.int _ _) rfl rfl rfl (⟨by rw [hwl],((ag.rfl_.next E1).next D20)⟩)))))
 have hwl:=uQ b t (show es.length=0 by omega);refine aE (ae (af ?_));apply bO 6 [(24,eqp _),(25,eqp _),(26,eqp _),(27,eqp _),(2,eqp _),(3,eqp _)] (by repeat first | exact cr | refine cq ?_ | refine bU ?_) (by kernel_rfl) (by kernel_rfl) ⟨aj _,aj _,aj _,aj _,aj _,aj _,trivial⟩
 case hop=>
  constructor
  ·rintro-w22 D22;exact an (ai cC rfl) rfl
  constructor
  ·rintro-w23 D23;rintro _ rfl;exact an (ao aD rfl ((hk1.from_ (ag.rfl_.next D23)).rd 0 rfl)) rfl
  constructor
  ·rintro-w24 D24;exact an (ai gb rfl) rfl
  constructor
  ·rintro-w25 D25;rintro _ rfl;exact an (ao aD rfl ((hk1.from_ (ag.rfl_.next D25)).rd 1 rfl)) rfl
  constructor
  ·rintro-w26 D26;rintro _ rfl;exact an (bn (v:=.int _ _) rfl) rfl
  constructor
  ·rintro-w27 D27;rintro _ rfl;exact an (bn (v:=.int _ _) rfl) rfl
  exact trivial
 case hend=>
  intro w28 D28;rintro _ rfl _ rfl _ rfl _ rfl _ rfl _ rfl;show St ..;refine ah (ae (aC (gj (v:=.int _ _) (v':=.int _ _) rfl rfl rfl (⟨by rw [hwl],((ag.rfl_.next E1).next D28)⟩))))
theorem nS (b t:Int) (E:Option Addr) (c n:Nat) (es:List Ent) (w:World) (p0 t0:Int) (hp:p0=(bo b t es).1) (ht:t0=(bo b t es).2) (he:bm w (.slice E n c) es) (hn:n=es.length) (hl:es.length≤1000000):Rt prog 59 [.agg (lgV b t E n c).toArray] w fun v w'=>v=.tuple #[.int .i64 p0,.int .i64 t0]∧ag w w':=by
 subst hp;subst ht;exact vD b t E c n es w he hn hl
theorem pC (b t:Int) (E:Option Addr) (c n:Nat) (ls:List Ent) (F:Option Addr) (c2 m:Nat) (es:List Ent) (w:World) (hls:bm w (.slice E n c) ls) (hn:n=ls.length) (hes:bm w (.slice F m c2) es) (hm:m=es.length) (hl:ls.length≤1000000) (hl2:es.length≤1000000) (hp:0≤(bo b t ls).1∧(bo b t ls).1≤2000000000000) (ht:0≤(bo b t ls).2) :
 Rt prog 36 [.agg (lgV b t E n c).toArray,.slice F m c2] w (fun v w'=>v=.bool (cG es (bo b t ls).1 (bo b t ls).2)∧ag w w'):=by
 subst hn;subst hm;obtain ⟨p0,hp0⟩:∃ p0,p0=(bo b t ls).1:=⟨_,rfl⟩;obtain ⟨t0,ht0⟩:∃ t0,t0=(bo b t ls).2:=⟨_,rfl⟩;rw [←hp0,←ht0];rw [←hp0] at hp;rw [←ht0] at ht;refine enter (n:=51) Tryz.func36 rfl rfl rfl (af (ab (bu (v:=.agg _) rfl ?_)));intro b2 w1 E2 hb2 hk2;refine asb rfl (ah (ae (af (ab (aa (aG (cs:=lgV b t E ls.length c) az aq rfl (hk2.whole)) (av mb (nS b t E c ls.length ls _ p0 t0 hp0 ht0 (hls.from_ (ag.rfl_.next E2)) rfl hl) ?_))))));rintro v11 w2 ⟨rfl,E11⟩;refine mvt rfl (aa (ar rfl rfl) (aa (ar rfl rfl) (asi rfl (asi rfl (ah (ae (af (af (ab (mvs rfl (aa (bb cj rfl) (mvi rfl ?_))))))))))));refine ah (ae (aP (cH (G:=Nat×Int) [4,8,17,18,19,20,21,22,23,24,25,26,27,28,29,30,31,32,33,34,35,36,37,38,39,40,41,42,43,44,45,46,47,48,49,50] (fun (i,tm)=>[(5,.int .i64 (p0+(i:Int))),(6,.int .i64 tm),(16,.int .i64 (i:Nat))]) (fun (i,tm) w'=>i≤es.length∧0≤tm∧cG es p0 t0=cG (es.drop i) (p0+(i:Int)) tm∧ag w w') (fun (i,_)=>es.length-i) ((0,t0)) ⟨(bD (by omega)),rfl,rfl,trivial⟩ ?_ ?_)))
 ·exact ⟨Nat.zero_le _,ht,by simp,((ag.rfl_.next E2).next E11)⟩
 rintro ⟨i,tm⟩ ρ3 w3 ⟨hin,htm,hrn,hB⟩;refine af (ab (aa (cl rfl rfl) (ah (ae (af (BM rfl (fun Q4=>?_) (fun Q4=>?_)))))))
 ·have hi:i<es.length:=by omega
  obtain ⟨ba,oa,hA,hcs⟩:=tq hes (by omega);subst hA;have hdr:es.drop i=(es[i]'hi)::es.drop (i+1):=List.drop_eq_getElem_cons hi;refine aE (ae (af (aP (af (ab (aa (bf cM rfl rfl (by omega)) (aa (aG (cs:=[.int .i64 (es[i]'hi).i,.int .i64 (es[i]'hi).t,.string (es[i]'hi).d]) kL eZ rfl (dU hB (hcs i hi))) (aZ kK ?_))))))));intro b8 w5 E8 hb8 hk8;refine aV (vs:=[_,_,_]) eZ rfl rfl (by simp [Value.oneCell']) (hk8) rfl ?_;intro w6 O4 P4;have hP4:Blk w6 b8 49 [.int .i64 (es[i]'hi).i,.int .i64 (es[i]'hi).t,.string (es[i]'hi).d].toArray:=P4;refine ah (ae (af (ab (mvi rfl (aa (br rfl rfl (by omega)) (asi rfl (ah (ae (af (af (ab (aa (ai ft rfl) (aa (ao aD rfl (by exact hP4.rd 0 rfl)) ?_)))))))))))));refine mvi rfl (aa (cv rfl rfl) (mvb rfl (Bp (t:=26) rfl (fun Q7=>?_) (fun Q7=>?_))))
  ·refine aA rfl rfl (aA rfl rfl (aA rfl rfl (aa (aO (v:=.bool _) rfl rfl) (mvb rfl (aA rfl rfl (aA rfl rfl (aA rfl rfl (aA rfl rfl ?_))))))));refine aa (aO (v:=.bool _) rfl rfl) (mvb rfl (aA rfl rfl (aA rfl rfl (aA rfl rfl (aa (aO (v:=.bool _) rfl rfl) (mvb rfl (aA rfl rfl (aA rfl rfl ?_))))))));refine aA rfl rfl (aA rfl rfl (aa (aO (v:=.bool _) rfl rfl) (ah (ae (aY rfl (af (ab (asb rfl (ah (ae (aC (aF (aW (aF (aF (aW (aF (bz (v:=.bool _) rfl rfl ?_))))))))))))))))));have hoe:¬ OkE (es[i]'hi) (p0+(i:Int)) tm:=by unfold OkE;omega
   exact ⟨by rw [hrn,hdr,j7 hoe],((hB.next E8).only O4 ((by rw [hb8];exact hB.size)))⟩
  refine ak rfl (aa (ai ft rfl) (ak rfl (aa (ao aD rfl (by exact hP4.rd 0 rfl)) ?_)));refine ak rfl (aa (cn rfl rfl) (aa (aQ (v:=.bool _) rfl rfl) (mvb rfl (Bs (t:=31) rfl (fun Q8=>?_) (fun Q8=>?_)))))
  ·refine aA rfl rfl (aA rfl rfl (aA rfl rfl (aA rfl rfl (aa (aO (v:=.bool _) rfl rfl) (mvb rfl (aA rfl rfl (aA rfl rfl (aA rfl rfl ?_))))))));refine aa (aO (v:=.bool _) rfl rfl) (mvb rfl (aA rfl rfl (aA rfl rfl (aA rfl rfl (aA rfl rfl (aa (aO (v:=.bool _) rfl rfl) (ah (ae (aY rfl ?_)))))))));refine af (ab (asb rfl (ah (ae (aC (aF (aW (aF (aF (aW (aF (bz (v:=.bool _) rfl rfl ?_))))))))))));have hoe:¬ OkE (es[i]'hi) (p0+(i:Int)) tm:=by unfold OkE;omega
   exact ⟨by rw [hrn,hdr,j7 hoe],((hB.next E8).only O4 ((by rw [hb8];exact hB.size)))⟩
  refine ak rfl (aa (ai dK rfl) (ak rfl (aa (ao aD rfl (by exact hP4.rd 1 rfl)) ?_)));refine ak rfl (mvi rfl (ak rfl (aa (cl rfl rfl) (aa (aQ (v:=.bool _) rfl rfl) (mvb rfl (Bs (t:=37) rfl (fun Q9=>?_) (fun Q9=>?_)))))))
  ·refine aA rfl rfl (aA rfl rfl (aA rfl rfl (aa (aO (v:=.bool _) rfl rfl) (mvb rfl (aA rfl rfl (aA rfl rfl (aA rfl rfl (aA rfl rfl ?_))))))));refine aa (aO (v:=.bool _) rfl rfl) (ah (ae (aY rfl (af (ab (asb rfl (ah (ae (aC (aF (aW (aF (aF (aW (aF (bz (v:=.bool _) rfl rfl ?_))))))))))))))));have hoe:¬ OkE (es[i]'hi) (p0+(i:Int)) tm:=by unfold OkE;omega
   exact ⟨by rw [hrn,hdr,j7 hoe],((hB.next E8).only O4 ((by rw [hb8];exact hB.size)))⟩
  refine ak rfl (aa (ai dK rfl) (ak rfl (aa (ao aD rfl (by exact hP4.rd 1 rfl)) ?_)));refine ak rfl (aa (gQ rfl rfl) (aa (aQ (v:=.bool _) rfl rfl) (mvb rfl (Bs (t:=42) rfl (fun Q10=>?_) (fun Q10=>?_)))))
  ·refine aA rfl rfl (aA rfl rfl (aA rfl rfl (aA rfl rfl (aa (aO (v:=.bool _) rfl rfl) (ah (ae (aY rfl (af (ab (asb rfl ?_))))))))));refine ah (ae (aC (aF (aW (aF (aF (aW (aF (bz (v:=.bool _) rfl rfl ?_)))))))));have hoe:¬ OkE (es[i]'hi) (p0+(i:Int)) tm:=by unfold OkE;omega
   exact ⟨by rw [hrn,hdr,j7 hoe],((hB.next E8).only O4 ((by rw [hb8];exact hB.size)))⟩
  refine ak rfl (aa (ai gC rfl) (ak rfl (aa (ao bY rfl (by exact hP4.rd 2 rfl)) ?_)));refine ak rfl (aa (im (by kernel_rfl) rfl) (ak rfl (aa (cn rfl rfl) (aa (aQ (v:=.bool _) rfl rfl) (ah (ae (BM rfl (fun Q11=>?_) (fun Q11=>?_))))))))
  ·refine af (ab (asb rfl (ah (ae (aC (aF (aW (aF (aF (aW (aF (bz (v:=.bool _) rfl rfl ?_))))))))))));have hoe:¬ OkE (es[i]'hi) (p0+(i:Int)) tm:=by unfold OkE;omega
   exact ⟨by rw [hrn,hdr,j7 hoe],((hB.next E8).only O4 ((by rw [hb8];exact hB.size)))⟩
  refine aE (ae (ab (aa (ai dK rfl) (aa (ao aD rfl (by exact hP4.rd 1 rfl)) ?_))));refine asi rfl (ah (bI (ae (ab (aa (cf (b:=1) rfl rfl (by omega)) (mvi rfl (ah ?_)))))));refine bW ((i+1,(es[i]'hi).t)) ⟨(bD (by omega)),rfl,(by first | rfl | (refine bD ?_;omega)),trivial⟩ (by (iterate 81 refine bg rfl ?_);exact bw) ⟨?_,?_⟩
  ·have hoe:OkE (es[i]'hi) (p0+(i:Int)) tm:=by unfold OkE;omega
   refine ⟨by omega,by omega,?_,((hB.next E8).only O4 ((by rw [hb8];exact hB.size)))⟩;rw [hrn,hdr,q8 hoe (by omega) htm,show p0+(i:Int)+1=p0+((i+1:Nat):Int) by omega]
  ·show es.length-(i+1)<es.length-i;omega
 refine cx (bc (bc (bX (ae (af (ab (asb rfl (ah (ae (aC (bz (v:=.bool _) rfl rfl (⟨?_,hB⟩))))))))))));rw [hrn,List.drop_of_length_le (by omega)];rfl
theorem eG:eU prog 34=some (49,3,32,(.agg #[.int .i64 0,.int .i64 0,.string ⟨#[]⟩])):=by kernel_rfl
theorem wg:prog.underlying 34=some (.slice 49):=by kernel_rfl
theorem bA:ij prog 36=some (.agg #[.int .i64 0,.int .i64 0,.slice none 0 0]):=by kernel_rfl
theorem wi:aH prog 53=true:=by kernel_rfl
theorem gM:cS prog 34=some 1:=by kernel_rfl
theorem cV (A:Option Addr) (c n:Nat) (xs:List Value) (w:World) (hx:xs.length=n*3) (hr:0<n→∃ b o,A=some ⟨b,o,none⟩∧w.rangeAt b o xs) (hn0:A=none→n=0∧c=0) (h1:∀ u∈xs,u.oneCell'=true) (hl:n≤100000000000) :
 Rt prog 53 [.slice A n c] w (fun v w'=>(∃ A' c',v=.slice A' n c'∧w'.ownsRow w.heap.size 49 3 (.slice A' n c') n xs)∧ag w w'):=by
 refine enter (n:=8) Tryz.func53 rfl rfl rfl (af (ab (ass rfl (ah (ae (af (af (ab (mvs rfl (aa (nC wg rfl rfl) (ah (ae (aM rfl (fun Q1=>?_) (fun Q1=>?_))))))))))))))
 ·(try first | (replace Q1 := gA Q1; trace "@MK N cV:c4+ 1.1") | (replace Q1 := gB Q1; trace "@MK N cV:c4+ 1.2"))
  (try first | (replace Q1 := fI Q1; trace "@MK N cV:c4+ 2.1") | (replace Q1 := fJ Q1; trace "@MK N cV:c4+ 2.2") | (replace Q1 := iz Q1; trace "@MK N cV:c4+ 2.3") | (replace Q1 := iA Q1; trace "@MK N cV:c4+ 2.4") | (replace Q1 := dT_ Q1; trace "@MK N cV:c4+ 2.5") | (replace Q1 := dF_ Q1; trace "@MK N cV:c4+ 2.6"))
  obtain rfl:A=none:=Option.isNone_iff_eq_none.1 Q1;obtain ⟨rfl,rfl⟩:=hn0 rfl;obtain rfl:xs=[]:=List.eq_nil_of_length_eq_zero (by omega);refine af (ab (ass rfl (ah (ae (aC (aF (bz (v:=.slice _ _ _) rfl rfl (⟨⟨none,0,rfl,World.ownsRow_nil _ _ _ _⟩,ag.rfl_⟩))))))))
 (try first | (replace Q1 := gA Q1; trace "@MK N cV:c4- 1.1") | (replace Q1 := gB Q1; trace "@MK N cV:c4- 1.2"))
 (try first | (replace Q1 := fI Q1; trace "@MK N cV:c4- 2.1") | (replace Q1 := fJ Q1; trace "@MK N cV:c4- 2.2") | (replace Q1 := iz Q1; trace "@MK N cV:c4- 2.3") | (replace Q1 := iA Q1; trace "@MK N cV:c4- 2.4") | (replace Q1 := dT_ Q1; trace "@MK N cV:c4- 2.5") | (replace Q1 := dF_ Q1; trace "@MK N cV:c4- 2.6"))
 have hA4:A=none→c=0:=fun h=>by rw [h] at Q1;cases Q1
 refine aE (ae (af (ab (ud eG _ (ag.rfl_.size) ?_))));intro b5 w2 E5 hb5 ho5;refine mvs rfl ?_;refine dk (a0:=w) eG rfl (by decide) rfl ho5 (ag.rfl_.next E5) rfl hx (fun h=>(let ⟨b,o,hA,hc⟩:=hr h;⟨b,o,hA,dU (ag.rfl_.next E5) hc⟩)) hA4 h1 (by omega) (by omega) ?_;intro A7 c7 w3 ho7 B7 hg7;refine ass rfl (ah (ae (aC (bz (v:=.slice _ _ _) rfl rfl (⟨⟨A7,c7,by rw [Nat.zero_add],by simpa using ho7⟩,B7⟩)))))
theorem dy {w:World} {A:Option Addr} {n c:Nat} {es:List Ent} (h:bm w (.slice A n c) es):n=es.length∧(0<n→∃ b o,A=some ⟨b,o,none⟩∧w.rangeAt b o (bJ es))∧(A=none→n=0∧c=0)∧n≤c:=by
 have h':=h;obtain ⟨A',c',hv,h1,h2,h3,hp⟩:=h;simp only [Value.slice.injEq] at hv;obtain ⟨rfl,rfl,rfl⟩:=hv;refine ⟨rfl,fun h0=>?_,fun h0=>?_,h1⟩
 ·obtain ⟨b,o,hA,_,_⟩:=hp h0;exact ⟨b,o,hA,fun j v hv=>by have:=h'.cellV hA j v hv;rwa [Addr.add_mid] at this⟩
 ·have:=h3 h0;omega
theorem eO (b t:Int) (E:Option Addr) (c n:Nat) (es:List Ent) (w:World) (he:bm w (.slice E n c) es) (hn:n=es.length) (hl:es.length≤1000000) :
 Rt prog 27 [.agg (lgV b t E n c).toArray] w (fun v w'=>(∃ A' c',v=.agg (lgV b t A' n c').toArray∧w'.ownsRow w.heap.size 49 3 (.slice A' n c') n (bJ es))∧ag w w'):=by
 obtain ⟨hne,hsr,hsn,hcap⟩:=dy he;refine enter (n:=8) Tryz.func27 rfl rfl rfl (af (ab (bu (v:=.agg _) rfl ?_)));intro b1 w1 E1 hb1 hk1;refine aZ bA ?_;intro b2 w2 E2 hb2 hk2;have hg2:w.heap.size≤b2:=by rw [hb2];exact ((ag.rfl_.next E1)).size
 have hg1:w.heap.size≤b1:=by rw [hb1];exact Nat.le_refl _
 have h12:b1≠b2:=by have:=hk1.lt;omega
 replace hk1:=hk1.from_ E2;have hzB:=(((ag.rfl_.next E1).next E2)).size;refine ah (ae (af (ab (aa (ai a8 rfl) (aa (ao bC rfl (by exact hk1.rd 2 rfl)) ?_)))));refine av wi (cV E c n (bJ es) _ (by rw [cN,hn]) (fun h=>let ⟨b,o,hA,hc⟩:=hsr h;⟨b,o,hA,dU ((ag.rfl_.next E1).next E2) hc⟩) hsn (jN _) (by omega)) ?_;rintro v5 w3 ⟨⟨A5,c5,rfl,ho5⟩,E5⟩;refine aa (ai a8 rfl) (cT (v:=.slice _ _ _) gM rfl rfl rfl ((hk1.from_ (ag.rfl_.next E5))) (by show 0+2<3;decide) ?_);intro w4 O1 P1;have hk2b:=(hk2.from_ E5).only O1 (Ne.symm h12);have ho1:=eE ho5 O1 (lf ho5 (hk1.from_ E5) (by decide));refine ah (ae (af (ab (aa (aG (cs:=lgV b t A5 n c5) az aq rfl P1.whole) (aV (vs:=[_,_,_]) aq rfl rfl (by simp [Value.oneCell']) (hk2b) rfl ?_)))));intro w5 O2 P2;have ho2:=eE ho1 O2 (lf ho1 hk2b (by decide));refine ah (ae (aC (rh rfl (bx (cs:=[_,_,_]) az aq rfl (by exact P2.whole)) ?_)));exact ⟨⟨A5,c5,rfl,dI ho2 hzB⟩,(((((ag.rfl_.next E1).next E2).next E5).only O1 (hg1)).only O2 (hg2))⟩
theorem t_ (b t:Int) (E:Option Addr) (c n:Nat) (es:List Ent) (i:Int) (w:World) (he:bm w (.slice E n c) es) (hn:n=es.length) (hl:es.length≤1000000) (_:0≤b∧b≤2000000000000) (hlast:(bo b t es).1=b+(es.length:Int)) (_:-9223372036854775808≤i∧i≤9223372036854775807) :
 Rt prog 40 [.agg (lgV b t E n c).toArray,.int .i64 i] w (fun v w'=>(((b≤i∧i≤b+(es.length:Int))∧∃ k:Nat,i=b+(k:Int)∧v=.tuple #[.agg (lgV b t E k k).toArray,.bool true])∨(¬ (b≤i∧i≤b+(es.length:Int))∧v=.tuple #[.agg (lgV b t E n c).toArray,.bool false]))∧ag w w'):=by
 obtain ⟨hne,hsr,hsn,hcap⟩:=dy he;obtain ⟨t0,ht0⟩:∃ t0,t0=(bo b t es).2:=⟨_,rfl⟩;refine enter (n:=36) Tryz.func40 rfl rfl rfl (af (ab (bu (v:=.agg _) rfl ?_)));intro b2 w1 E2 hb2 hk2;refine aZ bA ?_;intro b4 w2 E4 hb4 hk4;have hg4:w.heap.size≤b4:=by rw [hb4];exact ((ag.rfl_.next E2)).size
 have hg2:w.heap.size≤b2:=by rw [hb2];exact Nat.le_refl _
 have h24:b2≠b4:=by have:=hk2.lt;omega
 replace hk2:=hk2.from_ E4;refine asb rfl (ah (ae (af (ab (aa (aG (cs:=lgV b t E n c) az aq rfl ((hk2.from_ ag.rfl_).whole)) (av mb (nS b t E c n es _ (b+(es.length:Int)) t0 hlast.symm ht0 (he.from_ ((ag.rfl_.next E2).next E4)) hn hl) ?_))))));rintro v10 w3 ⟨rfl,E10⟩;refine mvt rfl (aa (ar rfl rfl) (aa (ar rfl rfl) (asi rfl (asi rfl (ah (ae (af (af (ab (mvi rfl (aa (ai cC rfl) (aa (ao aD rfl (by exact (hk2.from_ (ag.rfl_.next E10)).rd 0 rfl)) ?_))))))))))));refine aa (cl rfl rfl) (mvb rfl (Bs (t:=17) rfl (fun Q4=>?_) (fun Q4=>?_)))
 ·refine aA rfl rfl (aA rfl rfl (aA rfl rfl (aa (aO (v:=.bool _) rfl rfl) (ah (ae (aY rfl (af (ab (aa (aG (cs:=lgV b t E n c) az aq rfl ((hk2.from_ (ag.rfl_.next E10)).whole)) (aV (vs:=[_,_,_]) aq rfl rfl (by simp [Value.oneCell']) ((hk4.from_ (ag.rfl_.next E10))) rfl ?_))))))))));intro w5 O3 P3;refine asb rfl (ah (ae (aC (aF (dN rfl (bx (cs:=[_,_,_]) az aq rfl (by first | exact P5.whole | exact P3.whole)) (cD (v:=.bool _) rfl) ?_)))));exact ⟨.inr ⟨by omega,rfl⟩,((((ag.rfl_.next E2).next E4).next E10).only O3 (hg4))⟩
 refine ak rfl (mvi rfl (ak rfl (mvi rfl (ak rfl (aa (cn rfl rfl) (aa (aQ (v:=.bool _) rfl rfl) (ah (ae (BM rfl (fun Q6=>?_) (fun Q6=>?_))))))))))
 ·refine af (ab (aa (aG (cs:=lgV b t E n c) az aq rfl ((hk2.from_ (ag.rfl_.next E10)).whole)) (aV (vs:=[_,_,_]) aq rfl rfl (by simp [Value.oneCell']) ((hk4.from_ (ag.rfl_.next E10))) rfl ?_)));intro w7 O3 P3;refine asb rfl (ah (ae (aC (aF (dN rfl (bx (cs:=[_,_,_]) az aq rfl (by first | exact P5.whole | exact P3.whole)) (cD (v:=.bool _) rfl) ?_)))));exact ⟨.inr ⟨by omega,rfl⟩,((((ag.rfl_.next E2).next E4).next E10).only O3 (hg4))⟩
 have hbi:b≤i∧i≤b+(es.length:Int):=by omega
 obtain ⟨k,hk⟩:∃ k:Nat,i=b+(k:Int):=⟨(i-b).toNat,by omega⟩;refine aE (ae (af (ab (aa (ai a8 rfl) (aa (ao bC rfl (by exact (hk2.from_ (ag.rfl_.next E10)).rd 2 rfl)) ?_)))));refine mvi rfl (aa (ai cC rfl) (aa (ao aD rfl (by exact (hk2.from_ (ag.rfl_.next E10)).rd 0 rfl)) ?_));refine aa (bH (dv rfl rfl (by omega)) (congrArg (Value.int .i64) (show i-b=((k:Nat):Int) by omega))) ?_;refine mvi rfl (aa (ai cC rfl) (aa (ao aD rfl (by exact (hk2.from_ (ag.rfl_.next E10)).rd 0 rfl)) ?_));refine aa (bH (dv rfl rfl (by omega)) (congrArg (Value.int .i64) (show i-b=((k:Nat):Int) by omega))) ?_;refine aa (sR (h:=k) (mx:=k) cM rfl rfl rfl (Nat.le_refl _) (by omega)) (aa (ai a8 rfl) (cT (v:=.slice _ _ _) gM rfl rfl rfl ((hk2.from_ (ag.rfl_.next E10))) (by show 0+2<3;decide) ?_));intro w8 O4 P4;have hk4b:=(hk4.from_ E10).only O4 (Ne.symm h24);refine ah (ae (af (ab (aa (aG (cs:=lgV b t E k k) az aq rfl P4.whole) (aV (vs:=[_,_,_]) aq rfl rfl (by simp [Value.oneCell']) (hk4b) rfl ?_)))));intro w9 O5 P5;refine asb rfl (ah (ae (aC (dN rfl (bx (cs:=[_,_,_]) az aq rfl (by first | exact P5.whole | exact P3.whole)) (cD (v:=.bool _) rfl) ?_))));exact ⟨.inl ⟨hbi,k,hk,rfl⟩,(((((ag.rfl_.next E2).next E4).next E10).only O4 (hg2)).only O5 (hg4))⟩
theorem jW:∀ (a0:Int) (a1:Int),prog.built 36 [(0,.int .i64 a0),(1,.int .i64 a1)]=some #[.int .i64 a0,.int .i64 a1,.slice none 0 0]:=by intros;kernel_rfl
theorem mc:∀ (a0:Int) (a1:Int) (a2:Option Addr) (a3 a4:Nat),prog.built 36 [(0,.int .i64 a0),(1,.int .i64 a1),(2,.slice a2 a3 a4)]=some #[.int .i64 a0,.int .i64 a1,.slice a2 a3 a4]:=by intros;kernel_rfl
def okD (b t i tm:Int):Prop:=b<i∧i≤1099511625728∧t≤tm∧tm<1099511627776
def BS (b t:Int) (E:Option Addr) (n c:Nat) (es:List Ent) (i tm:Int) (v:Value):Prop:=
 (¬ okD b t i tm∧v=.tuple #[.agg (lgV b t E n c).toArray,.bool false])∨
 (okD b t i tm∧b+(es.length:Int)<i∧v=.tuple #[.agg (lgV i tm none 0 0).toArray,.bool true])∨
 (okD b t i tm∧∃ (k:Nat) (h:k<es.length),i=b+(k:Int)+1∧k+1=es.length∧v=.tuple #[.agg (lgV i tm none 0 0).toArray,.bool (decide (es[k].t=tm))])∨
 (okD b t i tm∧∃ (k:Nat) (h:k<es.length),i=b+(k:Int)+1∧k+1<es.length∧es[k].t≠tm∧v=.tuple #[.agg (lgV b t E n c).toArray,.bool false])∨
 (okD b t i tm∧∃ (k:Nat) (h:k<es.length),i=b+(k:Int)+1∧k+1<es.length∧es[k].t=tm∧v=.tuple #[.agg (lgV i tm (dm E c (k+1) 3) (n-(k+1)) (c-(k+1))).toArray,.bool true])
theorem qT (b t:Int) (E:Option Addr) (c n:Nat) (es:List Ent) (i tm:Int) (w:World) (he:bm w (.slice E n c) es) (hn:n=es.length) (hl:es.length≤1000000) (_:0≤b∧b≤2000000000000) (hlast:(bo b t es).1=b+(es.length:Int)) :
 Rt prog 39 [.agg (lgV b t E n c).toArray,.int .i64 i,.int .i64 tm] w (fun v w'=>BS b t E n c es i tm v∧ag w w'):=by
 obtain ⟨hne,hsr,hsn,hcap⟩:=dy he;obtain ⟨t0,ht0⟩:∃ t0,t0=(bo b t es).2:=⟨_,rfl⟩;refine enter (n:=82) Tryz.func39 rfl rfl rfl (af (ab (bu (v:=.agg _) rfl ?_)));intro b3 w1 E3 hb3 hk3;refine aZ bA ?_;intro b6 w2 E6 hb6 hk6;have hg6:w.heap.size≤b6:=by rw [hb6];exact ((ag.rfl_.next E3)).size
 have h36:b3≠b6:=by have:=hk3.lt;omega
 replace hk3:=hk3.from_ E6;refine asb rfl (ah (ae (af (af (ab (mvi rfl (aa (ai cC rfl) (aa (ao aD rfl (by exact (hk3.from_ ag.rfl_).rd 0 rfl)) ?_))))))));refine aa (kC rfl rfl) (mvb rfl (Bs (t:=15) rfl (fun Q3=>?_) (fun Q3=>?_)))
 ·refine aA rfl rfl (aA rfl rfl (aa (aO (v:=.bool _) rfl rfl) (mvb rfl (aA rfl rfl (aA rfl rfl (aA rfl rfl (aA rfl rfl (aa (aO (v:=.bool _) rfl rfl) ?_))))))));refine mvb rfl (aA rfl rfl (aA rfl rfl (aa (aO (v:=.bool _) rfl rfl) (ah (ae (aY rfl (af (ab (aa (aG (cs:=lgV b t _ n c) az aq rfl ((hk3.from_ ag.rfl_).whole)) (aV (vs:=[_,_,_]) aq rfl rfl (by simp [Value.oneCell']) ((hk6.from_ ag.rfl_)) rfl ?_))))))))));intro w4 O2 P2;refine asb rfl (ah (ae (aC (aF (dN rfl (bx (cs:=[_,_,_]) az aq rfl (by first | exact P2.whole | exact P6.whole | exact P8.whole | exact P9.whole)) (cD (v:=.bool _) rfl) ?_)))));exact ⟨.inl ⟨by unfold okD;omega,rfl⟩,(((ag.rfl_.next E3).next E6).only O2 (hg6))⟩
 refine ak rfl (mvi rfl (ak rfl (aa (cn rfl rfl) (aa (aQ (v:=.bool _) rfl rfl) (mvb rfl (Bs (t:=19) rfl (fun Q5=>?_) (fun Q5=>?_)))))))
 ·refine aA rfl rfl (aA rfl rfl (aA rfl rfl (aA rfl rfl (aa (aO (v:=.bool _) rfl rfl) (mvb rfl (aA rfl rfl (aA rfl rfl (aa (aO (v:=.bool _) rfl rfl) ?_))))))));refine ah (ae (aY rfl (af (ab (aa (aG (cs:=lgV b t _ n c) az aq rfl ((hk3.from_ ag.rfl_).whole)) (aV (vs:=[_,_,_]) aq rfl rfl (by simp [Value.oneCell']) ((hk6.from_ ag.rfl_)) rfl ?_))))));intro w6 O2 P2;refine asb rfl (ah (ae (aC (aF (dN rfl (bx (cs:=[_,_,_]) az aq rfl (by first | exact P2.whole | exact P6.whole | exact P8.whole | exact P9.whole)) (cD (v:=.bool _) rfl) ?_)))));exact ⟨.inl ⟨by unfold okD;omega,rfl⟩,(((ag.rfl_.next E3).next E6).only O2 (hg6))⟩
 refine ak rfl (mvi rfl (ak rfl (aa (ai gb rfl) (ak rfl (aa (ao aD rfl (by exact (hk3.from_ ag.rfl_).rd 1 rfl)) ?_)))));refine ak rfl (aa (cl rfl rfl) (aa (aQ (v:=.bool _) rfl rfl) (mvb rfl (Bs (t:=25) rfl (fun Q7=>?_) (fun Q7=>?_)))))
 ·refine aA rfl rfl (aA rfl rfl (aa (aO (v:=.bool _) rfl rfl) (ah (ae (aY rfl (af (ab (aa (aG (cs:=lgV b t _ n c) az aq rfl ((hk3.from_ ag.rfl_).whole)) (aV (vs:=[_,_,_]) aq rfl rfl (by simp [Value.oneCell']) ((hk6.from_ ag.rfl_)) rfl ?_)))))))));intro w8 O2 P2;refine asb rfl (ah (ae (aC (aF (dN rfl (bx (cs:=[_,_,_]) az aq rfl (by first | exact P2.whole | exact P6.whole | exact P8.whole | exact P9.whole)) (cD (v:=.bool _) rfl) ?_)))));exact ⟨.inl ⟨by unfold okD;omega,rfl⟩,(((ag.rfl_.next E3).next E6).only O2 (hg6))⟩
 refine ak rfl (mvi rfl (ak rfl (aa (gQ rfl rfl) (aa (aQ (v:=.bool _) rfl rfl) (ah (ae (BM rfl (fun Q9=>?_) (fun Q9=>?_))))))))
 ·refine af (ab (aa (aG (cs:=lgV b t _ n c) az aq rfl ((hk3.from_ ag.rfl_).whole)) (aV (vs:=[_,_,_]) aq rfl rfl (by simp [Value.oneCell']) ((hk6.from_ ag.rfl_)) rfl ?_)));intro w10 O2 P2;refine asb rfl (ah (ae (aC (aF (dN rfl (bx (cs:=[_,_,_]) az aq rfl (by first | exact P2.whole | exact P6.whole | exact P8.whole | exact P9.whole)) (cD (v:=.bool _) rfl) ?_)))));exact ⟨.inl ⟨by unfold okD;omega,rfl⟩,(((ag.rfl_.next E3).next E6).only O2 (hg6))⟩
 have hok:okD b t i tm:=by unfold okD;omega
 have hok2:=hok;unfold okD at hok2;refine aE (ae (af (ab (aa (aG (cs:=lgV b t _ n c) az aq rfl ((hk3.from_ ag.rfl_).whole)) (av mb (nS b t _ c n es _ (b+(es.length:Int)) t0 hlast.symm ht0 (he.from_ ((ag.rfl_.next E3).next E6)) hn hl) ?_)))));rintro v32 w11 ⟨rfl,E32⟩;refine mvt rfl (aa (ar rfl rfl) (aa (ar rfl rfl) (asi rfl (asi rfl (ah (ae (af (af (ab (mvi rfl (mvi rfl (aa (gQ rfl rfl) ?_))))))))))));refine ah (ae (BM rfl (fun Q12=>?_) (fun Q12=>?_)))
 ·refine af (ab (mvi rfl (mvi rfl (aa (cn rfl rfl) (mvb rfl (Bs (t:=41) rfl (fun Q13=>?_) (fun Q13=>?_)))))))
  ·refine aA rfl rfl (aA rfl rfl (aA rfl rfl (aA rfl rfl (aA rfl rfl (aA rfl rfl (aA rfl rfl (aA rfl rfl (aA rfl rfl ?_))))))));refine aA rfl rfl (aA rfl rfl (aA rfl rfl (aa (aO (v:=.bool _) rfl rfl) (asb rfl (ah (ae (af (ab (mvi rfl (mvi rfl (aa (bN (l:=[(0,.tmp 55),(1,.tmp 56)]) (jW _ _)) ?_)))))))))));refine mvb rfl (aV (vs:=[_,_,_]) aq rfl rfl (by simp [Value.oneCell']) ((hk6.from_ (ag.rfl_.next E32))) rfl ?_);intro w14 O6 P6;refine asb rfl (ah (ae (aC (aF (dN rfl (bx (cs:=[_,_,_]) az aq rfl (by first | exact P2.whole | exact P6.whole | exact P8.whole | exact P9.whole)) (cD (v:=.bool _) rfl) ?_)))))
   first
    |exact ⟨.inr (.inr (.inl ⟨hok,k,hkl,hk,by omega,rfl⟩)),((((ag.rfl_.next E3).next E6).next E32).only O6 (hg6))⟩
    |exact ⟨.inr (.inl ⟨hok,by omega,rfl⟩),((((ag.rfl_.next E3).next E6).next E32).only O6 (hg6))⟩
  obtain ⟨k,hk⟩:∃ k:Nat,i=b+(k:Int)+1:=⟨(i-b-1).toNat,by omega⟩;have hkl:k<es.length:=by omega
  obtain ⟨ba,oa,hA,hcs⟩:=tq he (by omega);subst hA;have hck:=hcs k hkl;refine ak rfl (aa (ai a8 rfl) (ak rfl (aa (ao bC rfl (by exact (hk3.from_ (ag.rfl_.next E32)).rd 2 rfl)) ?_)));refine ak rfl (mvi rfl (ak rfl (aa (ai cC rfl) (ak rfl (aa (ao aD rfl (by exact (hk3.from_ (ag.rfl_.next E32)).rd 0 rfl)) ?_)))));refine ak rfl (aa (bH (dv rfl rfl (by omega)) (congrArg (Value.int .i64) (show i-b=((k+1:Nat):Int) by omega))) ?_);refine ak rfl (aa (bH (dv rfl rfl (by omega)) (congrArg (Value.int .i64) (show ((k+1:Nat):Int)-1=((k:Nat):Int) by omega))) ?_);refine ak rfl (aa (bf cM rfl rfl (by omega)) (ak rfl (aa (ai dK rfl) (ak rfl (aa (ao aD rfl (by exact Ct (((ag.rfl_.next E3).next E6).next E32) (hck 1 _ rfl))) ?_)))));refine ak rfl (mvi rfl (ak rfl (aa (bH (a7 rfl rfl) (congrArg Value.bool (show ((es[k]'hkl).t==tm)=decide ((es[k]'hkl).t=tm) by rw [Bool.eq_iff_iff,beq_iff_eq,decide_eq_true_eq]))) ?_)));refine aa (aQ (v:=.bool _) rfl rfl) (asb rfl (ah (ae (af (ab (mvi rfl (mvi rfl (aa (bN (l:=[(0,.tmp 55),(1,.tmp 56)]) (jW _ _)) (mvb rfl (aV (vs:=[_,_,_]) aq rfl rfl (by simp [Value.oneCell']) ((hk6.from_ (ag.rfl_.next E32))) rfl ?_))))))))));intro w15 O6 P6;refine asb rfl (ah (ae (aC (aF (dN rfl (bx (cs:=[_,_,_]) az aq rfl (by first | exact P2.whole | exact P6.whole | exact P8.whole | exact P9.whole)) (cD (v:=.bool _) rfl) ?_)))))
  first
   |exact ⟨.inr (.inr (.inl ⟨hok,k,hkl,hk,by omega,rfl⟩)),((((ag.rfl_.next E3).next E6).next E32).only O6 (hg6))⟩
   |exact ⟨.inr (.inl ⟨hok,by omega,rfl⟩),((((ag.rfl_.next E3).next E6).next E32).only O6 (hg6))⟩
 obtain ⟨k,hk⟩:∃ k:Nat,i=b+(k:Int)+1:=⟨(i-b-1).toNat,by omega⟩;have hkl:k<es.length:=by omega
 obtain ⟨ba,oa,hA,hcs⟩:=tq he (by omega);subst hA;have hck:=hcs k hkl;refine aE (ae (af (af (ab (aa (ai a8 rfl) (aa (ao bC rfl (by exact (hk3.from_ (ag.rfl_.next E32)).rd 2 rfl)) ?_))))));refine mvi rfl (aa (ai cC rfl) (aa (ao aD rfl (by exact (hk3.from_ (ag.rfl_.next E32)).rd 0 rfl)) ?_));refine aa (bH (dv rfl rfl (by omega)) (congrArg (Value.int .i64) (show i-b=((k+1:Nat):Int) by omega))) ?_;refine aa (bH (dv rfl rfl (by omega)) (congrArg (Value.int .i64) (show ((k+1:Nat):Int)-1=((k:Nat):Int) by omega))) ?_;refine aa (bf cM rfl rfl (by omega)) (aa (ai dK rfl) (aa (ao aD rfl (by exact Ct (((ag.rfl_.next E3).next E6).next E32) (hck 1 _ rfl))) ?_));refine mvi rfl (aa (cv rfl rfl) (ah (ae (BJ rfl (fun Q16=>?_) (fun Q16=>?_)))))
 ·refine af (ab (aa (aG (cs:=lgV b t _ n c) az aq rfl ((hk3.from_ (ag.rfl_.next E32)).whole)) (aV (vs:=[_,_,_]) aq rfl rfl (by simp [Value.oneCell']) ((hk6.from_ (ag.rfl_.next E32))) rfl ?_)));intro w17 O8 P8;refine asb rfl (ah (ae (aC (aF (dN rfl (bx (cs:=[_,_,_]) az aq rfl (by first | exact P2.whole | exact P6.whole | exact P8.whole | exact P9.whole)) (cD (v:=.bool _) rfl) ?_)))));exact ⟨.inr (.inr (.inr (.inl ⟨hok,k,hkl,hk,by omega,by omega,rfl⟩))),((((ag.rfl_.next E3).next E6).next E32).only O8 (hg6))⟩
 refine aE (ae (af (ab (mvi rfl (mvi rfl (aa (ai a8 rfl) (aa (ao bC rfl (by exact (hk3.from_ (ag.rfl_.next E32)).rd 2 rfl)) ?_)))))));refine mvi rfl (aa (ai cC rfl) (aa (ao aD rfl (by exact (hk3.from_ (ag.rfl_.next E32)).rd 0 rfl)) ?_));refine aa (bH (dv rfl rfl (by omega)) (congrArg (Value.int .i64) (show i-b=((k+1:Nat):Int) by omega))) ?_;refine aa (bk (l:=k+1) (h:=n) cM rfl (.inr ⟨_,_,_,rfl,rfl,rfl⟩) (.inl ⟨rfl,rfl⟩) (by omega) (by omega)) (aa (bN (l:=[(0,.tmp 72),(1,.tmp 73),(2,.tmp 80)]) (mc _ _ _ _ _)) (aV (vs:=[_,_,_]) aq rfl rfl (by simp [Value.oneCell']) ((hk6.from_ (ag.rfl_.next E32))) rfl ?_));intro w18 O9 P9;refine asb rfl (ah (ae (aC (dN rfl (bx (cs:=[_,_,_]) az aq rfl (by first | exact P2.whole | exact P6.whole | exact P8.whole | exact P9.whole)) (cD (v:=.bool _) rfl) ?_))));exact ⟨.inr (.inr (.inr (.inr ⟨hok,k,hkl,hk,by omega,by omega,rfl⟩))),((((ag.rfl_.next E3).next E6).next E32).only O9 (hg6))⟩
theorem gG:∀ (a0:Int) (a1:Int),prog.built 65 [(0,.int .i64 3),(1,.int .i64 a0),(2,.int .i64 a1)]=some #[.int .i64 3,.int .i64 a0,.int .i64 a1,.string ⟨#[]⟩,.bool false]:=by intros;kernel_rfl
theorem iD:aH prog 38=true:=by kernel_rfl
def eS (b t:Int):Rc:=⟨3,b.toNat,t.toNat,⟨#[]⟩,false⟩
theorem pD {b t:Int} (h:0≤b∧0≤t):rcV (eS b t)=[.int .i64 3,.int .i64 b,.int .i64 t,.string ⟨#[]⟩,.bool false]:=by
 unfold rcV eS;rw [Int.toNat_of_nonneg h.1,Int.toNat_of_nonneg h.2];rfl
def fZ (b t:Int):List Rc:=if 0<b then [eS b t] else []
def logR (b t:Int) (es:List Ent):List Rc:=fZ b t++es.map fG
theorem xq {w:World} {base e s n c:Nat} {A:Option Addr} {xs:List Value} (h:w.ownsRow base e s (.slice A n c) n xs):0<n→∃ b o,A=some ⟨b,o,none⟩∧w.rangeAt b o xs:=fun h0=>by
 obtain ⟨g,cur,hA,_,hb,_,_,_,hct⟩:=ka h h0;have h1:xs.take (n*s)=xs:=List.take_of_length_le (by rw [h.1];exact Nat.le_refl _);exact ⟨g,0,hA,by have:=ny (o:=n*s) hb hct;rwa [h1] at this⟩
theorem zh (rs:List Rc):∀ u∈rs.flatMap rcV,u.oneCell'=true:=rO (fun x _=>by simp [rcV,Value.oneCell'])
theorem oT (b t:Int) (E:Option Addr) (c n:Nat) (es:List Ent) (w:World) (he:bm w (.slice E n c) es) (hn:n=es.length) (hl:es.length≤600) (hb:0≤b∧0≤t) (hp:∀ e∈es,0≤e.i∧0≤e.t) :
 Rt prog 110 [.agg (lgV b t E n c).toArray] w (fun v w'=>(∃ A' c',v=.slice A' (logR b t es).length c'∧w'.ownsRow w.heap.size 65 5 (.slice A' (logR b t es).length c') (logR b t es).length ((logR b t es).flatMap rcV))∧ag w w'):=by
 refine enter (n:=20) Tryz.func110 rfl rfl rfl (af (ab (bu (v:=.agg _) rfl ?_)));intro b1 w1 E1 hb1 hk1;refine ass rfl (ah (ae (af (ab (ass rfl (ah (ae (kH (G:=Option Addr×Nat) [4,5,6,7,8,9,10,11,12,13,14] (fun (A3,c3)=>[(3,.slice A3 (fZ b t).length c3)]) (fun (A3,c3) w'=>w'.ownsRow w.heap.size 65 5 (.slice A3 (fZ b t).length c3) (fZ b t).length ((fZ b t).flatMap rcV)∧Blk w' b1 36 (lgV b t E n c).toArray∧ag w w') ?_ ?_))))))))
 ·refine af (ab (aa (ai cC rfl) (aa (ao aD rfl (by exact (hk1.from_ ag.rfl_).rd 0 rfl)) ?_)));refine aa (cn rfl rfl) (ah (ae (BM rfl (fun Q2=>?_) (fun Q2=>?_))))
  ·refine ab (mvs rfl (aa (ai cC rfl) (aa (ao aD rfl (by exact (hk1.from_ ag.rfl_).rd 0 rfl)) ?_)));refine aa (ai gb rfl) (aa (ao aD rfl (by exact (hk1.from_ ag.rfl_).rd 1 rfl)) ?_);refine aa (bN (l:=[(0,.const (.int .i64 3)),(1,.tmp 9),(2,.tmp 11)]) (gG _ _)) ?_;refine gi (l:=[(0,.tmp 12)]) (cells:=(rcV (eS b t)).toArray) eM rfl rfl (by rw [pD hb];show Instr.fill _ _ [(0,Value.agg [.int .i64 3,.int .i64 b,.int .i64 t,.string ⟨#[]⟩,.bool false].toArray)]=_;kernel_rfl) ?_;intro b13 w3 E13 hb13 hk13;refine dk (a0:=w) (news:=rcV (eS b t)) eM rfl (by decide) rfl (World.ownsRow_nil _ _ _ _) ((ag.rfl_.next E1).next E13) rfl rfl (fun _=>⟨b13,0,rfl,hk13.whole⟩) (fun h=>by cases h) (by simp [rcV,Value.oneCell']) (by omega) (by omega) ?_;intro A14 c14 w4 ho14 B14 hg14;replace hk1:=(hk1.from_ (ag.rfl_.next E13)).grown hg14 (fun k hk=>by cases hk);refine ass rfl (ah ?_);refine bW ((A14,c14)) ⟨(congrArg (fun n=>Value.slice A14 n c14) (by unfold fZ;rw [if_pos (by omega)];rfl)),trivial⟩ (by (iterate 12 refine bg rfl ?_);exact bw) ?_;refine ⟨?_,hk1.from_ (ag.rfl_),B14⟩;unfold fZ;rw [if_pos (by omega),List.flatMap_singleton];exact ho14
  refine aE ?_;refine bW ((none,0)) ⟨(congrArg (fun n=>Value.slice none n 0) (by unfold fZ;rw [if_neg (by omega)];rfl)),trivial⟩ (by (iterate 3 refine bg rfl ?_);exact bw) ?_;refine ⟨?_,hk1.from_ ag.rfl_,(ag.rfl_.next E1)⟩;unfold fZ;rw [if_neg (by omega)];exact World.ownsRow_nil _ _ _ _
 rintro ⟨A3,c3⟩ ρ5 w5 ⟨ho3,hk1,hB⟩;refine af (ab (mvs rfl (aa (ai a8 rfl) (aa (ao bC rfl (by exact (hk1.from_ ag.rfl_).rd 2 rfl)) ?_))));refine av iD (gm E c n es _ (he.from_ hB) hn hl hp) ?_;rintro v18 w6 ⟨⟨A18,c18,rfl,ho18⟩,E18⟩;refine dk (a0:=w) (news:=(es.map fG).flatMap rcV) eM rfl (by decide) rfl (ho3.kept_from E18) (hB.next E18) rfl ho18.1 (xq ho18) (fun h=>by subst h;exact nJ ho18) (zh _) (by unfold fZ;split <;> simp <;> omega) (by unfold fZ;split <;> simp <;> omega) ?_;intro A19 c19 w7 ho19 B19 hg19;have hll:(logR b t es).length=(fZ b t).length+es.length:=by unfold logR;rw [List.length_append,List.length_map]
 have hfl:(logR b t es).flatMap rcV=(fZ b t).flatMap rcV++(es.map fG).flatMap rcV:=by unfold logR;rw [List.flatMap_append]
 refine ass rfl (ah (ae (aC (bz (v:=.slice _ _ _) rfl rfl ?_))));exact ⟨⟨A19,c19,by rw [hll],by rw [hll,hfl];exact ho19⟩,B19⟩
end Go.Proofs.YtaohnmneccbljaaGreatDoor
namespace Go.Proofs.YtaohnmneccbljaaGreatDoor
open Go.Proofs.Tryz (prog)
open Go.RowKit
open Go.ChangeShapes Go.WideShapes Go.ChangeAt
open Go.RowKit
def cJ (w:World) (base:Nat) (e s:Nat) (A:Option Addr) (n c:Nat) (xs:List Value):Prop:=
 xs.length=n*s∧n≤c∧c≤maxLen∧((A=none∧n=0∧c=0)∨∃ g off cs,A=some ⟨g,off,none⟩∧base≤g∧Blk w g e cs∧off+c*s≤cs.size∧(cs.toList.drop off).take (n*s)=xs)
section
variable {w w':World} {base e s n c:Nat} {A:Option Addr} {xs:List Value}
theorem cJ.of_own (h:w.ownsRow base e s (.slice A n c) n xs):cJ w base e s A n c xs:=by
 have hl:xs.length=n*s:=by simpa using h.1
 rcases h.2 with ⟨h0,hx⟩ | ⟨g,cap,cur,hv,hbg,hg,hnc,hcm,hcs,htake⟩
 ·simp only [Value.slice.injEq] at h0;obtain ⟨rfl,rfl,rfl⟩:=h0;exact ⟨hl,Nat.le_refl _,by unfold maxLen;omega,.inl ⟨rfl,rfl,rfl⟩⟩
 ·simp only [Value.slice.injEq] at hv;obtain ⟨rfl,_,rfl⟩:=hv;exact ⟨hl,hnc,hcm,.inr ⟨g,0,cur,rfl,hbg,hg,by omega,by simpa using htake⟩⟩
theorem cJ.chg {U:Nat→Prop} (h:cJ w base e s A n c xs) (hC:Chg U w w') (hA:∀ q,A.map (·.block)=some q→¬ U q):cJ w' base e s A n c xs:=by
 obtain ⟨h1,h2,h3,h4⟩:=h;refine ⟨h1,h2,h3,h4.imp id ?_⟩;rintro ⟨g,off,cs,rfl,hb,hB,h5,h6⟩;exact ⟨g,off,cs,rfl,hb,hB.chg hC (hA g rfl),h5,h6⟩
theorem cJ.from_ (h:cJ w base e s A n c xs) (hF:ag w w'):cJ w' base e s A n c xs:=h.chg (U:=fun _=>False) hF.toChg fun _ _ h=>h
theorem cJ.le {b2:Nat} (h:cJ w base e s A n c xs) (hb:b2≤base):cJ w b2 e s A n c xs:=by
 obtain ⟨h1,h2,h3,h4⟩:=h;refine ⟨h1,h2,h3,h4.imp id ?_⟩;rintro ⟨g,off,cs,rfl,hb2,hB,h5,h6⟩;exact ⟨g,off,cs,rfl,Nat.le_trans hb hb2,hB,h5,h6⟩
theorem cJ.at_ (h:cJ w base e s A n c xs):∀ k,A.map (·.block)=some k→base≤k∧k<w.heap.size:=by
 obtain ⟨_,_,_,h4⟩:=h;intro k hk;rcases h4 with ⟨rfl,_⟩ | ⟨g,off,cs,rfl,hb,hB,_⟩
 ·cases hk
 ·cases hk;exact ⟨hb,hB.lt⟩
theorem cJ.off {b T:Nat} {cs:Array Value} (h:cJ w base e s A n c xs) (hb:Blk w b T cs) (hT:T≠e):∀ k,A.map (·.block)=some k→k≠b:=by
 obtain ⟨_,_,_,h4⟩:=h;intro k hk;rcases h4 with ⟨rfl,_⟩ | ⟨g,off,cs2,rfl,_,hB,_⟩
 ·cases hk
 ·cases hk;intro e1;subst e1;have:=hB.symm.trans hb;simp only [Option.some.injEq,Obj.cells.injEq] at this;exact hT this.2.1.symm
theorem cJ.only {b T:Nat} {cs:Array Value} (h:cJ w base e s A n c xs) (O:cY b w w') (hb:Blk w b T cs) (hT:T≠e):cJ w' base e s A n c xs:=
 h.chg (U:=fun k=>k=b) (O.toChg rfl) fun q hq e1=>h.off hb hT q hq e1
theorem cJ.range (h:cJ w base e s A n c xs):0<n→∃ b o,A=some ⟨b,o,none⟩∧b<w.heap.size∧w.rangeAt b o xs:=by
 obtain ⟨h1,h2,h3,h4⟩:=h;intro h0;rcases h4 with ⟨_,h5,_⟩ | ⟨g,off,cs,rfl,hb,hB,h5,h6⟩
 ·omega
 ·refine ⟨g,off,rfl,hB.lt,fun j v hv=>?_⟩;have hj:j<n*s:=by have:=(List.getElem?_eq_some_iff.1 hv).1;omega
  rw [hB.cell,←Array.getElem?_toList,←List.getElem?_drop,←hv,←h6,List.getElem?_take_of_lt hj]
theorem cJ.cut {k:Nat} (h:cJ w base e s A n c xs) (hk:k≤n):cJ w base e s A k k (xs.take (k*s)):=by
 obtain ⟨h1,h2,h3,h4⟩:=h;have hm:k*s≤n*s:=Nat.mul_le_mul_right _ hk;have hm2:k*s≤c*s:=Nat.mul_le_mul_right _ (Nat.le_trans hk h2);refine ⟨by rw [List.length_take];omega,Nat.le_refl _,by omega,?_⟩;rcases h4 with ⟨rfl,h5,_⟩ | ⟨g,off,cs,rfl,hb,hB,h5,h6⟩
 ·exact .inl ⟨rfl,by omega,by omega⟩
 ·exact .inr ⟨g,off,cs,rfl,hb,hB,by omega,by rw [←h6,List.take_take,Nat.min_eq_left hm]⟩
theorem cJ.rest {k:Nat} (h:cJ w base e s A n c xs) (hk:k≤n):cJ w base e s (dm A c k s) (n-k) (c-k) (xs.drop (k*s)):=by
 obtain ⟨h1,h2,h3,h4⟩:=h;have hm:(n-k)*s=n*s-k*s:=Nat.sub_mul _ _ _;have hm2:(c-k)*s=c*s-k*s:=Nat.sub_mul _ _ _;have hm3:k*s≤c*s:=Nat.mul_le_mul_right _ (Nat.le_trans hk h2);have hm4:n*s≤c*s:=Nat.mul_le_mul_right _ h2;refine ⟨by rw [List.length_drop];omega,by omega,by omega,?_⟩;unfold dm;rcases h4 with ⟨rfl,h5,h7⟩ | ⟨g,off,cs,rfl,hb,hB,h5,h6⟩
 ·refine .inl ⟨by split <;> rfl,by omega,by omega⟩
 ·by_cases hc:c=k
  ·obtain rfl:n=k:=by omega
   rw [if_pos hc];exact .inr ⟨g,off,cs,rfl,hb,hB,by omega,by rw [Nat.sub_self,Nat.zero_mul,List.take_zero,List.drop_of_length_le (by omega)]⟩
  ·rw [if_neg hc];exact .inr ⟨g,off+k*s,cs,by simp [Addr.add_mid],hb,hB,by omega,by rw [←h6,hm,List.drop_take,List.drop_drop]⟩
end
theorem lS {P:Program} (w:World) (t ty e:TypeId) (i:TypeInfo) (ht:P.underlying t=some (.slice e)) (hi:P.info? e=some i)
 (g off sLen sCap:Nat) (cur:Array Value) (hg:w.heap[g]? =some (.cells cur e (0,0)))
 (a:Addr) (m c:Nat) (news:List Value) (hl:news.length=m*i.size) (hnews:∀ j u,news[j]? =some u→w.cell? (a.add j)=some u) (h1:∀ u∈news,u.oneCell'=true)
 (hroom:sLen+m≤sCap) (hfit:off+sLen*i.size+news.length≤cur.size) :
 (Builtin.append_ #[t,t] ty #[.slice (some ⟨g,off,none⟩) sLen sCap,.slice (some a) m c]).run P w=
  .ok (.slice (some ⟨g,off,none⟩) (sLen+m) sCap) (w.setRow g (cur.toList.take (off+sLen*i.size)++news++cur.toList.drop (off+sLen*i.size+news.length)).toArray):=by
 have hf:=run_firstCells_some (P:=P) w i.size m a m c news hl hnews;have hst:=run_storeCells_at P g (off+sLen*i.size) e news 0 cur w hg (by simpa using hfit) h1;simp only [Nat.add_zero] at hst;simp [Builtin.append_,run_underlying ht,sizeOf,typeInfo,hi,Builtin.lenOf,hroom,hf,Addr.add_mid,hst]
theorem sV {P:Program} {ρ:Operand→Value} {w:World} {s x:Operand} {t base:Nat} {A A2:Option Addr} {m j cap c2 e size by_:Nat} {z:Value} {xs news:List Value} (hq:eU P t=some (e,size,by_,z)) (hzs:z.cells.size=size) (hs0:0<size)
 (hs:ρ s=.slice A m cap) (hown:cJ w base e size A m cap xs) (hB:base≤w.heap.size)
 (hx:ρ x=.slice A2 j c2) (hl:news.length=j*size) (hsrc:∃ b o,A2=some ⟨b,o,none⟩∧w.rangeAt b o news) (h1:∀ u∈news,u.oneCell'=true) (h63:m+j≤9223372036854775807) (hby:(m+j)*by_≤140737488355328) :
 ∃ A' cap' w',RO P ρ (.call { callee:=.builtin .append,args:=#[s,x],argTypes:=#[t,t] }) w (.slice A' (m+j) cap') w'∧cJ w' base e size A' (m+j) cap' (xs++news)∧w.grownBy w' (A.map (·.block)):=by
 have hown0:=hown;obtain ⟨g1,g2,g3,hA⟩:=hown;rcases hA with ⟨rfl,rfl,rfl⟩ | ⟨g,off,cur,rfl,hbg,hg,g4,g5⟩
 ·have hx0:xs=[]:=List.eq_nil_of_length_eq_zero (by omega);subst hx0;obtain ⟨A',cap',w',h1,h2,h3,_⟩:=kD (P:=P) (ρ:=ρ) (w:=w) (s:=s) (x:=x) (t:=t) (base:=base) (A:=none) (A2:=A2) (m:=0) (j:=j) (cap:=0) (c2:=c2) hq hzs hs0 hs (World.ownsRow_nil _ _ _ _) hB hx hl hsrc h1 h63 hby;exact ⟨A',cap',w',h1,cJ.of_own h2,h3⟩
 obtain ⟨i,hu,hi,hsz,hb,hz⟩:=jd hq;obtain ⟨b,o,rfl,hr⟩:=hsrc;subst hsz;have hnews:∀ k u,news[k]? =some u→w.cell? ((⟨b,o,none⟩:Addr).add k)=some u:=fun k u hk=>by rw [Addr.add_mid];exact hr k u hk
 have hmj:(m+j)*i.size=m*i.size+j*i.size:=Nat.add_mul _ _ _
 have key:∀ ty,∃ A' cap' w',(Builtin.append_ #[t,t] ty #[.slice (some ⟨g,off,none⟩) m cap,.slice (some ⟨b,o,none⟩) j c2]).run P w=.ok (.slice A' (m+j) cap') w'∧cJ w' base e i.size A' (m+j) cap' (xs++news)∧w.grownBy w' (some g):=fun ty=>by
  by_cases hroom:m+j≤cap
  ·have hrc:(m+j)*i.size≤cap*i.size:=Nat.mul_le_mul_right _ hroom;have hrun:=lS w t ty e i hu hi g off m cap cur hg _ j c2 news hl hnews h1 hroom (by omega);refine ⟨_,_,_,hrun,⟨by rw [List.length_append];omega,hroom,g3,.inr ⟨g,off,_,rfl,hbg,setRow_heap w g cur _ e _ hg,?_,?_⟩⟩,⟨rfl,rfl,rfl,by simp,fun k _ hk=>setRow_other w g k _ (fun e=>hk (by rw [e]))⟩⟩
   ·simp only [List.size_toArray,List.length_append,List.length_take,List.length_drop,Array.length_toList];omega
   ·show ((List.take (off+m*i.size) cur.toList++news++List.drop (off+m*i.size+news.length) cur.toList).drop off).take ((m+j)*i.size)=xs++news;have hcl:cur.toList.length=cur.size:=Array.length_toList;rw [List.append_assoc,List.drop_append_of_le_length (by rw [List.length_take];omega),List.drop_take,show off+m*i.size-off=m*i.size by omega,g5,←List.append_assoc];exact List.take_left' (by rw [List.length_append];omega)
  ·have holds:∀ k u,xs[k]? =some u→w.cell? ((⟨g,off,none⟩:Addr).add k)=some u:=fun k u hk=>by
    rw [Addr.add_mid];have hkl:k<m*i.size:=by have:=(List.getElem?_eq_some_iff.1 hk).1;omega
    rw [hg.cell,←Array.getElem?_toList,←List.getElem?_drop,←hk,←g5,List.getElem?_take_of_lt hkl]
   have hrun:=run_append_grow (P:=P) w t ty e i z hu hi hz ⟨g,off,none⟩ m cap xs g1 holds ⟨b,o,none⟩ j c2 news hl hnews (by omega) (by omega) (by rw [hb];exact growslice_fits (by omega) hby);have hge:=grownCap_ge w (m+j) cap e;refine ⟨_,_,_,hrun,⟨by rw [List.length_append];omega,hge,grownCap_le_maxLen w (m+j) cap e (by unfold maxLen;omega),.inr ⟨w.heap.size,0,_,rfl,hB,heap_alloc_new w.drew _,?_,?_⟩⟩,⟨rfl,rfl,rfl,by simp,fun k hk _=>heap_alloc_old w.drew _ hk⟩⟩
   ·have h9:(m+j)*i.size+(grownCap w (m+j) cap e-(m+j))*i.size=grownCap w (m+j) cap e*i.size:=by rw [←Nat.add_mul];congr 1;omega
    simp only [Array.size_append,List.size_toArray,size_zeroCells,hzs,g1,hl];omega
   ·simp only [Array.toList_append,List.drop_zero];exact List.take_left' (by rw [List.length_append];omega)
 obtain ⟨A',cap',w',hrun,hown',hgr⟩:=key 0;refine ⟨A',cap',w',fun dst ty pos after g=>?_,hown',hgr⟩;have hty:∀ y:Value,(Builtin.append_ #[t,t] ty #[y,.slice (some ⟨b,o,none⟩) j c2]).run P w=(Builtin.append_ #[t,t] 0 #[y,.slice (some ⟨b,o,none⟩) j c2]).run P w:=fun _=>rfl
 unfold execOp;simp only [resolve,invoke,builtin,Sem.run_bind,Sem.run_pure,Result.andThen_ok,List.map_toArray,List.map_cons,List.map_nil,hs,hx,hty,hrun]
section
variable {P:Program} {ops:Array Oper} {Q:Exit→Act→World→Prop} {rest:List Oper} {n:Fr} {L:List (Nat×Value)} {w:World} {ty:TypeId} {pos:String} {after:Array Edge} {d:Nat} {t:TypeId} {x s:Operand}
theorem sI {base:Nat} {A A2:Option Addr} {m j cap c2 e size by_:Nat} {z:Value} {xs news:List Value} (hq:eU P t=some (e,size,by_,z)) (hzs:z.cells.size=size) (hs0:0<size)
 (hs:ev n L s=.slice A m cap) (hown:cJ w base e size A m cap xs) (hB:base≤w.heap.size)
 (hx:ev n L x=.slice A2 j c2) (hl:news.length=j*size) (hsrc:∃ b o,A2=some ⟨b,o,none⟩∧w.rangeAt b o news) (h1:∀ u∈news,u.oneCell'=true) (h63:m+j≤9223372036854775807) (hby:(m+j)*by_≤140737488355328)
 (k:∀ A' cap' w',cJ w' base e size A' (m+j) cap' (xs++news)→w.grownBy w' (A.map (·.block))→St P ops Q rest n ((d,.slice A' (m+j) cap')::L) w') :
 St P ops Q (⟨some d,.call { callee:=.builtin .append,args:=#[s,x],argTypes:=#[t,t] },ty,pos,after,none⟩::rest) n L w:=by
 obtain ⟨A',cap',w',h1,h2,h3⟩:=sV hq hzs hs0 hs hown hB hx hl hsrc h1 h63 hby;exact aa h1 (k A' cap' w' h2 h3)
end
theorem n3 (es:List Ent) (i:Nat) (hi:i<es.length):(bJ es)[i*3]? =some (.int .i64 es[i].i)∧(bJ es)[i*3+1]? =some (.int .i64 es[i].t)∧(bJ es)[i*3+2]? =some (.string es[i].d):=by
 have h1:es=es.take i++(es[i]::es.drop (i+1)):=by rw [←List.drop_eq_getElem_cons hi,List.take_append_drop]
 have h2:bJ es=bJ (es.take i)++(.int .i64 es[i].i::.int .i64 es[i].t::.string es[i].d::bJ (es.drop (i+1))):=(congrArg bJ h1).trans (dz _ _);have hl:(bJ (es.take i)).length=i*3:=by rw [cN,List.length_take];congr 1;omega
 rw [h2];refine ⟨?_,?_,?_⟩
 ·rw [List.getElem?_append_right (by omega),hl,Nat.sub_self];rfl
 ·rw [List.getElem?_append_right (by omega),hl,Nat.add_sub_cancel_left];rfl
 ·rw [List.getElem?_append_right (by omega),hl,Nat.add_sub_cancel_left];rfl
abbrev dp (w:World) (base:Nat) (A:Option Addr) (n c:Nat) (es:List Ent):Prop:=cJ w base 49 3 A n c (bJ es)
theorem dp.len {w:World} {base n c:Nat} {A:Option Addr} {es:List Ent} (h:dp w base A n c es):n=es.length:=by
 have:=h.1;rw [cN] at this;omega
theorem dp.ents {w:World} {base n c:Nat} {A:Option Addr} {es:List Ent} (h:dp w base A n c es):bm w (.slice A n c) es:=by
 have hl:=h.len;subst hl;refine ⟨A,c,rfl,h.2.1,h.2.2.1,fun h0=>?_,fun h0=>?_⟩
 ·rcases h.2.2.2 with h | ⟨g,off,cs,h1,_⟩
  ·exact h.2.2
  ·rw [h0] at h1;cases h1
 ·obtain ⟨b,o,hA,hb,hr⟩:=h.range h0;refine ⟨b,o,hA,hb,fun i hi=>?_⟩;obtain ⟨h1,h2,h3⟩:=n3 es i hi;exact ⟨hr _ _ h1,by have:=hr _ _ h2;rwa [←Nat.add_assoc] at this,by have:=hr _ _ h3;rwa [←Nat.add_assoc] at this⟩
theorem nZ {w:World} {b:Nat} {e:Ent} (h:Blk w b 49 #[.int .i64 e.i,.int .i64 e.t,.string e.d]):bm w (.slice (some ⟨b,0,none⟩) 1 1) [e]:=
 ⟨some ⟨b,0,none⟩,1,rfl,Nat.le_refl _,by decide,fun h=>(by cases h),fun _=>⟨b,0,rfl,h.lt,fun i hi=>by
  obtain rfl:i=0:=by have:i<1:=hi;omega
  exact ⟨by rw [h.cell];rfl,by rw [h.cell];rfl,by rw [h.cell];rfl⟩⟩⟩
theorem kG (xs:List Ent) (k:Nat) (hk:k≤xs.length):bJ (xs.take k)=(bJ xs).take (k*3):=by
 have h:bJ xs=bJ (xs.take k)++bJ (xs.drop k):=by rw [←dz,List.take_append_drop]
 have hl:(bJ (xs.take k)).length=k*3:=by rw [cN,List.length_take];congr 1;omega
 have h2:(bJ (xs.take k)++bJ (xs.drop k)).take (k*3)=bJ (xs.take k):=by rw [←hl];exact List.take_left
 rw [←h] at h2;exact h2.symm
theorem tp (xs:List Ent) (k:Nat) (hk:k≤xs.length):bJ (xs.drop k)=(bJ xs).drop (k*3):=by
 have h:bJ xs=bJ (xs.take k)++bJ (xs.drop k):=by rw [←dz,List.take_append_drop]
 have hl:(bJ (xs.take k)).length=k*3:=by rw [cN,List.length_take];congr 1;omega
 have h2:(bJ (xs.take k)++bJ (xs.drop k)).drop (k*3)=bJ (xs.drop k):=by rw [←hl];exact List.drop_left
 rw [←h] at h2;exact h2.symm
end Go.Proofs.YtaohnmneccbljaaGreatDoor
namespace Go.Proofs.YtaohnmneccbljaaGreatDoor
open Go.Proofs.Tryz (prog)
open Go.RowKit
open Go.ChangeShapes Go.WideShapes Go.ChangeAt
theorem kz (p t:Int) (e:Ent) (r:List Ent):bo p t (e::r)=bo e.i e.t r:=by
 unfold bo;cases r with
 |nil=>rfl
 |cons g q=>rw [List.getLast?_cons_cons,List.getLast?_eq_getElem?,List.getElem?_eq_getElem (by simp)]
theorem kW {e:Ent} {r:List Ent} {p t:Int} (h:cG (e::r) p t=true):OkE e p t:=by
 by_cases h1:OkE e p t
 ·exact h1
 ·rw [j7 h1] at h;cases h
theorem qh {e:Ent} {p t:Int} (h:OkE e p t) (hp:0≤p) (ht:0≤t) (r:List Ent):cG (e::r) p t=cG r (p+1) e.t:=q8 h hp ht
theorem o9:∀ (xs:List Ent) (p t:Int),cG xs p t=true→(bo p t xs).1=p+(xs.length:Int)
 |[],p,t,_=>by simp [bo]
 |e::r,p,t,h=>by
  have h1:=(kW h).1;simp only [cG,Bool.and_eq_true] at h;rw [kz,h1,o9 r (p+1) e.t h.2,List.length_cons];omega
theorem o7:∀ (xs:List Ent) (p t:Int),cG xs p t=true→t≤(bo p t xs).2∧(t<1099511627776→(bo p t xs).2<1099511627776)
 |[],p,t,_=>by simp [bo]
 |e::r,p,t,h=>by
  have h1:=kW h;unfold OkE at h1;simp only [cG,Bool.and_eq_true] at h;have h2:=o7 r (p+1) e.t h.2;rw [kz,h1.1];exact ⟨by omega,fun _=>h2.2 h1.2.2.2.1⟩
theorem nv:∀ (xs ys:List Ent) (p t:Int),cG xs p t=true→cG (xs++ys) p t=cG ys (p+(xs.length:Int)) (bo p t xs).2
 |[],ys,p,t,_=>by simp [bo]
 |e::r,ys,p,t,h=>by
  have h1:=(kW h).1;simp only [cG,Bool.and_eq_true] at h;show (iO e p t&&cG (r++ys) (p+1) e.t)=_;rw [h.1,Bool.true_and,nv r ys (p+1) e.t h.2,kz,h1,List.length_cons,show p+1+(r.length:Int)=p+((r.length+1:Nat):Int) by omega]
theorem lQ:∀ (xs ys:List Ent) (p t:Int),cG (xs++ys) p t=true→cG xs p t=true
 |[],_,_,_,_=>rfl
 |e::r,ys,p,t,h=>by
  have h':(iO e p t&&cG (r++ys) (p+1) e.t)=true:=h;rw [Bool.and_eq_true] at h';simp only [cG,Bool.and_eq_true];exact ⟨h'.1,lQ r ys _ _ h'.2⟩
structure Lg where
 b:Int
 t:Int
 es:List Ent
def lg0:Lg:=⟨0,0,[]⟩
def dh (L:Lg):Prop:=ek L.b L.t L.es=true∧(L.b=0→L.t=0)
abbrev lL (L:Lg):Int×Int:=bo L.b L.t L.es
structure LgF (L:Lg):Prop where
 b:0≤L.b∧L.b≤1099511625728
 t:0≤L.t∧L.t<1099511627776
 z:L.b=0→L.t=0
 n:L.es.length≤512
 r:cG L.es L.b L.t=true
 l:(lL L).1=L.b+(L.es.length:Int)
 l2:0≤(lL L).2∧(lL L).2<1099511627776
theorem dh.f {L:Lg} (h:dh L):LgF L:=by
 obtain ⟨h1,hz⟩:=h;simp only [ek,Bool.and_eq_true,decide_eq_true_eq] at h1;obtain ⟨⟨⟨h1,h2⟩,h3⟩,h4⟩:=h1;have h1:=lq h1;have h2:=lq h2;have h5:=o7 _ _ _ h4;exact ⟨h1,⟨h2.1,by omega⟩,hz,h3,h4,o9 _ _ _ h4,Int.le_trans h2.1 h5.1,h5.2 (by omega)⟩
theorem dh.mk' {L:Lg} (b:0≤L.b∧L.b≤1099511625728) (t:0≤L.t∧L.t<1099511627776) (z:L.b=0→L.t=0) (n:L.es.length≤512) (r:cG L.es L.b L.t=true):dh L:=by
 refine ⟨?_,z⟩;simp only [ek,Bool.and_eq_true,decide_eq_true_eq];exact ⟨⟨⟨xT b,xT ⟨t.1,by omega⟩⟩,n⟩,r⟩
theorem nQ:dh lg0:=dh.mk' (by decide) (by decide) (fun _=>rfl) (by decide) rfl
theorem mZ:∀ (xs:List Ent) (p t:Int),cG xs p t=true→0≤p→0≤t→∀ e∈xs,0≤e.i∧0≤e.t∧e.i<9223372036854775808∧e.t<9223372036854775808∧e.d.size≤4096
 |[],_,_,_,_,_,e,h=>by cases h
 |x::r,p,t,h,hp,ht,e,he=>by
  have h1:=kW h;unfold OkE at h1;simp only [cG,Bool.and_eq_true] at h;rcases List.mem_cons.1 he with rfl | he
  ·exact ⟨by omega,by omega,by omega,by omega,by omega⟩
  ·exact mZ r (p+1) x.t h.2 (by omega) (by omega) e he
theorem LgF.ents {L:Lg} (h:LgF L):∀ e∈L.es,0≤e.i∧0≤e.t∧e.i<9223372036854775808∧e.t<9223372036854775808∧e.d.size≤4096:=mZ _ _ _ h.r h.b.1 h.t.1
def rcE (r:Rc):Ent:=⟨(r.i:Nat),(r.t:Nat),r.d⟩
inductive Ap:Lg→Rc→Lg→Prop
 |ent (L:Lg) (r:Rc) (hk:r.k=1) (h:OkE (rcE r) (lL L).1 (lL L).2) (hl:L.es.length<512):Ap L r ⟨L.b,L.t,L.es++[rcE r]⟩
 |cut (L:Lg) (r:Rc) (k:Nat) (h2:r.k=2) (hk:k≤L.es.length) (hi:((r.i:Nat):Int)=L.b+(k:Int)):Ap L r ⟨L.b,L.t,L.es.take k⟩
 |over (L:Lg) (r:Rc) (h3:r.k=3) (ok:okD L.b L.t (r.i:Nat) (r.t:Nat)) (h:L.b+(L.es.length:Int)<((r.i:Nat):Int)):Ap L r ⟨(r.i:Nat),(r.t:Nat),[]⟩
 |drop (L:Lg) (r:Rc) (k:Nat) (h3:r.k=3) (ok:okD L.b L.t (r.i:Nat) (r.t:Nat)) (hk:k<L.es.length) (hi:((r.i:Nat):Int)=L.b+(k:Int)+1) (ht:L.es[k].t=((r.t:Nat):Int)):Ap L r ⟨(r.i:Nat),(r.t:Nat),L.es.drop (k+1)⟩
theorem sN {es:List Ent} {p t:Int} {k:Nat} (h:cG es p t=true) (hk:k<es.length):cG (es.drop (k+1)) (p+(k:Int)+1) es[k].t=true:=by
 have h1:es.take (k+1)++es.drop (k+1)=es:=List.take_append_drop _ _;have h2:=h;rw [←h1] at h2;have h3:=lQ _ _ _ _ h2;rw [nv _ _ _ _ h3,List.length_take,Nat.min_eq_left (by omega),o8 _ _ (by rw [List.length_take];omega)] at h2;simp only [List.length_take,List.getElem_take,Nat.min_eq_left (show k+1≤es.length by omega),Nat.add_sub_cancel] at h2;rw [show p+(k:Int)+1=p+((k+1:Nat):Int) by omega];exact h2
theorem Ap.ok {L M:Lg} {r:Rc} (h:Ap L r M) (hL:dh L):dh M:=by
 have hf:=hL.f;have h1:=hf.b;have h2:=hf.t;have h4:=hf.n;cases h with
 |ent hk h hl=>
  refine dh.mk' hf.b hf.t hf.z (by simp only [List.length_append,List.length_singleton];omega) ?_;show cG (L.es++[rcE r]) L.b L.t=true;have hl1:(bo L.b L.t L.es).1=L.b+(L.es.length:Int):=hf.l;have h:OkE (rcE r) (bo L.b L.t L.es).1 (bo L.b L.t L.es).2:=h;rw [hl1] at h;rw [nv _ _ _ _ hf.r,qh h (by omega) hf.l2.1];rfl
 |cut k h2 hk hi=>
  refine dh.mk' hf.b hf.t hf.z (by simp only [List.length_take];omega) ?_;have:=hf.r;rw [←List.take_append_drop k L.es] at this;exact lQ _ _ _ _ this
 |over h3 ok h=>
  unfold okD at ok;exact dh.mk' ⟨by simp only;omega,by simp only;omega⟩ ⟨by simp only;omega,by simp only;omega⟩ (fun e=>by simp only at e;omega) (by simp) rfl
 |drop k h3 ok hk hi ht=>
  unfold okD at ok;refine dh.mk' ⟨by simp only;omega,by simp only;omega⟩ ⟨by simp only;omega,by simp only;omega⟩ (fun e=>by simp only at e;omega) (by simp only [List.length_drop];omega) ?_;have:=sN hf.r hk;rw [ht,←hi] at this;exact this
theorem Ap.fin_ {L M:Lg} {r:Rc} {b:Bool} (h:Ap L r M):Ap L (fi r b) M:=by
 cases h with
 |ent hk h hl=>exact .ent L (fi r b) hk h hl
 |cut k h2 hk hi=>exact .cut L (fi r b) k h2 hk hi
 |over h3 ok h=>exact .over L (fi r b) h3 ok h
 |drop k h3 ok hk hi ht=>exact .drop L (fi r b) k h3 ok hk hi ht
def cI:Lg→List Rc→Lg→Prop
 |L,[],M=>L=M
 |L,r::rs,M=>∃ K,Ap L r K∧cI K rs M
theorem cI.app:∀ {rs ts:List Rc} {L M K:Lg},cI L rs M→cI M ts K→cI L (rs++ts) K
 |[],ts,L,M,K,h,h2=>by cases h;exact h2
 |r::rs,ts,L,M,K,⟨N,h1,h3⟩,h2=>⟨N,h1,h3.app h2⟩
theorem cI.mark (n:Nat):∀ {rs:List Rc} {i:Nat} {L M:Lg},cI L rs M→cI L (jI n i rs) M
 |[],_,_,_,h=>h
 |_::_,i,_,_,⟨N,h1,h3⟩=>⟨N,h1.fin_,cI.mark n (i:=i+1) h3⟩
theorem cI.fins:∀ {rs:List Rc} {L M:Lg},cI L rs M→cI L (rs.map fun r=>fi r true) M
 |[],_,_,h=>h
 |_::_,_,_,⟨N,h1,h3⟩=>⟨N,h1.fin_,cI.fins h3⟩
theorem xm {e:Ent} (h:0≤e.i∧0≤e.t):rcE (fG e)=e:=by
 unfold rcE fG;simp only [Int.toNat_of_nonneg h.1,Int.toNat_of_nonneg h.2]
theorem cI.ents:∀ (es:List Ent) {L:Lg},dh L→cG es (lL L).1 (lL L).2=true→L.es.length+es.length≤512→cI L (es.map fG) ⟨L.b,L.t,L.es++es⟩
 |[],L,_,_,_=>by show L=_;rw [List.append_nil]
 |e::r,L,hL,hr,hn=>by
  have hf:=hL.f;have hb:=hf.b;have h2:=hf.l2;have h3:=hf.l;have he:=kW hr;have he':=he;unfold OkE at he';have hee:rcE (fG e)=e:=xm ⟨by omega,by omega⟩;rw [List.length_cons] at hn;have h1:Ap L (fG e) ⟨L.b,L.t,L.es++[rcE (fG e)]⟩:=.ent L (fG e) rfl (by rw [hee];exact he) (by omega);rw [hee] at h1;have hok:=h1.ok hL;rw [qh he (by omega) (by omega)] at hr
  have h4:lL ⟨L.b,L.t,L.es++[e]⟩=(e.i,e.t):=by
   show bo L.b L.t (L.es++[e])=_;unfold bo;rw [List.getLast?_concat]
  refine ⟨_,h1,?_⟩;have:=cI.ents r (L:=⟨L.b,L.t,L.es++[e]⟩) hok (by rw [h4];show cG r e.i e.t=true;rw [he'.1];exact hr) (by show (L.es++[e]).length+r.length≤512;rw [List.length_append];simp only [List.length_singleton];omega);simpa using this
theorem cI.logR {L:Lg} (h:dh L):cI lg0 (logR L.b L.t L.es) L:=by
 have hf:=h.f;have hb:=hf.b;have ht:=hf.t;unfold Go.Proofs.YtaohnmneccbljaaGreatDoor.logR fZ;by_cases h0:0<L.b
 ·rw [if_pos h0]
  have h1:Ap lg0 (eS L.b L.t) ⟨L.b,L.t,[]⟩:=by
   have h2:Ap lg0 (eS L.b L.t) ⟨(L.b.toNat:Nat),(L.t.toNat:Nat),[]⟩:=.over lg0 (eS L.b L.t) rfl (by
    unfold okD lg0 eS;simp only;omega) (by show (0:Int)+0<((L.b.toNat:Nat):Int);omega)
   rwa [Int.toNat_of_nonneg hb.1,Int.toNat_of_nonneg ht.1] at h2
  refine ⟨_,h1,?_⟩;have:=cI.ents L.es (L:=⟨L.b,L.t,[]⟩) (h1.ok nQ) hf.r (by simpa using hf.n);simpa using this
 ·rw [if_neg h0];have hb0:L.b=0:=by omega
  have ht0:=hf.z hb0;have:=cI.ents L.es (L:=lg0) nQ (by have:=hf.r;rw [hb0,ht0] at this;exact this) (by simpa [lg0] using hf.n);show cI lg0 (L.es.map fG) L
  have e:(⟨lg0.b,lg0.t,lg0.es++L.es⟩:Lg)=L:=by
   obtain ⟨b,t,es⟩:=L;simp only at hb0 ht0;subst hb0;subst ht0;rfl
  rwa [e] at this
theorem um {L:Lg} (h:dh L):∀ r∈logR L.b L.t L.es,r.Ok:=by
 have hf:=h.f;have hb:=hf.b;have ht:=hf.t;intro r hr;unfold Go.Proofs.YtaohnmneccbljaaGreatDoor.logR fZ at hr;rcases List.mem_append.1 hr with hr | hr
 ·split at hr
  ·rw [List.mem_singleton.1 hr];exact ⟨by show 1≤3;decide,Nat.le_refl _,by show L.b.toNat<_;omega,by show L.t.toNat<_;omega,Nat.zero_le _⟩
  ·cases hr
 ·obtain ⟨e,he,rfl⟩:=List.mem_map.1 hr;obtain ⟨h1,h2,h3,h4,h5⟩:=hf.ents e he;exact ⟨Nat.le_refl _,by show 1≤3;decide,by show e.i.toNat<_;omega,by show e.t.toNat<_;omega,h5⟩
def frL (n:Nat):Nat:=(n+53)/31*32
theorem th (s:BitVec 32) (r:Rc):(cF (b_ s r)).length=frL r.d.size:=by
 rw [iJ _ _ rfl,kf];unfold frL;rw [show 23+r.d.size+30=r.d.size+53 by omega]
theorem l8:∀ (rs:List Rc) (s:BitVec 32),(ax s rs).1.length=(rs.map fun r=>frL r.d.size).sum
 |[],_=>rfl
 |r::rs,s=>by
  show (cF (b_ s r)++(ax (eo s r) rs).1).length=_;rw [List.length_append,th,l8 rs,List.map_cons,List.sum_cons]
theorem rA (n:Nat):∀ (rs:List Rc) (i:Nat),(jI n i rs).map (fun r=>frL r.d.size)=rs.map fun r=>frL r.d.size
 |[],_=>rfl
 |r::rs,i=>by
  show frL r.d.size::(jI n (i+1) rs).map (fun r=>frL r.d.size)=_;rw [rA n rs];rfl
theorem xK (L:Lg):((logR L.b L.t L.es).map fun r=>frL r.d.size).sum≤32+cu L.es:=by
 unfold Go.Proofs.YtaohnmneccbljaaGreatDoor.logR fZ cu;rw [List.map_append,List.sum_append,List.map_map]
 have:((if 0<L.b then [eS L.b L.t] else []).map fun r=>frL r.d.size).sum≤32:=by
  split
  ·show frL 0+0≤32;decide
  ·exact Nat.zero_le _
 have h2:(L.es.map ((fun r=>frL r.d.size) ∘ fG))=L.es.map fun e=>(e.d.size+53)/31*32:=List.map_congr_left fun e _=>rfl
 rw [h2];omega
theorem x9 (es:List Ent):((es.map fG).map fun r=>frL r.d.size).sum=cu es:=by
 unfold cu;rw [List.map_map];rfl
theorem kV (xs ys:List Ent):cu (xs++ys)=cu xs+cu ys:=by unfold cu;rw [List.map_append,List.sum_append]
theorem mm (xs:List Ent) (k:Nat):cu (xs.take k)≤cu xs:=by
 have:=kV (xs.take k) (xs.drop k);rw [List.take_append_drop] at this;omega
theorem q5 (xs:List Ent) (k:Nat):cu (xs.drop k)≤cu xs:=by
 have:=kV (xs.take k) (xs.drop k);rw [List.take_append_drop] at this;omega
end Go.Proofs.YtaohnmneccbljaaGreatDoor
namespace Go.Proofs.YtaohnmneccbljaaGreatDoor
open Go.Proofs.Tryz (prog)
open Go.RowKit
open Go.ChangeShapes Go.WideShapes Go.ChangeAt
open Go.RowKit
theorem lF:∀ (a0:Int) (a1:Int) (a2:ByteArray),prog.built 49 [(0,.int .i64 a0),(1,.int .i64 a1),(2,.string a2)]=some #[.int .i64 a0,.int .i64 a1,.string a2]:=by intros;kernel_rfl
theorem gd:aH prog 36=true:=by kernel_rfl
theorem ix:aH prog 40=true:=by kernel_rfl
theorem jX:aH prog 39=true:=by kernel_rfl
theorem jh (b t:Int) (E:Option Addr) (c n:Nat) (ls:List Ent) (F:Option Addr) (c2 m:Nat) (es:List Ent) (w:World) (hls:bm w (.slice E n c) ls) (hn:n=ls.length) (hes:bm w (.slice F m c2) es) (hm:m=es.length) (hl:ls.length≤1000000) (hl2:es.length≤1000000) (hp:0≤(bo b t ls).1∧(bo b t ls).1≤2000000000000) (ht:0≤(bo b t ls).2) (hr:cG es (bo b t ls).1 (bo b t ls).2=true) :
 Rt prog 36 [.agg (lgV b t E n c).toArray,.slice F m c2] w fun v w'=>v=.bool true∧ag w w':=by
 have h:=pC b t E c n ls F c2 m es w hls hn hes hm hl hl2 hp ht
 rwa [hr] at h
theorem ng (b t:Int) (E:Option Addr) (c n:Nat) (es:List Ent) (i:Int) (k:Nat) (w:World) (he:bm w (.slice E n c) es) (hn:n=es.length) (hl:es.length≤1000000) (hb:0≤b∧b≤2000000000000) (hlast:(bo b t es).1=b+(es.length:Int)) (hk:k≤es.length) (hi:i=b+(k:Int)) :
 Rt prog 40 [.agg (lgV b t E n c).toArray,.int .i64 i] w fun v w'=>v=.tuple #[.agg (lgV b t E k k).toArray,.bool true]∧ag w w':=
 (t_ b t E c n es i w he hn hl hb hlast (by omega)).mono fun v w' h=>by
  obtain ⟨h,hF⟩:=h;refine ⟨?_,hF⟩;rcases h with ⟨_,j,hj,h1⟩ | ⟨h1,_⟩
  ·obtain rfl:j=k:=by omega
   exact h1
  ·exact absurd ⟨by omega,by omega⟩ h1
theorem o6 (L M:Lg) (r:Rc) (base:Nat) (E:Option Addr) (c n:Nat) (w:World) (hL:dh L) (hap:Ap L r M) (h3:r.k=3) (ho:dp w base E n c L.es) :
 Rt prog 39 [.agg (lgV L.b L.t E n c).toArray,.int .i64 (r.i:Nat),.int .i64 (r.t:Nat)] w fun v w'=>(∃ E' n' c',v=.tuple #[.agg (lgV M.b M.t E' n' c').toArray,.bool true]∧dp w' base E' n' c' M.es)∧ag w w':=by
 have hf:=hL.f;have hb:=hf.b;have hnl:=hf.n;have hn:=ho.len;refine (qT L.b L.t E c n L.es (r.i:Nat) (r.t:Nat) w ho.ents hn (by omega) (by omega) hf.l).mono fun v w' h=>?_
 obtain ⟨h,hF⟩:=h;refine ⟨?_,hF⟩;have hnil:dp w' base none 0 0 []:=⟨rfl,Nat.le_refl _,by unfold maxLen;omega,.inl ⟨rfl,rfl,rfl⟩⟩;cases hap with
 |ent hk h hl=>omega
 |cut k h2 hk hi=>omega
 |over h3 ok hlt=>
  rcases h with ⟨h1,_⟩ | ⟨_,_,h1⟩ | ⟨_,k,hk,hi,_⟩ | ⟨_,k,hk,hi,_⟩ | ⟨_,k,hk,hi,_⟩
  ·exact absurd ok h1
  ·exact ⟨none,0,0,h1,hnil⟩
  all_goals omega
 |drop k h3 ok hk hi ht=>
  rcases h with ⟨h1,_⟩ | ⟨_,h1,_⟩ | ⟨_,k2,hk2,hi2,hl2,h1⟩ | ⟨_,k2,hk2,hi2,_,hne,_⟩ | ⟨_,k2,hk2,hi2,hl2,_,h1⟩
  ·exact absurd ok h1
  ·omega
  ·obtain rfl:k2=k:=by omega
   rw [ht,decide_eq_true rfl] at h1;refine ⟨none,0,0,h1,?_⟩;show dp w' base none 0 0 (L.es.drop (k2+1));rw [List.drop_of_length_le (by omega)];exact hnil
  ·obtain rfl:k2=k:=by omega
   exact absurd ht hne
  ·obtain rfl:k2=k:=by omega
   refine ⟨_,_,_,h1,?_⟩;show cJ w' base _ 3 _ _ _ (bJ (L.es.drop (k2+1)));rw [tp _ _ (by omega)];exact (ho.from_ hF).rest (by omega)
theorem vX (L:Lg) (r:Rc) (base:Nat) (E:Option Addr) (c n:Nat) (w:World) (hL:dh L) (ho:dp w base E n c L.es) (hbase:base≤w.heap.size) (hk:r.k=1) (hok:OkE (rcE r) (lL L).1 (lL L).2) (hlen:L.es.length<512) :
 Rt prog 26 [.agg (lgV L.b L.t E n c).toArray,.agg (rcV r).toArray] w (fun v w'=>(∃ A' c',v=.tuple #[.agg (lgV L.b L.t A' (n+1) c').toArray,.bool true]∧dp w' base A' (n+1) c' (L.es++[rcE r]))∧Chg (fun k=>E.map (·.block)=some k) w w'):=by
 have hf:=hL.f;have hfb:=hf.b;have hfn:=hf.n;have hfl:=hf.l;have hfl2:=hf.l2;have hn:=ho.len;refine enter (n:=55) Tryz.func26 rfl rfl rfl (af (ab (bu (v:=.agg _) rfl ?_)));intro b2 w1 E2 hb2 hk2;have hg2:w.heap.size≤b2:=by rw [hb2];exact (ag.rfl_).size
 refine bu (v:=.agg _) rfl ?_;intro b3 w2 E3 hb3 hk3;have hg3:w.heap.size≤b3:=by rw [hb3];exact ((ag.rfl_.next E2)).size
 have h23:b2≠b3:=by have:=hk2.lt;omega
 replace hk2:=hk2.from_ E3;refine aZ bA ?_;intro b4 w3 E4 hb4 hk4;have hg4:w.heap.size≤b4:=by rw [hb4];exact (((ag.rfl_.next E2).next E3)).size
 have h24:b2≠b4:=by have:=hk2.lt;omega
 have h34:b3≠b4:=by have:=hk3.lt;omega
 replace hk2:=hk2.from_ E4;replace hk3:=hk3.from_ E4;refine asb rfl (ah (ae (af (af (ab (aa (ai fX rfl) (aa (ao aD rfl (by exact (hk3.from_ ag.rfl_).rd 0 rfl)) ?_)))))));refine ah (ae (aP (af (ab (aa (cU (a7 rfl rfl) (by rw [hk];rfl)) ?_)))));refine asb rfl (ah (ae (aY rfl (af (ab (aa (ai fW rfl) (aa (ao aD rfl (by exact (hk3.from_ ag.rfl_).rd 1 rfl)) ?_)))))));refine aa (ai iE rfl) (aa (ao aD rfl (by exact (hk3.from_ ag.rfl_).rd 2 rfl)) ?_);refine aa (ai fV rfl) (aa (ao bY rfl (by exact (hk3.from_ ag.rfl_).rd 3 rfl)) ?_);refine aa (bN (l:=[(0,.tmp 12),(1,.tmp 14),(2,.tmp 16)]) (lF _ _ _)) ?_;refine gi (l:=[(0,.tmp 17)]) (cells:=#[.int .i64 ((r.i:Nat):Int),.int .i64 ((r.t:Nat):Int),.string r.d]) eG rfl rfl (by show Instr.fill _ _ [(0,Value.agg #[.int .i64 ((r.i:Nat):Int),.int .i64 ((r.t:Nat):Int),.string r.d])]=_;kernel_rfl) ?_;intro b18 w4 E18 hb18 hk18;have hM18:=(ag.rfl_).next E18;replace hk2:=hk2.from_ hM18;replace hk3:=hk3.from_ hM18;replace hk4:=hk4.from_ hM18;have hl18:bm w4 (.slice (some ⟨b18,0,none⟩) 1 1) [rcE r]:=nZ (e:=rcE r) hk18;refine ass rfl (ah (ae (af (af (ab (aa (aG (cs:=lgV L.b L.t E n c) az aq rfl ((hk2.from_ ag.rfl_).whole)) (mvs rfl ?_)))))));refine av gd (jh L.b L.t E c n L.es (some ⟨b18,0,none⟩) 1 1 [rcE r] _ (ho.ents.from_ ((((ag.rfl_.next E2).next E3).next E4).next E18)) hn (hl18.from_ ag.rfl_) rfl (by omega) (by simp) (by show 0≤(lL L).1∧(lL L).1≤_;omega) hfl2.1 (by rw [qh hok (by show 0≤(lL L).1;omega) hfl2.1];rfl)) ?_;rintro v21 w5 ⟨rfl,E21⟩;refine aa (bh (bG rfl) rfl) (mvb rfl (ak rfl (aa (ai a8 rfl) (ak rfl (aa (ao bC rfl (by exact (hk2.from_ (ag.rfl_.next E21)).rd 2 rfl)) ?_)))));refine ak rfl (aa (bb cj rfl) (ak rfl (aa (bh (a7 rfl rfl) (by rw [beq_eq_false_iff_ne];omega)) ?_)));refine aa (aQ (v:=.bool _) rfl rfl) (ah (ae (aI rfl (aE (ae (af (ab (aa (ai a8 rfl) (aa (ao bC rfl (by exact (hk2.from_ (ag.rfl_.next E21)).rd 2 rfl)) ?_)))))))));refine mvs rfl (sI (base:=base) (news:=[.int .i64 ((r.i:Nat):Int),.int .i64 ((r.t:Nat):Int),.string r.d]) eG rfl (by decide) rfl (ho.from_ (((((ag.rfl_.next E2).next E3).next E4).next E18).next E21)) (Nat.le_trans hbase ((((((ag.rfl_.next E2).next E3).next E4).next E18).next E21)).size) rfl rfl ⟨b18,0,rfl,(hk18.from_ (ag.rfl_.next E21)).whole⟩ (by simp [Value.oneCell']) (by omega) (by omega) ?_);intro A33 c33 w6 ho33 hg33;have hne33:∀ q,E.map (·.block)=some q→q<w.heap.size:=fun q hq=>(ho.at_ q hq).2
 have hG33:=Chg.of_grown (U:=fun k=>E.map (·.block)=some k) hg33 fun k hk=>hk
 have hC33:=Chg.next (ag.toChg (U:=fun k=>E.map (·.block)=some k) (((((ag.rfl_.next E2).next E3).next E4).next E18).next E21)) hG33;have hk2c:=(hk2.from_ (ag.rfl_.next E21)).chg hG33 (fun e=>by have:=hne33 _ e;omega);have hk4c:=(hk4.from_ (ag.rfl_.next E21)).chg hG33 (fun e=>by have:=hne33 _ e;omega);refine aa (ai a8 rfl) (cT (v:=.slice _ _ _) gM rfl rfl rfl (hk2c) (by show 0+2<3;decide) ?_);intro w7 O6 P6;have hC6:=hC33.trans (O6.toChg (U:=fun k=>k=b2) rfl) (fun i hi=>.inr (by rw [show i=b2 from hi];exact hg2));have ho6:=ho33.only O6 hk2c (by decide);have hk4d:=hk4c.only O6 (Ne.symm h24);refine ah (ae (af (ab (aa (aG (cs:=lgV L.b L.t A33 (n+1) c33) az aq rfl P6.whole) (aV (vs:=[_,_,_]) aq rfl rfl (by simp [Value.oneCell']) (hk4d) rfl ?_)))));intro w8 O7 P7;have hC7:=hC6.trans (O7.toChg (U:=fun k=>k=b4) rfl) (fun i hi=>.inr (by rw [show i=b4 from hi];exact hg4));have ho7:=ho6.only O7 hk4d (by decide);refine asb rfl (ah (ae (aC (aW (aF (dN rfl (bx (cs:=[_,_,_]) az aq rfl (by exact P7.whole)) (cD (v:=.bool _) rfl) ?_))))));refine ⟨⟨A33,c33,rfl,?_⟩,hC7⟩;show cJ _ base _ 3 _ _ _ (bJ (L.es++[rcE r]));rw [dz];exact ho7
theorem vY (L:Lg) (r:Rc) (base:Nat) (E:Option Addr) (c n:Nat) (w:World) (hL:dh L) (ho:dp w base E n c L.es) (_:base≤w.heap.size) (hk:r.k=2) (k:Nat) (hkl:k≤L.es.length) (hi:((r.i:Nat):Int)=L.b+(k:Int)) :
 Rt prog 26 [.agg (lgV L.b L.t E n c).toArray,.agg (rcV r).toArray] w (fun v w'=>v=.tuple #[.agg (lgV L.b L.t E k k).toArray,.bool true]∧ag w w'):=by
 have hf:=hL.f;have hfb:=hf.b;have hfn:=hf.n;have hfl:=hf.l;have hfl2:=hf.l2;have hn:=ho.len;refine enter (n:=55) Tryz.func26 rfl rfl rfl (af (ab (bu (v:=.agg _) rfl ?_)));intro b2 w1 E2 hb2 hk2;have hg2:w.heap.size≤b2:=by rw [hb2];exact (ag.rfl_).size
 refine bu (v:=.agg _) rfl ?_;intro b3 w2 E3 hb3 hk3;have hg3:w.heap.size≤b3:=by rw [hb3];exact ((ag.rfl_.next E2)).size
 have h23:b2≠b3:=by have:=hk2.lt;omega
 replace hk2:=hk2.from_ E3;refine aZ bA ?_;intro b4 w3 E4 hb4 hk4;have hg4:w.heap.size≤b4:=by rw [hb4];exact (((ag.rfl_.next E2).next E3)).size
 have h24:b2≠b4:=by have:=hk2.lt;omega
 have h34:b3≠b4:=by have:=hk3.lt;omega
 replace hk2:=hk2.from_ E4;replace hk3:=hk3.from_ E4;refine asb rfl (ah (ae (af (af (ab (aa (ai fX rfl) (aa (ao aD rfl (by exact (hk3.from_ ag.rfl_).rd 0 rfl)) ?_)))))));refine ah (ae (aP (af (ab (aa (bh (a7 rfl rfl) (by rw [hk];rfl)) ?_)))));refine asb rfl (ah (ae (aI rfl (af (ab (aa (cU (a7 rfl rfl) (by rw [hk];rfl)) ?_))))));refine asb rfl (ah (ae (aY rfl (af (ab (aa (aG (cs:=lgV L.b L.t E n c) az aq rfl ((hk2.from_ ag.rfl_).whole)) (aa (ai fW rfl) (aa (ao aD rfl (by exact (hk3.from_ ag.rfl_).rd 1 rfl)) ?_))))))));refine av ix (ng L.b L.t E c n L.es _ k _ (ho.ents.from_ (((ag.rfl_.next E2).next E3).next E4)) hn (by omega) (by omega) hfl hkl hi) ?_;rintro v41 w4 ⟨rfl,E41⟩;refine aa (ar rfl rfl) (aa (ar rfl rfl) (aV (vs:=[_,_,_]) aq rfl rfl (by simp [Value.oneCell']) ((hk4.from_ (ag.rfl_.next E41))) rfl ?_));intro w5 O9 P9;refine asb rfl (ah (ae (aC (aW (aF (dN rfl (bx (cs:=[_,_,_]) az aq rfl (by exact P9.whole)) (cD (v:=.bool _) rfl) ?_))))));exact ⟨rfl,(((((ag.rfl_.next E2).next E3).next E4).next E41).only O9 (hg4))⟩
theorem pK (L:Lg) (r:Rc) (base:Nat) (E:Option Addr) (c n:Nat) (w:World) (hL:dh L) (ho:dp w base E n c L.es) (_:base≤w.heap.size) (hk:r.k=3) (M:Lg) (hap:Ap L r M) :
 Rt prog 26 [.agg (lgV L.b L.t E n c).toArray,.agg (rcV r).toArray] w (fun v w'=>(∃ E' n' c',v=.tuple #[.agg (lgV M.b M.t E' n' c').toArray,.bool true]∧dp w' base E' n' c' M.es)∧ag w w'):=by
 have hf:=hL.f;have hfb:=hf.b;have hfn:=hf.n;have hfl:=hf.l;have hfl2:=hf.l2;have hn:=ho.len;refine enter (n:=55) Tryz.func26 rfl rfl rfl (af (ab (bu (v:=.agg _) rfl ?_)));intro b2 w1 E2 hb2 hk2;have hg2:w.heap.size≤b2:=by rw [hb2];exact (ag.rfl_).size
 refine bu (v:=.agg _) rfl ?_;intro b3 w2 E3 hb3 hk3;have hg3:w.heap.size≤b3:=by rw [hb3];exact ((ag.rfl_.next E2)).size
 have h23:b2≠b3:=by have:=hk2.lt;omega
 replace hk2:=hk2.from_ E3;refine aZ bA ?_;intro b4 w3 E4 hb4 hk4;have hg4:w.heap.size≤b4:=by rw [hb4];exact (((ag.rfl_.next E2).next E3)).size
 have h24:b2≠b4:=by have:=hk2.lt;omega
 have h34:b3≠b4:=by have:=hk3.lt;omega
 replace hk2:=hk2.from_ E4;replace hk3:=hk3.from_ E4;refine asb rfl (ah (ae (af (af (ab (aa (ai fX rfl) (aa (ao aD rfl (by exact (hk3.from_ ag.rfl_).rd 0 rfl)) ?_)))))));refine ah (ae (aP (af (ab (aa (bh (a7 rfl rfl) (by rw [hk];rfl)) ?_)))));refine asb rfl (ah (ae (aI rfl (af (ab (aa (bh (a7 rfl rfl) (by rw [hk];rfl)) ?_))))));refine asb rfl (ah (ae (aI rfl (af (ab (aa (cU (a7 rfl rfl) (by rw [hk];rfl)) ?_))))));refine asb rfl (ah (ae (aY rfl (af (ab (aa (aG (cs:=lgV L.b L.t E n c) az aq rfl ((hk2.from_ ag.rfl_).whole)) (aa (ai fW rfl) (aa (ao aD rfl (by exact (hk3.from_ ag.rfl_).rd 1 rfl)) ?_))))))));refine aa (ai iE rfl) (aa (ao aD rfl (by exact (hk3.from_ ag.rfl_).rd 2 rfl)) ?_);have hM51:ag _ w3:=ag.rfl_;refine av jX (o6 L M r base E c n _ hL hap hk (ho.from_ (((ag.rfl_.next E2).next E3).next E4))) ?_;rintro v51 w4 ⟨⟨E5,n5,c5,rfl,ho5⟩,E51⟩;replace hk4:=hk4.from_ (hM51.next E51);refine aa (ar rfl rfl) (aa (ar rfl rfl) (aV (vs:=[_,_,_]) aq rfl rfl (by simp [Value.oneCell']) ((hk4.from_ ag.rfl_)) rfl ?_));intro w5 O11 P11;have ho11:=ho5.only O11 hk4 (by decide);refine asb rfl (ah (ae (aC (aW (aF (dN rfl (bx (cs:=[_,_,_]) az aq rfl (by exact P11.whole)) (cD (v:=.bool _) rfl) ?_))))));exact ⟨⟨E5,n5,c5,rfl,ho11⟩,(((((ag.rfl_.next E2).next E3).next E4).next E51).only O11 (hg4))⟩
theorem yA (L M:Lg) (r:Rc) (base:Nat) (E:Option Addr) (c n:Nat) (w:World) (hL:dh L) (hap:Ap L r M) (ho:dp w base E n c L.es) (hbase:base≤w.heap.size) :
 Rt prog 26 [.agg (lgV L.b L.t E n c).toArray,.agg (rcV r).toArray] w fun v w'=>(∃ E' n' c',v=.tuple #[.agg (lgV M.b M.t E' n' c').toArray,.bool true]∧dp w' base E' n' c' M.es)∧Chg (fun k=>E.map (·.block)=some k) w w':=by
 have hap':=hap;cases hap with
 |ent hk h hl=>
  exact (vX L r base E c n w hL ho hbase hk h hl).mono fun v w' ⟨⟨A',c',h1,h2⟩,h3⟩=>⟨⟨A',n+1,c',h1,h2⟩,h3⟩
 |cut k h2 hk hi=>
  refine (vY L r base E c n w hL ho hbase h2 k hk hi).mono fun v w' ⟨h1,hF⟩=>⟨⟨E,k,k,h1,?_⟩,hF.toChg⟩
  show cJ w' base _ 3 _ _ _ (bJ (L.es.take k));rw [kG _ _ hk];exact (ho.from_ hF).cut (by have:=ho.len;omega)
 |over h3 ok h=>exact (pK L r base E c n w hL ho hbase h3 _ hap').mono fun v w' ⟨h1,hF⟩=>⟨h1,hF.toChg⟩
 |drop k h3 ok hk hi ht=>exact (pK L r base E c n w hL ho hbase h3 _ hap').mono fun v w' ⟨h1,hF⟩=>⟨h1,hF.toChg⟩
end Go.Proofs.YtaohnmneccbljaaGreatDoor
namespace Go.Proofs.YtaohnmneccbljaaGreatDoor
open Go.Proofs.Tryz (prog)
open Go.RowKit
open Go.ChangeShapes Go.WideShapes Go.ChangeAt
open Go.Lib
theorem iC:ch prog 120 0=some 0:=by kernel_rfl
theorem oC:aH prog 84=true:=by kernel_rfl
theorem fT:ch prog 120 1=some 1:=by kernel_rfl
theorem jr:ch prog 59 1=some 1:=by kernel_rfl
theorem mS:∀ (a0:Int) (a1:Int),prog.built 120 [(0,.int .i64 a0),(1,.int .i64 a1)]=some #[.int .i64 a0,.int .i64 a1]:=by intros;kernel_rfl
theorem oD:aH prog 67=true:=by kernel_rfl
def dig (n:Nat):ByteArray:=⟨(Lib.decDigits n).toArray⟩
theorem uy (i:Nat) (w:World) (hi:i<100):Rt prog 84 [.int .i64 (i:Nat)] w fun v w'=>v=.string (dig i)∧w=w':=
 Calls.mono (Tryz.strconv_Itoa_small i hi w) fun _ _ ⟨he,hw⟩=>⟨_,he,rfl,hw.symm⟩
theorem qb {P:Program} {ρ:Operand→Value} {w:World} {t yt:TypeId} {x y:Operand} {a b:ByteArray} (hx:ρ x=.string a) (hy:ρ y=.string b) (h:a.size+b.size≤9223372036854775807):RO P ρ (.binOp .add t x y yt) w (.string (a++b)) w:=
 iX hx hy (by unfold eqGuard;rfl) (by rw [binOp_string_add];exact run_string_add_sum w a b h)
def aX (g p:Nat):ByteArray:=(⟨#[119,97,108,45]⟩++dig g)++⟨#[45]⟩++dig p
theorem yh {n:Nat} (h:n<100):(dig n).size≤2:=by
 unfold dig;by_cases h1:n<10
 ·rw [Lib.decDigits_one h1];show 1≤2;decide
 ·rw [Lib.decDigits_two h1 h];show 2≤2;decide
theorem uv (g p:Nat) (w:World) (hg:g<100) (hp:p<100) :
 Rt prog 67 [.agg #[.int .i64 (g:Nat),.int .i64 (p:Nat)]] w (fun v w'=>v=.string (aX g p)∧ag w w'):=by
 have hdg:=yh hg;have hdp:=yh hp;refine enter (n:=12) Tryz.func67 rfl rfl rfl (af (ab (bu (v:=.agg _) rfl ?_)));intro b1 w1 E1 hb1 hk1;refine asg rfl (ah (ae (af ?_)));apply bO 10 [(3,eqp _),(4,eqp _),(5,eqp _),(6,eqp _),(7,eqp _),(8,eqp _),(9,eqp _),(10,eqp _),(11,eqp _),(2,eqp _)] (by repeat first | exact cr | refine cq ?_ | refine bU ?_) (by kernel_rfl) (by kernel_rfl) ⟨aj _,aj _,aj _,aj _,aj _,aj _,aj _,aj _,aj _,aj _,trivial⟩
 case hop=>
  constructor
  ·rintro-w3 D3;exact an (ai iC rfl) rfl
  constructor
  ·rintro-w4 D4;rintro _ rfl;exact an (ao aD rfl ((hk1.from_ (ag.rfl_.next D4)).rd 0 rfl)) rfl
  constructor
  ·rintro-w5 D5;rintro _ rfl;refine cX oC ((uy g _ hg).mono ?_);rintro v _ ⟨rfl,rfl⟩;exact ⟨ag.rfl_,rfl⟩
  constructor
  ·rintro-w6 D6;rintro _ rfl;exact an (qb rfl rfl (by show 4+_≤_;omega)) rfl
  constructor
  ·rintro-w7 D7;rintro _ rfl;exact an (qb rfl rfl (by rw [ByteArray.size_append];show 4+_+1≤_;omega)) rfl
  constructor
  ·rintro-w8 D8;exact an (ai fT rfl) rfl
  constructor
  ·rintro-w9 D9;rintro _ rfl;exact an (ao aD rfl ((hk1.from_ (ag.rfl_.next D9)).rd 1 rfl)) rfl
  constructor
  ·rintro-w10 D10;rintro _ rfl;refine cX oC ((uy p _ hp).mono ?_);rintro v _ ⟨rfl,rfl⟩;exact ⟨ag.rfl_,rfl⟩
  constructor
  ·rintro-w11 D11;rintro _ rfl _ rfl;exact an (qb rfl rfl (by rw [ByteArray.size_append,ByteArray.size_append];show 4+_+1+_≤_;omega)) rfl
  constructor
  ·rintro-w12 D12;rintro _ rfl;exact an (bn (v:=.string _) rfl) rfl
  exact trivial
 case hend=>
  intro w13 D13;rintro _ rfl _ rfl _ rfl _ rfl _ rfl _ rfl _ rfl _ rfl _ rfl _ rfl;show St ..;refine ah (ae (aC (bz (v:=.string _) rfl rfl (⟨rfl,((ag.rfl_.next E1).next D13)⟩))))
theorem er (T:TypeId) (b g p:Nat) (c0:Value) (cs:List Value) (w:World) (hb:Blk w b T (c0::.int .i64 (g:Nat)::cs).toArray) (hg:g<100) (hp:p<100) :
 Rt prog 48 [.pointer (some ⟨b,0,none⟩),.int .i64 (p:Nat)] w (fun v w'=>v=.string (aX g p)∧ag w w'):=by
 refine enter (n:=12) Tryz.func48 rfl rfl rfl (af (ab (asg rfl (ah (ae (af (ab (mvp rfl (aa (au rfl) (aa (ai jr rfl) (aa (ao aD rfl (by exact hb.rd 1 rfl)) ?_)))))))))));refine mvi rfl (aa (bN (l:=[(0,.tmp 8),(1,.tmp 9)]) (mS _ _)) (av oD (uv g p _ hg hp) ?_));rintro v11 w1 ⟨rfl,E11⟩;refine asg rfl (ah (ae (aC (bz (v:=.string _) rfl rfl (⟨rfl,(ag.rfl_.next E11)⟩)))))
end Go.Proofs.YtaohnmneccbljaaGreatDoor
namespace Go.Proofs.YtaohnmneccbljaaGreatDoor
open Go.Proofs.Tryz (prog)
open Go.RowKit
open Go.ChangeShapes Go.WideShapes Go.ChangeAt
theorem sa:ij prog 59=some (.agg #[.pointer none,.int .i64 0,.int .i64 0,.int .i64 0,.int .i64 0,.int .u32 0]):=by kernel_rfl
theorem iB:∀ (a0:Option Addr) (a1:Int) (a2:Int),prog.built 59 [(0,.pointer a0),(1,.int .i64 a1),(2,.int .i64 (-1)),(5,.int .u32 a2)]=some #[.pointer a0,.int .i64 a1,.int .i64 (-1),.int .i64 0,.int .i64 0,.int .u32 a2]:=by intros;kernel_rfl
theorem gY:cS prog 59=some 6:=by kernel_rfl
theorem sb:fK prog 59=some true:=by kernel_rfl
theorem dQ:ch prog 62 2=some 9:=by kernel_rfl
def wfV (d:Option Addr) (g:Nat) (la sz to:Int) (su:Nat):List Value:=[.pointer d,.int .i64 (g:Nat),.int .i64 la,.int .i64 sz,.int .i64 to,.int .u32 (su:Nat)]
def wlV (d:Option Addr) (g:Nat) (la sz to:Int) (su:Nat) (b t:Int) (E:Option Addr) (n c:Nat) (ok:Bool):List Value:=wfV d g la sz to su++[.int .i64 b,.int .i64 t,.slice E n c,.bool ok]
theorem ir (d:Option Addr) (g:Nat) (w:World) (hg:g<100) :
 Rt prog 23 [.pointer d,.int .i64 (g:Nat)] w (fun v w'=>v=.agg (wfV d g (-1) 0 0 g).toArray∧ag w w'):=by
 refine enter (n:=10) Tryz.func23 rfl rfl rfl (af (ab (aZ sa ?_)));intro b4 w1 E4 hb4 hk4;have hg4:w.heap.size≤b4:=by rw [hb4];exact Nat.le_refl _
 refine ah (ae (af (ab (mvp rfl (mvi rfl (mvi rfl (aa (k6 (k':=.u32) (r:=((g:Nat):Int)) (by kernel_rfl) (by kernel_rfl) rfl (by rw [IntKind.wrap_u32];omega)) ?_)))))));refine aa (bN (l:=[(0,.tmp 5),(1,.tmp 6),(2,.const (.int .i64 (-1))),(5,.tmp 8)]) (iB _ _ _)) (aV (vs:=[_,_,_,_,_,_]) gY rfl rfl (by simp [Value.oneCell']) (hk4) rfl ?_);intro w2 O1 P1;refine ah (ae (aC (rh rfl (bx (cs:=[_,_,_,_,_,_]) sb gY rfl (by exact P1.whole)) ?_)));exact ⟨rfl,((ag.rfl_.next E4).only O1 (hg4))⟩
theorem p4 (p:Nat) (d:Option Addr) (g:Nat) (la sz to:Int) (su:Nat) (b t:Int) (E:Option Addr) (n c:Nat) (ok:Bool) (e:Int) (w:World) (hp:Blk w p 62 (wlV d g la sz to su b t E n c ok).toArray) :
 Rt prog 41 [.pointer (some ⟨p,0,none⟩),.int .i64 e] w (fun v w'=>v=.int .i64 e∧Blk w' p 62 (wlV d g la sz to su b t E n c (e==0)).toArray∧cY p w w'):=by
 refine enter (n:=11) Tryz.func41 rfl rfl rfl (af (ab (asi rfl (ah (ae (af (ab (mvp rfl (mvi rfl (aa (a7 rfl rfl) (aa (au rfl) (aa (ai dQ rfl) ?_))))))))))));refine cT (v:=.bool _) lH rfl rfl rfl (hp) (by show 9<10;decide) ?_;intro w1 O1 P1;refine ah (ae (af (ab (mvi rfl (asi rfl (ah (ae (aC (bz (v:=.int _ _) rfl rfl (⟨rfl,P1,O1⟩))))))))))
end Go.Proofs.YtaohnmneccbljaaGreatDoor
namespace Go.Proofs.YtaohnmneccbljaaGreatDoor
open Go.Proofs.Tryz (prog)
open Go.RowKit
open Go.ChangeShapes Go.WideShapes Go.ChangeAt
open Go.RowKit
theorem wj:aH prog 26=true:=by kernel_rfl
theorem iR:fK prog 29=some false:=by kernel_rfl
theorem bS:ch prog 62 1=some 6:=by kernel_rfl
theorem gn {w:World} {a b T U:Nat} {cs ds:Array Value} (h:Blk w a T cs) (k:Blk w b U ds) (hT:T≠U):a≠b:=fun e=>by
 subst e;have:=h.symm.trans k;simp only [Option.some.injEq,Obj.cells.injEq] at this;exact hT this.2.1
theorem ee (L M:Lg) (r:Rc) (base rb wb p:Nat) (E:Option Addr) (c n:Nat) (d:Option Addr) (g:Nat) (la sz to:Int) (su:Nat) (b1 t1:Int) (E1:Option Addr) (n1 c1:Nat) (ok:Bool) (w:World) (hL:dh L) (hap:Ap L r M) (ho:dp w base E n c L.es) (hbase:base≤w.heap.size) (hR:Blk w rb 36 (lgV L.b L.t E n c).toArray) (hW:Blk w wb 29 #[.pointer (some ⟨p,0,none⟩)]) (hP:Blk w p 62 (wlV d g la sz to su b1 t1 E1 n1 c1 ok).toArray) :
 Rt prog 25 [.agg (rcV r).toArray,.pointer (some ⟨rb,0,none⟩),.pointer (some ⟨wb,0,none⟩)] w (fun v w'=>v=.bool true∧∃ E' n' c',dp w' base E' n' c' M.es∧Blk w' rb 36 (lgV M.b M.t E' n' c').toArray∧Blk w' wb 29 #[.pointer (some ⟨p,0,none⟩)]∧(r.fin=true→Blk w' p 62 (wlV d g la sz to su M.b M.t E' n' c' ok).toArray)∧(r.fin=false→Blk w' p 62 (wlV d g la sz to su b1 t1 E1 n1 c1 ok).toArray)∧Chg (fun k=>k=rb∨k=p∨E.map (·.block)=some k) w w'):=by
 have hRW:=gn hR hW (by decide);have hRP:=gn hR hP (by decide);have hWP:=gn hW hP (by decide);have hEr:=ho.off hR (by decide);have hEw:=ho.off hW (by decide);have hEp:=ho.off hP (by decide);have hEl:=ho.at_;refine enter (n:=22) Tryz.func25 rfl rfl rfl (af (ab (bu (v:=.agg _) rfl ?_)));intro b3 w1 E3 hb3 hk3;have hg3:w.heap.size≤b3:=by rw [hb3];exact (ag.rfl_).size
 refine asb rfl (ah (ae (af (ab (aa (aG (cs:=lgV L.b L.t E n c) az aq rfl ((hR.from_ (ag.rfl_.next E3)).whole)) (aa (aG (cs:=rcV r) dZ cA rfl ((hk3.from_ ag.rfl_).whole)) ?_))))));have hM10:ag _ w1:=ag.rfl_;have hB10:ag w w1:=(ag.rfl_.next E3);refine av wj (yA L M r base E c n _ hL hap (ho.from_ (ag.rfl_.next E3)) (Nat.le_trans hbase ((ag.rfl_.next E3)).size)) ?_;rintro v10 w2 ⟨⟨Ea,na,ca,rfl,ho5⟩,hC10⟩;have hR1:=(hR.from_ hB10).chg hC10 (fun e=>hEr _ e rfl);have hW1:=(hW.from_ hB10).chg hC10 (fun e=>hEw _ e rfl);have hP1:=(hP.from_ hB10).chg hC10 (fun e=>hEp _ e rfl);have hK1:=(hk3.from_ hM10).chg hC10 (fun e=>by have:=(hEl _ e).2;omega);have hC1:Chg (fun k=>k=rb∨k=p∨E.map (·.block)=some k) w w2:=(ag.toChg hB10).trans hC10 (fun i hi=>.inl (.inr (.inr hi)));refine mvt rfl (aa (ar rfl rfl) (aa (ar rfl rfl) (aZ bA ?_)));intro b5 w3 E5 hb5 hk5;refine aV (vs:=[_,_,_]) aq rfl rfl (by simp [Value.oneCell']) (hk5) rfl ?_;intro w4 O1 P1;have P1b:Blk w4 b5 36 (lgV M.b M.t Ea na ca).toArray:=P1;refine asb rfl (ah (ae (af (af (ab (mvb rfl (aa (bh (bG rfl) rfl) (ah (ae (aI rfl (aE (ae (af (ab (aa (aG (cs:=lgV M.b M.t Ea na ca) az aq rfl ((P1b.from_ ag.rfl_).whole)) ?_)))))))))))))));have hB4:ag _ w4:=(((ag.rfl_ (a:=w2)).next E5).only O1 (Nat.le_of_eq hb5.symm));refine aV (vs:=[_,_,_]) aq rfl rfl (by simp [Value.oneCell']) ((hR1.from_ (((ag.rfl_ (a:=w2)).next E5).only O1 (Nat.le_of_eq hb5.symm)))) rfl ?_;intro w5 O4 P4;have P4b:Blk w5 rb 36 (lgV M.b M.t Ea na ca).toArray:=P4;have hC4:=(hC1.next hB4.toChg).next (O4.toChg (.inl rfl));have ho4:=(ho5.from_ hB4).only O4 (hR1.from_ hB4) (by decide);have hW4:=(hW1.from_ hB4).only O4 (Ne.symm hRW);have hP4:=(hP1.from_ hB4).only O4 (Ne.symm hRP);have hK4:=(hK1.from_ hB4).only O4 (by have:=hR.lt;omega);refine ah (ae (af (af (ab (aa (ai fU rfl) (aa (ao di rfl (by exact (hK4.from_ ag.rfl_).rd 4 rfl)) ?_))))));refine ah (ae (aM rfl (fun Q6=>?_) (fun Q6=>?_)))
 ·(try with_reducible first | (replace Q6 := dT_ Q6; trace "@MK N ee:c17+ 1.1") | (replace Q6 := dF_ Q6; trace "@MK N ee:c17+ 1.2") | (replace Q6 := gA Q6; trace "@MK N ee:c17+ 1.3") | (replace Q6 := gB Q6; trace "@MK N ee:c17+ 1.4"))
  (try with_reducible first | (replace Q6 := dT_ Q6; trace "@MK N ee:c17+ 2.1") | (replace Q6 := dF_ Q6; trace "@MK N ee:c17+ 2.2") | (replace Q6 := fI Q6; trace "@MK N ee:c17+ 2.3") | (replace Q6 := fJ Q6; trace "@MK N ee:c17+ 2.4") | (replace Q6 := iz Q6; trace "@MK N ee:c17+ 2.5") | (replace Q6 := iA Q6; trace "@MK N ee:c17+ 2.6"))
  refine ab (aa (ao iR rfl (by exact (hW4.from_ ag.rfl_).rd 0 rfl)) ?_);refine aa (aG (cs:=lgV M.b M.t Ea na ca) az aq rfl ((P4b.from_ ag.rfl_).whole)) (aa (au rfl) (aa (ai bS rfl) (ik (vs:=lgV M.b M.t Ea na ca) (i:=0+6) (cs:=wlV d g la sz to su b1 t1 E1 n1 c1 ok) aq rfl rfl (by simp [lgV,Value.oneCell']) (hP4.from_ ag.rfl_) (by show 0+6+3≤10;decide) ?_)));intro w7 O6 P6;have P6b:Blk w7 p 62 (wlV d g la sz to su M.b M.t Ea na ca ok).toArray:=P6;have hC6:=(hC4.next (ag.rfl_).toChg).next (O6.toChg (.inr (.inl rfl)));have ho6:=(ho4.from_ ag.rfl_).only O6 (hP4.from_ ag.rfl_) (by decide);have hR6:=(P4b.from_ ag.rfl_).only O6 hRP;have hW6:=(hW4.from_ ag.rfl_).only O6 hWP;refine ah (ae (af (ab (asb rfl (ah (ae (aC (bz (v:=.bool _) rfl rfl ?_))))))))
  first
   |exact ⟨rfl,Ea,na,ca,ho6.from_ ag.rfl_,hR6.from_ ag.rfl_,hW6.from_ ag.rfl_,fun _=>P6b.from_ ag.rfl_,fun h0=>by simp_all,hC6.next (ag.rfl_).toChg⟩
   |exact ⟨rfl,Ea,na,ca,ho4.from_ ag.rfl_,P4b.from_ ag.rfl_,hW4.from_ ag.rfl_,fun h0=>(by simp_all),fun _=>hP4.from_ ag.rfl_,hC4.next (ag.rfl_).toChg⟩
 (try with_reducible first | (replace Q6 := dT_ Q6; trace "@MK N ee:c17- 1.1") | (replace Q6 := dF_ Q6; trace "@MK N ee:c17- 1.2") | (replace Q6 := gA Q6; trace "@MK N ee:c17- 1.3") | (replace Q6 := gB Q6; trace "@MK N ee:c17- 1.4"))
 (try with_reducible first | (replace Q6 := dT_ Q6; trace "@MK N ee:c17- 2.1") | (replace Q6 := dF_ Q6; trace "@MK N ee:c17- 2.2") | (replace Q6 := fI Q6; trace "@MK N ee:c17- 2.3") | (replace Q6 := fJ Q6; trace "@MK N ee:c17- 2.4") | (replace Q6 := iz Q6; trace "@MK N ee:c17- 2.5") | (replace Q6 := iA Q6; trace "@MK N ee:c17- 2.6"))
 refine aE (ae (af (ab (asb rfl (ah (ae (aC (bz (v:=.bool _) rfl rfl ?_))))))))
 first
  |exact ⟨rfl,Ea,na,ca,ho6.from_ ag.rfl_,hR6.from_ ag.rfl_,hW6.from_ ag.rfl_,fun _=>P6b.from_ ag.rfl_,fun h0=>by simp_all,hC6.next (ag.rfl_).toChg⟩
  |exact ⟨rfl,Ea,na,ca,ho4.from_ ag.rfl_,P4b.from_ ag.rfl_,hW4.from_ ag.rfl_,fun h0=>(by simp_all),fun _=>hP4.from_ ag.rfl_,hC4.next (ag.rfl_).toChg⟩
end Go.Proofs.YtaohnmneccbljaaGreatDoor
namespace Go.Proofs.YtaohnmneccbljaaGreatDoor
open Go.Proofs.Tryz (prog)
open Go.RowKit
open Go.ChangeShapes Go.WideShapes Go.ChangeAt
theorem oX:prog.built 65 []=some #[.int .i64 0,.int .i64 0,.int .i64 0,.string ⟨#[]⟩,.bool false]:=by kernel_rfl
def rcZ:Rc:=⟨0,0,0,⟨#[]⟩,false⟩
theorem xZ (A:Option Addr) (c n:Nat) (l:List Nat) (w:World) (hr:RB w A c l) (hn:n=l.length) (hl:l.length≤2000000) (hu:unS l=none):Rt prog 88 [.slice A n c] w fun v w'=>v=.tuple #[.slice none 0 0,.int .i64 0,.bool false]∧ag w w':=
 (jK A c n l w hr hn hl).mono fun v w' h=>by
  obtain ⟨h,hF⟩:=h;refine ⟨?_,hF⟩;rcases h with ⟨p,A',c',h1,_⟩ | ⟨_,h2⟩
  ·rw [hu] at h1;cases h1
  ·exact h2
theorem yP:unS []=none:=by unfold unS;rfl
theorem vl (A:Option Addr) (c n:Nat) (l:List Nat) (s:Int) (w:World) (hr:RB w A c l) (hn:n=l.length) (hl:l.length≤2000000) (hu:unS l=none) :
 Rt prog 69 [.slice A n c,.int .u32 s] w (fun v w'=>v=.tuple #[.agg (rcV rcZ).toArray,.int .i64 0,.int .u32 0,.bool false]∧ag w w'):=by
 refine enter (n:=70) Tryz.func69 rfl rfl rfl (af (ab (aZ fe ?_)));intro b4 w1 E4 hb4 hk4;have hg4:w.heap.size≤b4:=by rw [hb4];exact (ag.rfl_).size
 refine asi rfl (asi rfl (asb rfl (ah (ae (af (ab (mvs rfl (av mG (xZ A c n l _ (hr.from_ (ag.rfl_.next E4)) hn hl hu) ?_))))))));rintro v13 w2 ⟨rfl,E13⟩;refine mvt rfl (aa (ar rfl rfl) (aa (ar rfl rfl) (aa (ar rfl rfl) (ass rfl (asi rfl (asb rfl (ah (ae (af (af (ab (mvb rfl ?_))))))))))));refine aa (bG rfl) (ah (ae (aY rfl (af (ab (aa (bN (l:=[]) (oX)) (aV (vs:=[_,_,_,_,_]) cA rfl rfl (by simp [Value.oneCell']) ((hk4.from_ (ag.rfl_.next E13))) rfl ?_)))))));intro w3 O3 P3;refine asi rfl (asi rfl (asb rfl (ah (ae (aC (aF (Ao rfl (bx (cs:=[_,_,_,_,_]) dZ cA rfl (by exact P3.whole)) (cD (v:=.int _ _) rfl) (cD (v:=.int _ _) rfl) (cD (v:=.bool _) rfl) ?_)))))));exact ⟨rfl,(((ag.rfl_.next E4).next E13).only O3 (hg4))⟩
end Go.Proofs.YtaohnmneccbljaaGreatDoor
namespace Go.Proofs.YtaohnmneccbljaaGreatDoor
open Go.Proofs.Tryz (prog)
open Go.RowKit
open Go.ChangeShapes Go.WideShapes Go.ChangeAt
open Go.RowKit
theorem qE:aH prog 25=true:=by kernel_rfl
theorem el:ch prog 59 5=some 5:=by kernel_rfl
theorem jn:fK prog 57=some false:=by kernel_rfl
theorem qD:aH prog 69=true:=by kernel_rfl
theorem jm:cS prog 57=some 1:=by kernel_rfl
abbrev TB:Nat:=3
theorem cO.lt {w:World} (h:cO w):TB<w.heap.size:=World.block_lt_of_cell? _ _ (h 0 (by decide))
theorem cO.chg {w w':World} {U:Nat→Prop} (h:cO w) (hc:Chg U w w') (hU:¬ U TB):cO w':=fun i hi=>by
 have hb:=hc.block TB h.lt hU;have:=h i hi;unfold World.cell? at this ⊢;rw [hb];exact this
theorem vk (A:Option Addr) (c n:Nat) (ts:List Rc) (s:BitVec 32) (w:World) (hr:RB w A c (ax s ts).1) (hn:n=(ax s ts).1.length) (hl:(ax s ts).1.length≤2000000) (hk:∀ r∈ts,r.Ok) (hT:cO w) :
 Rt prog 69 [.slice A n c,.int .u32 (s.toNat:Nat)] w fun v w'=>((∃ r r',ts=r::r'∧v=.tuple #[.agg (rcV r).toArray,.int .i64 ((cF (b_ s r)).length:Nat),.int .u32 ((eo s r).toNat:Nat),.bool true])∨(ts=[]∧v=.tuple #[.agg (rcV rcZ).toArray,.int .i64 0,.int .u32 0,.bool false]))∧ag w w':=by
 cases ts with
 |nil=>exact (vl A c n [] _ w hr hn (by simp) yP).mono fun v w' ⟨h,hF⟩=>⟨.inr ⟨rfl,h⟩,hF⟩
 |cons r rs=>exact (vm A c n r s (ax (eo s r) rs).1 w hr hn hl (hk r (by simp)) hT).mono fun v w' ⟨h,hF⟩=>⟨.inl ⟨r,rs,rfl,h⟩,hF⟩
def iN (recs:List Rc) (i:Nat):Prop:=i=0∨∃ h:i-1<recs.length,(recs[i-1]).fin=true
theorem vO {α:Type} {l r:List α} {i:Nat} {x:α} (h:l.drop i=x::r):∃ hi:i<l.length,l[i]=x∧l.drop (i+1)=r∧l.take (i+1)=l.take i++[x]:=by
 have hi:i<l.length:=by
  rcases Nat.lt_or_ge i l.length with a | a
  ·exact a
  ·rw [List.drop_of_length_le a] at h;cases h
 rw [List.drop_eq_getElem_cons hi] at h;injection h with h1 h2
 exact ⟨hi,h1,h2,by rw [List.take_succ_eq_append_getElem hi,h1]⟩
abbrev chA (s:BitVec 32) (recs:List Rc) (i:Nat):Nat:=(ax s (recs.take i)).1.length
abbrev chS (s:BitVec 32) (recs:List Rc) (i:Nat):BitVec 32:=(ax s (recs.take i)).2
theorem iv (s:BitVec 32) (recs:List Rc) (i:Nat):(ax s recs).1=(ax s (recs.take i)).1++(ax (chS s recs i) (recs.drop i)).1:=by
 have:=iP (recs.take i) (recs.drop i) s;rw [List.take_append_drop] at this;rw [this]
theorem vb (M:Lg) (recs:List Rc) (s0:BitVec 32) (rb wb p:Nat) (A:Option Addr) (c n:Nat) (d:Option Addr) (g:Nat) (la sz to:Int) (ok:Bool) (w:World) (hR:Blk w rb 36 (lgV 0 0 none 0 0).toArray) (hW:Blk w wb 29 #[.pointer (some ⟨p,0,none⟩)]) (hP:Blk w p 62 (wlV d g la sz to s0.toNat 0 0 none 0 0 ok).toArray) (hr:RB w A c (ax s0 recs).1) (hn:n=(ax s0 recs).1.length) (hl:(ax s0 recs).1.length≤2000000) (hk:∀ r∈recs,r.Ok) (hfin:iN recs recs.length) (hap:cI lg0 recs M) (hT:cO w) (hTr:TB≠rb) (hTp:TB≠p) (hA:∀ q,A.map (·.block)=some q→q<w.heap.size∧q≠rb∧q≠p) :
 Rt prog 50 [.pointer (some ⟨p,0,none⟩),.slice A n c,.func (.func 25) #[] #[.pointer (some ⟨rb,0,none⟩),.pointer (some ⟨wb,0,none⟩)]] w (fun v w'=>v=.int .i64 ((ax s0 recs).1.length:Nat)∧(∃ E' n' c',Blk w' p 62 (wlV d g la sz to (ax s0 recs).2.toNat M.b M.t E' n' c' ok).toArray∧dp w' w.heap.size E' n' c' M.es)∧Chg (fun k=>k=rb∨k=p) w w'):=by
 subst hn;have hcap:=hr.le;refine enter (n:=48) Tryz.func50 rfl rfl rfl (af (ab (asi rfl (ah (ae (af ?_))))));apply lA 7 [(14,eqp _),(15,eqp _),(16,eqp _),(17,eqp _),(7,eqp _),(8,eqp _),(9,eqp _)] (by kernel_rfl) (by kernel_rfl) ⟨aj _,aj _,aj _,aj _,aj _,aj _,aj _,trivial⟩
 case hop=>
  constructor
  ·intro w2 D2;exact an (aB (v:=.pointer _) rfl) rfl
  constructor
  ·intro w3 D3;rintro _ rfl;exact an (au rfl) rfl
  constructor
  ·intro w4 D4;rintro _ rfl;exact an (ai el rfl) rfl
  constructor
  ·intro w5 D5;rintro _ rfl;exact an (ao jn rfl (by exact (hP.from_ (ag.rfl_.next D5)).rd 5 rfl)) rfl
  constructor
  ·intro w6 D6;exact an (bn (v:=.int _ _) rfl) rfl
  constructor
  ·intro w7 D7;exact an (bn (v:=.int _ _) rfl) rfl
  constructor
  ·intro w8 D8;rintro _ rfl;exact an (bn (v:=.int _ _) rfl) rfl
  exact trivial
 case hend=>
  intro w9 D9;rintro _ rfl _ rfl _ rfl _ rfl _ rfl _ rfl _ rfl;show St ..;refine ah (ae (aP (cH (G:=Nat×Nat) [6,10,11,12,13,18,19,20,21,22,23,24,25,26,27,28,29,30,31,32,33,34,35,36,37,38,39,40,41,42,43,44,45,46,47] (fun (i,wh)=>[(7,.int .i64 ((chA s0 recs i:Nat):Int)),(8,.int .i64 ((wh:Nat):Int)),(9,.int .u32 (((chS s0 recs i).toNat:Nat):Int))]) (fun (i,wh) w'=>i≤recs.length∧(iN recs i→wh=chA s0 recs i)∧∃ L E2 n2 c2,dh L∧cI L (recs.drop i) M∧dp w' w.heap.size E2 n2 c2 L.es∧Blk w' rb 36 (lgV L.b L.t E2 n2 c2).toArray∧Blk w' wb 29 #[.pointer (some ⟨p,0,none⟩)]∧(∃ su b1 t1 E1 n1 c1,Blk w' p 62 (wlV d g la sz to su b1 t1 E1 n1 c1 ok).toArray∧(iN recs i→(wlV d g la sz to su b1 t1 E1 n1 c1 ok).toArray=(wlV d g la sz to (chS s0 recs i).toNat L.b L.t E2 n2 c2 ok).toArray))∧Chg (fun k=>k=rb∨k=p) w w') (fun (i,_)=>recs.length+1-i) ((0,0)) ⟨rfl,rfl,rfl,trivial⟩ ?_ ?_)))
  ·exact ⟨Nat.zero_le _,fun _=>rfl,lg0,none,0,0,nQ,hap,⟨rfl,Nat.le_refl _,by unfold maxLen;omega,.inl ⟨rfl,rfl,rfl⟩⟩,hR.from_ (ag.rfl_.next D9),hW.from_ (ag.rfl_.next D9),⟨_,_,_,_,_,_,hP.from_ (ag.rfl_.next D9),fun _=>rfl⟩,((ag.rfl_.next D9)).toChg⟩
  rintro ⟨i,wh⟩ ρ10 w10 ⟨hin,hwh,L,E2,n2,c2,hL,hap2,ho,hR2,hW2,⟨su,b1,t1,E1,n1,c1,hP2,hPf⟩,hC⟩;have hB0:=ag.rfl_ (a:=w10);have hZ:w.heap.size≤(w10).heap.size:=hC.size;have hTw:=hT.chg hC (by rintro (h | h) <;> omega);have hrb:=hr.chg hC (fun q hq h=>by have:=hA q hq;rcases h with h | h <;> omega);have hrs:=hrb;rw [iv s0 recs i] at hrs;have hcl:(ax s0 recs).1.length=chA s0 recs i+(ax (chS s0 recs i) (recs.drop i)).1.length:=by rw [iv s0 recs i,List.length_append]
  have hRlt:=hR2.lt;have hPlt:=hP2.lt;have hWlt:=hW2.lt;refine aP (af (ab (mvs rfl (mvi rfl (aa (bk (l:=chA s0 recs i) (h:=(ax s0 recs).1.length) bj rfl (.inr ⟨_,_,_,rfl,rfl,rfl⟩) (.inl ⟨rfl,rfl⟩) (by omega) (by omega)) (mvi rfl (av qD (vk _ _ _ (recs.drop i) (chS s0 recs i) _ ((hrs.from_ hB0).tailK rfl) (by omega) (by omega) (fun r hr=>hk r (List.mem_of_mem_drop hr)) (hTw.from_ hB0)) ?_)))))));rintro v23 w11 ⟨h23,E23⟩;rcases h23 with ⟨r,r9,hts,rfl⟩ | ⟨hts,rfl⟩
  ·obtain ⟨hi,hri,hd1,ht1⟩:=vO hts;have hap3:=hap2;rw [hts] at hap3;obtain ⟨K,hap3,hap4⟩:=hap3;have hat1:chA s0 recs (i+1)=chA s0 recs i+(cF (b_ (chS s0 recs i) r)).length:=by show (ax s0 (recs.take (i+1))).1.length=_;rw [ht1,fH,List.length_append]
   have hs1:chS s0 recs (i+1)=eo (chS s0 recs i) r:=by show (ax s0 (recs.take (i+1))).2=_;rw [ht1,fH]
   have hcl1:(ax s0 recs).1.length=chA s0 recs (i+1)+(ax (chS s0 recs (i+1)) (recs.drop (i+1))).1.length:=by rw [iv s0 recs (i+1),List.length_append]
   refine mvt rfl (aa (ar rfl rfl) (aa (ar rfl rfl) (aa (ar rfl rfl) (aa (ar rfl rfl) (aZ fe ?_)))));intro b10 w12 E10 hb10 hk10;have hs23:=E23.size;refine aV (vs:=[_,_,_,_,_]) cA rfl rfl (by simp [Value.oneCell']) (hk10) rfl ?_;intro w13 O2 P2;have hk2b:Blk w13 b10 65 (rcV r).toArray:=P2;refine asi rfl (asi rfl (asb rfl (ah (ae (af (af (ab (mvb rfl (aa (bG rfl) (mvb rfl (Bq (t:=30) rfl (fun Q14=>?_) (fun Q14=>?_))))))))))))
   ·exfalso;contradiction
   refine ak rfl (aa (aB (v:=.func _ _ _) rfl) (ak rfl (aa (aG (cs:=rcV r) dZ cA rfl ((hk2b.from_ ag.rfl_).whole)) (ak rfl ?_))));have hM33:ag _ w13:=ag.rfl_;have hB33:ag _ w13:=(((hB0.next E23).next E10).only O2 ((by rw [hb10];exact E23.size)));refine nq rfl qE (ee L K r w.heap.size rb wb p E2 c2 n2 d g la sz to su b1 t1 E1 n1 c1 ok _ hL hap3 (ho.from_ (((hB0.next E23).next E10).only O2 ((by rw [hb10];exact E23.size)))) (Nat.le_trans hZ ((((hB0.next E23).next E10).only O2 ((by rw [hb10];exact E23.size)))).size) (hR2.from_ (((hB0.next E23).next E10).only O2 ((by rw [hb10];exact E23.size)))) (hW2.from_ (((hB0.next E23).next E10).only O2 ((by rw [hb10];exact E23.size)))) (hP2.from_ (((hB0.next E23).next E10).only O2 ((by rw [hb10];exact E23.size))))) ?_;rintro v33 w15 ⟨rfl,Ea,na,ca,ho33,hR33,hW33,hPn,hPo,hC33b⟩;have hEat:=ho.at_;have hk33:=(hk2b.from_ hM33).chg hC33b (fun e=>by rcases e with e | e | e;omega;omega;have:=(hEat _ e).2;omega);have hC33:Chg (fun k=>k=rb∨k=p) w w15:=(hC.next hB33.toChg).trans hC33b (fun q hq=>by rcases hq with e | e | e;exact .inl (.inl e);exact .inl (.inr e);exact .inr (hEat _ e).1);have hBs:=hB33.size;refine ak rfl (aa (bG rfl) (aa (aQ (v:=.bool _) rfl rfl) (ah (ae (aI rfl (aE (ae (af (ab (mvi rfl (mvi rfl (aa (br rfl rfl (by omega)) ?_))))))))))));refine mvi rfl (asi rfl (asi rfl (ah (ae (af (ab (aa (ai fU rfl) (aa (ao di rfl (by exact (hk33.from_ ag.rfl_).rd 4 rfl)) ?_))))))));refine ah (ae (aM rfl (fun Q16=>?_) (fun Q16=>?_)))
   ·have hrf:r.fin=true:=Q16;have hPq:=hPn hrf;refine ab (mvp rfl (mvi rfl (mvi rfl (asi rfl (aa (au rfl) (aa (ai el rfl) ?_))))));have hM7:ag _ w15:=ag.rfl_;refine cT (v:=.int _ _) jm rfl rfl rfl ((hPq.from_ ag.rfl_)) (by show 0+5<10;decide) ?_;intro w17 O7 P7;have P7b:Blk w17 p 62 (wlV d g la sz to (eo (chS s0 recs i) r).toNat K.b K.t Ea na ca ok).toArray:=P7;have hC7:=(hC33.next hM7.toChg).next (O7.toChg (.inr rfl));have ho7:=(ho33.from_ hM7).only O7 (hPq.from_ hM7) (by decide);have hR7:=(hR33.from_ hM7).only O7 (gn hR33 hPq (by decide));have hW7:=(hW33.from_ hM7).only O7 (gn hW33 hPq (by decide));refine ah (bI ?_);refine bW ((i+1,chA s0 recs (i+1))) ⟨(bD (by rw [hat1];omega)),(by first | rfl | exact bD (by rw [hat1];omega)),(by first | exact congrArg (fun x:BitVec 32=>Value.int .u32 ((x.toNat:Nat):Int)) hs1 | exact congrArg (fun x:BitVec 32=>Value.int .u32 ((x.toNat:Nat):Int)) hs1.symm),trivial⟩ (by (iterate 75 refine bg rfl ?_);exact bw) ⟨?_,?_⟩
    ·refine ⟨by omega,fun _=>rfl,K,Ea,na,ca,hap3.ok hL,by rw [hd1];exact hap4,ho7.from_ ag.rfl_,hR7.from_ ag.rfl_,hW7.from_ ag.rfl_,⟨_,_,_,_,_,_,P7b.from_ ag.rfl_,fun _=>by rw [hs1]⟩,hC7.next (ag.rfl_).toChg⟩
    ·show recs.length+1-(i+1)<recs.length+1-i;omega
   have hrf:r.fin=false:=by simpa using Q16
   have hnf:¬ iN recs (i+1):=by
    rintro (h | ⟨h,h2⟩)
    ·omega
    ·simp only [Nat.add_sub_cancel] at h2;rw [hri,hrf] at h2;cases h2
   refine aE (bI ?_);refine bW ((i+1,wh)) ⟨(bD (by rw [hat1];omega)),(by first | rfl | exact bD (by rw [hat1];omega)),(by first | exact congrArg (fun x:BitVec 32=>Value.int .u32 ((x.toNat:Nat):Int)) hs1 | exact congrArg (fun x:BitVec 32=>Value.int .u32 ((x.toNat:Nat):Int)) hs1.symm),trivial⟩ (by (iterate 69 refine bg rfl ?_);exact bw) ⟨?_,?_⟩
   ·refine ⟨by omega,fun hf=>absurd hf hnf,K,Ea,na,ca,hap3.ok hL,by rw [hd1];exact hap4,ho33.from_ ag.rfl_,hR33.from_ ag.rfl_,hW33.from_ ag.rfl_,⟨_,_,_,_,_,_,(hPo hrf).from_ ag.rfl_,fun hf=>absurd hf hnf⟩,hC33.next (ag.rfl_).toChg⟩
   ·show recs.length+1-(i+1)<recs.length+1-i;omega
  obtain ⟨r,hr9⟩:∃ r,r=rcZ:=⟨_,rfl⟩;rw [←hr9];refine mvt rfl (aa (ar rfl rfl) (aa (ar rfl rfl) (aa (ar rfl rfl) (aa (ar rfl rfl) (aZ fe ?_)))));intro b10 w18 E10 hb10 hk10;have hs23:=E23.size;refine aV (vs:=[_,_,_,_,_]) cA rfl rfl (by simp [Value.oneCell']) (hk10) rfl ?_;intro w19 O2 P2;have hk2b:Blk w19 b10 65 (rcV r).toArray:=P2;refine asi rfl (asi rfl (asb rfl (ah (ae (af (af (ab (mvb rfl (aa (bG rfl) (mvb rfl (Bq (t:=30) rfl (fun Q20=>?_) (fun Q20=>?_))))))))))));rotate_left
  ·exfalso;contradiction
  refine aA rfl rfl (aA rfl rfl (aA rfl rfl (aA rfl rfl (aa (aO (v:=.bool _) rfl rfl) (ah (ae (aY rfl (af (ab (mvi rfl ?_))))))))));refine asi rfl (ah (ae (aC (aF (aW (aF (aW (bz (v:=.int _ _) rfl rfl ?_))))))));have hil:recs.length=i:=by have:=congrArg List.length hts;rw [List.length_drop] at this;simp only [List.length_nil] at this;omega
  rw [hts] at hap2;obtain rfl:L=M:=hap2;rw [hil] at hfin;have hta:recs.take i=recs:=List.take_of_length_le (by omega);have hPe:=hPf hfin;have hw9:=hwh hfin;unfold chA at hw9;unfold chS at hPe;rw [hta] at hw9 hPe;rw [hw9];exact ⟨rfl,⟨E2,n2,c2,by rw [←hPe];exact hP2.from_ (((hB0.next E23).next E10).only O2 ((by rw [hb10];exact E23.size))),ho.from_ (((hB0.next E23).next E10).only O2 ((by rw [hb10];exact E23.size)))⟩,hC.next ((((hB0.next E23).next E10).only O2 ((by rw [hb10];exact E23.size)))).toChg⟩
end Go.Proofs.YtaohnmneccbljaaGreatDoor
namespace Go.Proofs.YtaohnmneccbljaaGreatDoor
open Go.Proofs.Tryz (prog)
open Go.RowKit
def tr (l:List Oper):Bool:=(List.range l.length).all fun i=>match l[i]? with
 |none=>false
 |some o=>o.after.toList.all fun e=> !Region.binds .any e||decide (e.on<i)
section
variable {P:Program} {Q:Exit→Act→World→Prop} {n:Fr} {L:List (Nat×Value)} {w:World} {l:List Oper}
theorem xQ {Inv:(Nat→Bool)→List (Nat×Value)→World→Prop} (hwf:tr l=true)
 (hstep:∀ (i:Nat) (o:Oper) (S:Nat→Bool) (L':List (Nat×Value)) (w':World),l[i]? =some o→Inv S L' w'→S i=false→(∀ e∈o.after,Region.binds .any e=true→S e.on=true)→Region.wanted o (yielded l.toArray (mkT n.n L'))=true∧fA P n o (Inv (df S i)) L' w')
 (hend:∀ L' w',Inv (fun i=>decide (i<l.length)) L' w'→Q .normal (mkA n L') w') :
 ∀ (m:Nat) (listed:Array Bool) (L':List (Nat×Value)) (w':World),listed.toList.count false=m→listed.size=l.length→Inv (fun i=>listed.getD i false) L' w'→wpAny P .any l.toArray Q m listed (mkA n L') w':=by
 have hck:=List.all_eq_true.1 hwf;intro m
 induction m with
 |zero=>
  intro listed L' w' hcount hs hI
  have hall:∀ i,i<l.length→listed.getD i false=true:=fun i hi=>by
   have hm:listed[i]'(by omega)∈listed.toList:=by simp
   cases hb:listed[i]'(by omega) with
   |true=>simp [Array.getD,show i<listed.size by omega,hb]
   |false=>rw [hb] at hm;exact absurd hcount (Nat.pos_iff_ne_zero.1 (List.count_pos_iff.2 hm))
  have e:(fun i=>listed.getD i false)=fun i=>decide (i<l.length):=by
   funext i
   by_cases hi:i<l.length
   ·rw [hall i hi,decide_eq_true hi]
   ·rw [decide_eq_false hi];simp [Array.getD,show ¬ i<listed.size by omega]
  rw [e] at hI;refine ⟨?_,hend L' w' hI⟩;cases hr:Region.ready .any l.toArray listed with
  |nil=>rfl
  |cons i r=>
   exfalso;obtain ⟨h0,o,ho,_⟩:=mem_ready.1 (show i∈Region.ready .any l.toArray listed by rw [hr];simp);rw [List.getElem?_toArray] at ho;have hil:i<l.length:=(List.getElem?_eq_some_iff.1 ho).1;have:=hall i hil;rw [←aU (by omega),h0] at this;cases this
 |succ m ih=>
  intro listed L' w' hcount hs hI
  have hn0:∃ i,i<l.length∧listed.getD i true=false:=by
   have hpos:0<listed.toList.count false:=by omega
   obtain ⟨i,hi,hb⟩:=List.getElem_of_mem (List.count_pos_iff.1 hpos);rw [Array.length_toList] at hi;refine ⟨i,by omega,?_⟩;rw [Array.getElem_toList] at hb;simp [Array.getD,hi,hb]
  obtain ⟨i0,hi0,hmin⟩:=exists_least (p:=fun i=>i<l.length∧listed.getD i true=false) hn0
  have hready:i0∈Region.ready .any l.toArray listed:=by
   refine mem_ready.2 ⟨hi0.2,l[i0]'hi0.1,by rw [List.getElem?_toArray,List.getElem?_eq_getElem hi0.1],fun e he hb=>?_⟩;have hx:=hck i0 (List.mem_range.2 hi0.1);rw [List.getElem?_eq_getElem hi0.1] at hx;have he2:=List.all_eq_true.1 hx e (by simpa using he);rw [hb] at he2;simp at he2;have:=hi0.1;rw [←aU (by omega)];cases hb2:listed.getD e.on true with
   |true=>rfl
   |false=>exact absurd (hmin e.on ⟨by omega,hb2⟩) (by omega)
  refine ⟨fun h0=>(by rw [h0] at hready;cases hready),fun i hi=>?_⟩;obtain ⟨h0,o,ho,hall⟩:=mem_ready.1 hi;rw [List.getElem?_toArray] at ho;have hil:i<l.length:=(List.getElem?_eq_some_iff.1 ho).1;have hx:=hck i (List.mem_range.2 hil);rw [ho] at hx;have h0f:listed.getD i false=false:=by rw [←aU (by omega)];exact h0
  have hset:(fun j=>(listed.setIfInBounds i true).getD j false)=df (fun j=>listed.getD j false) i:=by
   funext j
   unfold df;by_cases e:j=i
   ·subst e;simp [Array.getD,show j<listed.size by omega]
   ·rw [if_neg e,getD_set_ne false (Ne.symm e)]
  have hcnt:(listed.setIfInBounds i true).toList.count false=m:=by
   have hil':i<listed.size:=by omega
   have hfalse:listed.toList[i]? =some false:=by
    rw [Array.getElem?_toList,Array.getElem?_eq_getElem hil'];simp [Array.getD,hil'] at h0;rw [h0]
   rw [Array.toList_setIfInBounds];have:=dO (l:=listed.toList) (i:=i) hfalse;omega
  have next:∀ L2 w2,Inv (df (fun j=>listed.getD j false) i) L2 w2→wpAny P .any l.toArray Q m (listed.setIfInBounds i true) (mkA n L2) w2:=fun L2 w2 h=>
   ih _ L2 w2 hcnt (by simpa using hs) (by rw [hset];exact h)
  unfold wpOp;rw [List.getElem?_toArray,ho];show if Region.wanted o (yielded l.toArray (mkT n.n L'))=true then _ else _
  rw [if_pos (hstep i o _ L' w' ho hI h0f hall).1];refine .inl ?_;unfold Oper.wp;rw [cg];rcases (hstep i o _ L' w' ho hI h0f hall).2 with ⟨d,v,w'',hd,hr,hI2⟩ | ⟨w'',hd,hr,hI2⟩ | ⟨d,f,args,hd,hr,hc⟩
  ·rw [hr,Oper.upon_value,hd,ej];exact next _ _ hI2
  ·rw [hr,Oper.upon_skip,hd];exact next _ _ hI2
  ·rw [hr,Oper.upon_enter,hd];refine Calls.mono hc fun e w'' ⟨v,he,hI2⟩=>?_
   subst he;show wpAny P .any l.toArray Q m (listed.setIfInBounds i true) ((mkA n L').put (some d) v) w'';rw [ej];exact next _ _ hI2
theorem zY {id:Nat} (Inv:(Nat→Bool)→List (Nat×Value)→World→Prop) (hm:P.follows .mixedOrders=true) (hwf:tr l=true) (h0:Inv (fun _=>false) L { w with drawn:=w.drawn+1 })
 (hstep:∀ (i:Nat) (o:Oper) (S:Nat→Bool) (L':List (Nat×Value)) (w':World),l[i]? =some o→Inv S L' w'→S i=false→(∀ e∈o.after,Region.binds .any e=true→S e.on=true)→Region.wanted o (yielded l.toArray (mkT n.n L'))=true∧fA P n o (Inv (df S i)) L' w')
 (hend:∀ L' w',Inv (fun i=>decide (i<l.length)) L' w'→Q .normal (mkA n L') w'):Cd P (.region id l.toArray true) Q n L w:=by
 refine ⟨wp_region_any hm ?_⟩
 have:=xQ (Q:=Q) hwf hstep hend l.length (Array.replicate l.length false) L { w with drawn:=w.drawn+1 } (by simp) (by simp) (by
  have e:(fun i=>(Array.replicate l.length false).getD i false)=fun _=>false:=by
   funext i
   by_cases hi:i<l.length <;> simp [Array.getD,hi]
  rw [e];exact h0)
 simpa using this
def yO (o:Oper):Oper:={ o with guard:=none }
theorem vJ (ρ:Operand→Value) (o:Oper):execOp ρ (yO o)=execOp ρ o:=by
 obtain ⟨dst,op,ty,pos,after,g⟩:=o;cases op <;> rfl
theorem uU {o:Oper} {Inv:List (Nat×Value)→World→Prop} {L':List (Nat×Value)} {w':World} (h:fA P n (yO o) Inv L' w'):fA P n o Inv L' w':=by
 unfold fA at h ⊢;simp only [vJ] at h;exact h
def gdB (n:Fr) (T:List (Nat×Nat×Value)) (l:List Oper) (o:Oper):Bool:=match o.guard with
 |none=>true
 |some (j,b)=>o.after.toList.any (fun e=>e.on==j&&Region.binds .any e)&&match T.find? fun p=>p.1==j with
  |some (_,t,.bool x)=>(x==b)&&(match jH l j with | some t'=>t'==t&&Nat.blt t n.n | none=>false)
  |_=>false
theorem uO {T:List (Nat×Nat×Value)} {S:Nat→Bool} {L':List (Nat×Value)} {o:Oper} (hg:gdB n T l o=true) (hI:km L T S L') (hE:∀ e∈o.after,Region.binds .any e=true→S e.on=true):Region.wanted o (yielded l.toArray (mkT n.n L'))=true:=by
 obtain ⟨dst,op,ty,pos,after,g⟩:=o;unfold gdB at hg;cases g with
 |none=>rfl
 |some jb=>
  obtain ⟨j,b⟩:=jb;simp only [Bool.and_eq_true,List.any_eq_true] at hg;obtain ⟨⟨e,he,he2⟩,hT⟩:=hg;have hej:e.on=j:=by simpa using he2.1
  have hS:S j=true:=by rw [←hej];exact hE e (by simpa using he) he2.2
  cases hf:T.find? (fun p=>p.1==j) with
  |none=>rw [hf] at hT;cases hT
  |some p=>
   obtain ⟨i,t,v⟩:=p;rw [hf] at hT;have hi:i=j:=by have:=List.find?_some hf;simpa using this
   have hm:(i,t,v)∈T:=List.mem_of_find?_eq_some hf;cases v with
   |bool x=>
    simp only [Bool.and_eq_true,beq_iff_eq] at hT;obtain ⟨hx,hd⟩:=hT;subst hx;cases hn:jH l j with
    |none=>rw [hn] at hd;cases hd
    |some t'=>
     rw [hn] at hd;simp only [Bool.and_eq_true,beq_iff_eq] at hd;obtain ⟨ht,hlt⟩:=hd;subst ht;have hl:=hI.get hm (by rw [hi];exact hS)
     have hw:iH l.toArray n L' j=.bool x:=by
      unfold iH;rw [show l.toArray.toList=l from rfl,hn];show (bif Nat.blt t' n.n then aT L' t' else undef)=_;rw [hlt];exact hl
     show (yielded l.toArray (mkT n.n L') j==some x)=true;rw [fa hw];simp
   |_=>cases hT
theorem yv {id:Nat} (T:List (Nat×Nat×Value)) (Mem:(Nat→Bool)→World→Prop) (hm:P.follows .mixedOrders=true) (hwf:tr l=true) (hgd:l.all (gdB n T l)=true) (hU:mU T) (hlt:∀ p∈T,p.1<l.length) (h0:Mem (fun _=>false) { w with drawn:=w.drawn+1 })
 (hstep:qN P n L T Mem 0 (l.map yO)) (hend:∀ w',Mem (fun i=>decide (i<l.length)) w'→Q .normal (mkA n (T.map (fun p=>(p.2.1,p.2.2))++L)) w'):Cd P (.region id l.toArray true) Q n L w:=by
 refine zY (fun S L' w'=>km L T S L'∧Mem S w') hm hwf ⟨⟨fun _ _=>rfl,fun _ _ h=>(by cases h),fun _ _ _=>rfl⟩,h0⟩ (fun i o S L' w' ho ⟨hI,hM⟩ hS hE=>⟨uO (List.all_eq_true.1 hgd o (List.mem_of_getElem? ho)) hI hE,?_⟩) fun L' w' ⟨hI,hM⟩=>?_
 ·have:=lN hstep i (yO o) (by rw [List.getElem?_map,ho];rfl) S L' w' hI hM (by rw [Nat.zero_add];exact hS) (lv fun e he=>hE e (by have he':e∈o.after.toList:=he;simpa using he'));rw [Nat.zero_add] at this;exact uU this
 ·have h:=hend w' hM
  have e:mkA n L'=mkA n (T.map (fun p=>(p.2.1,p.2.2))++L):=by
   unfold mkA;rw [kb fun t _=>rD hU hI (fun p hp=>decide_eq_true (hlt p hp)) t]
  rw [e];exact h
end
end Go.Proofs.YtaohnmneccbljaaGreatDoor
namespace Go.Proofs.YtaohnmneccbljaaGreatDoor
open Go.Proofs.Tryz (prog)
open Go.RowKit
open Go.ChangeShapes Go.WideShapes Go.ChangeAt
open Go.Lib
theorem qF:aH prog 124=true:=by kernel_rfl
theorem qG:aH prog 114=true:=by kernel_rfl
theorem qH:aH prog 101=true:=by kernel_rfl
theorem jq:fK prog 120=some true:=by kernel_rfl
theorem ew:cS prog 120=some 2:=by kernel_rfl
theorem gD:ij prog 120=some (.agg #[.int .i64 0,.int .i64 0]):=by kernel_rfl
theorem so:aH prog 81=true:=by kernel_rfl
theorem sn:aH prog 82=true:=by kernel_rfl
theorem mF:aH prog 83=true:=by kernel_rfl
theorem ma:∀ (a0:Int) (a1:Int),prog.built 120 [(0,.int .i64 a0),(1,.int .i64 a1)]=some #[.int .i64 a0,.int .i64 a1]:=by intros;kernel_rfl
theorem mR (w:World) (e:TypeId) (s:ByteArray):ag w (Lib.bytesWorld w e s):=by
 have h:=(ag.rfl_ (a:=w)).d1.new (.cells (bytesCells w e s) e);unfold Lib.bytesWorld World.freeze;split
 ·exact h
 ·refine ⟨h.os,h.tape,h.output,?_,fun k hk=>?_⟩
  ·simp
  ·rw [←h.block k hk];show (Array.modify _ _ _)[k]? =_;rw [Array.getElem?_modify];have hne:¬ w.heap.size=k:=by omega
   simp only [hne,if_false]
theorem x7 {P:Program} {w:World} {t:TypeId} {ms} (m:Nat) (ht:P.underlying t=some (.interface ms)):(Op.equalIn (m+1) t .nilIface .nilIface).run P w=.ok true w:=by
 simp [Op.equalIn,run_underlying ht]
theorem re {P:Program} {ρ:Operand→Value} {w:World} {t yt:TypeId} {x:Operand} {c:Value} {ms} (ht:P.underlying t=some (.interface ms)) (hx:ρ x=.nilIface) (hy:ρ (.const c)=.nilIface):RO P ρ (.binOp .eql t x (.const c) yt) w (.bool true) w:=
 iX hx hy (by cases x <;> rfl) (by simp only [binOp];have:=x7 (w:=w) 9999 ht;simp [Op.equal,show Op.maxDepth=9999+1 from rfl,this])
theorem sQ {P:Program} {ρ:Operand→Value} {w:World} {t:TypeId} {x y:Operand} {k:IntKind} {s r:ByteArray} {i:Int} {h:Nat} (ht:P.underlying t=some .string) (hx:ρ x=.string s) (hy:ρ y=.int k i) (hi:i=(h:Int)) (h2:h≤s.size) (hr:s.extract 0 h=r):RO P ρ (.slice t x none (some y) none) w (.string r) w:=fun _ _ _ _ _=>by
 subst hi;subst hr;simp only [execOp,hx,hy,Option.map_none,Option.map_some,Sem.run_bind];rw [run_sliceAt_string w t _ _ _ _ ht,run_slice_string_h w t _ ht k (h:Int) (by omega) (by omega),Result.andThen_ok,Int.toNat_natCast];rfl
theorem sP {P:Program} {ρ:Operand→Value} {w:World} {t:TypeId} {x y:Operand} {k:IntKind} {s r:ByteArray} {i:Int} {l:Nat} (ht:P.underlying t=some .string) (hx:ρ x=.string s) (hy:ρ y=.int k i) (hi:i=(l:Int)) (h2:l≤s.size) (hr:s.extract l s.size=r):RO P ρ (.slice t x (some y) none none) w (.string r) w:=fun _ _ _ _ _=>by
 subst hi;subst hr;simp only [execOp,hx,hy,Option.map_none,Option.map_some,Sem.run_bind];rw [run_sliceAt_string w t _ _ _ _ ht,run_slice_string_l w t _ ht k (l:Int) (by omega) (by omega),Result.andThen_ok,Int.toNat_natCast];rfl
def dd (n:Nat):List UInt8:=if n<10 then [UInt8.ofNat (48+n)] else [UInt8.ofNat (48+n/10),UInt8.ofNat (48+n%10)]
theorem uF {n:Nat} (h:n<100):Lib.decDigits n=dd n:=by
 unfold dd;by_cases h1:n<10
 ·rw [Lib.decDigits_one h1,if_pos h1]
 ·rw [Lib.decDigits_two h1 h,if_neg h1]
def nmL (g:Nat):List UInt8:=[119,97,108,45]++(dd g++[45,48])
def jF (g:Nat):ByteArray:=⟨(dd g++[45,48]).toArray⟩
theorem ji:∀ g:Fin 100,Lib.indexByte (dd g++[45,48]) 45=((dd g).length:Int)∧Lib.atoi (dd g)=some ((g:Nat):Int)∧(dd g++[45,48]==[45])=false∧((nmL g).map UInt8.toNat).all okB=true∧(dd g).length≤2∧(nmL g==[119,97,108,46,110,101,119])=false:=by decide
theorem gK {g:Nat} (h:g<100):(aX g 0).data.toList=nmL g:=by
 unfold aX dig nmL;rw [Go.Joins.data_append,Go.Joins.data_append,Go.Joins.data_append];simp only [uF h,uF (show 0<100 by decide)];simp [dd]
theorem tD {a b:ByteArray} (h:a.data.toList=b.data.toList):a=b:=ByteArray.ext (Array.ext' h)
theorem qi {g:Nat} (h:g<100):aX g 0=⟨(nmL g).toArray⟩:=tD (by rw [gK h])
theorem xE {a b:Nat} (ha:a<100) (hb:b<100) (h:aX a 0=aX b 0):a=b:=by
 have h1:=congrArg (fun s=>s.data.toList) h;simp only [gK ha,gK hb] at h1;unfold nmL at h1;have h2:=List.append_cancel_right (List.append_cancel_left h1);have h3:=(ji ⟨a,ha⟩).2.1;have h4:=(ji ⟨b,hb⟩).2.1;simp only at h3 h4;rw [h2,h4] at h3;have:=Option.some.inj h3;omega
abbrev nwN:ByteArray:=⟨#[119,97,108,46,110,101,119]⟩
theorem lh {g:Nat} (h:g<100):aX g 0≠nwN:=fun e=>by
 have h1:=congrArg (fun s=>s.data.toList) e;simp only [gK h] at h1;have h2:=(ji ⟨g,h⟩).2.2.2.2.2;simp only at h2;rw [h1] at h2;exact absurd h2 (by decide)
theorem rv {g:Nat} (h:g<100):(nmL g).length≤8:=by
 have:=(ji ⟨g,h⟩).2.2.2.2.1;simp only at this;unfold nmL;simp only [List.length_append,List.length_cons,List.length_nil];omega
theorem lY {g:Nat} (h:g<100):(aX g 0).size≤8:=by
 rw [qi h];exact rv h
theorem i_ {g:Nat} (h:g<100):okN (aX g 0)=true:=by
 have h1:=(ji ⟨g,h⟩).2.2.2.1;have hs:eT (aX g 0)=(nmL g).map UInt8.toNat:=by rw [qi h];rfl
 have hz:(aX g 0).size=(nmL g).length:=by rw [qi h];rfl
 have hl:=rv h;unfold okN;rw [hs,hz];simp only [Bool.and_eq_true,decide_eq_true_eq];exact ⟨⟨by unfold nmL;simp only [List.length_append,List.length_cons,List.length_nil];omega,by omega⟩,h1⟩
theorem xt:okN nwN=true:=by decide
theorem ph {g:Nat} (h:g<100):(jF g).size=(dd g).length+2∧(dd g).length≤2:=by
 refine ⟨?_,(ji ⟨g,h⟩).2.2.2.2.1⟩;show (dd g++[45,48]).toArray.size=_;simp
theorem qx (g:Nat) (w:World) (h:g<100):Rt prog 81 [.string (aX g 0),.string ⟨#[119,97,108,45]⟩] w fun v w'=>v=.tuple #[.string (jF g),.bool true]∧w=w':=
 Calls.mono (Tryz.strings_CutPrefix (aX g 0) ⟨#[119,97,108,45]⟩ w) fun e w' ⟨he,hw⟩=>by
  refine ⟨_,he,?_,hw.symm⟩;have h1:Lib.hasPrefix (nmL g) [119,97,108,45]=true:=rfl;have h2:Lib.trimPrefix (nmL g) [119,97,108,45]=dd g++[45,48]:=by unfold Lib.trimPrefix;rw [h1];rfl
  rw [gK h,h1,h2];rfl
theorem uK (g:Nat) (s:ByteArray) (w:World) (hs:s.data.toList=dd g) (h:g<100):Rt prog 83 [.string s] w fun v w'=>v=.tuple #[.int .i64 (g:Nat),.nilIface]∧ag w w':=by
 have hd:=ji ⟨g,h⟩
 have hz:s.size≤18:=by
  have h1:=hd.2.2.2.2.1;simp only at h1;have:s.size=s.data.toList.length:=by rw [Array.length_toList];rfl
  rw [this,hs];omega
 exact Calls.mono (Tryz.strconv_Atoi s (g:Nat) hz (by rw [hs];exact hd.2.1) w) fun e w' ⟨he,t,hw⟩=>⟨_,he,rfl,by rw [hw];exact mR _ _ _⟩
theorem yx (w:World):Rt prog 83 [.string ⟨#[48]⟩] w fun v w'=>v=.tuple #[.int .i64 0,.nilIface]∧ag w w':=uK 0 ⟨#[48]⟩ w rfl (by decide)
theorem tf (g:Nat) (w:World) (h:g<100):Rt prog 124 [.string (jF g),.int .u8 45] w fun v w'=>v=.int .i64 ((dd g).length:Nat)∧w=w':=
 Calls.mono (Tryz.stringslite_IndexByte (jF g) 45 w) fun e w' ⟨he,hw⟩=>by
  refine ⟨_,he,?_,hw.symm⟩;have h1:=(ji ⟨g,h⟩).1;simp only at h1;show Value.int .i64 (Lib.indexByte (dd g++[45,48]) 45)=_;rw [h1]
theorem ze (g:Nat) (h:g<100):((⟨#[45]⟩:ByteArray).toList==(jF g).toList)=false:=by
 have h1:=(ji ⟨g,h⟩).2.2.1;rw [beq_eq_false_iff_ne] at h1 ⊢;intro e;rw [Lib.toList_data,Lib.toList_data] at e;exact h1 e.symm
theorem AR (g:Nat):(jF g).extract 0 (dd g).length=⟨(dd g).toArray⟩:=tD (by
 rw [extract_data];show List.take _ (List.drop 0 (dd g++[45,48]))=dd g;simp)
theorem AQ {g:Nat} (h:g<100):(jF g).extract ((dd g).length+1) (jF g).size=⟨#[48]⟩:=tD (by
 rw [(ph h).1,extract_data];show List.take _ (List.drop ((dd g).length+1) (dd g++[45,48]))=[48];rw [←List.drop_drop,List.drop_left,Nat.add_sub_add_left];rfl)
theorem vF (g:Nat) (w:World) (h:g<100) :
 Rt prog 114 [.string (jF g),.string ⟨#[45]⟩] w (fun v w'=>v=.int .i64 ((dd g).length:Nat)∧w=w'):=by
 refine enter (n:=143) Tryz.func114 rfl rfl rfl (af (ab (asi rfl (ah (ae (af (ab (mvg rfl (aa (im (by kernel_rfl) rfl) (asi rfl (ah (ae (af (aP (af (ab (mvi rfl ?_)))))))))))))))));refine aa (bh (a7 rfl rfl) rfl) (mvb rfl (ak rfl (mvg rfl (ak rfl (mvg rfl (ak rfl (aa (bh (iW rfl rfl) (ze g h)) (aa (aQ (v:=.bool _) rfl rfl) ?_))))))));refine asb rfl (ah (ae (aI rfl (af (ab (mvi rfl (aa (cU (a7 rfl rfl) rfl) (asb rfl (ah (ae (aY rfl ?_)))))))))));refine af (ab (mvg rfl (mvg rfl (aa (u7 (u:=45) ju rfl rfl (by decide) rfl) (av qF (tf g _ h) ?_)))));rintro v30 w1 ⟨rfl,rfl⟩;refine asi rfl (ah (ae (aC (aW (aF (bz (v:=.int _ _) rfl rfl (⟨rfl,rfl⟩)))))))
theorem zX (g:Nat) (w:World) (h:g<100) :
 Rt prog 101 [.string (jF g),.string ⟨#[45]⟩] w (fun v w'=>v=.tuple #[.string ⟨(dd g).toArray⟩,.string ⟨#[48]⟩,.bool true]∧ag w w'):=by
 have hrs:=ph h;have hs1:(⟨#[45]⟩:ByteArray).size=1:=rfl;refine enter (n:=23) Tryz.func101 rfl rfl rfl (af (ab (asg rfl (asg rfl (asb rfl (ah (ae (af (af (ab (mvg rfl (mvg rfl (av qG (vF g _ h) ?_)))))))))))));rintro v10 w1 ⟨rfl,rfl⟩;refine asi rfl (ah (ae (af (ab (mvi rfl (aa (cU (gQ rfl rfl) (decide_eq_true (by omega))) (ah (ae (aY rfl (af ?_))))))))));apply bO 12 [(13,eqp _),(14,eqp _),(15,eqp _),(16,eqp _),(17,eqp _),(18,eqp _),(19,eqp _),(20,eqp _),(21,eqp _),(4,eqp _),(5,eqp _),(6,eqp _)] (by repeat first | exact cr | refine cq ?_ | refine bU ?_) (by kernel_rfl) (by kernel_rfl) ⟨aj _,aj _,aj _,aj _,aj _,aj _,aj _,aj _,aj _,aj _,aj _,aj _,trivial⟩
 case hop=>
  constructor
  ·rintro-w3 D3;exact an (aB (v:=.string _) rfl) rfl
  constructor
  ·rintro-w4 D4;exact an (aB (v:=.int _ _) rfl) rfl
  constructor
  ·rintro-w5 D5;rintro _ rfl _ rfl;exact an (sQ (h:=(dd g).length) ju rfl rfl rfl (by omega) (AR g)) rfl
  constructor
  ·rintro-w6 D6;exact an (aB (v:=.string _) rfl) rfl
  constructor
  ·rintro-w7 D7;exact an (aB (v:=.int _ _) rfl) rfl
  constructor
  ·rintro-w8 D8;exact an (aB (v:=.string _) rfl) rfl
  constructor
  ·rintro-w9 D9;rintro _ rfl;exact an (im (by kernel_rfl) rfl) rfl
  constructor
  ·rintro-w10 D10;rintro _ rfl _ rfl;exact an (br rfl rfl (by omega)) rfl
  constructor
  ·rintro-w11 D11;rintro _ rfl _ rfl;exact an (sP (l:=(dd g).length+1) ju rfl rfl (by show (((dd g).length:Nat):Int)+1=_;omega) (by omega) (AQ h)) rfl
  constructor
  ·rintro-w12 D12;rintro _ rfl;exact an (bn (v:=.string _) rfl) rfl
  constructor
  ·rintro-w13 D13;rintro _ rfl;exact an (bn (v:=.string _) rfl) rfl
  constructor
  ·rintro-w14 D14;exact an (bn (v:=.bool _) rfl) rfl
  exact trivial
 case hend=>
  intro w15 D15;rintro _ rfl _ rfl _ rfl _ rfl _ rfl _ rfl _ rfl _ rfl _ rfl _ rfl _ rfl _ rfl;show St ..;refine ah (ae (aC (aF (xg (v:=.string _) (v':=.string _) (v'':=.bool _) rfl rfl rfl rfl (⟨rfl,(ag.rfl_.next D15)⟩)))))
theorem y7 (g:Nat) (w:World) (h:g<100) :
 Rt prog 82 [.string (jF g),.string ⟨#[45]⟩] w (fun v w'=>v=.tuple #[.string ⟨(dd g).toArray⟩,.string ⟨#[48]⟩,.bool true]∧ag w w'):=by
 refine enter (n:=13) Tryz.func82 rfl rfl rfl (af (ab (asg rfl (asg rfl (asb rfl (ah (ae (af (ab (mvg rfl (mvg rfl (av qH (zX g _ h) ?_))))))))))));rintro v9 w1 ⟨rfl,E9⟩;refine aa (ar rfl rfl) (aa (ar rfl rfl) (aa (ar rfl rfl) (asg rfl (asg rfl (asb rfl (ah (ae (aC (xg (v:=.string _) (v':=.string _) (v'':=.bool _) rfl rfl rfl rfl (⟨rfl,(ag.rfl_.next E9)⟩))))))))))
theorem nF (g:Nat) (w:World) (h:g<100) :
 Rt prog 65 [.string (aX g 0)] w (fun v w'=>v=.tuple #[.agg #[.int .i64 (g:Nat),.int .i64 0],.bool true]∧ag w w'):=by
 refine enter (n:=54) Tryz.func65 rfl rfl rfl (af (ab (aZ gD ?_)));intro b2 w1 E2 hb2 hk2;have hg2:w.heap.size≤b2:=by rw [hb2];exact (ag.rfl_).size
 refine asb rfl (ah (ae (af (ab (mvg rfl (av so (qx g _ h) ?_))))));rintro v16 w2 ⟨rfl,rfl⟩;refine mvt rfl (aa (ar rfl rfl) (aa (ar rfl rfl) (asg rfl (asb rfl (ah (ae (af (af (ab (mvb rfl (aa (bh (bG rfl) rfl) (ah (ae ?_)))))))))))));refine aI rfl (aE (ae (af (ab (mvg rfl (av sn (y7 g _ h) ?_))))));rintro v24 w3 ⟨rfl,E24⟩;refine mvt rfl (aa (ar rfl rfl) (aa (ar rfl rfl) (aa (ar rfl rfl) (asg rfl (asg rfl (asb rfl (ah (ae (af (ab (mvg rfl ?_)))))))))));refine av mF (uK g ⟨(dd g).toArray⟩ _ rfl h) ?_;rintro v30 w4 ⟨rfl,E30⟩;refine mvt rfl (aa (ar rfl rfl) (aa (ar rfl rfl) (asi rfl (aa (bn (v:=.nilIface) rfl) (ah (ae (af (ab (mvg rfl (av mF (yx _) ?_))))))))));rintro v35 w5 ⟨rfl,E35⟩;refine mvt rfl (aa (ar rfl rfl) (aa (ar rfl rfl) (asi rfl (aa (bn (v:=.nilIface) rfl) (ah (ae (af (ab (mvi rfl (mvi rfl (aa (bN (l:=[(0,.tmp 38),(1,.tmp 39)]) (ma _ _)) ?_)))))))))));have hM13:=(((ag.rfl_.next E24).next E30).next E35);refine aZ gD ?_;intro b13 w6 E13 hb13 hk13;have hg13:w.heap.size≤b13:=by rw [hb13];exact (((((ag.rfl_.next E2).next E24).next E30).next E35)).size
 have h213:b2≠b13:=by have:=(hk2.from_ hM13).lt;omega
 replace hk2:=hk2.from_ (hM13.next E13);refine aV (vs:=[_,_]) ew rfl rfl (by simp [Value.oneCell']) (hk13) rfl ?_;intro w7 O7 P7;replace hk2:=hk2.only O7 h213;have P7b:Blk w7 b13 120 #[.int .i64 ((g:Nat):Int),.int .i64 0]:=P7;refine ah (ae (af ?_));have hU8:mU [(0,41,.agg #[.int .i64 ((g:Nat):Int),.int .i64 0]),(1,42,.nilIface),(2,43,.bool true),(3,44,.bool true),(4,45,.nilIface),(5,46,.bool true),(6,47,.bool true),(7,48,.bool true),(8,49,.agg #[.int .i64 ((g:Nat):Int),.int .i64 0]),(9,50,.string (aX g 0)),(10,51,.string (aX g 0)),(11,52,.bool true),(12,53,.bool true),(14,3,.bool true)]:=by simp [mU]
 refine yv [(0,41,.agg #[.int .i64 ((g:Nat):Int),.int .i64 0]),(1,42,.nilIface),(2,43,.bool true),(3,44,.bool true),(4,45,.nilIface),(5,46,.bool true),(6,47,.bool true),(7,48,.bool true),(8,49,.agg #[.int .i64 ((g:Nat):Int),.int .i64 0]),(9,50,.string (aX g 0)),(10,51,.string (aX g 0)),(11,52,.bool true),(12,53,.bool true),(14,3,.bool true)] (fun S w'=>Blk w' b13 120 #[.int .i64 ((g:Nat):Int),.int .i64 0]∧Blk w' b2 120 (bif S 13 then #[.int .i64 ((g:Nat):Int),.int .i64 0] else #[.int .i64 0,.int .i64 0])∧ag w w') (by kernel_rfl) (by kernel_rfl) (by rfl) hU8 (by simp) (⟨P7b.from_ ag.rfl_.d1,hk2.from_ ag.rfl_.d1,(((((((ag.rfl_.next E2).next E24).next E30).next E35).next E13).only O7 (hg13))).d1⟩) ?_ ?_
 ·constructor
  ·rintro S L' wS hI hM hS0 ⟨-⟩;have e13:=hI.1 13 (by simp);have hM':=hM;obtain ⟨hq,hk,hB⟩:=hM';exact bB (aG (cs:=[.int .i64 ((g:Nat):Int),.int .i64 0]) jq ew e13 hq.whole) ⟨hI.put hU8 (.head _),hM⟩
  constructor
  ·rintro S L' wS hI hM hS0 ⟨-⟩;have e10:=hI.1 10 (by simp);have hM':=hM;obtain ⟨hq,hk,hB⟩:=hM';exact bB (aB e10) ⟨hI.put hU8 (.tail _ (.head _)),hM⟩
  constructor
  ·rintro S L' wS hI hM hS0 ⟨d1,-⟩;have e42:aT L' 42=.nilIface:=hI.get (i:=1) (.tail _ (.head _)) d1;have hM':=hM;obtain ⟨hq,hk,hB⟩:=hM';exact bB (re Tryz.underlying145 e42 rfl) ⟨hI.put hU8 (.tail _ (.tail _ (.head _))),hM⟩
  constructor
  ·rintro S L' wS hI hM hS0 ⟨d2,-⟩;have e43:aT L' 43=.bool true:=hI.get (i:=2) (.tail _ (.tail _ (.head _))) d2;have hM':=hM;obtain ⟨hq,hk,hB⟩:=hM';exact bB (aB e43) ⟨hI.put hU8 (.tail _ (.tail _ (.tail _ (.head _)))),hM⟩
  constructor
  ·rintro S L' wS hI hM hS0 ⟨d3,-⟩;have e12:=hI.1 12 (by simp);have hM':=hM;obtain ⟨hq,hk,hB⟩:=hM';exact bB (aB e12) ⟨hI.put hU8 (.tail _ (.tail _ (.tail _ (.tail _ (.head _))))),hM⟩
  constructor
  ·rintro S L' wS hI hM hS0 ⟨d4,d3,-⟩;have e45:aT L' 45=.nilIface:=hI.get (i:=4) (.tail _ (.tail _ (.tail _ (.tail _ (.head _))))) d4;have hM':=hM;obtain ⟨hq,hk,hB⟩:=hM';exact bB (re Tryz.underlying145 e45 rfl) ⟨hI.put hU8 (.tail _ (.tail _ (.tail _ (.tail _ (.tail _ (.head _)))))),hM⟩
  constructor
  ·rintro S L' wS hI hM hS0 ⟨d3,d5,-⟩;have e44:aT L' 44=.bool true:=hI.get (i:=3) (.tail _ (.tail _ (.tail _ (.head _)))) d3;have e46:aT L' 46=.bool true:=hI.get (i:=5) (.tail _ (.tail _ (.tail _ (.tail _ (.tail _ (.head _)))))) d5;have hM':=hM;obtain ⟨hq,hk,hB⟩:=hM';exact bB (aO e44 e46) ⟨hI.put hU8 (.tail _ (.tail _ (.tail _ (.tail _ (.tail _ (.tail _ (.head _))))))),hM⟩
  constructor
  ·rintro S L' wS hI hM hS0 ⟨d6,d3,-⟩;have e47:aT L' 47=.bool true:=hI.get (i:=6) (.tail _ (.tail _ (.tail _ (.tail _ (.tail _ (.tail _ (.head _))))))) d6;have hM':=hM;obtain ⟨hq,hk,hB⟩:=hM';exact bB (aB e47) ⟨hI.put hU8 (.tail _ (.tail _ (.tail _ (.tail _ (.tail _ (.tail _ (.tail _ (.head _)))))))),hM⟩
  constructor
  ·rintro S L' wS hI hM hS0 ⟨d7,-⟩;have e13:=hI.1 13 (by simp);have hM':=hM;obtain ⟨hq,hk,hB⟩:=hM';exact bB (aG (cs:=[.int .i64 ((g:Nat):Int),.int .i64 0]) jq ew e13 hq.whole) ⟨hI.put hU8 (.tail _ (.tail _ (.tail _ (.tail _ (.tail _ (.tail _ (.tail _ (.tail _ (.head _))))))))),hM⟩
  constructor
  ·rintro S L' wS hI hM hS0 ⟨d8,d7,d7,-⟩;have e49:aT L' 49=.agg #[.int .i64 ((g:Nat):Int),.int .i64 0]:=hI.get (i:=8) (.tail _ (.tail _ (.tail _ (.tail _ (.tail _ (.tail _ (.tail _ (.tail _ (.head _))))))))) d8;have hM':=hM;obtain ⟨hq,hk,hB⟩:=hM';refine lO (al:=[.tmp 49]) oD ?_;show Rt _ _ [aT L' 49] _ _;rw [e49];refine (uv g 0 _ h (by decide)).mono ?_;rintro v w2 ⟨rfl,E50⟩;exact ⟨hI.put hU8 (.tail _ (.tail _ (.tail _ (.tail _ (.tail _ (.tail _ (.tail _ (.tail _ (.tail _ (.head _)))))))))),hq.from_ E50,hk.from_ E50,hB.next E50⟩
  constructor
  ·rintro S L' wS hI hM hS0 ⟨d7,-,-⟩;have e0:=hI.1 0 (by simp);have hM':=hM;obtain ⟨hq,hk,hB⟩:=hM';exact bB (aB e0) ⟨hI.put hU8 (.tail _ (.tail _ (.tail _ (.tail _ (.tail _ (.tail _ (.tail _ (.tail _ (.tail _ (.tail _ (.head _))))))))))),hM⟩
  constructor
  ·rintro S L' wS hI hM hS0 ⟨d9,d10,d7,-,-⟩;have e50:aT L' 50=.string (aX g 0):=hI.get (i:=9) (.tail _ (.tail _ (.tail _ (.tail _ (.tail _ (.tail _ (.tail _ (.tail _ (.tail _ (.head _)))))))))) d9;have e51:aT L' 51=.string (aX g 0):=hI.get (i:=10) (.tail _ (.tail _ (.tail _ (.tail _ (.tail _ (.tail _ (.tail _ (.tail _ (.tail _ (.tail _ (.head _))))))))))) d10;have hM':=hM;obtain ⟨hq,hk,hB⟩:=hM';exact bB (cU (iW e50 e51) (beq_self_eq_true _)) ⟨hI.put hU8 (.tail _ (.tail _ (.tail _ (.tail _ (.tail _ (.tail _ (.tail _ (.tail _ (.tail _ (.tail _ (.tail _ (.head _)))))))))))),hM⟩
  constructor
  ·rintro S L' wS hI hM hS0 ⟨d7,d11,-,-⟩;have e48:aT L' 48=.bool true:=hI.get (i:=7) (.tail _ (.tail _ (.tail _ (.tail _ (.tail _ (.tail _ (.tail _ (.head _)))))))) d7;have e52:aT L' 52=.bool true:=hI.get (i:=11) (.tail _ (.tail _ (.tail _ (.tail _ (.tail _ (.tail _ (.tail _ (.tail _ (.tail _ (.tail _ (.tail _ (.head _)))))))))))) d11;have hM':=hM;obtain ⟨hq,hk,hB⟩:=hM';exact bB (aO e48 e52) ⟨hI.put hU8 (.tail _ (.tail _ (.tail _ (.tail _ (.tail _ (.tail _ (.tail _ (.tail _ (.tail _ (.tail _ (.tail _ (.tail _ (.head _))))))))))))),hM⟩
  constructor
  ·rintro S L' wS hI hM hS0 ⟨d0,d9,d0,-,-,-,-,-,-,-,-,-,-,-,-,-⟩;have e2:=hI.1 2 (by simp);have e41:aT L' 41=.agg #[.int .i64 ((g:Nat):Int),.int .i64 0]:=hI.get (i:=0) (.head _) d0;have hM':=hM;obtain ⟨hq,hk,hB⟩:=hM';obtain ⟨w2,hR,hO,hb⟩:=uf (n:=⟨54,[]⟩) (L:=L') (x:=.tmp 2) (y:=.tmp 41) (vs:=[.int .i64 ((g:Nat):Int),.int .i64 0]) ew (e2.trans rfl) e41 (by simp [Value.oneCell']) hk (by show 2=(bif S 13 then _ else _:Array Value).size;rw [hS0];rfl);exact mW hR ⟨hI.skip (by simp),hq.only hO (Ne.symm h213),hb,hB.only hO hg2⟩
  constructor
  ·rintro S L' wS hI hM hS0 ⟨d12,d13,d0,d1,d2,d3,d4,d5,d6,d7,d8,d9,d10,d11,d12,d13,-⟩;have e53:aT L' 53=.bool true:=hI.get (i:=12) (.tail _ (.tail _ (.tail _ (.tail _ (.tail _ (.tail _ (.tail _ (.tail _ (.tail _ (.tail _ (.tail _ (.tail _ (.head _))))))))))))) d12;have hM':=hM;obtain ⟨hq,hk,hB⟩:=hM';exact bB (bn e53) ⟨hI.put hU8 (.tail _ (.tail _ (.tail _ (.tail _ (.tail _ (.tail _ (.tail _ (.tail _ (.tail _ (.tail _ (.tail _ (.tail _ (.tail _ (.head _)))))))))))))),hM⟩
  exact trivial
 ·intro w9 hM;obtain ⟨hq,hk,hB⟩:=hM;replace hk:Blk w9 b2 120 #[.int .i64 ((g:Nat):Int),.int .i64 0]:=hk;refine ae (aC (dN rfl (bx (cs:=[_,_]) jq ew rfl (by exact hk.whole)) (cD (v:=.bool _) rfl) ?_));exact ⟨rfl,hB⟩
end Go.Proofs.YtaohnmneccbljaaGreatDoor
namespace Go.Proofs.YtaohnmneccbljaaGreatDoor
open Go.Proofs.Tryz (prog)
open Go.RowKit
open Go.ChangeShapes Go.WideShapes Go.ChangeAt
theorem cz:ch prog 59 0=some 0:=by kernel_rfl
theorem cW:fK prog 27=some false:=by kernel_rfl
theorem jS:aH prog 45=true:=by kernel_rfl
theorem xo (T:TypeId) (p:Nat) (cs:List Value) (U:Nat→Prop) (d:Nat) (D:List Fe) (fu:Nat) (off:Bool) (w:World) (hb:Blk w p T (.pointer (some ⟨d,0,none⟩)::cs).toArray) (ha:cP w U d D fu off) :
 Rt prog 60 [.pointer (some ⟨p,0,none⟩)] w (fun v w'=>v=.int .i64 (if off then 7 else 0)∧ag w w'):=by
 refine enter (n:=14) Tryz.func60 rfl rfl rfl (af (ab (asi rfl (ah (ae (af (ab (mvp rfl (aa (au rfl) (aa (ai cz rfl) (aa (ao cW rfl (by exact hb.rd 0 rfl)) ?_)))))))))));refine av jS (qo U d D fu off _ (ha.from_ ag.rfl_)) ?_;rintro v10 w1 ⟨⟨A10,c10,n10,rfl,hn10,ho10⟩,E10⟩;refine mvt rfl (aa (ar rfl rfl) (aa (ar rfl rfl) (ass rfl (asi rfl (ah (ae (af (ab (mvi rfl (asi rfl (ah (ae (aC ?_)))))))))))));refine bz (v:=.int _ _) rfl rfl (⟨rfl,(ag.rfl_.next E10)⟩)
end Go.Proofs.YtaohnmneccbljaaGreatDoor
namespace Go.Proofs.YtaohnmneccbljaaGreatDoor
open Go.Proofs.Tryz (prog)
open Go.RowKit
open Go.ChangeShapes Go.WideShapes Go.ChangeAt
open Go.Lib
theorem mD:aH prog 66=true:=by kernel_rfl
theorem mE:aH prog 65=true:=by kernel_rfl
theorem bR:ch prog 59 2=some 2:=by kernel_rfl
theorem xN {s t:ByteArray}:s.toList=t.toList↔s=t:=⟨fun h=>by
 rw [Lib.toList_data,Lib.toList_data] at h;exact ByteArray.ext (Array.ext' h),fun h=>by rw [h]⟩
theorem kE {w:World} {base n c:Nat} {A:Option Addr} {D:List Fe} (h:w.ownsRow base 9 1 (.slice A n c) n (D.map fun e=>Value.string e.1)):n=(D.map (·.1)).length∧d_ Value.string w A (D.map (·.1)):=by
 have:(D.map fun e=>Value.string e.1)=(D.map (·.1)).map Value.string:=by rw [List.map_map];rfl
 rw [this] at h;exact d_.own h
theorem xD {g:Nat} (_:g<100):aX g 0≠aX g 1:=fun e=>by
 have h1:=congrArg (fun s=>s.data.toList) e;unfold aX dig at h1;simp only [Go.Joins.data_append] at h1;have h2:=List.append_cancel_left h1;simp only [uF (show 0<100 by decide),uF (show 1<100 by decide)] at h2;exact absurd h2 (by decide)
theorem xS (A:Option Addr) (c n:Nat) (L:List ByteArray) (v:ByteArray) (w:World) (hr:d_ Value.string w A L) (hn:n=L.length) (hl:n≤1000000) (hno:∀ s∈L,s≠v) :
 Rt prog 66 [.slice A n c,.string v] w (fun r w'=>r=.int .i64 (-1)∧w=w'):=by
 subst hn;refine enter (n:=19) Tryz.func66 rfl rfl rfl (af (ab (asi rfl (ah (ae (af (af (ab (mvs rfl (aa (bb ia rfl) (mvi rfl (ah (ae (aP (cH (G:=Nat) [4,5,9,10,11,12,13,14,15,16,17,18] (fun i=>[(8,.int .i64 (i:Nat))]) (fun i w'=>i≤L.length∧w=w') (fun i=>L.length-i) (0) ⟨rfl,trivial⟩ ?_ ?_)))))))))))))))
 ·exact ⟨Nat.zero_le _,rfl⟩
 rintro i ρ1 w1 ⟨hi,rfl⟩;refine af (ab (aa (cl rfl rfl) (ah (ae (af (BM rfl (fun Q2=>?_) (fun Q2=>?_)))))))
 ·have hil:i<L.length:=by omega
  obtain ⟨ba,oa,rfl,hca⟩:=hr (by omega);have hne:=hno _ (List.getElem_mem hil);refine aE (ae (af (aP (af (ab (mvi rfl (asi rfl (ah (ae (af (ab (mvg rfl (mvs rfl (mvi rfl (aa (dM fQ rfl rfl (by omega)) (aa (ao bY rfl (by exact hca i hil)) ?_))))))))))))))));refine aa (bh (iW rfl rfl) (by rw [beq_eq_false_iff_ne];exact fun e=>hne (xN.1 e).symm)) ?_;refine ah (ae (aI rfl (aE (bI (ae (ab (aa (cf (b:=1) rfl rfl (by omega)) (mvi rfl (ah ?_)))))))));refine bW (i+1) ⟨(by first | rfl | (refine bD ?_;omega)),trivial⟩ (by (iterate 24 refine bg rfl ?_);exact bw) ⟨?_,?_⟩
  ·exact ⟨by omega,rfl⟩
  ·show L.length-(i+1)<L.length-i;omega
 refine cx (bc (bc (bX (ae (af (ab (asi rfl (ah (ae (aC (bz (v:=.int _ _) rfl rfl (⟨rfl,rfl⟩))))))))))))
theorem my (A:Option Addr) (c n:Nat) (L:List ByteArray) (v:ByteArray) (w:World) (hr:d_ Value.string w A L) (hn:n=L.length) (hl:n≤1000000) (hno:∀ s∈L,s≠v) :
 Rt prog 47 [.slice A n c,.string v] w (fun r w'=>r=.bool false∧w=w'):=by
 refine enter (n:=9) Tryz.func47 rfl rfl rfl (af (ab (asb rfl (ah (ae (af (ab (mvs rfl (mvg rfl (av mD (xS A c n L v _ hr hn hl hno) ?_))))))))));rintro v7 w1 ⟨rfl,rfl⟩;refine aa (bh (gQ rfl rfl) rfl) (asb rfl (ah (ae (aC (bz (v:=.bool _) rfl rfl (⟨rfl,rfl⟩))))))
theorem vE (A:Option Addr) (c:Nat) (v:ByteArray) (w:World) (hr:d_ Value.string w A [v]) :
 Rt prog 66 [.slice A 1 c,.string v] w (fun r w'=>r=.int .i64 0∧w=w'):=by
 obtain ⟨ba,oa,rfl,hca⟩:=hr Nat.zero_lt_one;have hc0:=hca 0 Nat.zero_lt_one;refine enter (n:=19) Tryz.func66 rfl rfl rfl (af (ab (asi rfl (ah (ae (af (af (ab (mvs rfl (aa (bb ia rfl) (mvi rfl (ah (ae (aP (cH (G:=Nat) [4,5,9,10,11,12,13,14,15,16,17,18] (fun i=>[(8,.int .i64 (i:Nat))]) (fun i w'=>i=0∧w=w') (fun i=>0) (0) ⟨rfl,trivial⟩ ?_ ?_)))))))))))))))
 ·exact ⟨rfl,rfl⟩
 rintro i ρ1 w1 ⟨hi,rfl⟩;refine af (ab (aa (cU (cl rfl rfl) (by subst hi;rfl)) ?_));refine ah (ae (af (aY rfl (aE (ae (af (aP (af (ab (mvi rfl (asi rfl (ah (ae (af (ab (mvg rfl (mvs rfl (mvi rfl ?_))))))))))))))))));refine aa (dM fQ rfl rfl (by omega)) (aa (ao (v:=.string v) bY rfl (by subst hi;exact hc0)) ?_);refine aa (cU (iW rfl rfl) (beq_self_eq_true _)) (ah (ae (aY rfl (af (ab (mvi rfl (asi rfl (ah (ae (aC (aW (aF (aF (aW (aF (bz (v:=.int _ _) rfl rfl ?_))))))))))))))));subst hi;exact ⟨rfl,rfl⟩
theorem qz (A:Option Addr) (c n:Nat) (L:List ByteArray) (v:ByteArray) (w:World) (hL:L=[v]) (hr:d_ Value.string w A L) (hn:n=L.length) :
 Rt prog 47 [.slice A n c,.string v] w (fun r w'=>r=.bool true∧w=w'):=by
 subst hL;subst hn;refine enter (n:=9) Tryz.func47 rfl rfl rfl (af (ab (asb rfl (ah (ae (af (ab (mvs rfl (mvg rfl (av mD (vE A c v _ hr) ?_))))))))));rintro v7 w1 ⟨rfl,rfl⟩;refine aa (cU (gQ rfl rfl) rfl) (asb rfl (ah (ae (aC (bz (v:=.bool _) rfl rfl (⟨rfl,rfl⟩))))))
theorem ml (A:Option Addr) (c n g:Nat) (L:List ByteArray) (w:World) (hr:d_ Value.string w A L) (hn:n=L.length) (hl:n≤1000000) (hg:g<100) (hall:∀ s∈L,s=aX g 0) :
 Rt prog 46 [.slice A n c] w (fun v w'=>v=.int .i64 ((if L.length=0 then 0 else g:Nat):Int)∧ag w w'):=by
 subst hn;refine enter (n:=31) Tryz.func46 rfl rfl rfl (af (ab (asi rfl (ah (ae (af (ab (asi rfl (ah (ae (af (af (ab (mvs rfl (aa (bb ia rfl) (mvi rfl ?_))))))))))))))));refine ah (ae (aP (cH (G:=Nat) [5,6,7,11,12,13,14,15,16,17,18,19,20,21,22,23,24,25,26,27,28,29] (fun i=>[(3,.int .i64 ((if i=0 then 0 else g:Nat):Int)),(10,.int .i64 (i:Nat))]) (fun i w'=>i≤L.length∧ag w w') (fun i=>L.length-i) (0) ⟨rfl,rfl,trivial⟩ ?_ ?_)))
 ·exact ⟨Nat.zero_le _,ag.rfl_⟩
 rintro i ρ1 w1 ⟨hi,hB⟩;refine af (ab (aa (cl rfl rfl) (ah (ae (af (BM rfl (fun Q2=>?_) (fun Q2=>?_)))))))
 ·have hil:i<L.length:=by omega
  obtain ⟨ba,oa,hAe,hca⟩:=hr (by omega);subst hAe;have hLi:=hall _ (List.getElem_mem hil);have hce:=hca i hil;rw [hLi] at hce;refine aE (ae (af (aP (af (ab (aa (dM fQ rfl rfl (by omega)) (aa (ao (v:=.string (aX g 0)) bY rfl (Ct hB hce)) (asg rfl (ah (ae (af (ab (mvg rfl (av mE (nF g _ hg) ?_))))))))))))));rintro v16 w3 ⟨rfl,E16⟩;refine mvt rfl (aa (ar rfl rfl) (aa (ar rfl rfl) (aZ gD ?_)));intro b6 w4 E6 hb6 hk6;refine aV (vs:=[_,_]) ew rfl rfl (by simp [Value.oneCell']) (hk6) rfl ?_;intro w5 O5 P5;refine asb rfl (ah (ae (af (ab (mvb rfl (mvb rfl (ak rfl (aa (ai fT rfl) (ak rfl (aa (ao aD rfl (by exact P5.rd 1 rfl)) ?_))))))))));refine ak rfl (aa (cU (a7 rfl rfl) rfl) (aa (aO (v:=.bool _) rfl rfl) (ah (ae (aY rfl (ab (mvi rfl (aa (ai iC rfl) (aa (ao aD rfl (by exact P5.rd 0 rfl)) ?_)))))))));refine aa (p_ rfl rfl) (asi rfl (ah (bI (ae (ab (aa (cf (b:=1) rfl rfl (by omega)) (mvi rfl (ah ?_))))))));refine bW (i+1) ⟨(bD (by rw [if_neg (Nat.succ_ne_zero i)];split <;> omega)),(by first | rfl | (refine bD ?_;omega)),trivial⟩ (by (iterate 48 refine bg rfl ?_);exact bw) ⟨?_,?_⟩
  ·exact ⟨by omega,(((hB.next E16).next E6).only O5 ((by rw [hb6];exact (hB.next E16).size)))⟩
  ·show L.length-(i+1)<L.length-i;omega
 refine cx (bc (bc (bX (ae (af (ab (mvi rfl (asi rfl (ah (ae (aC (bz (v:=.int _ _) rfl rfl ?_))))))))))));obtain rfl:i=L.length:=by omega
 exact ⟨rfl,hB⟩
theorem nE (T:TypeId) (p:Nat) (d:Option Addr) (la:Int) (cs:List Value) (A:Option Addr) (c n g:Nat) (L:List ByteArray) (w:World) (hr:d_ Value.string w A L) (hn:n=L.length) (hl:n≤1000000) (hg:g<100) (hall:∀ s∈L,s=aX g 0) (hla:0<L.length→la=0) (hb:Blk w p T (.pointer d::.int .i64 ((g:Nat):Int)::.int .i64 la::cs).toArray) :
 Rt prog 52 [.pointer (some ⟨p,0,none⟩),.slice A n c] w (fun v w'=>v=.int .i64 0∧ag w w'):=by
 subst hn;refine enter (n:=65) Tryz.func52 rfl rfl rfl (af (ab (asi rfl (ah (ae (af (af (ab (mvs rfl (aa (bb ia rfl) (mvi rfl (ah (ae (aP (cH (G:=Nat) [4,6,7,8,9,10,14,15,16,17,18,19,20,21,22,23,24,25,26,27,28,29,30,31,32,33,34,35,36,37,38,39,40,41,42,43,44,45,46,47,48,49,50,51,52,53,54,55,56,57,58,59,60,61,62,63,64] (fun i=>[(13,.int .i64 (i:Nat))]) (fun i w'=>i≤L.length∧ag w w') (fun i=>L.length-i) (0) ⟨rfl,trivial⟩ ?_ ?_)))))))))))))))
 ·exact ⟨Nat.zero_le _,ag.rfl_⟩
 rintro i ρ1 w1 ⟨hi,hB⟩;refine af (ab (aa (cl rfl rfl) (ah (ae (af (BM rfl (fun Q2=>?_) (fun Q2=>?_)))))))
 ·have hil:i<L.length:=by omega
  obtain ⟨ba,oa,hAe,hca⟩:=hr (by omega);subst hAe;have hLi:=hall _ (List.getElem_mem hil);have hce:=hca i hil;rw [hLi] at hce;obtain rfl:la=0:=hla (by omega);refine aE (ae (af (aP (af (ab (aa (dM fQ rfl rfl (by omega)) (aa (ao (v:=.string (aX g 0)) bY rfl (Ct hB hce)) (asg rfl (ah (ae (af (ab (mvg rfl (av mE (nF g _ hg) ?_))))))))))))));rintro v19 w3 ⟨rfl,E19⟩;refine mvt rfl (aa (ar rfl rfl) (aa (ar rfl rfl) (aZ gD ?_)));intro b7 w4 E7 hb7 hk7;refine aV (vs:=[_,_]) ew rfl rfl (by simp [Value.oneCell']) (hk7) rfl ?_;intro w5 O4 P4;refine asb rfl (ah (ae (af ?_)));apply bO 25 [(22,eqp _),(23,eqp _),(24,eqp _),(25,eqp _),(26,eqp _),(27,eqp _),(28,eqp _),(29,eqp _),(30,eqp _),(31,eqp _),(32,eqp _),(33,eqp _),(34,eqp _),(35,eqp _),(36,eqp _),(37,eqp _),(38,eqp _),(39,eqp _),(40,eqp _),(41,eqp _),(42,eqp _),(43,eqp _),(44,eqp _),(45,eqp _),(9,eqp _)] (by repeat first | exact cr | refine cq ?_ | refine bU ?_) (by kernel_rfl) (by kernel_rfl) ⟨aj _,aj _,aj _,aj _,aj _,aj _,aj _,aj _,aj _,aj _,aj _,aj _,aj _,aj _,aj _,aj _,aj _,aj _,aj _,aj _,aj _,aj _,aj _,aj _,aj _,trivial⟩
  case hop=>
   constructor
   ·rintro-w7 D7;exact an (aB (v:=.bool _) rfl) rfl
   constructor
   ·rintro-w8 D8;rintro _ rfl;exact an (aB (v:=.bool _) rfl) rfl
   constructor
   ·rintro-w9 D9;rintro _ rfl;exact aL rfl (ai iC rfl) rfl
   constructor
   ·rintro-w10 D10;rintro _ rfl _ rfl;exact aL rfl (ao aD rfl (by exact (P4.from_ (ag.rfl_.next D10)).rd 0 rfl)) rfl
   constructor
   ·rintro-w11 D11;rintro _ rfl;exact aL rfl (aB (v:=.pointer _) rfl) rfl
   constructor
   ·rintro-w12 D12;rintro _ rfl _ rfl;exact aL rfl (au rfl) rfl
   constructor
   ·rintro-w13 D13;rintro _ rfl _ rfl;exact aL rfl (ai jr rfl) rfl
   constructor
   ·rintro-w14 D14;rintro _ rfl _ rfl;exact aL rfl (ao aD rfl (by exact (hb.from_ ((((hB.next E19).next E7).only O4 ((by rw [hb7];exact (hB.next E19).size))).next D14)).rd 1 rfl)) rfl
   constructor
   ·rintro-w15 D15;rintro _ rfl _ rfl _ rfl;exact aL rfl (cU (a7 rfl rfl) (beq_self_eq_true _)) rfl
   constructor
   ·rintro-w16 D16;rintro _ rfl _ rfl;exact an (aO (v:=.bool _) rfl rfl) rfl
   constructor
   ·rintro-w17 D17;rintro _ rfl;exact an (aB (v:=.bool _) rfl) rfl
   constructor
   ·rintro-w18 D18;rintro _ rfl;exact aL rfl (ai fT rfl) rfl
   constructor
   ·rintro-w19 D19;rintro _ rfl _ rfl;exact aL rfl (ao aD rfl (by exact (P4.from_ (ag.rfl_.next D19)).rd 1 rfl)) rfl
   constructor
   ·rintro-w20 D20;rintro _ rfl _ rfl;exact aL rfl (cU (gQ rfl rfl) rfl) rfl
   constructor
   ·rintro-w21 D21;rintro _ rfl _ rfl;exact an (aO (v:=.bool _) rfl rfl) rfl
   constructor
   ·rintro-w22 D22;rintro _ rfl;exact an (aB (v:=.bool _) rfl) rfl
   constructor
   ·rintro-w23 D23;rintro _ rfl;exact aL rfl (ai fT rfl) rfl
   constructor
   ·rintro-w24 D24;rintro _ rfl _ rfl;exact aL rfl (ao aD rfl (by exact (P4.from_ (ag.rfl_.next D24)).rd 1 rfl)) rfl
   constructor
   ·rintro-w25 D25;rintro _ rfl;exact aL rfl (aB (v:=.pointer _) rfl) rfl
   constructor
   ·rintro-w26 D26;rintro _ rfl _ rfl;exact aL rfl (au rfl) rfl
   constructor
   ·rintro-w27 D27;rintro _ rfl _ rfl;exact aL rfl (ai bR rfl) rfl
   constructor
   ·rintro-w28 D28;rintro _ rfl _ rfl;exact aL rfl (ao aD rfl (by exact (hb.from_ ((((hB.next E19).next E7).only O4 ((by rw [hb7];exact (hB.next E19).size))).next D28)).rd 2 rfl)) rfl
   constructor
   ·rintro-w29 D29;rintro _ rfl _ rfl _ rfl;exact aL rfl (cU (kC rfl rfl) rfl) rfl
   constructor
   ·rintro-w30 D30;rintro _ rfl _ rfl;exact an (aO (v:=.bool _) rfl rfl) rfl
   constructor
   ·rintro-w31 D31;rintro _ rfl;exact an (bn (v:=.bool _) rfl) rfl
   exact trivial
  case hend=>
   intro w32 D32;rintro _ rfl _ rfl _ rfl _ rfl _ rfl _ rfl _ rfl _ rfl _ rfl _ rfl _ rfl _ rfl _ rfl _ rfl _ rfl _ rfl _ rfl _ rfl _ rfl _ rfl _ rfl _ rfl _ rfl _ rfl _ rfl;show St ..;refine ah (ae (af (af (ab (mvb rfl (mvb rfl (aA rfl rfl (aA rfl rfl (aA rfl rfl (dC rfl (dC rfl (aA rfl rfl ?_))))))))))));refine aa (aO (v:=.bool _) rfl rfl) (ah (ae (aY rfl (cx (bc (bX (ae (ab (aa (cf (b:=1) rfl rfl (by omega)) (mvi rfl (ah ?_)))))))))));refine bW (i+1) ⟨(by first | rfl | (refine bD ?_;omega)),trivial⟩ (by (iterate 105 refine bg rfl ?_);exact bw) ⟨?_,?_⟩
   ·exact ⟨by omega,((((hB.next E19).next E7).only O4 ((by rw [hb7];exact (hB.next E19).size))).next D32)⟩
   ·show L.length-(i+1)<L.length-i;omega
 refine cx (bc (bc (bX (ae (af (ab (asi rfl (ah (ae (aC (bz (v:=.int _ _) rfl rfl (⟨rfl,hB⟩))))))))))))
theorem oy:aH prog 46=true:=by kernel_rfl
theorem jo:aH prog 23=true:=by kernel_rfl
theorem eN:aH prog 48=true:=by kernel_rfl
theorem ox:aH prog 47=true:=by kernel_rfl
theorem ow:aH prog 52=true:=by kernel_rfl
def sG (g:Nat):BitVec 32:=BitVec.ofNat 32 g
theorem wV {g:Nat} (h:g<100):(sG g).toNat=g:=by
 unfold sG;rw [BitVec.toNat_ofNat];omega
theorem uX (A:Option Addr) (c n:Nat) (L:List ByteArray) (w:World) (hL:L=[]) (hr:d_ Value.string w A L) (hn:n=L.length):Rt prog 46 [.slice A n c] w fun v w'=>v=.int .i64 0∧ag w w':=by
 subst hL;exact ml A c n 0 [] w hr hn (by simp at hn;omega) (by decide) (fun s hs=>by cases hs)
theorem uW (A:Option Addr) (c n g:Nat) (L:List ByteArray) (w:World) (hg:g<100) (hL:L=[aX g 0]) (hr:d_ Value.string w A L) (hn:n=L.length):Rt prog 46 [.slice A n c] w fun v w'=>v=.int .i64 ((g:Nat):Int)∧ag w w':=by
 subst hL;exact ml A c n g [aX g 0] w hr hn (by simp at hn;omega) hg (fun s hs=>List.mem_singleton.1 hs)
theorem tz (A:Option Addr) (c n g q:Nat) (L:List ByteArray) (w:World) (hL:L=[aX g 0]) (hr:d_ Value.string w A L) (hn:n=L.length) (hg:g<100) (hq:q≤1):Rt prog 47 [.slice A n c,.string (aX g q)] w fun r w'=>r=.bool (decide (q=0))∧w=w':=by
 rcases Nat.lt_or_ge q 1 with h | h
 ·obtain rfl:q=0:=by omega
  exact qz A c n L _ w hL hr hn
 ·obtain rfl:q=1:=by omega
  refine my A c n L _ w hr hn (by rw [hn,hL];simp) (fun s hs=>?_);rw [hL] at hs;rw [List.mem_singleton.1 hs];exact xD hg
theorem AS {D:List Fe} {nm:ByteArray} {x y:List Nat} (hD:D=[(nm,x,y)]) (ok:okN nm=true):iK D false nm=0∧iq D false nm=x:=by
 subst hD
 have h:iK [(nm,x,y)] false nm=0:=by
  unfold iK gv;rw [ok];simp
 refine ⟨h,?_⟩;unfold iq;rw [h,if_pos rfl];unfold eB;simp
theorem xl (U:Nat→Prop) (D:List Fe) (d p rb wb g0 su0:Nat) (la0 sz0 to0:Int) (ok:Bool) (w:World) (hd:cP w U d D 0 false) (hP:Blk w p 62 (wlV (some ⟨d,0,none⟩) g0 la0 sz0 to0 su0 0 0 none 0 0 ok).toArray) (hD:D=[]) :
 Rt prog 24 [.pointer (some ⟨p,0,none⟩),.func (.func 25) #[] #[.pointer (some ⟨rb,0,none⟩),.pointer (some ⟨wb,0,none⟩)]] w (fun v w'=>v=.int .i64 0∧Blk w' p 62 (wlV (some ⟨d,0,none⟩) 0 (-1) 0 0 0 0 0 none 0 0 ok).toArray∧Chg (fun k=>k=p) w w'):=by
 refine enter (n:=94) Tryz.func24 rfl rfl rfl (af (ab (asi rfl (ah (ae (af (ab (mvp rfl (aa (au rfl) (aa (ai cz rfl) (aa (ao cW rfl (by exact (hP.from_ ag.rfl_).rd 0 rfl)) ?_)))))))))));refine av jS (qo U d D 0 false _ (hd.from_ ag.rfl_)) ?_;rintro v14 w1 ⟨⟨A14,c14,n14,rfl,hn14,ho14⟩,E14⟩;have hN:=kE (D:=if false=true then [] else D) ho14;have hL0:((if false=true then [] else D).map (·.1))=[]:=by rw [hD];rfl
 refine mvt rfl (aa (ar rfl rfl) (aa (ar rfl rfl) (ass rfl (asi rfl (ah (ae (af (af (ab (mvi rfl (aa (bh (cv rfl rfl) rfl) (ah (ae ?_)))))))))))));refine aI rfl (aE (ae (af ?_)));apply lA 9 [(20,eqp _),(21,eqp _),(22,eqp _),(23,eqp _),(24,eqp _),(25,eqp _),(26,eqp _),(27,eqp _),(28,eqp _)] (by kernel_rfl) (by kernel_rfl) ⟨aj _,aj _,aj _,aj _,aj _,aj _,aj _,aj _,aj _,trivial⟩
 case hop=>
  constructor
  ·intro w3 D3;exact an (aB (v:=.pointer _) rfl) rfl
  constructor
  ·intro w4 D4;exact an (aB (v:=.pointer _) rfl) rfl
  constructor
  ·intro w5 D5;rintro _ rfl;exact an (au rfl) rfl
  constructor
  ·intro w6 D6;rintro _ rfl;exact an (ai cz rfl) rfl
  constructor
  ·intro w7 D7;rintro _ rfl;exact an (ao cW rfl (by exact (hP.from_ ((ag.rfl_.next E14).next D7)).rd 0 rfl)) rfl
  constructor
  ·intro w8 D8;exact an (aB (v:=.slice _ _ _) rfl) rfl
  constructor
  ·intro w9 D9;rintro _ rfl;refine cX oy ((uX A14 c14 n14 _ _ hL0 (hN.2.from_ (ag.rfl_.next D9)) hN.1).mono ?_);rintro v _ ⟨rfl,E9'⟩;exact ⟨E9',rfl⟩
  constructor
  ·intro w10 D10;rintro _ rfl _ rfl;refine cX jo ((ir (some ⟨d,0,none⟩) 0 _ (by decide)).mono ?_);rintro v _ ⟨rfl,E10'⟩;exact ⟨E10',rfl⟩
  constructor
  ·intro w11 D11;rintro _ rfl;exact an (au rfl) rfl
  exact trivial
 case hend=>
  intro w12 D12;rintro _ rfl _ rfl _ rfl _ rfl _ rfl _ rfl _ rfl _ rfl _ rfl;show St ..;have hM4:ag _ w12:=(ag.rfl_.next D12);refine ik (vs:=wfV (some ⟨d,0,none⟩) 0 (-1) 0 0 0) (i:=0) (cs:=wlV (some ⟨d,0,none⟩) g0 la0 sz0 to0 su0 0 0 none 0 0 ok) gY rfl rfl (by simp [wfV,Value.oneCell']) (hP.from_ ((ag.rfl_.next E14).next D12)) (by show 0+6≤10;decide) ?_;intro w13 O4 P4;have hFp4:ag w _:=((ag.rfl_.next E14).next D12);have P4b:Blk w13 p 62 (wlV (some ⟨d,0,none⟩) 0 (-1) 0 0 0 0 0 none 0 0 ok).toArray:=P4;have hC4:Chg (fun k=>k=p) w w13:=hFp4.toChg.next (O4.toChg rfl);have hN4:d_ Value.string w13 A14 ((if false=true then [] else D).map (·.1)):=by rw [hL0];exact fun h=>absurd h (by simp)
  refine ah (ae (af (aP (cH (G:=Nat) (4::7::8::29::30::31::32::33::34::35::36::37::38::39::40::41::42::43::44::45::46::47::48::49::50::51::52::53::54::55::56::57::58::59::60::61::62::63::64::65::66::67::68::69::70::71::72::73::74::75::76::77::78::79::80::81::82::83::84::85::86::87::88::89::90::[]) (fun _=>[(6,.int .i64 0)]) (fun _ w'=>w13=w') (fun _=>0) (0) ⟨rfl,trivial⟩ ?_ ?_))))
  ·rfl
  rintro q ρ14 w14 rfl;refine af (af (ab (mvs rfl (mvp rfl (mvp rfl (aa (au rfl) (aa (ai bR rfl) (aa (ao aD rfl (by exact (P4b.from_ ag.rfl_).rd 2 rfl)) ?_))))))));refine aa (bH (br rfl rfl (by decide)) (congrArg (Value.int .i64) (show (-1:Int)+1=((0:Nat):Int) from rfl))) (av eN (er 62 p 0 0 _ _ _ (P4b.from_ ag.rfl_) (by decide) (by decide)) ?_);rintro v36 w15 ⟨rfl,E36⟩;refine av ox (my A14 c14 n14 _ _ _ (hN4.from_ (ag.rfl_.next E36)) hN.1 (by rw [hN.1,hL0];decide) (by rw [hL0];intro s hs;cases hs)) ?_;rintro v37 w16 ⟨rfl,rfl⟩;refine ah (ae (aI rfl (cx (bc (bc (bX (ae (af (ab (mvp rfl (mvs rfl (av ow (nE 62 p (some ⟨d,0,none⟩) (-1) _ A14 c14 n14 0 _ _ (hN4.from_ (ag.rfl_.next E36)) hN.1 (by rw [hN.1,hL0];decide) (by decide) (by rw [hL0];intro s hs;cases hs) (by rw [hL0];intro h;cases h) (P4b.from_ (ag.rfl_.next E36))) ?_))))))))))));rintro v93 w17 ⟨rfl,E93⟩;refine asi rfl (ah (ae (aC (bz (v:=.int _ _) rfl rfl (⟨rfl,P4b.from_ ((ag.rfl_.next E36).next E93),hC4.next (((ag.rfl_.next E36).next E93)).toChg⟩)))))
end Go.Proofs.YtaohnmneccbljaaGreatDoor
