/- The law ShelfSearches. -/
import Derived.Test.YtcbakncjacnnjaaGreatSlShLawM7
import Derived.HandedShaped
set_option maxRecDepth 100000
set_option maxHeartbeats 4000000
namespace Go.Proofs.YtcbakncjacnnjaaGreat
open Go.Proofs.Tryz (prog)
open Go.RowKit
open Go.ChangeShapes Go.WideShapes Go.ChangeAt
theorem mb:(dh prog 119).isSome=true:=by kernel_rfl
theorem mc:dh prog 119=some (22,1):=by kernel_rfl
theorem wy:aH prog 154=true:=by kernel_rfl
theorem wA:aH prog 117=true:=by kernel_rfl
theorem wz:aH prog 118=true:=by kernel_rfl
def u6 (w:World) (A:Option Addr) (Ls:List (List Dc)):Prop:=0<Ls.length→∃ b o,A=some ⟨b,o,none⟩∧∀ i (h:i<Ls.length),∃ Ai ci,w.cell? ⟨b,o+i,none⟩=some (.slice Ai Ls[i].length ci)∧cL 2 dV w Ai Ls[i]∧(Ai=none→ci=0)
theorem u6.from_ {w w':World} {A:Option Addr} {Ls:List (List Dc)} (h:u6 w A Ls) (hF:aj w w'):u6 w' A Ls:=fun h0=>by
 obtain ⟨b,o,e,hc⟩:=h h0;refine ⟨b,o,e,fun i hi=>?_⟩;obtain ⟨Ai,ci,h1,h2,h3⟩:=hc i hi;exact ⟨Ai,ci,br hF h1,h2.from_ hF,h3⟩
theorem BM {α:Type} {Ls:List (List α)} {i:Nat} (h:i<Ls.length):(Ls.take (i+1)).flatten=(Ls.take i).flatten++Ls[i]:=by
 rw [List.take_succ_eq_append_getElem h,List.flatten_append,List.flatten_cons,List.flatten_nil,List.append_nil]
theorem zL {α:Type} {Ls:List (List α)} {i:Nat} (h:i<Ls.length):(Ls.take (i+1)).flatten.length=(Ls.take i).flatten.length+Ls[i].length:=by rw [BM h,List.length_append]
theorem F6 {α:Type} {Ls:List (List α)} (i:Nat):(Ls.take i).flatten.length≤Ls.flatten.length:=by
 have e:Ls.flatten=(Ls.take i).flatten++(Ls.drop i).flatten:=by rw [←List.flatten_append,List.take_append_drop]
 rw [e,List.length_append];omega
theorem Iy (m:Nat) (w:World) (hm:m≤100000000) :
 Rt prog 154 [.slice none 0 0,.int .i64 (m:Nat)] w (fun v w'=>(∃ A' c',v=.slice A' 0 c'∧w'.ownsRow w.heap.size 37 2 (.slice A' 0 c') 0 [])∧aj w w'):=by
 refine enter (n:=27) Tryz.func154 rfl rfl rfl (ag (aa (ass rfl (ah (ab (ag (ag (aa (mvi rfl (ae (aX rfl rfl) (ah (ab (Li rfl (fun Q1=>?_) (fun Q1=>?_))))))))))))))
 ·exfalso;omega
 refine au (ab (ag (ag (aa (mvi rfl (mvs rfl (ae (sw bx rfl) (mvs rfl (ae (aS bx rfl) (ae (ck (a:=0) (b:=0) rfl rfl (by omega)) (ae (ck (a:=m) (b:=0-0) rfl rfl (by omega)) (asi rfl ?_))))))))))));refine ah (ab (ag (aa (mvi rfl (ae (bU rfl rfl) (ah (ab (Li rfl (fun Q6=>?_) (fun Q6=>?_)))))))))
 ·refine aa (mvs rfl (mvs rfl (ae (sw bx rfl) (ae (eR (v':=.slice none 0 0) (bu (l:=0) (h:=0) aO rfl (.inl ⟨rfl,rfl⟩) (.inr ⟨_,_,_,rfl,rfl,rfl⟩) (by omega) (by omega)) (by simp [ib])) ?_))));refine mvi rfl (n_ (kn:=.i64) (olds:=[]) dr (by kernel_rfl) rfl (by decide) rfl rfl rfl (fun h=>absurd h (by simp)) (by omega) (by omega) (by unfold maxLen;omega) (by omega) (Nat.le_refl _) ?_);intro g22 c22 w7 cur22 hg22 E22 hb22 hc22 hc22m hcl22 hct22;have hgw:w.heap.size≤g22:=by rw [hg22];exact (aj.rfl_).size
  refine mvs rfl (ae (aS bx rfl) (ae (eR (v':=.slice (some ⟨g22,0,none⟩) 0 c22) (bu (l:=0) (h:=0) aO rfl (.inl ⟨rfl,rfl⟩) (.inr ⟨_,_,_,rfl,rfl,rfl⟩) (by omega) (by omega)) (by rw [cP,Nat.sub_zero,Nat.sub_zero])) ?_));refine ass rfl (ah (ab (ag (aa (mvs rfl (ass rfl (ah (ab (ay (bE (v:=.slice _ _ _) rfl rfl ?_))))))))))
  first
   |exact ⟨⟨some ⟨g22,0,none⟩,c22,rfl,ic hgw hb22 (Nat.zero_le _) hc22m hcl22 rfl⟩,(aj.rfl_.next E22)⟩
   |exact ⟨⟨none,0,rfl,World.ownsRow_nil _ _ _ _⟩,(aj.rfl_.next E22)⟩
 refine au (ab (ag (aa (mvs rfl (ass rfl (ah (ab (ay (bE (v:=.slice _ _ _) rfl rfl ?_)))))))))
 first
  |exact ⟨⟨some ⟨g22,0,none⟩,c22,rfl,ic hgw hb22 (Nat.zero_le _) hc22m hcl22 rfl⟩,aj.rfl_⟩
  |exact ⟨⟨none,0,rfl,World.ownsRow_nil _ _ _ _⟩,aj.rfl_⟩
theorem Do (A:Option Addr) (c n:Nat) (Ls:List (List Dc)) (w:World) (hr:u6 w A Ls) (hn:n=Ls.length) (hl:n≤100000000) (hf:Ls.flatten.length≤100000000) :
 Rt prog 117 [.slice A n c] w (fun v w'=>(∃ A' c',v=.slice A' Ls.flatten.length c'∧w'.ownsRow w.heap.size 37 2 (.slice A' Ls.flatten.length c') Ls.flatten.length (Ls.flatten.flatMap dV))∧aj w w'):=by
 refine enter (n:=36) Tryz.func117 rfl rfl rfl (ag (aa (ass rfl (ah (ab (ag (aa (asi rfl (ah (ab (ag (ag (aa (mvs rfl (ae (aS mb rfl) (mvi rfl ?_))))))))))))))));refine ah (ab (az (bg (G:=Nat) [5,12,13,14,15,16,17,18,19,20,21,22] (fun i=>[(3,.int .i64 (((Ls.take i).flatten.length:Nat):Int)),(11,.int .i64 (i:Nat))]) (fun i w'=>i≤n∧aj w w') (fun i=>n-i) (0) ⟨rfl,rfl,trivial⟩ ?_ ?_)))
 ·exact ⟨Nat.zero_le _,aj.rfl_⟩
 rintro i ρ1 w1 ⟨hi,hB⟩;refine ag (aa (ae (aX rfl rfl) (ah (ab (ag (Li rfl (fun Q2=>?_) (fun Q2=>?_)))))))
 ·obtain ⟨b,o,rfl,hcs⟩:=hr (by omega);have hil:i<Ls.length:=by omega
  obtain ⟨Ai,ci,hci,hri,hni⟩:=hcs i hil;have hfl:=zL hil;have hfm:=F6 (Ls:=Ls) (i+1);refine au (ab (ag (az (ag (aa (ae (bk mc rfl rfl (by omega)) (ae (aq bK rfl (by exact br hB hci)) ?_)))))));refine ass rfl (ah (ab (ag (aa (mvi rfl (mvs rfl (ae (aS bx rfl) (ae (aJ rfl rfl (by omega)) (asi rfl (ah (ab (ag (aa (mvi rfl ?_))))))))))))));refine ae (aX rfl rfl) (ah (ab (Li rfl (fun Q3=>?_) (fun Q3=>?_))))
  ·exfalso;omega
  refine au (aN (ab (aa (ae (aJ (b:=1) rfl rfl (by omega)) (mvi rfl (ah ?_))))));refine aR (i+1) ⟨(aM (by rw [hfl])),rfl,trivial⟩ (by (iterate 27 refine aF rfl ?_);exact aK) ⟨?_,?_⟩
  ·exact ⟨by omega,hB⟩
  ·show n-(i+1)<n-i;omega
 obtain rfl:i=Ls.length:=by omega
 rw [List.take_length];refine aZ (aD (aD (aU (ab (ag (aa (mvi rfl ?_)))))));have hz24:=(hB).size;refine aA wy (Iy Ls.flatten.length _ (by omega)) ?_;rintro v24 w6 ⟨⟨A24,c24,rfl,ho24⟩,E24⟩;refine ass rfl (ah (ab (ag (ag (aa (mvs rfl (ae (aS mb rfl) (mvi rfl (ah (ab (az (bg (G:=Nat×Option Addr×Nat) [8,28,29,30,31,32,33,34] (fun (i,A6,c6)=>[(6,.slice A6 (Ls.take i).flatten.length c6),(27,.int .i64 (i:Nat))]) (fun (i,A6,c6) w'=>i≤n∧w'.ownsRow w.heap.size 37 2 (.slice A6 (Ls.take i).flatten.length c6) (Ls.take i).flatten.length (List.flatMap dV (Ls.take i).flatten)∧aj w w') (fun (i,_,_)=>n-i) ((0,A24,c24)) ⟨rfl,rfl,trivial⟩ ?_ ?_))))))))))))
 ·exact ⟨Nat.zero_le _,fu ho24 hz24,(hB.next E24)⟩
 rintro ⟨i,A6,c6⟩ ρ7 w7 ⟨hi,ho6,hB⟩;refine ag (aa (ae (aX rfl rfl) (ah (ab (ag (Li rfl (fun Q8=>?_) (fun Q8=>?_)))))))
 ·obtain ⟨b,o,rfl,hcs⟩:=hr (by omega);have hil:i<Ls.length:=by omega
  obtain ⟨Ai,ci,hci,hri,hni⟩:=hcs i hil;have hfl:=zL hil;have hfm:=F6 (Ls:=Ls) (i+1);refine au (ab (ag (az (ag (aa (ae (bk mc rfl rfl (by omega)) (ae (aq bK rfl (by exact br hB hci)) ?_)))))));refine ass rfl (ah (ab (aa (mvs rfl (mvs rfl (cZ dr rfl (by decide) rfl (A:=A6) (xs:=List.flatMap dV (Ls.take i).flatten) (news:=List.flatMap dV Ls[i]) (ho6.kept_from aj.rfl_) (hB.size) rfl (dR bI _) (fun h=>(hri.from_ hB).flat bI h) hni (nb _) (by omega) (by omega) ?_))))));intro A33 c33 w9 ho33 hg33;have HF33:=(hB).grew hg33 (fun k hk=>(b_ (ho6.kept_from aj.rfl_) k hk).1);refine ass rfl (ah (aN (ab (aa (ae (aJ (b:=1) rfl rfl (by omega)) (mvi rfl (ah ?_)))))));refine aR ((i+1,A33,c33)) ⟨(by rw [hfl];rfl),rfl,trivial⟩ (by (iterate 20 refine aF rfl ?_);exact aK) ⟨?_,?_⟩
  ·exact ⟨by omega,by rw [hfl,BM hil,List.flatMap_append];exact ho33,HF33⟩
  ·show n-(i+1)<n-i;omega
 refine aZ (aD (aD (aU (ab (ag (aa (mvs rfl (ass rfl (ah (ab (ay (bE (v:=.slice _ _ _) rfl rfl ?_))))))))))));obtain rfl:i=Ls.length:=by omega
 rw [List.take_length] at ho6;rw [List.take_length];exact ⟨⟨A6,c6,rfl,ho6⟩,hB⟩
theorem Fz (A:Option Addr) (c n:Nat) (Ls:List (List Dc)) (w:World) (hr:u6 w A Ls) (hn:n=Ls.length) (hl:n≤100000000) (hf:Ls.flatten.length≤100000000) :
 Rt prog 84 [.slice A n c] w (fun v w'=>(∃ A' c',v=.tuple #[.slice A' (mD Ls).length c',.int .i64 (mE Ls)]∧w'.ownsRow w.heap.size 37 2 (.slice A' (mD Ls).length c') (mD Ls).length (List.flatMap dV (mD Ls)))∧aj w w'):=by
 refine enter (n:=57) Tryz.func84 rfl rfl rfl (ag (aa (ass rfl (asi rfl (ah (ab (ag (ag (aa (mvs rfl (ae (aS mb rfl) (mvi rfl (ah (ab (az ?_)))))))))))))));refine bg (G:=Nat) [2,3,5,6,12,13,14,15,16,17,18,19,20,21,22,23,24,25,26,27,28,29,30,31,32,33] (fun i=>[(11,.int .i64 (i:Nat))]) (fun i w'=>i≤n∧(∀ l∈Ls.take i,SD l)∧aj w w') (fun i=>n-i) (0) ⟨rfl,trivial⟩ ?_ ?_
 ·exact ⟨Nat.zero_le _,fun l h=>by simp at h,aj.rfl_⟩
 rintro i ρ1 w1 ⟨hi,hsd,hB⟩;refine ag (aa (ae (aX rfl rfl) (ah (ab (ag (Li rfl (fun Q2=>?_) (fun Q2=>?_)))))))
 ·obtain ⟨b,o,rfl,hcs⟩:=hr (by omega);have hil:i<Ls.length:=by omega
  obtain ⟨Ai,ci,hci,hri,hni⟩:=hcs i hil;have hfl:=zL hil;have hfm:=F6 (Ls:=Ls) (i+1);have hsd0:=hsd;obtain ⟨ds,hds⟩:∃ ds,Ls[i]=ds:=⟨_,rfl⟩;rw [hds] at hci hri hfl;refine au (ab (ag (az (ag (aa (ae (bk mc rfl rfl (by omega)) (ae (aq bK rfl (by exact br hB hci)) ?_)))))));refine ass rfl (ah (ab (ag (aa (asi rfl (ah (ab (az (bg (G:=Nat) [2,3,15,16,17,18,19,20,21,22,23,24,25,26,27,28,29,30,31,32] (fun k=>[(6,.int .i64 (k:Nat))]) (fun k w'=>1≤k∧(∀ x,0<x→x<k→x<ds.length→sLt (SM.G Dz ds (x-1)).1 (SM.G Dz ds x).1)∧aj w w') (fun k=>ds.length-k) (1) ⟨rfl,trivial⟩ ?_ ?_)))))))))
  ·exact ⟨Nat.le_refl _,fun x h1 h2=>absurd h1 (by omega),hB⟩
  rintro k ρ3 w3 ⟨hk1,hok,hB⟩;refine ag (ag (aa (mvi rfl (mvs rfl (ae (aS bx rfl) (ae (aX rfl rfl) (ah (ab (Li rfl (fun Q4=>?_) (fun Q4=>?_))))))))))
  ·obtain ⟨bd,od,rfl,hcd⟩:=hri (by omega);have hcG:∀ x,x<ds.length→w.rangeAt bd (od+x*2) (dV (SM.G Dz ds x)):=fun x hx=>by rw [pK hx];exact hcd x hx
   refine au (ab (ag (az (ag ?_))));apply bH 12 [(21,eqp _),(22,eqp _),(23,eqp _),(24,eqp _),(25,eqp _),(26,eqp (.string (SM.G Dz ds (k-1)).1)),(27,eqp _),(28,eqp _),(29,eqp _),(30,eqp _),(31,eqp (.string (SM.G Dz ds k).1)),(32,eqp _)] (by repeat first | exact bT | refine bS ?_ | refine bG ?_) (by kernel_rfl) (by kernel_rfl) ⟨af _,af _,af _,af _,af _,af _,af _,af _,af _,af _,af _,af _,trivial⟩
   case hop=>
    constructor
    ·rintro-w6 D6;exact ai (ar (v:=.slice _ _ _) rfl) rfl
    constructor
    ·rintro-w7 D7;exact ai (ar (v:=.int _ _) rfl) rfl
    constructor
    ·rintro-w8 D8;rintro _ rfl;exact ai (ck (b:=1) rfl rfl (by omega)) rfl
    constructor
    ·rintro-w9 D9;rintro _ rfl _ rfl;exact ai (aG aO rfl rfl (by omega)) rfl
    constructor
    ·rintro-w10 D10;rintro _ rfl;exact ai (ak aW rfl) rfl
    constructor
    ·rintro-w11 D11;rintro _ rfl;exact ai (aq (v:=.string (SM.G Dz ds (k-1)).1) bf rfl (br (hB.next D11) (hcG (k-1) (by omega) 0 _ rfl))) rfl
    constructor
    ·rintro-w12 D12;exact ai (ar (v:=.slice _ _ _) rfl) rfl
    constructor
    ·rintro-w13 D13;exact ai (ar (v:=.int _ _) rfl) rfl
    constructor
    ·rintro-w14 D14;rintro _ rfl _ rfl;exact ai (aG aO rfl rfl (by omega)) rfl
    constructor
    ·rintro-w15 D15;rintro _ rfl;exact ai (ak aW rfl) rfl
    constructor
    ·rintro-w16 D16;rintro _ rfl;exact ai (aq (v:=.string (SM.G Dz ds k).1) bf rfl (br (hB.next D16) (hcG k (by omega) 0 _ rfl))) rfl
    constructor
    ·rintro-w17 D17;rintro v17_26 rfl v17_31 rfl;exact ai (vm rfl rfl) rfl
    exact trivial
   case hend=>
    intro w18 D18;rintro _ rfl _ rfl _ rfl _ rfl _ rfl v26 rfl _ rfl _ rfl _ rfl _ rfl v31 rfl _ rfl;show St ..;refine ah (ab (Lg rfl (fun Q19=>?_) (fun Q19=>?_)))
    ·have hnl:¬ sLt (SM.G Dz ds (k-1)).1 (SM.G Dz ds k).1:=fun h=>by
      have h9:=(jx _ _).2 h
      simp_all
     refine ag (aa (ass rfl (asi rfl (ah (ab (ay (bn (aC (aC (bn (bn (aC (aC (bn (aC (cY (v:=.slice _ _ _) (v':=.int _ _) rfl rfl rfl ?_))))))))))))))));have he:mE Ls=1:=LH (List.getElem_mem hil) (by rw [hds];exact fun h=>hnl (h.get (i:=k-1) (j:=k) (by omega) (by omega)));rw [Jb (by rw [he];decide),he];exact ⟨⟨none,0,rfl,World.ownsRow_nil _ _ _ _⟩,(hB.next D18)⟩
    have hlt:sLt (SM.G Dz ds (k-1)).1 (SM.G Dz ds k).1:=(jx _ _).1 (by simpa using Q19);refine au (aN (ab (aa (mvi rfl (ae (aJ (b:=1) rfl rfl (by omega)) (asi rfl (ah ?_)))))));refine aR (k+1) ⟨(by first | rfl | (refine aM ?_;omega)),trivial⟩ (by (iterate 40 refine aF rfl ?_);exact aK) ⟨?_,?_⟩
    ·exact ⟨by omega,fun x h1 h2 h3=>by
      rcases Nat.eq_or_lt_of_le (Nat.le_of_lt_succ h2) with e | e
      ·subst e;exact hlt
      ·exact hok x h1 e h3,(hB.next D18)⟩
    ·show ds.length-(k+1)<ds.length-k;omega
  have hsd:SD ds:=SD.near fun x h1 h2=>hok x h1 (by omega) h2
  refine aZ (aD (aD (aU (aN (ab (aa (ae (aJ (b:=1) rfl rfl (by omega)) (mvi rfl (ah ?_)))))))));refine aR (i+1) ⟨(by first | rfl | (refine aM ?_;omega)),trivial⟩ (by (iterate 59 refine aF rfl ?_);exact aK) ⟨?_,?_⟩
  ·exact ⟨by omega,fun l hl=>by
    rw [List.take_succ_eq_append_getElem hil,List.mem_append,List.mem_singleton,hds] at hl;rcases hl with e | e
    ·exact hsd0 l e
    ·rw [e];exact hsd,hB⟩
  ·show n-(i+1)<n-i;omega
 have hall:∀ l∈Ls,SD l:=fun l hl=>hsd l (by rw [List.take_of_length_le (by omega)];exact hl)
 refine aZ (aD (aD (aU (ab (ag (aa (mvs rfl ?_)))))));have hz35:=(hB).size;obtain ⟨b5,hb5⟩:∃ b,b=(w1).heap.size:=⟨_,rfl⟩;refine aA wA (Do A c n Ls _ (hr.from_ hB) hn hl hf) ?_;rintro v35 w20 ⟨⟨A35,c35,rfl,ho35⟩,E35⟩;have hz35b:=E35.size;rw [←hb5] at ho35 hz35 hz35b;refine ass rfl (ah (ab (ag (aa (mvs rfl (aA wz (Ef _ A35 c35 Ls.flatten.length Ls.flatten _ ho35 hz35b hf rfl) ?_))))));rintro v37 w21 ⟨zs,hoz,hGz,hPz,hSz⟩;have hzl:=hPz.len;refine ah (ab (ag (ag (aa (asi rfl (ah (ab (az (bg (G:=Nat) [2,3,38,39,40,41,42,43,44,45,46,47,48,49,50,51,52,53,54,55] (fun k=>[(8,.int .i64 (k:Nat))]) (fun k w'=>1≤k∧(∀ x,0<x→x<k→x<zs.length→(SM.G Dz zs (x-1)).1≠(SM.G Dz zs x).1)∧w'.ownsRow b5 37 2 (.slice A35 Ls.flatten.length c35) Ls.flatten.length (List.flatMap dV zs)∧aj w w') (fun k=>Ls.flatten.length-k) (1) ⟨rfl,trivial⟩ ?_ ?_)))))))))
 ·exact ⟨Nat.le_refl _,fun x h1 h2=>absurd h1 (by omega),hoz,(((hB.next E35)).grew hGz (fun k hk=>Nat.le_trans hz35 (b_ ho35 k hk).1))⟩
 rintro k ρ22 w22 ⟨hk1,hok,hoz,hB⟩;refine ag (ag (aa (mvi rfl (mvs rfl (ae (aS bx rfl) (ae (aX rfl rfl) (ah (ab (Li rfl (fun Q23=>?_) (fun Q23=>?_))))))))))
 ·obtain ⟨g,rfl⟩:=dF hoz (by omega);refine au (ab (ag (az (ag ?_))));apply bH 12 [(44,eqp _),(45,eqp _),(46,eqp _),(47,eqp _),(48,eqp _),(49,eqp (.string (SM.G Dz zs (k-1)).1)),(50,eqp _),(51,eqp _),(52,eqp _),(53,eqp _),(54,eqp (.string (SM.G Dz zs k).1)),(55,eqp _)] (by repeat first | exact bT | refine bS ?_ | refine bG ?_) (by kernel_rfl) (by kernel_rfl) ⟨af _,af _,af _,af _,af _,af _,af _,af _,af _,af _,af _,af _,trivial⟩
  case hop=>
   constructor
   ·rintro-w25 D25;exact ai (ar (v:=.slice _ _ _) rfl) rfl
   constructor
   ·rintro-w26 D26;exact ai (ar (v:=.int _ _) rfl) rfl
   constructor
   ·rintro-w27 D27;rintro _ rfl;exact ai (ck (b:=1) rfl rfl (by omega)) rfl
   constructor
   ·rintro-w28 D28;rintro _ rfl _ rfl;exact ai (aG aO rfl rfl (by omega)) rfl
   constructor
   ·rintro-w29 D29;rintro _ rfl;exact ai (ak aW rfl) rfl
   constructor
   ·rintro-w30 D30;rintro _ rfl;exact ai (aq (v:=.string (SM.G Dz zs (k-1)).1) bf rfl (ft bI Dz (hoz.kept_from D30) (i:=k-1) (by omega) 0 _ rfl)) rfl
   constructor
   ·rintro-w31 D31;exact ai (ar (v:=.slice _ _ _) rfl) rfl
   constructor
   ·rintro-w32 D32;exact ai (ar (v:=.int _ _) rfl) rfl
   constructor
   ·rintro-w33 D33;rintro _ rfl _ rfl;exact ai (aG aO rfl rfl (by omega)) rfl
   constructor
   ·rintro-w34 D34;rintro _ rfl;exact ai (ak aW rfl) rfl
   constructor
   ·rintro-w35 D35;rintro _ rfl;exact ai (aq (v:=.string (SM.G Dz zs k).1) bf rfl (ft bI Dz (hoz.kept_from D35) (i:=k) (by omega) 0 _ rfl)) rfl
   constructor
   ·rintro-w36 D36;rintro v36_49 rfl v36_54 rfl;exact ai (gC rfl rfl) rfl
   exact trivial
  case hend=>
   intro w37 D37;rintro _ rfl _ rfl _ rfl _ rfl _ rfl v49 rfl _ rfl _ rfl _ rfl _ rfl v54 rfl _ rfl;show St ..;replace hoz:=hoz.kept_from D37;refine ah (ab (Lh rfl (fun Q38=>?_) (fun Q38=>?_)))
   ·have heq:(SM.G Dz zs (k-1)).1=(SM.G Dz zs k).1:=by first | exact lU Q38 | exact fD.1 Q38
    refine ag (aa (ass rfl (asi rfl (ah (ab (ay (bn (aC (aC (bn (aC (cY (v:=.slice _ _ _) (v':=.int _ _) rfl rfl rfl ?_))))))))))));have he:mE Ls=4:=LG hall (fun h=>Dif.not (i:=k-1) (j:=k) (by omega) (by rw [hzl];omega) heq (h.perm hPz.perm.symm));rw [Jb (by rw [he];decide),he];exact ⟨⟨none,0,rfl,World.ownsRow_nil _ _ _ _⟩,(hB.next D37)⟩
   have hne:(SM.G Dz zs (k-1)).1≠(SM.G Dz zs k).1:=fun e=>by have:=fD.2 e;simp_all
   refine au (aN (ab (aa (mvi rfl (ae (aJ (b:=1) rfl rfl (by omega)) (asi rfl (ah ?_)))))));refine aR (k+1) ⟨(by first | rfl | (refine aM ?_;omega)),trivial⟩ (by (iterate 40 refine aF rfl ?_);exact aK) ⟨?_,?_⟩
   ·exact ⟨by omega,fun x h1 h2 h3=>by
     rcases Nat.eq_or_lt_of_le (Nat.le_of_lt_succ h2) with e | e
     ·subst e;exact hne
     ·exact hok x h1 e h3,hoz,(hB.next D37)⟩
   ·show Ls.flatten.length-(k+1)<Ls.flatten.length-k;omega
 refine aZ (aD (aD (aU (ab (ag (aa (mvs rfl (ass rfl (asi rfl (ah (ab (ay (cY (v:=.slice _ _ _) (v':=.int _ _) rfl rfl rfl ?_)))))))))))));obtain ⟨e1,e2⟩:=K3 hall (SD.of_srt (by rw [hzl];exact hSz) (fun x h1 h2=>hok x h1 (by omega) h2)) hPz.perm;rw [e1,e2];exact ⟨⟨A35,c35,by rw [hzl],by rw [hzl];exact fu hoz hz35⟩,hB⟩
end Go.Proofs.YtcbakncjacnnjaaGreat
namespace Go.Proofs.YtcbakncjacnnjaaGreat
open Go.Proofs.Tryz (prog)
open Go.RowKit
def GY (i:Int):Value:=.int .i64 i
def cls (n:Int):Nat:=if n<1 then 0 else Lib.bitLen n.toNat
theorem qD (n:Int) (w:World) (h:n≤9223372036854775807) :
 Calls prog 83 #[.int .i64 n] w fun e w'=>e=.returned (.int .i64 (cls n:Nat))∧w=w':=by
 by_cases h1:n<1
 ·go_enter Tryz.func83,Tryz.ntmps83
  go_wp2
  go_ret
  exact ⟨by unfold cls;rw [if_pos h1];rfl,rfl⟩
 ·have h0:1≤n:=by omega
  go_enter Tryz.func83,Tryz.ntmps83
  go_wp2_with (go_at_call 80;(with_reducible refine (Go.Proofs.Tryz.bits_Len _ _ (by omega) (by omega)).mono ?_);rintro e w1 ⟨rfl,rfl⟩)
  go_ret
  exact ⟨by unfold cls;rw [if_neg (by omega)];rfl,rfl⟩
def win (cs:List Nat) (i:Nat):Bool:=decide (i+4≤cs.length)&&(cs.getD (i+1) 0==cs.getD i 0)&&(cs.getD (i+2) 0==cs.getD i 0)&&(cs.getD (i+3) 0==cs.getD i 0)
def jS (cs:List Nat):Nat→Nat→Nat×Bool
 |0,_=>(0,false)
 |f+1,i=>if win cs i then (i,true) else jS cs f (i+1)
def xC (cs:List Nat):Nat×Bool:=jS cs cs.length 0
theorem DP {cs:List Nat} {i:Nat} (h:win cs i=true):i+4≤cs.length:=by
 simp only [win,Bool.and_eq_true,decide_eq_true_eq] at h;exact h.1.1.1
theorem qV {cs:List Nat} {k:Nat} (hk:win cs k=true):∀ f i,i≤k→k<i+f→(∀ j,i≤j→j<k→win cs j=false)→jS cs f i=(k,true)
 |0,i,h1,h2,_=>by omega
 |f+1,i,h1,h2,hn=>by
  simp only [jS];by_cases e:i=k
  ·subst e;rw [if_pos hk]
  ·rw [if_neg (by rw [hn i (Nat.le_refl _) (by omega)];decide)];exact qV hk f (i+1) (by omega) (by omega) fun j h3 h4=>hn j (by omega) h4
theorem Fg {cs:List Nat} {k:Nat} (hk:win cs k=true) (hn:∀ j,j<k→win cs j=false):xC cs=(k,true):=
 qV hk _ 0 (Nat.zero_le _) (by have:=DP hk;omega) fun j _ h=>hn j h
theorem sC {cs:List Nat}:∀ f i,(∀ j,i≤j→win cs j=false)→jS cs f i=(0,false)
 |0,_,_=>rfl
 |f+1,i,hn=>by
  simp only [jS];rw [if_neg (by rw [hn i (Nat.le_refl _)];decide)];exact sC f (i+1) fun j h=>hn j (by omega)
theorem HX {cs:List Nat} (hn:∀ j,j+4≤cs.length→win cs j=false):xC cs=(0,false):=
 sC _ 0 fun j _=>by
  by_cases h:j+4≤cs.length
  ·exact hn j h
  ·simp [win,h]
def Run (cs:List Nat) (j s:Nat):Prop:=
 s≤3∧s≤j∧(0<j→0<s)∧(∀ t,t<s→cs.getD (j-1-t) 0=cs.getD (j-1) 0)∧(s<j→cs.getD (j-1-s) 0≠cs.getD (j-1) 0)∧∀ i,i+4≤j→win cs i=false
theorem Ew (cs:List Nat):Run cs 0 0:=⟨by omega,by omega,by omega,fun t h=>by omega,by omega,fun i h=>by omega⟩
theorem Ho {cs:List Nat} {j s:Nat} (h:Run cs j s) (hj:0<j) (hne:cs.getD j 0≠cs.getD (j-1) 0):Run cs (j+1) 1:=by
 obtain ⟨h1,h2,h3,h4,h5,h6⟩:=h;refine ⟨by omega,by omega,by omega,fun t ht=>?_,fun _=>?_,fun i hi=>?_⟩
 ·obtain rfl:t=0:=by omega
  rfl
 ·simpa using Ne.symm hne
 ·by_cases e:i+4≤j
  ·exact h6 i e
  ·obtain rfl:j=i+3:=by omega
   have:i+3-1=i+2:=by omega
   rw [this] at hne;simp only [win,Bool.and_eq_false_iff,beq_eq_false_iff_ne];by_cases e2:cs.getD (i+2) 0=cs.getD i 0
   ·right;rw [←e2];exact hne
   ·left;right;exact e2
theorem xq {cs:List Nat} {j s:Nat} (h:Run cs j s) (hj:j=0∨cs.getD j 0=cs.getD (j-1) 0) (hs:s+1≤3):Run cs (j+1) (s+1):=by
 obtain ⟨h1,h2,h3,h4,h5,h6⟩:=h;have e0:j+1-1=j:=by omega
 refine ⟨by omega,by omega,by omega,fun t ht=>?_,fun hlt=>?_,fun i hi=>?_⟩
 ·rw [e0];cases t with
  |zero=>rfl
  |succ t=>
   have:=h4 t (by omega);have e1:j-(t+1)=j-1-t:=by omega
   rw [e1,this];rcases hj with rfl | hj
   ·omega
   ·exact hj.symm
 ·rw [e0];have e1:j-(s+1)=j-1-s:=by omega
  rw [e1];rcases hj with rfl | hj
  ·omega
  ·rw [hj];exact h5 (by omega)
 ·by_cases e:i+4≤j
  ·exact h6 i e
  ·obtain rfl:j=i+3:=by omega
   have hs':s<i+3:=by omega
   have hne:=h5 hs';rcases hj with hj | hj
   ·omega
   ·refine Bool.eq_false_iff.2 fun hw=>?_
    simp only [win,Bool.and_eq_true,beq_iff_eq] at hw;obtain ⟨⟨⟨_,w1⟩,w2⟩,w3⟩:=hw;have hs2:s=0∨s=1∨s=2:=by omega
    have f1:i+3-1-0=i+2:=by omega
    have f2:i+3-1-1=i+1:=by omega
    have f3:i+3-1-2=i:=by omega
    have f4:i+3-1=i+2:=by omega
    rcases hs2 with rfl | rfl | rfl
    ·have:=h3 (by omega);omega
    ·rw [f2,f4] at hne;exact hne (by rw [w1,w2])
    ·rw [f3,f4] at hne;exact hne (by rw [w2])
theorem Ey {cs:List Nat} {j:Nat} (h:Run cs j 3) (hj:cs.getD j 0=cs.getD (j-1) 0) (hlt:j<cs.length):xC cs=(j-3,true):=by
 obtain ⟨h1,h2,h3,h4,h5,h6⟩:=h;refine Fg ?_ fun i hi=>h6 i (by omega)
 have a0:=h4 0 (by omega);have a1:=h4 1 (by omega);have a2:=h4 2 (by omega);have e1:j-3+1=j-1-1:=by omega
 have e2:j-3+2=j-1-0:=by omega
 have e3:j-3+3=j:=by omega
 have e4:j-3=j-1-2:=by omega
 simp only [win,Bool.and_eq_true,beq_iff_eq,decide_eq_true_eq];refine ⟨⟨⟨by omega,?_⟩,?_⟩,?_⟩
 ·rw [e1,a1,e4,a2]
 ·rw [e2,a0,e4,a2]
 ·rw [e3,hj,e4,a2]
theorem Hp {cs:List Nat} {s:Nat} (h:Run cs cs.length s):xC cs=(0,false):=HX h.2.2.2.2.2
def DM (xs:List Int):Prop:=∀ x∈xs,-9223372036854775808≤x∧x≤9223372036854775807
theorem x6 (xs:List Int) (j:Nat) (h:j<xs.length):(xs.map cls).getD j 0=cls (xs[j]):=by
 simp [List.getD,List.getElem?_eq_getElem h]
theorem EB {w:World} {v:Value} {xs:List Int} (hr:Row w v (xs.map GY)):∃ A cap,v=.slice A xs.length cap∧
 (0<xs.length→∃ b o,A=some ⟨b,o,none⟩∧b<w.heap.size∧∀ i (h:i<xs.length),w.cell? ⟨b,o+i,none⟩=some (.int .i64 xs[i])):=by
 obtain ⟨A,cap,rfl,hp⟩:=hr;rw [List.length_map] at hp ⊢;refine ⟨A,cap,rfl,fun h0=>?_⟩;obtain ⟨b,o,hA,hb,hc⟩:=hp h0;refine ⟨b,o,hA,hb,fun i hi=>hc i _ ?_⟩;rw [List.getElem?_map,List.getElem?_eq_getElem hi];rfl
theorem JL {a b:Int} {c:Bool} (h:a=b):Ending.returned (.tuple #[.int .i64 a,.bool c])=.returned (.tuple #[.int .i64 b,.bool c]):=by rw [h]
def IW (w:World) (xs:List Int) (s i:Value) (wr:World):Prop:=
 ∃ (j m:Nat),j≤xs.length∧i=.int .i64 j∧s=.int .i64 m∧Run (xs.map cls) j m∧aj w wr
theorem Fh (v:Value) (xs:List Int) (w:World) (hr:Row w v (xs.map GY)) (hf:DM xs) (hlen:xs.length≤1000000000000) :
 Calls prog 52 #[v] w fun e w'=>e=.returned (.tuple #[.int .i64 ((xC (xs.map cls)).1:Nat),.bool (xC (xs.map cls)).2])∧aj w w':=by
 obtain ⟨A,cap,rfl,hrow⟩:=EB hr
 go_enter Tryz.func52,Tryz.ntmps52
 go_wp2
 go_loopw [4,9] (IW w xs) (fun _ i _=>xs.length-(intOf i).toNat)
 case atStart=>exact ⟨0,0,by omega,rfl,rfl,Ew _,aj.rfl_⟩
 case round=>
  obtain ⟨j,m,hj,rfl,rfl,hrun,hw⟩:=hrel;have hm3:=hrun.1;have hmj:=hrun.2.1;by_cases hlt:j<xs.length
  ·obtain ⟨b,o,rfl,hb,hc⟩:=hrow (by omega);have d1:∀ w',aj w w'→w'.cell? ⟨b,o+j,none⟩=some (.int .i64 xs[j]):=fun w' h=>(h.cells b (o+j) hb).trans (hc j hlt)
   have f1:=(hf _ (List.getElem_mem hlt)).2;have g1:=x6 xs j hlt;by_cases hz:j=0
   ·have hm0:m=0:=by omega
    have hnew:=xq hrun (.inl hz) (by omega);have HN:=Lib.hid hnew;have hd:decide (0<j)=false:=by simp;omega
    have hm1:(m:Int)+1≤3:=by omega
    have i1:(0:Int)≤(j:Int):=by omega
    have i2:(j:Int)<(xs.length:Int):=by omega
    have h4:((m:Int)+1==4)=false:=by simp;omega
    clear hrun hc hrow hnew g1 hr hf hz hm0
    generalize xs[j]=x1 at*
    go_wp2_with fail
    go_quiet (fail)
    go_wp2
    go_roundw
    case rel=>exact ⟨j+1,m+1,by omega,by go_num,by go_num,HN.out,aj.dn (by assumption) _⟩
    case measure=>simp [intOf];omega
   ·obtain ⟨q,hq1⟩:∃ q,j=q+1:=⟨j-1,by omega⟩;have hq:q<xs.length:=by omega
    have d2:∀ w',aj w w'→w'.cell? ⟨b,o+q,none⟩=some (.int .i64 xs[q]):=fun w' h=>(h.cells b (o+q) hb).trans (hc q hq)
    have f2:=(hf _ (List.getElem_mem hq)).2;have g2:=x6 xs q hq;have eq1:j-1=q:=by omega
    have HQ:=Lib.hid hq1;have hs1:IntKind.i64.wrap ((j:Int)-1)=(q:Int):=by rw [IntKind.wrap_i64];omega
    have i1:(0:Int)≤(q:Int):=by omega
    have i2:(q:Int)<(xs.length:Int):=by omega
    have i3:decide (0<j)=true:=by simp;omega
    clear hz;by_cases hsame:cls (xs[j])=cls (xs[q])
    ·have hne:((cls (xs[j]):Int) != (cls (xs[q]):Int))=false:=by simp;omega
     by_cases h3:m=3
     ·subst h3;have hpl:=Ey hrun (by rw [eq1,g1,g2];exact hsame) (by simpa using hlt);have HP:=Lib.hid hpl;clear hrun hc hrow hpl g1 g2 hr hf hsame eq1 hq1
      generalize xs[j]=x1 at*
      generalize xs[q]=x2 at*
      go_wp2_with fail
      go_region_held3 (fun w'=>aj w w')
       (first | assumption | exact aj.d1 (by assumption) | exact aj.dn (by assumption) _ | exact aj.next (by assumption) (by assumption))
       (first | (go_at_call 83;refine (qD _ _ (by omega)).mono ?_;rintro e w1 ⟨rfl,rfl⟩))
      go_wp2
      go_ret2
      exact ⟨by rw [HP.out];exact JL (show (j:Int)+1-4=((j-3:Nat):Int) by omega),by assumption⟩
     ·have hnew:=xq hrun (.inr (by rw [eq1,g1,g2];exact hsame)) (by omega);have HN:=Lib.hid hnew;have h4:((m:Int)+1==4)=false:=by simp;omega
      have hm1:(m:Int)+1≤3:=by omega
      clear hrun hc hrow hnew g1 g2 hr hf hsame eq1 hq1
      generalize xs[j]=x1 at*
      generalize xs[q]=x2 at*
      go_wp2_with fail
      go_region_held3 (fun w'=>aj w w')
       (first | assumption | exact aj.d1 (by assumption) | exact aj.dn (by assumption) _ | exact aj.next (by assumption) (by assumption))
       (first | (go_at_call 83;refine (qD _ _ (by omega)).mono ?_;rintro e w1 ⟨rfl,rfl⟩))
      go_wp2
      go_roundw
      case rel=>exact ⟨j+1,m+1,by omega,by go_num,by go_num,HN.out,by assumption⟩
      case measure=>simp [intOf];omega
    ·have hnew:=Ho hrun (by omega) (by rw [eq1,g1,g2];exact hsame);have HN:=Lib.hid hnew;have hne:((cls (xs[j]):Int) != (cls (xs[q]):Int))=true:=by simp;omega
     clear hrun hc hrow hnew g1 g2 hr hf hsame eq1 hq1
     generalize xs[j]=x1 at*
     generalize xs[q]=x2 at*
     go_wp2_with fail
     go_region_held3 (fun w'=>aj w w')
      (first | assumption | exact aj.d1 (by assumption) | exact aj.dn (by assumption) _ | exact aj.next (by assumption) (by assumption))
      (first | (go_at_call 83;refine (qD _ _ (by omega)).mono ?_;rintro e w1 ⟨rfl,rfl⟩))
     go_wp2
     go_roundw
     case rel=>exact ⟨j+1,1,by omega,by go_num,by go_num,HN.out,by assumption⟩
     case measure=>simp [intOf];omega
  ·obtain rfl:j=xs.length:=by omega
   have hpl:=Hp (cs:=xs.map cls) (by simpa using hrun);have HP:=Lib.hid hpl;clear hpl hrun
   go_wp2
   go_ret2
   exact ⟨by rw [HP.out];rfl,hw⟩
def sm (cs:List Nat) (i:Nat):Nat→Bool
 |0=>true
 |t+1=>sm cs i t&&(cs.getD (i+(t+1)) 0==cs.getD i 0)
def LM (w:World) (xs:List Int) (i:Value) (wr:World):Prop:=
 ∃ j:Nat,j≤xs.length∧i=.int .i64 j∧(∀ q,q<j→win (xs.map cls) q=false)∧aj w wr
def LA (w:World) (cs:List Nat) (i:Nat) (s k:Value) (wr:World):Prop:=
 ∃ t:Nat,t≤3∧k=.int .i64 ((t:Int)+1)∧s=.bool (sm cs i t)∧aj w wr
end Go.Proofs.YtcbakncjacnnjaaGreat
namespace Go.Proofs.YtcbakncjacnnjaaGreat
open Go.Proofs.Tryz (prog)
open Go.RowKit
open Go.ChangeShapes Go.WideShapes Go.ChangeAt
open Go.Proofs.YtcbakncjacnnjaaGreat.SA
theorem q5:gD prog 119=some (22,1,24,(.slice none 0 0)):=by kernel_rfl
theorem Ah:aH prog 84=true:=by kernel_rfl
def LL (w:World) (base:Nat) (vs:List Value) (qs:List Pt):Prop:=vs.length=qs.length∧∀ j (h:j<qs.length),∃ Aj cj,vs[j]? =some (.slice Aj qs[j].live.length cj)∧w.ownsRow base 37 2 (.slice Aj qs[j].live.length cj) qs[j].live.length (qs[j].live.flatMap dV)
theorem LL.from_ {w w':World} {base:Nat} {vs:List Value} {qs:List Pt} (h:LL w base vs qs) (hF:aj w w'):LL w' base vs qs:=⟨h.1,fun j hj=>by
 obtain ⟨A,c,h1,h2⟩:=h.2 j hj;exact ⟨A,c,h1,h2.kept_from hF⟩⟩
theorem LL.grown {w w':World} {base b2 e n c:Nat} {vs xs:List Value} {qs:List Pt} {A:Option Addr} (h:LL w base vs qs) (ho:w.ownsRow b2 e 1 (.slice A n c) n xs) (hne:37≠e) (hg:w.grownBy w' (A.map (·.block))):LL w' base vs qs:=⟨h.1,fun j hj=>by
 obtain ⟨B,c2,h1,h2⟩:=h.2 j hj;exact ⟨B,c2,h1,lC h2 hg (fX h2 ho hne).symm⟩⟩
theorem LL.snoc {w:World} {base:Nat} {vs:List Value} {qs:List Pt} {i:Nat} {A:Option Addr} {c:Nat} (hi:i<qs.length) (h:LL w base vs (qs.take i)) (ho:w.ownsRow base 37 2 (.slice A qs[i].live.length c) qs[i].live.length (qs[i].live.flatMap dV)):LL w base (vs++[.slice A qs[i].live.length c]) (qs.take (i+1)):=by
 have hvl:=h.1;rw [List.length_take] at hvl;refine ⟨by rw [List.length_append,List.length_take,List.length_singleton];omega,fun j hj=>?_⟩;rw [List.length_take] at hj;have hg:(qs.take (i+1))[j]'(by rw [List.length_take];omega)=qs[j]:=List.getElem_take ..;rw [hg];rcases Nat.lt_or_ge j i with e | e
 ·obtain ⟨A2,c2,h1,h2⟩:=h.2 j (by rw [List.length_take];omega);have hg2:(qs.take i)[j]'(by rw [List.length_take];omega)=qs[j]:=List.getElem_take ..;rw [hg2] at h1 h2;exact ⟨A2,c2,by rw [List.getElem?_append_left (by omega)];exact h1,h2⟩
 ·obtain rfl:j=i:=by omega
  exact ⟨A,c,by rw [List.getElem?_append_right (by omega),show j-vs.length=0 by omega];rfl,ho⟩
theorem LL.row {w:World} {base b2 n c:Nat} {vs:List Value} {qs:List Pt} {A:Option Addr} (h:LL w base vs qs) (ho:w.ownsRow b2 22 1 (.slice A n c) n vs):u6 w A (qs.map Pt.live):=fun h0=>by
 rw [List.length_map] at h0;have hvl:=h.1;have hnl:vs.length=n*1:=ho.1;obtain ⟨g,rfl⟩:=dF ho (by omega);refine ⟨g,0,rfl,fun i hi=>?_⟩;rw [List.length_map] at hi;obtain ⟨B,c2,h1,h2⟩:=h.2 i hi;rw [List.getElem_map];refine ⟨B,c2,?_,(cL.own bI (by decide) h2).2,fun e=>by subst e;exact jE h2⟩;rw [ho.cellAt (0+i) (by omega),Nat.zero_add];exact h1
theorem ll (qs:List Pt):(qs.map Pt.live).flatten=qs.flatMap Pt.live:=(List.flatMap_def ..).symm
theorem BC {ls:List (List Dc)} (h:mE ls=0):(mD ls).Perm ls.flatten:=by
 unfold mD;rw [if_pos h];exact (vh (Ja h).2).2
theorem HK {w:World} {base m c g:Nat} {ps:List Pt} (h:w.ownsRow base 66 2 (.slice (some ⟨g,0,none⟩) m c) m (ps.flatMap ptV)) (hP:∀ p∈ps,PtIn w p) (i k:Nat):∀ j (hj:j<((ps.drop i).take k).length),nx w g (0+i*2+j*2) ((ps.drop i).take k)[j]:=fun j hj=>by
 have hj2:=hj;rw [List.length_take,List.length_drop] at hj2;have e:((ps.drop i).take k)[j]=ps[i+j]'(by omega):=by rw [List.getElem_take,List.getElem_drop]
 rw [e,show 0+i*2+j*2=0+(i+j)*2 by omega];exact sA h hP _
theorem CJ {cs:List Nat} (h:(xC cs).2=true):(xC cs).1+4≤cs.length:=by
 have key:∀ f i,(jS cs f i).2=true→(jS cs f i).1+4≤cs.length:=by
  intro f
  induction f with
  |zero=>intro i h;cases h
  |succ f ih=>
   intro i h;unfold jS at h ⊢;by_cases hw:win cs i=true
   ·rw [if_pos hw];exact DP hw
   ·rw [if_neg hw] at h ⊢;exact ih _ h
 exact key _ _ h
theorem vk {w:World} {B:Option Addr} {is:List Int} {c:Nat} (h:bW iV w B is):Row w (.slice B is.length c) (is.map GY):=by
 refine ⟨B,c,by rw [List.length_map],fun h0=>?_⟩;rw [List.length_map] at h0;obtain ⟨b,o,e,hc⟩:=h h0;refine ⟨b,o,e,World.block_lt_of_cell? w ⟨b,o+0,none⟩ (hc 0 h0),fun i u hu=>?_⟩;rw [List.getElem?_map] at hu
 obtain ⟨hi,he⟩:∃ hi:i<is.length,GY is[i]=u:=by
  rcases Nat.lt_or_ge i is.length with hlt | hge
  ·rw [List.getElem?_eq_getElem hlt] at hu;exact ⟨hlt,by simpa using hu⟩
  ·rw [List.getElem?_eq_none hge] at hu;cases hu
 rw [←he];exact hc i hi
theorem Fi (B:Option Addr) (c n:Nat) (is:List Int) (w:World) (hr:bW iV w B is) (hn:n=is.length) (hf:DM is) (hl:is.length≤1000000000000):Rt prog 52 [.slice B n c] w fun v w'=>(∃ (i:Nat) (ok:Bool),v=.tuple #[.int .i64 (i:Nat),.bool ok]∧(ok=true→i+4≤is.length))∧aj w w':=by
 subst hn;exact (Rt.of (Fh _ is w (vk hr) hf hl)).mono fun v w' h=>⟨⟨_,_,h.1,fun hk=>by have:=CJ hk;rwa [List.length_map] at this⟩,h.2⟩
theorem zb (c n g o:Nat) (qs:List Pt) (w:World) (hn:n=qs.length) (hq:∀ i (hi:i<qs.length),nx w g (o+i*2) qs[i]) (hf:(qs.flatMap Pt.live).length≤64) (hl:n≤64) :
 Rt prog 53 [.slice (some ⟨g,o,none⟩) n c] w (fun v w'=>((∃ e:Int,e≠0∧v=.tuple #[.pointer none,.int .i64 e])∨∃ lo s0 M,w.heap.size≤lo∧v=.tuple #[.pointer (some ⟨s0,0,none⟩),.int .i64 0]∧jc w' lo s0 M∧M.Perm (qs.flatMap Pt.live))∧aj w w'):=by
 refine enter (n:=33) Tryz.func53 rfl rfl rfl (ag (aa (asp rfl (asi rfl (ah (ab (ag (aa (ass rfl (ah (ab (ag (ag (aa (mvs rfl (ae (aS dt rfl) ?_))))))))))))))));refine mvi rfl (ah (ab (az (bg (G:=Nat×Option Addr×Nat×List Value) [5,11,12,13,14,15,16,17,18,19,20] (fun (i,A4,c4,_)=>[(4,.slice A4 i c4),(10,.int .i64 (i:Nat))]) (fun (i,A4,c4,vs) w'=>i≤n∧w'.ownsRow w.heap.size 22 1 (.slice A4 i c4) i vs∧LL w' w.heap.size vs (qs.take i)∧aj w w') (fun (i,_,_,_)=>n-i) ((0,none,0,[])) ⟨rfl,rfl,trivial⟩ ?_ ?_))))
 ·exact ⟨Nat.zero_le _,World.ownsRow_nil _ _ _ _,⟨rfl,fun j hj=>absurd hj (by simp)⟩,aj.rfl_⟩
 rintro ⟨i,A4,c4,vs⟩ ρ1 w1 ⟨hi,ho4,hLL,hB⟩;refine ag (aa (ae (aX rfl rfl) (ah (ab (ag (Li rfl (fun Q2=>?_) (fun Q2=>?_)))))))
 ·have hil:i<qs.length:=by omega
  refine au (ab (ag (az (ag (aa (mvi rfl (asi rfl (ah (ab (aa (mvs rfl (mvs rfl (mvi rfl (ae (aG cN rfl rfl (by omega)) ?_))))))))))))));have hz17:=(hB).size;refine aA mq (rM g (o+i*2) qs[i] _ ((hq i hil).from_ hB)) ?_;rintro v17 w3 ⟨⟨A17,c17,rfl,ho17⟩,E17⟩;refine gW (v:=.slice _ _ _) q5 rfl rfl rfl ?_;intro b18 w4 E18 hb18 hk18;refine cZ q5 rfl (by decide) rfl (A:=A4) (xs:=vs) (news:=[.slice A17 qs[i].live.length c17]) (ho4.kept_from ((aj.rfl_.next E17).next E18)) (((hB.next E17).next E18).size) rfl rfl (fun _=>⟨b18,0,rfl,hk18.whole⟩) (fun h=>by cases h) (by simp [Value.oneCell']) (by omega) (by omega) ?_;intro A19 c19 w5 ho19 hg19;have HF19:=(((hB.next E17).next E18)).grew hg19 (fun k hk=>(b_ (ho4.kept_from ((aj.rfl_.next E17).next E18)) k hk).1);have hLL19:=((hLL.from_ ((aj.rfl_.next E17).next E18)).snoc hil (fu (ho17.kept_from E18) hz17)).grown (ho4.kept_from ((aj.rfl_.next E17).next E18)) (by decide) hg19;refine ass rfl (ah (aN (ab (aa (ae (aJ (b:=1) rfl rfl (by omega)) (mvi rfl (ah ?_)))))));refine aR ((i+1,A19,c19,vs++[.slice A17 qs[i].live.length c17])) ⟨(by first | rfl | (refine aM ?_;omega)),(by first | rfl | (refine aM ?_;omega)),trivial⟩ (by (iterate 26 refine aF rfl ?_);exact aK) ⟨?_,?_⟩
  ·exact ⟨by omega,ho19,hLL19,HF19⟩
  ·show n-(i+1)<n-i;omega
 obtain rfl:i=n:=by omega
 rw [List.take_of_length_le (by omega)] at hLL;have hfl:((qs.map Pt.live).flatten).length≤64:=by rw [ll];exact hf
 have hml:=JW hfl;refine aZ (aD (aD (aU (ab (ag (aa (mvs rfl (aA Ah (Fz A4 c4 i (qs.map Pt.live) _ (hLL.row ho4) (by rw [List.length_map];exact hn) (by omega) (by omega)) ?_))))))));rintro v23 w6 ⟨⟨A23,c23,rfl,ho23⟩,E23⟩;refine mvt rfl (ae (ax rfl rfl) (ae (ax rfl rfl) (ass rfl (asi rfl (ah (ab (ag (ag (aa (mvi rfl (ae (cq rfl rfl) (ah (ab ?_)))))))))))));refine Lf rfl (fun Q7=>?_) (fun Q7=>?_)
 ·have hee:mE (qs.map Pt.live)≠0:=by simpa using Q7
  refine ag (aa (mvi rfl (asp rfl (asi rfl (ah (ab (ay (aC (cY (v:=.pointer _) (v':=.int _ _) rfl rfl rfl (⟨.inl ⟨_,hee,rfl⟩,(hB.next E23)⟩))))))))))
 have hee:mE (qs.map Pt.live)=0:=by simpa using Q7
 refine au (ab (ag (aa (mvs rfl ?_))));have hz30:=((hB.next E23)).size;refine aA qL (Fu A23 c23 (mD (qs.map Pt.live)).length (mD (qs.map Pt.live)) _ (cL.own bI (by decide) ho23).2 rfl (by omega) (ph ho23)) ?_;rintro v30 w8 ⟨hs30,E30⟩;rcases hs30 with ⟨hck,rfl⟩ | ⟨hck,s0,rfl,hsg⟩
 ·refine ae (ax rfl rfl) (ae (ax rfl rfl) (asp rfl (asi rfl (ah (ab (ay (cY (v:=.pointer _) (v':=.int _ _) rfl rfl rfl ?_)))))))
  first
   |exact ⟨.inl ⟨_,hck,rfl⟩,((hB.next E23).next E30)⟩
   |exact ⟨.inr ⟨_,s0,_,hz30,rfl,hsg,by rw [←ll];exact BC hee⟩,((hB.next E23).next E30)⟩
 refine ae (ax rfl rfl) (ae (ax rfl rfl) (asp rfl (asi rfl (ah (ab (ay (cY (v:=.pointer _) (v':=.int _ _) rfl rfl rfl ?_)))))))
 first
  |exact ⟨.inl ⟨_,hck,rfl⟩,((hB.next E23).next E30)⟩
  |exact ⟨.inr ⟨_,s0,_,hz30,rfl,hsg,by rw [←ll];exact BC hee⟩,((hB.next E23).next E30)⟩
theorem yE:aH prog 52=true:=by kernel_rfl
theorem yD:aH prog 53=true:=by kernel_rfl
theorem nY:∀ (a0:Option Addr),prog.built 66 [(0,.pointer a0)]=some #[.pointer a0,.slice none 0 0]:=by intros;kernel_rfl
theorem q6:aH prog 54=true:=by kernel_rfl
theorem vz {U:Nat→Prop} {w w' w2:World} {k:Nat} (h:w'.heap.size≤w2.heap.size) (hk:Nx U w w' k):Nx U w w2 k:=hk.imp id fun h2=>⟨h2.1,by omega⟩
theorem nE {ps:List Pt} {i:Nat} (hi:i+4≤ps.length) (q:Pt):(ps.take i++q::ps.drop (i+4)).length=ps.length-3:=by
 rw [List.length_append,List.length_take,List.length_cons,List.length_drop];omega
theorem xw {ps:List Pt} {i:Nat} (lo hi s0:Nat) (M:List Dc):(ps.flatMap ptV).take (i*2)++[.pointer (some ⟨s0,0,none⟩),.slice none 0 0]++(ps.flatMap ptV).drop ((i+4)*2)=(ps.take i++Pt.of lo hi s0 M::ps.drop (i+4)).flatMap ptV:=by
 rw [iB kO,jl kO,List.flatMap_append,List.flatMap_cons,List.append_assoc];rfl
theorem uM {ps:List Pt} {i:Nat} (q:Pt) (hq:q.A=none) (h:ps.Pairwise fun a b=>fp a.A b.A):(ps.take i++q::ps.drop (i+4)).Pairwise fun a b=>fp a.A b.A:=by
 have hx:ps.take i++ps.drop (i+4)=ps.take i++(ps.drop i).drop 4:=by rw [List.drop_drop]
 have h2:(ps.take i++ps.drop (i+4)).Pairwise fun a b=>fp a.A b.A:=by
  rw [hx];exact List.Pairwise.sublist (List.Sublist.append (List.Sublist.refl _) (List.drop_sublist ..)) (by rw [List.take_append_drop];exact h)
 rw [List.pairwise_append] at h2 ⊢;refine ⟨h2.1,List.pairwise_cons.2 ⟨fun b _=>by rw [hq];exact fp.none_,h2.2.1⟩,fun a ha b hb=>?_⟩;rcases List.mem_cons.1 hb with rfl | hb
 ·rw [hq];exact fp.none_.symm
 ·exact h2.2.2 a ha b hb
theorem Bp {ps:List Pt} {i:Nat} {q p:Pt} (h:p∈ps.take i++q::ps.drop (i+4)):p∈ps∨p=q:=by
 rcases List.mem_append.1 h with h | h
 ·exact .inl (List.mem_of_mem_take h)
 ·rcases List.mem_cons.1 h with h | h
  ·exact .inr h
  ·exact .inl (List.mem_of_mem_drop h)
theorem uU {ps:List Pt} {L D:List Dc} (hG:ShG ps L D) {i:Nat} (hi:i+4≤ps.length) {M:List Dc} (hM:M.Perm (((ps.drop i).take 4).flatMap Pt.live)):M≠[]:=fun e=>by
 have h1:=oy (ps:=(ps.drop i).take 4) fun p hp=>(hG.part p (List.mem_of_mem_drop (List.mem_of_mem_take hp))).2.2
 have h2:=hM.length_eq;rw [e] at h2;rw [List.length_take,List.length_drop] at h1;simp only [List.length_nil] at h2;omega
theorem IB {ps:List Pt} {L D:List Dc} (hG:ShG ps L D) (i:Nat):(((ps.drop i).take 4).flatMap Pt.live).length≤64:=by
 have h1:=hG.len;have e:ps.flatMap Pt.live=(ps.take i).flatMap Pt.live++(((ps.drop i).take 4).flatMap Pt.live++((ps.drop i).drop 4).flatMap Pt.live):=by rw [←List.flatMap_append,List.take_append_drop,←List.flatMap_append,List.take_append_drop]
 rw [e,List.length_append,List.length_append] at h1;omega
theorem ID {is:List Int} {k:Nat} {x:Int} (h:DM is) (h0:-9223372036854775808≤x) (h1:x≤9223372036854775807):DM (is.set k x):=fun y hy=>by
 rcases List.mem_or_eq_of_mem_set hy with e | e
 ·exact h y e
 ·rw [e];exact ⟨h0,h1⟩
theorem F7 (n:Nat):DM (List.replicate n 0):=fun x hx=>by rw [(List.mem_replicate.1 hx).2];omega
theorem J9 (is:List Int) (k:Nat) (x:Int):(is.map iV).toArray.setIfInBounds (0+k) (.int .i64 x)=((is.set k x).map iV).toArray:=by
 rw [Nat.zero_add,List.setIfInBounds_toArray,List.map_set]
theorem J_ (n:Nat):(List.replicate n (Value.int .i64 0)).toArray=((List.replicate n (0:Int)).map iV).toArray:=by rw [List.map_replicate]
theorem EC {w:World} {g:Nat} {t:TypeId} {is:List Int} (h:Blk w g t (is.map iV).toArray):bW iV w (some ⟨g,0,none⟩) is:=fun _=>⟨g,0,rfl,fun i hi=>by
 have:=h.rd i (v:=iV is[i]) (by simp [hi]);rw [Nat.zero_add];exact this⟩
theorem jw (U:Nat→Prop) (s:Nat) (D:List Dc) (w:World) (hs:dD w U s D) :
 Rt prog 25 [.pointer (some ⟨s,0,none⟩)] w (fun _ w'=>dD w' (Nx U w w') s D∧Chg U w w'):=by
 have hs0:=hs;obtain ⟨ps0,L0,Ap0,cp0,Al0,cl0,hG0,h0,hU0⟩:=hs;refine enter (n:=69) Tryz.func25 rfl rfl rfl (az (bg (G:=Nat) (2::3::4::5::6::7::8::9::10::11::12::13::14::15::16::17::18::19::20::21::22::23::24::25::26::27::28::29::30::31::32::33::34::35::36::37::38::39::40::41::42::43::44::45::46::47::48::49::50::51::52::53::54::55::56::57::58::59::60::61::62::63::64::65::66::67::68::[]) (fun _=>[]) (fun m w'=>(∃ ps L Ap cp Al cl,ShG ps L D∧ShH w' ps L s Ap cp Al cl∧(∀ k,qN s Ap Al ps k→Nx U w w' k)∧ps.length=m)∧Chg U w w') (fun m=>m) (ps0.length) trivial ?_ ?_))
 ·exact ⟨⟨ps0,L0,Ap0,cp0,Al0,cl0,hG0,h0,fun k hk=>.inl (hU0 k hk),rfl⟩,Chg.rfl_⟩
 rintro m ρ1 w1 ⟨⟨ps,L,Ap,cp,Al,cl,hG,h,hU,hm⟩,hC⟩;have hpl:=hG.parts;subst hm;refine az (ag (aa (mvp rfl (ae (aw rfl) (ae (ak cz rfl) (ae (aq dX rfl (by exact (h.blk.from_ (aj.rfl_ (a:=w1))).rd 0 rfl)) ?_))))));refine ae (aS dt rfl) (gV eh rfl rfl rfl (by omega) (by omega) ?_);intro b13 w2 E13 hb13 hk13;have hg13:=Nat.le_trans ((aj.rfl_ (a:=w1))).size (Nat.le_of_eq hb13.symm);refine ass rfl (ah (ab (ag (ag (aa (mvp rfl (ae (aw rfl) (ae (ak cz rfl) (ae (aq dX rfl (by exact (h.blk.from_ ((aj.rfl_ (a:=w1)).next E13)).rd 0 rfl)) ?_)))))))));refine ae (aS dt rfl) (mvi rfl (ah (ab (az (bg (G:=Nat×List Int) [3,20,21,22,23,24,25,26,27,28,29,30,31,32,33] (fun (k,_)=>[(19,.int .i64 (k:Nat))]) (fun (k,is) w'=>k≤ps.length∧is.length=ps.length∧DM is∧Blk w' b13 3 (is.map iV).toArray∧aj w1 w') (fun (k,_)=>ps.length-k) ((0,List.replicate ps.length 0)) ⟨rfl,trivial⟩ ?_ ?_)))))
 ·exact ⟨Nat.zero_le _,List.length_replicate,F7 _,by rw [←J_];exact hk13,((aj.rfl_ (a:=w1)).next E13)⟩
 rintro ⟨k,is⟩ ρ3 w3 ⟨hkn,hil,hfit,hI,hB⟩;refine ag (aa (ae (aX rfl rfl) (ah (ab (ag (Li rfl (fun Q4=>?_) (fun Q4=>?_)))))))
 ·have hkl:k<ps.length:=by omega
  obtain ⟨g,rfl⟩:=dF h.rowP (by omega);have hlf:=hG.liveFit (List.getElem_mem hkl);have hlf1:=hlf.1;have hlf2:=hlf.2.2;refine au (ab (ag (az (ag (aa (mvi rfl (asi rfl (ah (ab (aa (mvs rfl (mvi rfl (mvp rfl (ae (aw rfl) (ae (ak cz rfl) ?_)))))))))))))));refine ae (aq dX rfl (by exact (h.blk.from_ hB).rd 0 rfl)) ?_;refine mvi rfl (ae (aG cN rfl rfl (by omega)) (aA mq (rM g (0+k*2) ps[k] _ ((sA h.rowP (fun p hp=>h.ptIn hG hp) hkl).from_ hB)) ?_));rintro v30 w5 ⟨⟨A30,c30,rfl,ho30⟩,E30⟩;refine aA oR (lS A30 c30 ps[k].live.length ps[k].live _ (cL.own bI (by decide) ho30).2 rfl (by omega) (by omega)) ?_;rintro v31 w6 ⟨rfl,E31⟩;refine ae (bk cd rfl rfl (by omega)) ?_;refine bZ (v:=.int _ _) cC rfl rfl rfl (hI.from_ ((aj.rfl_.next E30).next E31)) (by show 0+k<((is.map iV).toArray).size;simp;omega) ?_;intro w7 O4 P4;refine ah (aN (ab (aa (ae (aJ (b:=1) rfl rfl (by omega)) (mvi rfl (ah ?_))))));refine aR ((k+1,is.set k ((dsz ps[k].live:Nat):Int))) ⟨(by first | rfl | (refine aM ?_;omega)),trivial⟩ (by (iterate 32 refine aF rfl ?_);exact aK) ⟨?_,?_⟩
  ·exact ⟨by omega,by rw [List.length_set];exact hil,ID hfit (by omega) (by omega),by rw [←J9];exact P4,(((hB.next E30).next E31).only O4 (hg13))⟩
  ·show ps.length-(k+1)<ps.length-k;omega
 refine aZ (aD (aD (aU (ab (ag (aa (mvs rfl (aA yE (Fi (some ⟨b13,0,none⟩) ps.length ps.length is _ (EC (hI.from_ aj.rfl_)) hil.symm hfit (by omega)) ?_))))))));rintro v36 w8 ⟨⟨i,ok,rfl,hroom⟩,E36⟩;refine mvt rfl (ae (ax rfl rfl) (ae (ax rfl rfl) (asi rfl (asb rfl (ah (ab (ag (ag (aa (mvb rfl (ae (dZ rfl) (ah (ab ?_)))))))))))));refine Lg rfl (fun Q9=>?_) (fun Q9=>?_)
 ·refine ay (aC (bn (aC (bn (k_ rfl (⟨⟨ps,L,_,cp,Al,cl,hG,h.from_ (hB.next E36),fun k hk=>vz ((hB.next E36)).size (hU k hk)⟩,hC.next ((hB.next E36)).toChg⟩))))))
 have hi4:i+4≤ps.length:=by have:=hroom (by simpa using Q9);omega
 obtain ⟨g,rfl⟩:=dF h.rowP (by omega);have hcap:=kP h.rowP;refine au (ab (ag (aa (mvp rfl (ae (aw rfl) (ae (ak cz rfl) (ae (aq dX rfl (by exact (h.blk.from_ (hB.next E36)).rd 0 rfl)) ?_)))))));refine mvi rfl (mvi rfl (ae (aJ (b:=4) rfl rfl (by omega)) (ae (eR (v':=.slice (some ⟨g,0+i*2,none⟩) 4 (cp-i)) (bu (l:=i) (h:=i+4) cN rfl (.inr ⟨_,_,_,rfl,rfl,rfl⟩) (.inr ⟨_,_,_,rfl,rfl,rfl⟩) (by omega) (by omega)) (by rw [cw (by omega),show i+4-i=4 by omega])) ?_)));have hz50:=((hB.next E36)).size;obtain ⟨qs,hqs⟩:∃ qs,qs=(ps.drop i).take 4:=⟨_,rfl⟩;have hq4:4=qs.length:=by rw [hqs,List.length_take,List.length_drop];omega
 have hqp:∀ j (hj:j<qs.length),nx w8 g (0+i*2+j*2) qs[j]:=by
  intro j hj;subst hqs;exact (HK h.rowP (fun p hp=>h.ptIn hG hp) i 4 j hj).from_ (hB.next E36)
 have hqf:(qs.flatMap Pt.live).length≤64:=by rw [hqs];exact IB hG i
 refine aA yD (zb (cp-i) 4 g (0+i*2) qs _ hq4 hqp hqf (by decide)) ?_;rintro v50 w10 ⟨hs50,E50⟩;rcases hs50 with ⟨e50,hne50,rfl⟩ | ⟨lo0,s0,M,hlo0,rfl,hsg,hM⟩
 ·have hb33:(e50 != 0)=true:=by simpa using hne50
  refine mvt rfl (ae (ax rfl rfl) (ae (ax rfl rfl) (asp rfl (asi rfl (ah (ab (ag (ag (aa (mvi rfl (ae (cq rfl rfl) (ah (ab ?_)))))))))))));refine Lf rfl (fun Q11=>?_) (fun Q11=>?_)
  ·refine ay (aC (bn (aC (bn (k_ rfl (⟨⟨ps,L,_,cp,Al,cl,hG,h.from_ ((hB.next E36).next E50),fun k hk=>vz (((hB.next E36).next E50)).size (hU k hk)⟩,hC.next (((hB.next E36).next E50)).toChg⟩))))))
  first
   |(exfalso; first | (first | omega | (simp [hb33] at *; done); trace "@MK D jw:c20-.c40-.f50.0.c54- 1") | (contradiction; trace "@MK D jw:c20-.c40-.f50.0.c54- 2") | ((cases Q11; done); trace "@MK D jw:c20-.c40-.f50.0.c54- 3"))
   |(trace "@MK D jw:c20-.c40-.f50.0.c54- 0")
    refine au (ab (aa (mvp rfl (mvp rfl (ae (aw rfl) (ae (ak cz rfl) (ae (aq dX rfl (by exact (h.blk.from_ ((hB.next E36).next E50)).rd 0 rfl)) ?_)))))));refine mvi rfl (mvi rfl (ae (aJ (b:=4) rfl rfl (by omega)) (mvp rfl (ae (du (l:=[(0,.tmp 63)]) (nY _)) ?_))));have hs65:=(((hB.next E36).next E50)).size;refine gd fv rfl rfl rfl ?_;intro b65 w12 E65 hb65 hk65;have hF66:=(((hB.next E36).next E50).next E65);have hsk2:=hsk.from_ ((aj.rfl_.next E65));refine aA q6 (qS 0 (some ⟨g,0,none⟩) cp ps.length i b65 1 (ps.flatMap ptV) [.pointer (some ⟨s0,0,none⟩),.slice none 0 0] _ _ _ (h.rowP.kept_from (((hB.next E36).next E50).next E65)) hi4 rfl hk65.whole hk65 (fun k hk=>by have:=(b_ h.rowP k hk).2;omega) (vr ps) (by simp [Value.oneCell']) (by omega)) ?_;rintro v66 w13 ⟨⟨A66,c66,rfl,ho66,hA66⟩,hg66⟩;have hb66:=(h.blk.from_ hF66).grown hg66 (dz (h.rowP.kept_from hF66) (h.blk.from_ hF66) (by decide));refine ae (aw rfl) (ae (ak cz rfl) (bZ (v:=.slice _ _ _) jr rfl rfl rfl (hb66) (by show 0<2;decide) ?_));intro w14 O10 P10;refine ah (aN ?_);refine aR (ps.length-3) trivial (by (iterate 136 refine aF rfl ?_);exact aK) ⟨?_,?_⟩
    ·obtain ⟨q1,q2,q3⟩:=pY (ps':=ps.take i++Pt.of lo hi s0 M::ps.drop (i+4)) (L':=L) h hU hF66 ((Chg.of_grown hg66 (fun k e=>.inr e)).only O10 (.inl rfl)) (by rw [nE hi4];exact P10) (by rw [nE hi4,←xw];exact cH ho66 O10 (dz ho66 hb66 (by decide))) (fun k hk=>.inl (hA66 k hk)) (.inl ⟨rfl,rfl,rfl⟩) (fun p hp=>(Bp hp).imp id fun e=>by rw [e];exact ⟨rfl,rfl,rfl,hsk2,hlo⟩) (uM _ rfl h.apart);exact ⟨⟨_,L,A66,c66,Al,cl,hG.tidy hi4 lo hi s0 hM (uU hG hi4 hM),q1,fun k hk=>Nx.trans hC.size q3.size (q2 k hk),nE hi4 _⟩,hC.trans q3 fun k hk=>hk.imp id fun h=>h.1⟩
    ·show ps.length-3<ps.length;omega
 rw [hqs] at hM;obtain ⟨lo,hi,hlo,hhi,hsk⟩:=kF.ex hsg (Nat.le_trans hz50 hlo0);refine mvt rfl (ae (ax rfl rfl) (ae (ax rfl rfl) (asp rfl (asi rfl (ah (ab (ag (ag (aa (mvi rfl (ae (cq rfl rfl) (ah (ab ?_)))))))))))));refine Lf rfl (fun Q15=>?_) (fun Q15=>?_)
 ·first
   |(exfalso; first | (first | omega | (simp [hb33] at *; done); trace "@MK D jw:c20-.c40-.f50.1.c54+ 1") | (contradiction; trace "@MK D jw:c20-.c40-.f50.1.c54+ 2") | ((cases Q15; done); trace "@MK D jw:c20-.c40-.f50.1.c54+ 3"))
   |(trace "@MK D jw:c20-.c40-.f50.1.c54+ 0")
    refine ay (aC (bn (aC (bn (k_ rfl (⟨⟨ps,L,_,cp,Al,cl,hG,h.from_ ((hB.next E36).next E50),fun k hk=>vz (((hB.next E36).next E50)).size (hU k hk)⟩,hC.next (((hB.next E36).next E50)).toChg⟩))))))
 refine au (ab (aa (mvp rfl (mvp rfl (ae (aw rfl) (ae (ak cz rfl) (ae (aq dX rfl (by exact (h.blk.from_ ((hB.next E36).next E50)).rd 0 rfl)) ?_)))))));refine mvi rfl (mvi rfl (ae (aJ (b:=4) rfl rfl (by omega)) (mvp rfl (ae (du (l:=[(0,.tmp 63)]) (nY _)) ?_))));have hs65:=(((hB.next E36).next E50)).size;refine gd fv rfl rfl rfl ?_;intro b65 w16 E65 hb65 hk65;have hF66:=(((hB.next E36).next E50).next E65);have hsk2:=hsk.from_ ((aj.rfl_.next E65));refine aA q6 (qS 0 (some ⟨g,0,none⟩) cp ps.length i b65 1 (ps.flatMap ptV) [.pointer (some ⟨s0,0,none⟩),.slice none 0 0] _ _ _ (h.rowP.kept_from (((hB.next E36).next E50).next E65)) hi4 rfl hk65.whole hk65 (fun k hk=>by have:=(b_ h.rowP k hk).2;omega) (vr ps) (by simp [Value.oneCell']) (by omega)) ?_;rintro v66 w17 ⟨⟨A66,c66,rfl,ho66,hA66⟩,hg66⟩;have hb66:=(h.blk.from_ hF66).grown hg66 (dz (h.rowP.kept_from hF66) (h.blk.from_ hF66) (by decide));refine ae (aw rfl) (ae (ak cz rfl) (bZ (v:=.slice _ _ _) jr rfl rfl rfl (hb66) (by show 0<2;decide) ?_));intro w18 O10 P10;refine ah (aN ?_);refine aR (ps.length-3) trivial (by (iterate 136 refine aF rfl ?_);exact aK) ⟨?_,?_⟩
 ·obtain ⟨q1,q2,q3⟩:=pY (ps':=ps.take i++Pt.of lo hi s0 M::ps.drop (i+4)) (L':=L) h hU hF66 ((Chg.of_grown hg66 (fun k e=>.inr e)).only O10 (.inl rfl)) (by rw [nE hi4];exact P10) (by rw [nE hi4,←xw];exact cH ho66 O10 (dz ho66 hb66 (by decide))) (fun k hk=>.inl (hA66 k hk)) (.inl ⟨rfl,rfl,rfl⟩) (fun p hp=>(Bp hp).imp id fun e=>by rw [e];exact ⟨rfl,rfl,rfl,hsk2,hlo⟩) (uM _ rfl h.apart);exact ⟨⟨_,L,A66,c66,Al,cl,hG.tidy hi4 lo hi s0 hM (uU hG hi4 hM),q1,fun k hk=>Nx.trans hC.size q3.size (q2 k hk),nE hi4 _⟩,hC.trans q3 fun k hk=>hk.imp id fun h=>h.1⟩
 ·show ps.length-3<ps.length;omega
end Go.Proofs.YtcbakncjacnnjaaGreat
namespace Go.Proofs.YtcbakncjacnnjaaGreat
open Go.Proofs.Tryz (prog)
open Go.ChangeShapes Go.WideShapes Go.ChangeAt Go.RowKit
theorem gY {H:Type} {enc:TypeId×Value→H} (F:FuncId) (f:Func) (T Tb:TypeId) (s:ChangeSpec) (hp:f.params=#[T]) (hr:f.resultTypes=#[Tb]) (hTb:prog.underlying Tb=some .bool)
 (hvars:s.vars=[]) (hfn:∀ d:DataW H,s.fn H [d]={ results:=[.lit (.bool true)],args:=[d] }) (hrec:prog.readableRec T=true) (hrow:T<prog.types.size)
 (walk:∀ (W:World) (base:Nat) (v:Value) (d:DataW H) (p:List MemPlace),W.ShapedOpen prog→Value.okWide prog W .any base T v→DataW.Trod enc prog W 0 (fun _=>true) true T v d p→(∀ n∈d.weights prog T,n≤140737488351232)→
  Calls prog F #[v] W fun e W'=>e=.returned (.bool true)∧aj W W')
 (W:World) (base:Nat) (args:Array Value) (ds gs:List (DataW H)) (before:List MemPlace)
 (hval0:∀ (j:Nat) t v,f.params[j]? =some t→args[j]? =some v→Value.okWide prog W .any base t v)
 (hW:DataW.Whole enc prog f.params.toList s.vars false W args.toList ds gs before)
 (hsz:(DataW.weightsEach prog (f.params.toList++s.plain.varTypes prog) (ds++gs)).all (·≤reachBytes)=true) (hS:W.ShapedOpen prog) :
 Calls prog F args W fun e W'=>∃ v,e=.returned v∧s.post enc prog f false true false false W args v W':=by
 have hlt:∀ x∈before,x.block<W.heap.size:=fun x hx=>hW.lt x hx
 have hW':=hW;obtain ⟨p,q,hA,hV,rfl,hfz,hnd⟩:=hW;rw [hp] at hA hval0 hsz;rw [hvars] at hV;obtain ⟨v0,d0,rfl,rfl,h0⟩:=trodAll_one hA;obtain ⟨rfl,rfl⟩:=trodVars_none hV;simp only [List.append_nil] at hW' hlt;refine (walk W base v0 d0 p hS (hval0 0 T v0 rfl rfl) h0 (fun n hn=>Nat.le_trans (by simpa using List.all_eq_true.1 hsz n (DataW.weights_mem_each (j:=0) (t:=T) (d:=d0) rfl rfl n hn)) (show reachBytes≤140737488351232 by decide))).mono fun e W' ⟨he,hb⟩=>?_
 subst he;refine ⟨_,rfl,uj (pa:=p) (pv:=[]) hW' ?_ ?_ ?_ (by simp) hb ?_⟩
 ·intro b sp hd;rw [List.append_nil,hfn,hr];exact trodAll_mk1 (shut_bool hTb _)
 ·intro sp hsp;rw [List.append_nil,hfn,hp];exact trodAll_mk1 (WideElems.Trod_stays Tryz.laidOut hrec hrow h0 (fun x hx=>hb.same (hlt x hx)) hsp)
 ·intro sp hsp;rw [List.append_nil,hfn,hvars];simp [DataW.TrodVars]
 ·exact ok_one hr rfl (okWide_bool_mk hTb _)
theorem fB {H:Type} {enc:TypeId×Value→H} {F:FuncId} {T:TypeId} (t u:Ty) (hf:(Ty.pr t u).fits prog (.inl T)=true)
 (h:∀ (cs:Array Value) (x:(Ty.pr t u).den) (w:World),w.ShapedOpen prog→cs.size=(Ty.pr t u).size→(Ty.pr t u).At w (fun j=>cs[j]?) x→Rt prog F [.agg cs] w fun v w'=>v=.bool true∧aj w w')
 (W:World) (base:Nat) (v:Value) (d:DataW H) (p:List MemPlace) (hS:W.ShapedOpen prog) (hok:Value.okWide prog W .any base T v) (ht:DataW.Trod enc prog W 0 (fun _=>true) true T v d p) (hsz:∀ n∈d.weights prog T,n≤140737488351232) :
 Calls prog F #[v] W fun e W'=>e=.returned (.bool true)∧aj W W':=by
 obtain ⟨cs,x,rfl,hs,ha⟩:=KA t u hf hok ht hsz;exact Rt.to (h cs x W hS hs ha)
end Go.Proofs.YtcbakncjacnnjaaGreat
namespace Go.Proofs.YtcbakncjacnnjaaGreat
open Go.Proofs.Tryz (prog)
open Go.RowKit
open Go.ChangeShapes Go.WideShapes Go.ChangeAt
open Go.Proofs.YtcbakncjacnnjaaGreat.SA
theorem cD:cQ prog 25 1=some 1:=by kernel_rfl
theorem cU:fz prog 23=some false:=by kernel_rfl
theorem fN:(dh prog 23).isSome=true:=by kernel_rfl
theorem eX:dh prog 23=some (39,5):=by kernel_rfl
theorem eJ:cQ prog 39 1=some 1:=by kernel_rfl
theorem gK:cQ prog 39 2=some 3:=by kernel_rfl
theorem cM:cQ prog 25 0=some 0:=by kernel_rfl
theorem oQ:aH prog 30=true:=by kernel_rfl
theorem gv:aH prog 12=true:=by kernel_rfl
theorem cE:aH prog 15=true:=by kernel_rfl
theorem gQ:prog.built 37 [(0,.string ⟨#[97]⟩),(1,.string ⟨#[120,120]⟩)]=some #[.string ⟨#[97]⟩,.string ⟨#[120,120]⟩]:=by kernel_rfl
theorem mo:aH prog 27=true:=by kernel_rfl
theorem jt:aH prog 20=true:=by kernel_rfl
theorem mI:prog.built 57 [(0,.string ⟨#[97]⟩)]=some #[.string ⟨#[97]⟩,.int .i64 0]:=by kernel_rfl
theorem kD:aH prog 22=true:=by kernel_rfl
abbrev Ac:=Int×Dc×ByteArray×Int
def acV (a:Ac):List Value:=[.int .i64 a.1,.string a.2.1.1,.string a.2.1.2,.string a.2.2.1,.int .i64 a.2.2.2]
def Az:Ac:=(0,(⟨#[]⟩,⟨#[]⟩),⟨#[]⟩,0)
abbrev l9:Ty:=.pr (.int .i64) (.pr lN (.pr .str (.pr (.int .i64) .unit)))
def toA (x:Int×(ByteArray×ByteArray×Unit)×ByteArray×Int×Unit):Ac:=(x.1,(x.2.1.1,x.2.1.2.1),x.2.2.1,x.2.2.2.1)
structure OkA (a:Ac):Prop where
 do_:-9223372036854775808≤a.1∧a.1≤9223372036854775807
 id:Small a.2.1.1
 text:Small a.2.1.2
 pat:Small a.2.2.1
 lim:-9223372036854775808≤a.2.2.2∧a.2.2.2≤9223372036854775807
theorem IS {w:World} {c:Nat→Option Value} {xs:List (Int×(ByteArray×ByteArray×Unit)×ByteArray×Int×Unit)} (h:(Ty.sl l9).At w c xs):∃ (A:Option Addr) (cap:Nat) (acs:List Ac),c 0=some (.slice A acs.length cap)∧cL 5 acV w A acs∧(∀ a∈acs,OkA a)∧acs.length≤140737488351232:=by
 obtain ⟨A,cap,h0,h1,h2,h3⟩:=h;have hl:(List.map toA xs).length=List.length xs:=List.length_map _;refine ⟨A,cap,List.map toA xs,by rw [hl];exact h0,fun hp=>?_,fun d hd=>?_,by rw [hl];exact Nat.le_trans (Nat.le_mul_of_pos_right _ (by decide)) h1⟩
 ·rw [hl] at hp;obtain ⟨b,o,hA,_,hi⟩:=h3 hp;refine ⟨b,o,hA,fun i hlt=>?_⟩;have hlt2:i<List.length xs:=by rwa [hl] at hlt
  obtain ⟨⟨c1,_⟩,⟨⟨c2,_⟩,⟨c3,_⟩,_⟩,⟨c4,_⟩,⟨c5,_⟩,_⟩:=hi i _ (List.getElem?_eq_getElem hlt2);rw [List.getElem_map];intro j v hv
  match j,hv with
  |0,hv=>simp [acV,toA] at hv;subst hv;simpa [Ty.size] using c1
  |1,hv=>simp [acV,toA] at hv;subst hv;simpa [Ty.size] using c2
  |2,hv=>simp [acV,toA] at hv;subst hv;simpa [Ty.size] using c3
  |3,hv=>simp [acV,toA] at hv;subst hv;simpa [Ty.size] using c4
  |4,hv=>simp [acV,toA] at hv;subst hv;simpa [Ty.size] using c5
  |j+5,hv=>simp [acV] at hv
 ·obtain ⟨x,hx,rfl⟩:=List.mem_map.1 hd;obtain ⟨i,hi,rfl⟩:=List.getElem_of_mem hx;obtain ⟨b,o,hA,_,hh⟩:=h3 (Nat.lt_of_le_of_lt (Nat.zero_le _) hi);obtain ⟨⟨_,c1⟩,⟨⟨_,c2⟩,⟨_,c3⟩,_⟩,⟨_,c4⟩,⟨_,c5⟩,_⟩:=hh i _ (List.getElem?_eq_getElem hi);exact ⟨DQ c1,c2,c3,c4,DQ c5⟩
structure w_ (w:World) (A B:Option Addr) (ca:Nat) (ds:List Dc) (acs:List Ac):Prop where
 row:cL 2 dV w A ds
 sm:∀ d∈ds,Small d.1∧Small d.2
 len:ds.length*32≤140737488351232
 cap:ds.length≤ca
 nil:A=none→ca=0
 rowA:cL 5 acV w B acs
 smA:∀ a∈acs,OkA a
 lenA:acs.length≤140737488351232
theorem w_.from_ {w w':World} {A B:Option Addr} {ca:Nat} {ds:List Dc} {acs:List Ac} (h:w_ w A B ca ds acs) (hF:aj w w'):w_ w' A B ca ds acs:=⟨h.row.from_ hF,h.sm,h.len,h.cap,h.nil,h.rowA.from_ hF,h.smA,h.lenA⟩
theorem pD {w:World} {cs:Array Value} {x:(Ty.pr (.sl lN) (.pr (.sl l9) .unit)).den} (hs:cs.size=2) (h:(Ty.pr (.sl lN) (.pr (.sl l9) .unit)).At w (fun j=>cs[j]?) x) :
 ∃ (A B:Option Addr) (ca cb:Nat) (ds:List Dc) (acs:List Ac),cs=#[.slice A ds.length ca,.slice B acs.length cb]∧w_ w A B ca ds acs:=by
 obtain ⟨h1,h2,_⟩:=h;obtain ⟨A,ca,ds,a0,a1,a2,a3,a4,a5⟩:=IR h1;obtain ⟨B,cb,acs,b0,b1,b2,b3⟩:=IS h2;have e0:cs[0]? =some _:=a0;have e1:cs[1]? =some _:=b0;refine ⟨A,B,ca,cb,ds,acs,?_,⟨a1,a2,a3,a4,a5,b1,b2,b3⟩⟩;obtain ⟨l⟩:=cs
 match l,hs with
 |[a,b],_=>
  simp only [List.getElem?_toArray,List.getElem?_cons_zero,List.getElem?_cons_succ,Option.some.injEq] at e0 e1;rw [e0,e1]
theorem nB {w:World} (h:w.ShapedOpen prog):∃ m,w.cell? ⟨0,0,none⟩=some (.int .i64 m):=Tryz.laysM143.s1_3 w h
theorem GP:kN [] (⟨#[97]⟩,⟨#[120,120]⟩)=0∧lq [] (⟨#[97]⟩,⟨#[120,120]⟩)=[(⟨#[97]⟩,⟨#[120,120]⟩)]:=by
 have h0:kN [] (⟨#[97]⟩,⟨#[120,120]⟩)=0:=wj (by decide) (by decide) (by rintro ⟨e,he,_⟩;cases he) (by decide);refine ⟨h0,?_⟩;rw [rU h0];exact Cp (List.pairwise_singleton ..)
theorem Ha:sH [(⟨#[97]⟩,⟨#[120,120]⟩)] ⟨#[120]⟩ 1=[(⟨#[97]⟩,0)]∧sN [(⟨#[97]⟩,⟨#[120,120]⟩)] ⟨#[120]⟩ 1=2∧ik ⟨#[120]⟩ 1=0:=by
 have e0:ik ⟨#[120]⟩ 1=0:=by decide
 have e1:=It;unfold lX at e1;rw [show ou ⟨#[120]⟩=0 by decide,if_pos rfl] at e1;refine ⟨?_,?_,e0⟩
 ·unfold sH;rw [if_pos e0,e1];rfl
 ·unfold sN;rw [if_pos e0,e1];rfl
theorem KP {w:World} {g:Nat} {a:ByteArray} {x:Int} (h:Blk w g 57 #[.string a,.int .i64 x]):cL 2 hV w (some ⟨g,0,none⟩) [(a,x)]:=fun _=>⟨g,0,rfl,fun i hi=>by
 match i,hi with
 |0,_=>exact h.whole⟩
theorem Cv (w:World):Rt prog 12 [.slice none 0 0] w fun v w'=>(∃ s,v=.tuple #[.pointer (some ⟨s,0,none⟩),.int .i64 0]∧dD w' (fun k=>w.heap.size≤k) s [])∧aj w w':=
 (bY none 0 0 [] w cL.nil rfl (by omega) (fun _=>⟨rfl,rfl⟩)).mono fun v w' h=>by
  obtain ⟨h,hF⟩:=h;rcases h with ⟨h,_⟩ | ⟨_,h⟩
  ·exact absurd (BT (fun i hi=>absurd hi (by simp)) ⟨by simp,fun d hd=>(by cases hd),by simp [dsz]⟩) h
  ·exact ⟨h,hF⟩
theorem Cf (i:Int) (n:Nat) (w:World) (hn:0<n∧n≤1000) :
 Rt prog 17 [.int .i64 i,.int .i64 (n:Nat)] w (fun v w'=>(∃ m:Nat,m<n∧v=.int .i64 (m:Nat))∧w=w'):=by
 obtain ⟨a,ha,ha2⟩:∃ a:Nat,IntKind.u64.wrap i=(a:Int)∧a<18446744073709551616:=⟨(IntKind.u64.wrap i).toNat,by rw [IntKind.wrap_u64];omega,by rw [IntKind.wrap_u64];omega⟩;have hm:a%n<n:=Nat.mod_lt _ hn.1;refine enter (n:=11) Tryz.func17 rfl rfl rfl (ag (aa (asi rfl (ah (ab (ag (aa (mvi rfl (ae (Bn eE fw rfl) (dE (t:=6) (v:=.int _ _) (v':=.int .u64 (a:Nat)) rfl (by rw [ha]) ?_))))))))));refine mvi rfl (ae (fq eE fw rfl (by omega)) (ae (EI rfl rfl (by omega)) ?_));refine dE (t:=9) (v:=.int _ _) (v':=.int .u64 ((a%n:Nat):Int)) rfl (by rw [Int.tmod_eq_emod_of_nonneg (by omega)];rfl) ?_;refine ae (eD gG eW rfl (by omega)) (asi rfl (ah (ab (ay (bE (v:=.int _ _) rfl rfl (⟨⟨a%n,hm,rfl⟩,rfl⟩))))))
theorem l8 (A B:Option Addr) (ca cb:Nat) (ds:List Dc) (acs:List Ac) (w:World) (ha:w_ w A B ca ds acs) :
 Rt prog 10 [.agg #[.slice A ds.length ca,.slice B acs.length cb]] w (fun v w'=>(∃ hv:Bool,v=.bool hv∧(hv=false→ds.length≤60000∧acs.length≤200))∧aj w w'):=by
 have hlen:=ha.len;have hlen2:=ha.lenA;refine enter (n:=67) Tryz.func10 rfl rfl rfl (ag (aa (cW (v:=.agg _) rfl ?_)));intro b1 w1 E1 hb1 hk1;refine asb rfl (ah (ab (ag (aa (asi rfl (ah (ab (ag (ag (aa (asi rfl (ah (ab (az (bg (G:=Nat×Nat) [6,7,8,9,10,11,12,13,14,15,16,17,18,19,20,21,22,23,24,25,26,27,28,29,30,31,32,33,34,35,36,37,38,39,40,41,42,43] (fun (m,i)=>[(3,.int .i64 (m:Nat)),(4,.int .i64 (i:Nat))]) (fun (m,i) w'=>i≤acs.length∧m≤1000000000000000∧Blk w' b1 25 #[.slice A ds.length ca,.slice B acs.length cb]∧aj w w') (fun (_,i)=>acs.length-i) ((0,0)) ⟨rfl,rfl,trivial⟩ ?_ ?_)))))))))))))))
 ·exact ⟨Nat.zero_le _,by omega,hk1.from_ aj.rfl_,(aj.rfl_.next E1)⟩
 rintro ⟨m,i⟩ ρ2 w2 ⟨hi,hm,hP,hB⟩;refine ag (ag (aa (mvi rfl (ae (ak cD rfl) (ae (aq cU rfl (by exact (hP.from_ aj.rfl_).rd 1 rfl)) ?_)))));refine ae (aS fN rfl) (ae (aX rfl rfl) (mvb rfl (KL (t:=11) rfl (fun Q3=>?_) (fun Q3=>?_))))
 ·refine an rfl (mvi rfl (an rfl (ae (aX rfl rfl) (ae (bc (v:=.bool _) rfl rfl) (ah (ab (Li rfl (fun Q4=>?_) (fun Q4=>?_))))))))
  ·obtain ⟨bA,oA,rfl,hcA⟩:=ha.rowA (by omega);have hil:i<acs.length:=by omega
   obtain ⟨a,haa⟩:∃ a,a=acs[i]:=⟨_,rfl⟩;have hce:=hcA i hil;rw [←haa] at hce;obtain ⟨_,hs1,hs2,hs3,_⟩:=ha.smA a (by rw [haa];exact List.getElem_mem hil);unfold Small at hs1 hs2 hs3;refine au (ab (ag (az ?_)));apply bH 28 [(17,eqp _),(18,eqp _),(19,eqp _),(20,eqp _),(21,eqp _),(22,eqp _),(23,eqp _),(24,eqp (.string a.2.1.2)),(25,eqp _),(26,eqp _),(27,eqp _),(28,eqp _),(29,eqp _),(30,eqp _),(31,eqp _),(32,eqp _),(33,eqp (.string a.2.1.1)),(34,eqp _),(35,eqp _),(36,eqp _),(37,eqp _),(38,eqp _),(39,eqp _),(40,eqp _),(41,eqp (.string a.2.2.1)),(42,eqp _),(43,eqp _),(3,eqp _)] (by repeat first | exact bT | refine bS ?_ | refine bG ?_) (by kernel_rfl) (by kernel_rfl) ⟨af _,af _,af _,af _,af _,af _,af _,af _,af _,af _,af _,af _,af _,af _,af _,af _,af _,af _,af _,af _,af _,af _,af _,af _,af _,af _,af _,af _,trivial⟩
   case hop=>
    constructor
    ·rintro-w6 D6;exact ai (ar (v:=.int _ _) rfl) rfl
    constructor
    ·rintro-w7 D7;exact ai (ak cD rfl) rfl
    constructor
    ·rintro-w8 D8;rintro _ rfl;exact ai (aq cU rfl (by exact (hP.from_ (aj.rfl_.next D8)).rd 1 rfl)) rfl
    constructor
    ·rintro-w9 D9;exact ai (ar (v:=.int _ _) rfl) rfl
    constructor
    ·rintro-w10 D10;rintro _ rfl _ rfl;exact ai (aG eX rfl rfl (by omega)) rfl
    constructor
    ·rintro-w11 D11;rintro _ rfl;exact ai (ak eJ rfl) rfl
    constructor
    ·rintro-w12 D12;rintro _ rfl;exact ai (ak cf rfl) rfl
    constructor
    ·rintro-w13 D13;rintro _ rfl;exact ai (aq (v:=.string a.2.1.2) bf rfl (br (hB.next D13) (hce 2 _ rfl))) rfl
    constructor
    ·rintro-w14 D14;rintro v14_24 rfl;exact ai (cJ (by kernel_rfl) rfl) rfl
    constructor
    ·rintro-w15 D15;rintro _ rfl _ rfl;exact ai (aJ rfl rfl (by omega)) rfl
    constructor
    ·rintro-w16 D16;exact ai (ak cD rfl) rfl
    constructor
    ·rintro-w17 D17;rintro _ rfl;exact ai (aq cU rfl (by exact (hP.from_ (aj.rfl_.next D17)).rd 1 rfl)) rfl
    constructor
    ·rintro-w18 D18;exact ai (ar (v:=.int _ _) rfl) rfl
    constructor
    ·rintro-w19 D19;rintro _ rfl _ rfl;exact ai (aG eX rfl rfl (by omega)) rfl
    constructor
    ·rintro-w20 D20;rintro _ rfl;exact ai (ak eJ rfl) rfl
    constructor
    ·rintro-w21 D21;rintro _ rfl;exact ai (ak aW rfl) rfl
    constructor
    ·rintro-w22 D22;rintro _ rfl;exact ai (aq (v:=.string a.2.1.1) bf rfl (br (hB.next D22) (hce 1 _ rfl))) rfl
    constructor
    ·rintro-w23 D23;rintro v23_33 rfl;exact ai (cJ (by kernel_rfl) rfl) rfl
    constructor
    ·rintro-w24 D24;rintro _ rfl _ rfl;exact ai (aJ rfl rfl (by omega)) rfl
    constructor
    ·rintro-w25 D25;exact ai (ak cD rfl) rfl
    constructor
    ·rintro-w26 D26;rintro _ rfl;exact ai (aq cU rfl (by exact (hP.from_ (aj.rfl_.next D26)).rd 1 rfl)) rfl
    constructor
    ·rintro-w27 D27;exact ai (ar (v:=.int _ _) rfl) rfl
    constructor
    ·rintro-w28 D28;rintro _ rfl _ rfl;exact ai (aG eX rfl rfl (by omega)) rfl
    constructor
    ·rintro-w29 D29;rintro _ rfl;exact ai (ak gK rfl) rfl
    constructor
    ·rintro-w30 D30;rintro _ rfl;exact ai (aq (v:=.string a.2.2.1) bf rfl (br (hB.next D30) (hce 3 _ rfl))) rfl
    constructor
    ·rintro-w31 D31;rintro v31_41 rfl;exact ai (cJ (by kernel_rfl) rfl) rfl
    constructor
    ·rintro-w32 D32;rintro _ rfl _ rfl;exact ai (aJ rfl rfl (by omega)) rfl
    constructor
    ·rintro-w33 D33;rintro _ rfl;exact ai (bQ (v:=.int _ _) rfl) rfl
    exact trivial
   case hend=>
    intro w34 D34;rintro _ rfl _ rfl _ rfl _ rfl _ rfl _ rfl _ rfl v24 rfl _ rfl _ rfl _ rfl _ rfl _ rfl _ rfl _ rfl _ rfl v33 rfl _ rfl _ rfl _ rfl _ rfl _ rfl _ rfl _ rfl v41 rfl _ rfl _ rfl _ rfl;show St ..;refine ah (aN (ab (aa (mvi rfl (ae (aJ (b:=1) rfl rfl (by omega)) (asi rfl (ah ?_)))))));refine aR ((m+a.2.1.2.size+a.2.1.1.size+a.2.2.1.size,i+1)) ⟨(by first | rfl | (refine aM ?_;omega)),(by first | rfl | (refine aM ?_;omega)),trivial⟩ (by (iterate 81 refine aF rfl ?_);exact aK) ⟨?_,?_⟩
    ·exact ⟨by omega,by omega,hP.from_ (aj.rfl_.next D34),(hB.next D34)⟩
    ·show acs.length-(i+1)<acs.length-i;omega
  refine aZ (aD (aD (aU (ab (ag (aa (ae (ak cM rfl) (ae (aq bK rfl (by exact (hP.from_ aj.rfl_).rd 0 rfl)) ?_))))))));refine aA oQ (vO A ca ds.length ds _ (ha.row.from_ hB) rfl (by omega) ha.sm) ?_;rintro v46 w35 ⟨⟨m46,rfl,hm46⟩,E46⟩;refine asi rfl (ah (ab (ag (aa (mvi rfl (ae (bU rfl rfl) (mvb rfl (KL (t:=49) rfl (fun Q36=>?_) (fun Q36=>?_)))))))))
  ·refine aB rfl rfl (aB rfl rfl (aB rfl rfl (fE rfl (fE rfl (aB rfl rfl (ae (bc (v:=.bool _) rfl rfl) (mvb rfl (aB rfl rfl ?_))))))));refine aB rfl rfl (ae (bc (v:=.bool _) rfl rfl) (mvb rfl (aB rfl rfl (aB rfl rfl (aB rfl rfl (aB rfl rfl (ae (bc (v:=.bool _) rfl rfl) (asb rfl ?_))))))));refine ah (ab (ay (bE (v:=.bool _) rfl rfl (⟨⟨_,rfl,fun h=>?_⟩,(hB.next E46)⟩))))
   first
    |(cases h;done)
    |omega
    |(have hq:=dF_ h;omega)
  refine an rfl (mvi rfl (an rfl (ae (bU rfl rfl) (an rfl (mvb rfl (KL (t:=52) rfl (fun Q37=>?_) (fun Q37=>?_)))))))
  ·refine an rfl (mvi rfl (an rfl (ae (aX rfl rfl) (an rfl (ae (bc (v:=.bool _) rfl rfl) (ae (aQ (v:=.bool _) rfl rfl) (mvb rfl (KL (t:=57) rfl (fun Q38=>?_) (fun Q38=>?_)))))))))
   ·refine aB rfl rfl (aB rfl rfl (ae (bc (v:=.bool _) rfl rfl) (mvb rfl (aB rfl rfl (aB rfl rfl (aB rfl rfl (aB rfl rfl (ae (bc (v:=.bool _) rfl rfl) ?_))))))));refine asb rfl (ah (ab (ay (bE (v:=.bool _) rfl rfl (⟨⟨_,rfl,fun h=>?_⟩,(hB.next E46)⟩)))))
    first
     |(cases h;done)
     |omega
     |(have hq:=dF_ h;omega)
   refine an rfl (mvi rfl (an rfl (ae (bU rfl rfl) (ae (aQ (v:=.bool _) rfl rfl) (mvb rfl (KL (t:=61) rfl (fun Q39=>?_) (fun Q39=>?_)))))))
   ·refine aB rfl rfl (aB rfl rfl (aB rfl rfl (aB rfl rfl (ae (bc (v:=.bool _) rfl rfl) (asb rfl (ah (ab (ay (bE (v:=.bool _) rfl rfl (⟨⟨_,rfl,fun h=>?_⟩,(hB.next E46)⟩))))))))))
    first
     |(cases h;done)
     |omega
     |(have hq:=dF_ h;omega)
   refine an rfl (ae (ak cD rfl) (an rfl (ae (aq cU rfl (by exact (hP.from_ (aj.rfl_.next E46)).rd 1 rfl)) ?_)));refine an rfl (ae (aS fN rfl) (an rfl (ae (bU rfl rfl) (ae (aQ (v:=.bool _) rfl rfl) (asb rfl (ah (ab (ay (bE (v:=.bool _) rfl rfl (⟨⟨_,rfl,fun h=>?_⟩,(hB.next E46)⟩))))))))))
   first
    |(cases h;done)
    |omega
    |(have hq:=dF_ h;omega)
  refine aB rfl rfl (aB rfl rfl (an rfl (ae (aQ (v:=.bool _) rfl rfl) (ae (aQ (v:=.bool _) rfl rfl) (mvb rfl (an rfl (mvi rfl (an rfl ?_))))))));refine ae (bU rfl rfl) (ae (aQ (v:=.bool _) rfl rfl) (mvb rfl (KL (t:=61) rfl (fun Q40=>?_) (fun Q40=>?_))))
  ·refine aB rfl rfl (aB rfl rfl (aB rfl rfl (aB rfl rfl (ae (bc (v:=.bool _) rfl rfl) (asb rfl (ah (ab (ay (bE (v:=.bool _) rfl rfl (⟨⟨_,rfl,fun h=>?_⟩,(hB.next E46)⟩))))))))))
   first
    |(cases h;done)
    |omega
    |(have hq:=dF_ h;omega)
  refine an rfl (ae (ak cD rfl) (an rfl (ae (aq cU rfl (by exact (hP.from_ (aj.rfl_.next E46)).rd 1 rfl)) ?_)));refine an rfl (ae (aS fN rfl) (an rfl (ae (bU rfl rfl) (ae (aQ (v:=.bool _) rfl rfl) (asb rfl (ah (ab (ay (bE (v:=.bool _) rfl rfl (⟨⟨_,rfl,fun h=>?_⟩,(hB.next E46)⟩))))))))))
  first
   |(cases h;done)
   |omega
   |(have hq:=dF_ h;omega)
 refine aB rfl rfl (aB rfl rfl (ae (aQ (v:=.bool _) rfl rfl) (ah (ab (cm rfl (aZ (aD (aD (aU (ab (ag (aa (ae (ak cM rfl) (ae (aq bK rfl (by exact (hP.from_ aj.rfl_).rd 0 rfl)) ?_))))))))))))));refine aA oQ (vO A ca ds.length ds _ (ha.row.from_ hB) rfl (by omega) ha.sm) ?_;rintro v46 w41 ⟨⟨m46,rfl,hm46⟩,E46⟩;refine asi rfl (ah (ab (ag (aa (mvi rfl (ae (bU rfl rfl) (mvb rfl (KL (t:=49) rfl (fun Q42=>?_) (fun Q42=>?_)))))))))
 ·refine aB rfl rfl (aB rfl rfl (aB rfl rfl (fE rfl (fE rfl (aB rfl rfl (ae (bc (v:=.bool _) rfl rfl) (mvb rfl (aB rfl rfl ?_))))))));refine aB rfl rfl (ae (bc (v:=.bool _) rfl rfl) (mvb rfl (aB rfl rfl (aB rfl rfl (aB rfl rfl (aB rfl rfl (ae (bc (v:=.bool _) rfl rfl) (asb rfl ?_))))))));refine ah (ab (ay (bE (v:=.bool _) rfl rfl (⟨⟨_,rfl,fun h=>?_⟩,(hB.next E46)⟩))))
  first
   |(cases h;done)
   |omega
   |(have hq:=dF_ h;omega)
 refine an rfl (mvi rfl (an rfl (ae (bU rfl rfl) (an rfl (mvb rfl (KL (t:=52) rfl (fun Q43=>?_) (fun Q43=>?_)))))))
 ·refine an rfl (mvi rfl (an rfl (ae (aX rfl rfl) (an rfl (ae (bc (v:=.bool _) rfl rfl) (ae (aQ (v:=.bool _) rfl rfl) (mvb rfl (KL (t:=57) rfl (fun Q44=>?_) (fun Q44=>?_)))))))))
  ·refine aB rfl rfl (aB rfl rfl (ae (bc (v:=.bool _) rfl rfl) (mvb rfl (aB rfl rfl (aB rfl rfl (aB rfl rfl (aB rfl rfl (ae (bc (v:=.bool _) rfl rfl) ?_))))))));refine asb rfl (ah (ab (ay (bE (v:=.bool _) rfl rfl (⟨⟨_,rfl,fun h=>?_⟩,(hB.next E46)⟩)))))
   first
    |(cases h;done)
    |omega
    |(have hq:=dF_ h;omega)
  refine an rfl (mvi rfl (an rfl (ae (bU rfl rfl) (ae (aQ (v:=.bool _) rfl rfl) (mvb rfl (KL (t:=61) rfl (fun Q45=>?_) (fun Q45=>?_)))))))
  ·refine aB rfl rfl (aB rfl rfl (aB rfl rfl (aB rfl rfl (ae (bc (v:=.bool _) rfl rfl) (asb rfl (ah (ab (ay (bE (v:=.bool _) rfl rfl (⟨⟨_,rfl,fun h=>?_⟩,(hB.next E46)⟩))))))))))
   first
    |(cases h;done)
    |omega
    |(have hq:=dF_ h;omega)
  refine an rfl (ae (ak cD rfl) (an rfl (ae (aq cU rfl (by exact (hP.from_ (aj.rfl_.next E46)).rd 1 rfl)) ?_)));refine an rfl (ae (aS fN rfl) (an rfl (ae (bU rfl rfl) (ae (aQ (v:=.bool _) rfl rfl) (asb rfl (ah (ab (ay (bE (v:=.bool _) rfl rfl (⟨⟨_,rfl,fun h=>?_⟩,(hB.next E46)⟩))))))))))
  first
   |(cases h;done)
   |omega
   |(have hq:=dF_ h;omega)
 refine aB rfl rfl (aB rfl rfl (an rfl (ae (aQ (v:=.bool _) rfl rfl) (ae (aQ (v:=.bool _) rfl rfl) (mvb rfl (an rfl (mvi rfl (an rfl ?_))))))));refine ae (bU rfl rfl) (ae (aQ (v:=.bool _) rfl rfl) (mvb rfl (KL (t:=61) rfl (fun Q46=>?_) (fun Q46=>?_))))
 ·refine aB rfl rfl (aB rfl rfl (aB rfl rfl (aB rfl rfl (ae (bc (v:=.bool _) rfl rfl) (asb rfl (ah (ab (ay (bE (v:=.bool _) rfl rfl (⟨⟨_,rfl,fun h=>?_⟩,(hB.next E46)⟩))))))))))
  first
   |(cases h;done)
   |omega
   |(have hq:=dF_ h;omega)
 refine an rfl (ae (ak cD rfl) (an rfl (ae (aq cU rfl (by exact (hP.from_ (aj.rfl_.next E46)).rd 1 rfl)) ?_)));refine an rfl (ae (aS fN rfl) (an rfl (ae (bU rfl rfl) (ae (aQ (v:=.bool _) rfl rfl) (asb rfl (ah (ab (ay (bE (v:=.bool _) rfl rfl (⟨⟨_,rfl,fun h=>?_⟩,(hB.next E46)⟩))))))))))
 first
  |(cases h;done)
  |omega
  |(have hq:=dF_ h;omega)
theorem fC (w:World) (m:Int) (hm:w.cell? ⟨0,0,none⟩=some (.int .i64 m)) :
 Rt prog 16 [] w (fun v w'=>v=.bool true∧aj w w'):=by
 refine enter (n:=43) Tryz.func16 rfl rfl rfl (ag (aa (asb rfl (ah (ab (ag (aa (aA gv (Cv _) ?_))))))));rintro v7 w1 ⟨⟨s,rfl,hs7⟩,E7⟩;refine mvt rfl (ae (ax rfl rfl) (ae (ax rfl rfl) (asp rfl (asi rfl (ah (ab (ag (ag (aa (mvi rfl (aA cE (da _ _) ?_)))))))))));rintro v11 w2 ⟨rfl,rfl⟩;refine ae (cG (cq rfl rfl) (bne_self_eq_false _)) (mvb rfl (an rfl (mvp rfl (an rfl (ae (cG (er (by kernel_rfl) rfl rfl) rfl) (ae (aQ (v:=.bool _) rfl rfl) (mvb rfl (an rfl ?_))))))));refine mvp rfl (an rfl (ae (du (l:=[(0,.const (.string ⟨#[97]⟩)),(1,.const (.string ⟨#[120,120]⟩))]) (gQ)) (an rfl (aA mo (wi _ s [] _ hs7 (⟨#[97]⟩,⟨#[120,120]⟩) (by decide) (by decide)) ?_))));rintro v20 w3 ⟨rfl,hs20,hC20⟩;rw [GP.1];refine an rfl (aA cE (da _ _) ?_);rintro v21 w4 ⟨rfl,rfl⟩;refine an rfl (ae (cG (cq rfl rfl) (bne_self_eq_false _)) (ae (aQ (v:=.bool _) rfl rfl) (ah (ab (cm rfl (au (ab (ag (aa (mvp rfl (aA jt (ir _ s [(⟨#[97]⟩,⟨#[120,120]⟩)] _ (GP.2 ▸ hs20) ⟨#[120]⟩ 1 m (br (((aj.rfl_.next E7)).chg hC20 (fun k hk=>hk)) hm) (by decide)) ?_)))))))))));rintro v26 w5 ⟨⟨A26,c26,rfl,ho26⟩,E26⟩;obtain ⟨x1,x2,x3⟩:=Ha;rw [x1] at ho26 ⊢;rw [x2,x3];refine mvt rfl (ae (ax rfl rfl) (ae (ax rfl rfl) (ae (ax rfl rfl) (ass rfl (asi rfl (asi rfl (ah (ab (ag (aa (mvi rfl ?_)))))))))));refine aA cE (da _ _) ?_;rintro v31 w6 ⟨rfl,rfl⟩;refine ae (iw (cF rfl rfl) rfl) (mvb rfl (an rfl (mvi rfl (an rfl (ae (iw (cF rfl rfl) rfl) (ae (bc (v:=.bool _) rfl rfl) (mvb rfl (an rfl ?_))))))));refine mvs rfl (an rfl (ae (du (l:=[(0,.const (.string ⟨#[97]⟩))]) (mI)) (an rfl (gd eO rfl rfl rfl ?_))));intro b40 w7 E40 hb40 hk40;refine an rfl (aA kD (lM A26 (some ⟨b40,0,none⟩) c26 1 1 1 [(⟨#[97]⟩,0)] [(⟨#[97]⟩,0)] _ ((cL.own eB (by decide) ho26).2.from_ E40) (KP hk40) rfl rfl (by omega)) ?_);rintro v41 w8 ⟨rfl,E41⟩;refine ae (bc (v:=.bool _) rfl rfl) (asb rfl (ah (ab (ay (bE (v:=.bool _) rfl rfl (⟨congrArg Value.bool (decide_eq_true rfl),((((((aj.rfl_.next E7)).chg hC20 (fun k hk=>hk)).next E26).next E40).next E41)⟩))))))
theorem dD.low {w:World} {N s:Nat} {D:List Dc} (h:dD w (fun k=>N≤k) s D):N≤w.heap.size:=by
 obtain ⟨ps,L,Ap,cp,Al,cl,hG,h,hU⟩:=h;have h1:N≤s:=hU s (.inl (.inl rfl));have:=h.blk.lt;omega
theorem dD.on {w w':World} {N s:Nat} {D D':List Dc} (h:dD w (fun k=>N≤k) s D) (h2:dD w' (Nx (fun k=>N≤k) w w') s D'):dD w' (fun k=>N≤k) s D':=h2.wide fun _ hk _=>hk.elim id fun e=>Nat.le_trans h.low e.1
theorem nH (A:Option Addr) (ca:Nat) (ds:List Dc) (w:World) (hr:cL 2 dV w A ds) (hcap:ds.length≤ca) (hnil:A=none→ca=0) (hck:jm ds=0):Rt prog 12 [.slice A ds.length ca] w fun v w'=>(∃ s,v=.tuple #[.pointer (some ⟨s,0,none⟩),.int .i64 0]∧dD w' (fun k=>w.heap.size≤k) s ds)∧aj w w':=
 (bY A ca ds.length ds w hr rfl (by have:=(pz hck).2.1;omega) (fun e=>by have:=hnil e;omega)).mono fun v w' h=>by
  obtain ⟨h,hF⟩:=h;rcases h with ⟨h,_⟩ | ⟨_,h⟩
  ·exact absurd hck h
  ·exact ⟨h,hF⟩
theorem vj {D:List Dc} (hf:jJ D) (q:ByteArray) (lim:Int):(sH D q lim).length≤100000000:=by
 unfold sH;split
 ·have:=x5 q (.refl D) hf;rw [List.length_take];omega
 ·simp
def tY (w:World) (D:List Dc) (q:ByteArray) (lim:Int) (v:Value):Prop:=∃ A c,v=.tuple #[.slice A (sH D q lim).length c,.int .i64 (sN D q lim:Nat),.int .i64 (ik q lim)]∧cL 2 hV w A (sH D q lim)
def tZ (w:World) (D:List Dc) (q:ByteArray) (lim:Int) (v:Value):Prop:=∃ A c,v=.slice A (sH D q lim).length c∧cL 2 hV w A (sH D q lim)
theorem tY.mono {D:List Dc} {q:ByteArray} {lim:Int}:∀ v w1 w2,aj w1 w2→tY w1 D q lim v→tY w2 D q lim v:=fun _ _ _ hF ⟨A,c,h1,h2⟩=>⟨A,c,h1,h2.from_ hF⟩
theorem tZ.mono {D:List Dc} {q:ByteArray} {lim:Int}:∀ v w1 w2,aj w1 w2→tZ w1 D q lim v→tZ w2 D q lim v:=fun _ _ _ hF ⟨A,c,h1,h2⟩=>⟨A,c,h1,h2.from_ hF⟩
theorem Cc {w:World} {b o:Nat} {a:Ac} (h:w.rangeAt b o (acV a)):w.rangeAt b (o+1) (dV a.2.1):=fun j v hv=>by
 match j,hv with
 |0,hv=>exact h 1 v hv
 |1,hv=>exact h 2 v hv
 |j+2,hv=>simp [dV] at hv
def AQ (w:World) (U:Nat→Prop) (D:List Dc) (e:Int) (v:Value):Prop:=∃ A c,v=.tuple #[.slice A D.length c,.int .i64 e]∧j6 w U A c D
def AR (w:World) (U:Nat→Prop) (D:List Dc) (v:Value):Prop:=∃ A c,v=.slice A D.length c∧j6 w U A c D
theorem AQ.mono {U:Nat→Prop} {D:List Dc} {e:Int}:∀ v w1 w2,aj w1 w2→AQ w1 U D e v→AQ w2 U D e v:=fun _ _ _ hF ⟨A,c,h1,h2⟩=>⟨A,c,h1,h2.from_ hF⟩
theorem AR.mono {U:Nat→Prop} {D:List Dc}:∀ v w1 w2,aj w1 w2→AR w1 U D v→AR w2 U D v:=fun _ _ _ hF ⟨A,c,h1,h2⟩=>⟨A,c,h1,h2.from_ hF⟩
def ShU (w:World) (N:Nat) (s:Nat) (D:List Dc):Prop:=∃ U,dD w U s D∧∀ k,U k→N≤k∧k<w.heap.size
theorem ShU.of {w:World} {N s:Nat} {D:List Dc} (h:dD w (fun k=>N≤k) s D):ShU w N s D:=⟨_,h.wide (V:=fun k=>N≤k∧k<w.heap.size) fun _ h1 h2=>⟨h1,h2⟩,fun _ h=>h⟩
theorem j6.arg {w0 w:World} {U:Nat→Prop} {N:Nat} {A:Option Addr} {c:Nat} {ds:List Dc} (h:cL 2 dV w0 A ds) (hcap:ds.length≤c) (hnil:A=none→c=0) (hF:aj w0 w) (hN:w0.heap.size≤N) (hU:∀ k,U k→N≤k):j6 w U A c ds:=⟨h.from_ hF,hcap,hnil,fun h0 q hq hu=>by
 obtain ⟨b,o,e,hc⟩:=h h0;subst e;cases hq;have h1:=World.block_lt_of_cell? _ _ (hc 0 h0 0 _ rfl);have h2:=hU b hu;have h3:b<w0.heap.size:=h1;omega⟩
def XS (w:World) (N s:Nat) (D:List Dc) (A:Option Addr) (c:Nat):Prop:=∃ U,dD w U s D∧j6 w U A c D∧∀ k,U k→N≤k∧k<w.heap.size
theorem XS.low {w:World} {N s:Nat} {U:Nat→Prop} {D:List Dc} (h:dD w U s D) (hU:∀ k,U k→N≤k∧k<w.heap.size):N≤w.heap.size:=by
 obtain ⟨ps,L,Ap,cp,Al,cl,hG,h,h3⟩:=h;have:=hU s (h3 s (.inl (.inl rfl)));omega
theorem B4 {w:World} {g:Nat} {a:Ac} (h:Blk w g 39 #[.int .i64 a.1,.string a.2.1.1,.string a.2.1.2,.string a.2.2.1,.int .i64 a.2.2.2]):w.rangeAt g 1 (dV a.2.1):=h.range 1 _ (fun j v hv=>by
 match j,hv with
 |0,hv=>exact hv
 |1,hv=>exact hv
 |j+2,hv=>simp [dV] at hv)
def ShV (w:World) (N s:Nat) (D:List Dc) (b:Nat):Prop:=∃ U,dD w U s D∧∀ k,U k→N≤k∧k<w.heap.size∧k≠b
def PS (w:World) (N a b:Nat) (D E:List Dc) (g:Nat):Prop:=∃ U V:Nat→Prop,dD w U a D∧dD w V b E∧(∀ k,U k→N≤k∧k<w.heap.size∧k≠g)∧(∀ k,V k→N≤k∧k<w.heap.size∧k≠g)∧∀ k,U k→¬ V k
theorem PS.from_ {w w':World} {N a b g:Nat} {D E:List Dc} (h:PS w N a b D E g) (hF:aj w w'):PS w' N a b D E g:=by
 obtain ⟨U,V,h1,h2,h3,h4,h5⟩:=h;exact ⟨U,V,h1.from_ hF,h2.from_ hF,fun k hk=>⟨(h3 k hk).1,Nat.lt_of_lt_of_le (h3 k hk).2.1 hF.size,(h3 k hk).2.2⟩,fun k hk=>⟨(h4 k hk).1,Nat.lt_of_lt_of_le (h4 k hk).2.1 hF.size,(h4 k hk).2.2⟩,h5⟩
theorem PS.beside {w w':World} {N a b g gg:Nat} {D E:List Dc} (h:PS w N a b D E g) (hF:aj w w') (hg:w.heap.size≤gg):PS w' N a b D E gg:=by
 obtain ⟨U,V,h1,h2,h3,h4,h5⟩:=h;exact ⟨U,V,h1.from_ hF,h2.from_ hF,fun k hk=>⟨(h3 k hk).1,Nat.lt_of_lt_of_le (h3 k hk).2.1 hF.size,by have:=(h3 k hk).2.1;omega⟩,fun k hk=>⟨(h4 k hk).1,Nat.lt_of_lt_of_le (h4 k hk).2.1 hF.size,by have:=(h4 k hk).2.1;omega⟩,h5⟩
theorem PS.docs {w:World} {N a b g:Nat} {D E:List Dc} (h:PS w N a b D E g):iW D∧jJ D:=by
 obtain ⟨U,V,h1,_⟩:=h;exact h1.docs
theorem PS.made {w1 w:World} {N a b g:Nat} {D:List Dc} (h1:dD w1 (fun k=>N≤k) a D) (h2:dD w (fun k=>w1.heap.size≤k) b D) (hF:aj w1 w) (hN:N≤w1.heap.size) (hg:g<N):PS w N a b D D g:=by
 refine ⟨fun k=>N≤k∧k<w1.heap.size,fun k=>w1.heap.size≤k∧k<w.heap.size,(h1.wide fun k h1 h2=>⟨h1,h2⟩).from_ hF,h2.wide fun k h1 h2=>⟨h1,h2⟩,fun k hk=>?_,fun k hk=>?_,fun k hk hv=>?_⟩
 ·have:=hF.size;exact ⟨hk.1,by omega,by omega⟩
 ·exact ⟨by omega,hk.2,by omega⟩
 ·have h3:k<w1.heap.size:=hk.2;have h4:w1.heap.size≤k:=hv.1;omega
theorem PS.stepA {w w':World} {N a b g:Nat} {D D' E:List Dc} {U V:Nat→Prop} (hu:dD w U a D) (hv:dD w V b E) (hU:∀ k,U k→N≤k∧k<w.heap.size∧k≠g) (hV:∀ k,V k→N≤k∧k<w.heap.size∧k≠g) (hUV:∀ k,U k→¬ V k) (hg:g<w.heap.size)
 (h:dD w' (Nx U w w') a D') (hC:Chg U w w'):PS w' N a b D' E g:=by
 have hN:=XS.low hu (fun k hk=>⟨(hU k hk).1,(hU k hk).2.1⟩);have hz:=hC.size;refine ⟨_,V,h,hv.chg hC fun k hk h2=>hUV k h2 hk,fun k hk=>?_,fun k hk=>⟨(hV k hk).1,Nat.lt_of_lt_of_le (hV k hk).2.1 hz,(hV k hk).2.2⟩,fun k hk hv2=>?_⟩
 ·rcases hk with e | e
  ·have:=hU k e;exact ⟨this.1,by omega,this.2.2⟩
  ·exact ⟨by omega,e.2,by omega⟩
 ·rcases hk with e | e
  ·exact hUV k e hv2
  ·have:=(hV k hv2).2.1;omega
theorem PS.stepB {w w':World} {N a b g:Nat} {D E E':List Dc} {U V:Nat→Prop} (hu:dD w U a D) (_:dD w V b E) (hU:∀ k,U k→N≤k∧k<w.heap.size∧k≠g) (hV:∀ k,V k→N≤k∧k<w.heap.size∧k≠g) (hUV:∀ k,U k→¬ V k) (hg:g<w.heap.size)
 (h:dD w' (Nx V w w') b E') (hC:Chg V w w'):PS w' N a b D E' g:=by
 have hN:=XS.low hu (fun k hk=>⟨(hU k hk).1,(hU k hk).2.1⟩);have hz:=hC.size;refine ⟨U,_,hu.chg hC fun k hk h2=>hUV k hk h2,h,fun k hk=>⟨(hU k hk).1,Nat.lt_of_lt_of_le (hU k hk).2.1 hz,(hU k hk).2.2⟩,fun k hk=>?_,fun k hk hv2=>?_⟩
 ·rcases hk with e | e
  ·have:=hV k e;exact ⟨this.1,by omega,this.2.2⟩
  ·exact ⟨by omega,e.2,by omega⟩
 ·rcases hv2 with e | e
  ·exact hUV k hk e
  ·have:=(hU k hk).2.1;omega
theorem PS.off1 {w:World} {N a b g g':Nat} {D E:List Dc} (h:PS w N a b D E g) (hg:g'<N):PS w N a b D E g':=by
 obtain ⟨U,V,h1,h2,h3,h4,h5⟩:=h;exact ⟨U,V,h1,h2,fun k hk=>⟨(h3 k hk).1,(h3 k hk).2.1,by have:=(h3 k hk).1;omega⟩,fun k hk=>⟨(h4 k hk).1,(h4 k hk).2.1,by have:=(h4 k hk).1;omega⟩,h5⟩
theorem Bz (A:Option Addr) (ca:Nat) (ds:List Dc) (w:World) (hr:cL 2 dV w A ds) (hcap:ds.length≤ca) (hnil:A=none→ca=0) (hl:ds.length≤100000000):Rt prog 12 [.slice A ds.length ca] w fun v w'=>(∃ p,v=.tuple #[.pointer p,.int .i64 (jm ds)]∧(jm ds=0→∃ s,p=some ⟨s,0,none⟩∧dD w' (fun k=>w.heap.size≤k) s ds)∧(jm ds≠0→p=none))∧aj w w':=
 (bY A ca ds.length ds w hr rfl hl (fun e=>by have:=hnil e;omega)).mono fun v w' h=>by
  obtain ⟨h,hF⟩:=h;rcases h with ⟨h,e⟩ | ⟨h0,s,e,h⟩
  ·exact ⟨⟨none,e,fun h2=>absurd h2 h,fun _=>rfl⟩,hF⟩
  ·exact ⟨⟨_,by rw [h0];exact e,fun _=>⟨s,rfl,h⟩,fun h2=>absurd h0 h2⟩,hF⟩
theorem oO:aH prog 19=true:=by kernel_rfl
theorem mn:fz prog 25=some true:=by kernel_rfl
theorem ml:dY prog 25=some 2:=by kernel_rfl
theorem mm:aH prog 10=true:=by kernel_rfl
theorem gu:prog.underlying 28=some (.pointer (prog.pointee 28)):=by kernel_rfl
theorem fM:aH prog 16=true:=by kernel_rfl
theorem Ay:fz prog 39=some true:=by kernel_rfl
theorem tK:dY prog 39=some 5:=by kernel_rfl
theorem Aw:mz prog 39=some (.agg #[.int .i64 0,.string ⟨#[]⟩,.string ⟨#[]⟩,.string ⟨#[]⟩,.int .i64 0]):=by kernel_rfl
theorem wG:cQ prog 39 0=some 0:=by kernel_rfl
theorem Ax:aH prog 17=true:=by kernel_rfl
theorem oM:aH prog 24=true:=by kernel_rfl
theorem tL:aH prog 25=true:=by kernel_rfl
theorem iS:cQ prog 39 3=some 4:=by kernel_rfl
theorem oK:aH prog 29=true:=by kernel_rfl
theorem zd (A B:Option Addr) (ca cb:Nat) (ds:List Dc) (acs:List Ac) (w:World) (hS:w.ShapedOpen prog) (ha:w_ w A B ca ds acs) :
 Rt prog 4 [.agg #[.slice A ds.length ca,.slice B acs.length cb]] w (fun v w'=>v=.bool true∧aj w w'):=by
 obtain ⟨m,hm⟩:=nB hS;have hlen:=ha.len;have hlenA:=ha.lenA;refine enter (n:=205) Tryz.func4 rfl rfl rfl (ag (aa (cW (v:=.agg _) rfl ?_)));intro b1 w1 E1 hb1 hk1;refine asb rfl (ah (ab (ag (ag (aa (ae (bw (cs:=[_,_]) mn ml rfl (by exact (hk1.from_ aj.rfl_).whole)) ?_))))));refine aA mm (l8 A B ca cb ds acs _ (ha.from_ (aj.rfl_.next E1))) ?_;rintro v21 w2 ⟨⟨hv,rfl,hli⟩,E21⟩;refine mvb rfl (bz (t:=22) rfl (fun Q3=>?_) (fun Q3=>?_))
 ·refine aB rfl rfl (aB rfl rfl (aB rfl rfl (aB rfl rfl (ae (bc (v:=.bool _) rfl rfl) (ah (ab (cB rfl (ag (aa (asb rfl ?_))))))))));refine ah (ab (ay (aC (bE (v:=.bool _) rfl rfl (⟨rfl,((aj.rfl_.next E1).next E21)⟩)))))
 refine an rfl (ae (ak cM rfl) (an rfl (ae (aq bK rfl (by exact (hk1.from_ (aj.rfl_.next E21)).rd 0 rfl)) ?_)));refine an rfl ?_;refine aA oQ (vO A ca ds.length ds _ (ha.row.from_ ((aj.rfl_.next E1).next E21)) rfl (by have h9:=hli (by first | assumption | simp_all);omega) ha.sm) ?_;rintro v25 w4 ⟨⟨m25,rfl,hm25⟩,E25⟩;refine an rfl (ae (bU rfl rfl) (ae (aQ (v:=.bool _) rfl rfl) (ah (ab (Li rfl (fun Q5=>?_) (fun Q5=>?_))))))
 ·refine ag (aa (asb rfl (ah (ab (ay (aC (bE (v:=.bool _) rfl rfl (⟨rfl,(((aj.rfl_.next E1).next E21).next E25)⟩))))))))
 refine au (ab (ag (aa (ae (ak cM rfl) (ae (aq bK rfl (by exact (hk1.from_ ((aj.rfl_.next E21).next E25)).rd 0 rfl)) ?_)))));obtain ⟨N,hN⟩:∃ N,N=(w4).heap.size:=⟨_,rfl⟩;have hNw:w.heap.size≤N:=by rw [hN];exact ((((aj.rfl_.next E1).next E21).next E25)).size
 have hk131:=hk1.from_ (((aj.rfl_.next E21).next E25));have hNb:b1<N:=by rw [hN];exact hk131.lt
 refine aA gv (bY A ca ds.length ds _ (ha.row.from_ (((aj.rfl_.next E1).next E21).next E25)) rfl (by have h9:=hli (by first | assumption | simp_all);omega) (fun e=>by have:=ha.nil e;have:=ha.cap;omega)) ?_;rintro v31 w6 ⟨hs31,E31⟩;replace hk1:=hk131.from_ E31;rcases hs31 with ⟨hck,rfl⟩ | ⟨hck,s,rfl,hsh⟩
 ·have hb33:(jm ds != 0)=true:=by simpa using hck
  refine mvt rfl (ae (ax rfl rfl) (ae (ax rfl rfl) (asp rfl (asi rfl (ah (ab (ag (aa (ae (ak cM rfl) (ae (aq bK rfl (by exact (hk1.from_ aj.rfl_).rd 0 rfl)) ?_))))))))));have hM37:=(show aj _ w6 from aj.rfl_);have hk137:=hk1.from_ (aj.rfl_);refine aA gv (Bz A ca ds _ (ha.row.from_ ((((aj.rfl_.next E1).next E21).next E25).next E31)) ha.cap ha.nil (by have h9:=hli (by first | assumption | simp_all);omega)) ?_;rintro v37 w7 ⟨⟨p37,rfl,hs37⟩,E37⟩;replace hk1:=hk137.from_ E37
  first | (obtain ⟨s2,rfl,hsh2⟩:=hs37.1 hck;have hps:PS w7 N s s2 ds ds b1:=PS.made (hsh.from_ hM37) hsh2 E37 (Nat.le_trans hNz hM37.size) hNb) | (obtain rfl:=hs37.2 hck)
  refine mvt rfl (ae (ax rfl rfl) (ae (ax rfl rfl) (asp rfl (asi rfl (ah (ab (ag (ag (aa (mvi rfl (aA cE (da _ _) ?_)))))))))));rintro v41 w8 ⟨rfl,rfl⟩;refine mvi rfl (aA cE (da _ _) ?_);rintro v43 w9 ⟨rfl,rfl⟩;refine ae (cG (cq rfl rfl) (by first | exact bne_self_eq_false _ | (rw [hck];rfl))) ?_;refine mvb rfl (an rfl (mvp rfl (an rfl (ae (er gu rfl rfl) (an rfl (mvp rfl (an rfl (ae (er gu rfl rfl) ?_))))))));refine an rfl (ae (cG (rH (by kernel_rfl) rfl rfl) rfl) (ae (aQ (v:=.bool _) rfl rfl) (mvb rfl (an rfl (mvp rfl (an rfl (ae (er gu rfl rfl) (an rfl ?_))))))));refine mvi rfl (an rfl (aA cE (da _ _) ?_));rintro v56 w10 ⟨rfl,rfl⟩;refine an rfl (ae (cq rfl rfl) (an rfl (ae (cG (rH (by kernel_rfl) rfl rfl) (by first | rfl | (simp [hb33];done))) ?_)));refine ae (aQ (v:=.bool _) rfl rfl) (ah (ab (cm rfl (au (ab (ag (ag (aa (mvp rfl (ae (er gu rfl rfl) (ah (ab (av rfl (fun Q11=>?_) (fun Q11=>?_))))))))))))));rotate_left
  ·exfalso;first | omega | (simp [hb33] at*;done)
  refine ag (aa (aA fM (fC _ m (br (((((aj.rfl_.next E1).next E21).next E25).next E31).next E37) hm)) ?_));rintro v62 w74 ⟨rfl,E62⟩;refine asb rfl (ah (ab (ay (aC (bE (v:=.bool _) rfl rfl (⟨rfl,((((((aj.rfl_.next E1).next E21).next E25).next E31).next E37).next E62)⟩))))))
 have hb33:(jm ds != 0)=false:=by rw [hck];rfl
 rw [←hN] at hsh;have hNz:N≤(w6).heap.size:=by rw [hN];exact E31.size
 refine mvt rfl (ae (ax rfl rfl) (ae (ax rfl rfl) (asp rfl (asi rfl (ah (ab (ag (aa (ae (ak cM rfl) (ae (aq bK rfl (by exact (hk1.from_ aj.rfl_).rd 0 rfl)) ?_))))))))));have hM37:=(show aj _ w6 from aj.rfl_);have hk137:=hk1.from_ (aj.rfl_);refine aA gv (Bz A ca ds _ (ha.row.from_ ((((aj.rfl_.next E1).next E21).next E25).next E31)) ha.cap ha.nil (by have h9:=hli (by first | assumption | simp_all);omega)) ?_;rintro v37 w75 ⟨⟨p37,rfl,hs37⟩,E37⟩;replace hk1:=hk137.from_ E37
 first | (obtain ⟨s2,rfl,hsh2⟩:=hs37.1 hck;have hps:PS w75 N s s2 ds ds b1:=PS.made (hsh.from_ hM37) hsh2 E37 (Nat.le_trans hNz hM37.size) hNb) | (obtain rfl:=hs37.2 hck)
 refine mvt rfl (ae (ax rfl rfl) (ae (ax rfl rfl) (asp rfl (asi rfl (ah (ab (ag (ag (aa (mvi rfl (aA cE (da _ _) ?_)))))))))));rintro v41 w76 ⟨rfl,rfl⟩;refine mvi rfl (aA cE (da _ _) ?_);rintro v43 w77 ⟨rfl,rfl⟩;refine ae (cG (cq rfl rfl) (by first | exact bne_self_eq_false _ | (rw [hck];rfl))) ?_;refine mvb rfl (an rfl (mvp rfl (an rfl (ae (er gu rfl rfl) (an rfl (mvp rfl (an rfl (ae (er gu rfl rfl) ?_))))))));refine an rfl (ae (cG (rH (by kernel_rfl) rfl rfl) rfl) (ae (aQ (v:=.bool _) rfl rfl) (mvb rfl (an rfl (mvp rfl (an rfl (ae (er gu rfl rfl) (an rfl ?_))))))));refine mvi rfl (an rfl (aA cE (da _ _) ?_));rintro v56 w78 ⟨rfl,rfl⟩;refine an rfl (ae (cq rfl rfl) (an rfl (ae (cG (rH (by kernel_rfl) rfl rfl) (by first | rfl | (simp [hb33];done))) ?_)));refine ae (aQ (v:=.bool _) rfl rfl) (ah (ab (cm rfl (au (ab (ag (ag (aa (mvp rfl (ae (er gu rfl rfl) (ah (ab (av rfl (fun Q79=>?_) (fun Q79=>?_))))))))))))))
 ·exfalso;first | omega | (simp [hb33] at*;done)
 refine au (ab (ag (ag (aa (asi rfl (ah (ab (az (bg (G:=Nat×List Dc) (2::8::9::10::11::12::13::14::15::16::17::18::19::63::64::65::66::67::68::69::70::71::72::73::74::75::76::77::78::79::80::81::82::83::84::85::86::87::88::89::90::91::92::93::94::95::96::97::98::99::100::101::102::103::104::105::106::107::108::109::110::111::112::113::114::115::116::117::118::119::120::121::122::123::124::125::126::127::128::129::130::131::132::133::134::135::136::137::138::139::140::141::142::143::144::145::146::147::148::149::150::151::152::153::154::155::156::157::158::159::160::161::162::163::164::165::166::167::168::169::170::171::172::173::174::175::176::177::178::179::180::181::182::183::184::185::186::187::188::189::190::191::192::193::194::195::196::197::198::199::200::201::202::203::[]) (fun (i,_)=>[(7,.int .i64 (i:Nat))]) (fun (i,D) w'=>i≤acs.length∧PS w' N s s2 D D b1∧Blk w' b1 25 #[.slice A ds.length ca,.slice B acs.length cb]∧aj w w') (fun (i,_)=>acs.length-i) ((0,ds)) ⟨rfl,trivial⟩ ?_ ?_)))))))))
 ·exact ⟨Nat.zero_le _,hps.from_ aj.rfl_,hk1.from_ aj.rfl_,(((((aj.rfl_.next E1).next E21).next E25).next E31).next E37)⟩
 rintro ⟨i,D⟩ ρ81 w81 ⟨hi,hps,hP,hB⟩;refine ag (ag (aa (mvi rfl (ae (ak cD rfl) (ae (aq cU rfl (by exact (hP.from_ aj.rfl_).rd 1 rfl)) ?_)))));refine ae (aS fN rfl) (ae (aX rfl rfl) (mvb rfl (KL (t:=68) rfl (fun Q82=>?_) (fun Q82=>?_))))
 ·refine an rfl (mvi rfl (an rfl (ae (aX rfl rfl) (ae (bc (v:=.bool _) rfl rfl) (ah (ab (Li rfl (fun Q83=>?_) (fun Q83=>?_))))))))
  ·obtain ⟨bA,oA,rfl,hcA⟩:=ha.rowA (by omega);have hil:i<acs.length:=by omega
   obtain ⟨a,haa⟩:∃ a,a=acs[i]:=⟨_,rfl⟩;have hce:=hcA i hil;rw [←haa] at hce;obtain ⟨hs0,hs1,hs2,hs3,hs4⟩:=ha.smA a (by rw [haa];exact List.getElem_mem hil);unfold Small at hs1 hs2 hs3;refine au (ab (ag (az (ag (aa (ae (ak cD rfl) (ae (aq cU rfl (by exact (hP.from_ aj.rfl_).rd 1 rfl)) ?_)))))));refine mvi rfl (ae (aG eX rfl rfl (by omega)) (ae (bw (cs:=[_,_,_,_,_]) Ay tK rfl (by exact c0 hB hce)) ?_));refine dN Aw ?_;intro b8 w84 E8 hb8 hk8;have hg8:w.heap.size≤b8:=by rw [hb8];exact (hB).size
   refine fZ (vs:=[_,_,_,_,_]) tK rfl rfl (by simp [Value.oneCell']) (hk8) rfl ?_;intro w85 O12 P12;have F12:aj _ w85:=E8.only O12 (by rw [hb8];exact Nat.le_refl _);replace hps:=hps.beside (gg:=b8) F12 (by rw [hb8];exact Nat.le_refl _);replace hP:=hP.from_ F12;have hdD:=hps.docs;refine ah (ab (ff (G:=List Dc) [2,79,80,81,82,83,84,85,86,87,88,89,90,91,92,93,94,95,96,97,98,99,100,101,102,103,104,105,106,107,108,109,110,111] (fun _=>[]) (fun D' w'=>PS w' N s s2 D' D' b8∧Blk w' b1 25 #[.slice A ds.length ca,.slice (some ⟨bA,oA,none⟩) acs.length cb]∧Blk w' b8 39 (acV a).toArray∧aj w w') ?_ ?_))
   ·refine ag (aa (ae (ak wG rfl) (ae (aq aY rfl (by exact P12.rd 0 rfl)) ?_)));refine aA Ax (Cf a.1 8 _ (by decide)) ?_;rintro v81 w86 ⟨⟨m81,hm81,rfl⟩,rfl⟩;refine ah (ab (az (ff (G:=Bool) [94,95] (fun x=>[(93,.bool x)]) (fun _ w'=>w85=w') ?_ ?_)))
    ·refine ag (aa (ae (cF rfl rfl) (asb rfl (ah (ab (Li rfl (fun Q87=>?_) (fun Q87=>?_)))))))
     ·refine au ?_;refine aR (_) ⟨rfl,trivial⟩ (by (iterate 2 refine aF rfl ?_);exact aK) ?_;rfl
     refine aa (ae (cF rfl rfl) (asb rfl (ah ?_)));refine aR (_) ⟨rfl,trivial⟩ (by (iterate 4 refine aF rfl ?_);exact aK) ?_;rfl
    rintro x93 ρ88 w88 rfl;refine av rfl (fun Q89=>?_) (fun Q89=>?_)
    ·refine ag ?_;apply B2 [(0,96,fun _ v _=>v=_),(1,97,fun _ v _=>v=_),(2,98,fun _ v _=>v=_),(3,99,fun _ v _=>v=_),(4,100,fun _ v _=>v=_),(5,101,fun _ v _=>v=_),(6,102,fun _ v _=>v=_),(7,103,fun _ v _=>v=_),(8,104,fun _ v _=>v=_),(9,105,fun _ v _=>v=_),(10,106,fun _ v _=>v=_),(11,107,fun _ v _=>v=_),(12,108,fun _ v _=>v=_)] [4,10] (fun S w'=>aj w w'∧Blk w' b1 25 #[.slice A ds.length ca,.slice (some ⟨bA,oA,none⟩) acs.length cb]∧Blk w' b8 39 (acV a).toArray∧PS w' N s s2 (cond (S 4) (eg D a.2.1.1) D) (cond (S 10) (eg D a.2.1.1) D) b8) (by kernel_rfl) (by kernel_rfl) rfl rfl ⟨fun _ _ _ _ _ _ _ h=>h,fun _ _ _ _ _ _ _ h=>h,fun _ _ _ _ _ _ _ h=>h,fun _ _ _ _ _ _ _ h=>h,fun _ _ _ _ _ _ _ h=>h,fun _ _ _ _ _ _ _ h=>h,fun _ _ _ _ _ _ _ h=>h,fun _ _ _ _ _ _ _ h=>h,fun _ _ _ _ _ _ _ h=>h,fun _ _ _ _ _ _ _ h=>h,fun _ _ _ _ _ _ _ h=>h,fun _ _ _ _ _ _ _ h=>h,fun _ _ _ _ _ _ _ h=>h,trivial⟩ (fun S i w1 w2 hq hF h=>⟨h.1.next hF,h.2.1.from_ hF,h.2.2.1.from_ hF,by rw [xm (show 4≠i by rintro rfl;exact absurd hq (by decide)),xm (show 10≠i by rintro rfl;exact absurd hq (by decide))];exact h.2.2.2.from_ hF⟩) (⟨(((hB.next E8).only O12 (hg8))).d1,hP.from_ aj.rfl_.d1,P12.from_ aj.rfl_.d1,hps.from_ aj.rfl_.d1⟩)
     case hstep=>
      constructor
      ·rintro S L' w90 hU hmo hme hI hM hC hS ⟨-⟩;have hM':=hM;obtain ⟨hB90,hkb90,hka90,hps90⟩:=hM';have e3:=hI.1 3 (xK rfl);exact eC [(3,_)] hU hmo hme hI hM (.head _) rfl rfl (by kernel_rfl) ⟨e3,trivial⟩ (ar (v:=.pointer _) rfl) aj.rfl_ rfl
      constructor
      ·rintro S L' w91 hU hmo hme hI hM hC hS ⟨-⟩;have hM':=hM;obtain ⟨hB91,hkb91,hka91,hps91⟩:=hM';have e8:=hI.1 8 (xK rfl);exact eC [(8,_)] hU hmo hme hI hM (.tail _ (.head _)) rfl rfl (by kernel_rfl) ⟨e8,trivial⟩ (ak eJ rfl) aj.rfl_ rfl
      constructor
      ·rintro S L' w92 hU hmo hme hI hM hC hS ⟨d1,-⟩;have hM':=hM;obtain ⟨hB92,hkb92,hka92,hps92⟩:=hM';obtain ⟨v92_97,e97,h97⟩:=hI.get (i:=1) (.tail _ (.head _)) d1;obtain rfl:=h97;exact eC [(97,_)] hU hmo hme hI hM (.tail _ (.tail _ (.head _))) rfl rfl (by kernel_rfl) ⟨e97,trivial⟩ (ak aW rfl) aj.rfl_ rfl
      constructor
      ·rintro S L' w93 hU hmo hme hI hM hC hS ⟨d2,-⟩;have hM':=hM;obtain ⟨hB93,hkb93,hka93,hps93⟩:=hM';obtain ⟨v93_98,e98,h98⟩:=hI.get (i:=2) (.tail _ (.tail _ (.head _))) d2;obtain rfl:=h98;exact eC [(98,_)] hU hmo hme hI hM (.tail _ (.tail _ (.tail _ (.head _)))) rfl rfl (by kernel_rfl) ⟨e98,trivial⟩ (aq bf rfl (by exact hka93.rd 1 rfl)) aj.rfl_ rfl
      constructor
      ·rintro S L' w94 hU hmo hme hI hM hC hS ⟨d0,d3,-⟩;have hM':=hM;obtain ⟨hB94,hkb94,hka94,hps94⟩:=hM';obtain ⟨v94_96,e96,h96⟩:=hI.get (i:=0) (.head _) d0;obtain rfl:=h96;obtain ⟨v94_99,e99,h99⟩:=hI.get (i:=3) (.tail _ (.tail _ (.tail _ (.head _)))) d3;obtain rfl:=h99;rw [hS] at hps94;obtain ⟨U,V,hu,hv,hUa,hVa,hUV⟩:=hps94;change dD _ U _ D at hu;have hg8:=hka94.lt;refine lW (al:=[.tmp 96,.tmp 99]) [(96,_),(99,_)] hU hI (.tail _ (.tail _ (.tail _ (.tail _ (.head _))))) (by kernel_rfl) ⟨e96,e99,trivial⟩ oO ((qC U s D _ hu a.2.1.1 hs1).mono ?_);rintro v w2 ⟨rfl,hs9,hC9⟩;refine ⟨⟨hB94.chg hC9 (fun k hk=>Nat.le_trans hNw (hUa k hk).1),hkb94.chg hC9 (fun h=>by have:=(hUa _ h).1;omega),hka94.chg hC9 (fun h=>(hUa _ h).2.2 rfl),?_⟩,rfl,⟨fun _ _ _ h=>h,fun _ _ _ h=>h,fun _ _ _ h=>h,fun _ _ _ h=>h,fun _ _ _ h=>h,fun _ _ _ h=>h,fun _ _ _ h=>h,fun _ _ _ h=>h,fun _ _ _ h=>h,fun _ _ _ h=>h,fun _ _ _ h=>h,fun _ _ _ h=>h,fun _ _ _ h=>h,trivial⟩⟩;rw [Eo,xm (by decide)];exact PS.stepA hu hv hUa hVa hUV hg8 hs9 hC9
      constructor
      ·rintro S L' w95 hU hmo hme hI hM hC hS ⟨d4,d4,-⟩;have hM':=hM;obtain ⟨hB95,hkb95,hka95,hps95⟩:=hM';obtain ⟨v95_100,e100,h100⟩:=hI.get (i:=4) (.tail _ (.tail _ (.tail _ (.tail _ (.head _))))) d4;obtain rfl:=h100;refine lV (al:=[.tmp 100]) [(100,_)] hU hmo hme hI hM (.tail _ (.tail _ (.tail _ (.tail _ (.tail _ (.head _)))))) rfl (by kernel_rfl) ⟨e100,trivial⟩ cE ((da _ _).mono ?_);rintro v w2 ⟨rfl,rfl⟩;exact ⟨aj.rfl_,rfl⟩
      constructor
      ·rintro S L' w96 hU hmo hme hI hM hC hS ⟨-⟩;have hM':=hM;obtain ⟨hB96,hkb96,hka96,hps96⟩:=hM';have e5:=hI.1 5 (xK rfl);exact eC [(5,_)] hU hmo hme hI hM (.tail _ (.tail _ (.tail _ (.tail _ (.tail _ (.tail _ (.head _))))))) rfl rfl (by kernel_rfl) ⟨e5,trivial⟩ (ar (v:=.pointer _) rfl) aj.rfl_ rfl
      constructor
      ·rintro S L' w97 hU hmo hme hI hM hC hS ⟨-⟩;have hM':=hM;obtain ⟨hB97,hkb97,hka97,hps97⟩:=hM';have e8:=hI.1 8 (xK rfl);exact eC [(8,_)] hU hmo hme hI hM (.tail _ (.tail _ (.tail _ (.tail _ (.tail _ (.tail _ (.tail _ (.head _)))))))) rfl rfl (by kernel_rfl) ⟨e8,trivial⟩ (ak eJ rfl) aj.rfl_ rfl
      constructor
      ·rintro S L' w98 hU hmo hme hI hM hC hS ⟨d7,-⟩;have hM':=hM;obtain ⟨hB98,hkb98,hka98,hps98⟩:=hM';obtain ⟨v98_103,e103,h103⟩:=hI.get (i:=7) (.tail _ (.tail _ (.tail _ (.tail _ (.tail _ (.tail _ (.tail _ (.head _)))))))) d7;obtain rfl:=h103;exact eC [(103,_)] hU hmo hme hI hM (.tail _ (.tail _ (.tail _ (.tail _ (.tail _ (.tail _ (.tail _ (.tail _ (.head _))))))))) rfl rfl (by kernel_rfl) ⟨e103,trivial⟩ (ak aW rfl) aj.rfl_ rfl
      constructor
      ·rintro S L' w99 hU hmo hme hI hM hC hS ⟨d8,-⟩;have hM':=hM;obtain ⟨hB99,hkb99,hka99,hps99⟩:=hM';obtain ⟨v99_104,e104,h104⟩:=hI.get (i:=8) (.tail _ (.tail _ (.tail _ (.tail _ (.tail _ (.tail _ (.tail _ (.tail _ (.head _))))))))) d8;obtain rfl:=h104;exact eC [(104,_)] hU hmo hme hI hM (.tail _ (.tail _ (.tail _ (.tail _ (.tail _ (.tail _ (.tail _ (.tail _ (.tail _ (.head _)))))))))) rfl rfl (by kernel_rfl) ⟨e104,trivial⟩ (aq bf rfl (by exact hka99.rd 1 rfl)) aj.rfl_ rfl
      constructor
      ·rintro S L' w100 hU hmo hme hI hM hC hS ⟨d6,d9,d5,-⟩;have hM':=hM;obtain ⟨hB100,hkb100,hka100,hps100⟩:=hM';obtain ⟨v100_102,e102,h102⟩:=hI.get (i:=6) (.tail _ (.tail _ (.tail _ (.tail _ (.tail _ (.tail _ (.head _))))))) d6;obtain rfl:=h102;obtain ⟨v100_105,e105,h105⟩:=hI.get (i:=9) (.tail _ (.tail _ (.tail _ (.tail _ (.tail _ (.tail _ (.tail _ (.tail _ (.tail _ (.head _)))))))))) d9;obtain rfl:=h105;rw [hS] at hps100;obtain ⟨U,V,hu,hv,hUa,hVa,hUV⟩:=hps100;change dD _ V _ D at hv;have hg8:=hka100.lt;refine lW (al:=[.tmp 102,.tmp 105]) [(102,_),(105,_)] hU hI (.tail _ (.tail _ (.tail _ (.tail _ (.tail _ (.tail _ (.tail _ (.tail _ (.tail _ (.tail _ (.head _))))))))))) (by kernel_rfl) ⟨e102,e105,trivial⟩ oO ((qC V s2 D _ hv a.2.1.1 hs1).mono ?_);rintro v w2 ⟨rfl,hs9,hC9⟩;refine ⟨⟨hB100.chg hC9 (fun k hk=>Nat.le_trans hNw (hVa k hk).1),hkb100.chg hC9 (fun h=>by have:=(hVa _ h).1;omega),hka100.chg hC9 (fun h=>(hVa _ h).2.2 rfl),?_⟩,rfl,⟨fun _ _ _ h=>h,fun _ _ _ h=>h,fun _ _ _ h=>h,fun _ _ _ h=>h,fun _ _ _ h=>h,fun _ _ _ h=>h,fun _ _ _ h=>h,fun _ _ _ h=>h,fun _ _ _ h=>h,fun _ _ _ h=>h,fun _ _ _ h=>h,fun _ _ _ h=>h,fun _ _ _ h=>h,trivial⟩⟩;rw [Eo,xm (by decide)];exact PS.stepB hu hv hUa hVa hUV hg8 hs9 hC9
      constructor
      ·rintro S L' w101 hU hmo hme hI hM hC hS ⟨d10,d10,-⟩;have hM':=hM;obtain ⟨hB101,hkb101,hka101,hps101⟩:=hM';obtain ⟨v101_106,e106,h106⟩:=hI.get (i:=10) (.tail _ (.tail _ (.tail _ (.tail _ (.tail _ (.tail _ (.tail _ (.tail _ (.tail _ (.tail _ (.head _))))))))))) d10;obtain rfl:=h106;refine lV (al:=[.tmp 106]) [(106,_)] hU hmo hme hI hM (.tail _ (.tail _ (.tail _ (.tail _ (.tail _ (.tail _ (.tail _ (.tail _ (.tail _ (.tail _ (.tail _ (.head _)))))))))))) rfl (by kernel_rfl) ⟨e106,trivial⟩ cE ((da _ _).mono ?_);rintro v w2 ⟨rfl,rfl⟩;exact ⟨aj.rfl_,rfl⟩
      constructor
      ·rintro S L' w102 hU hmo hme hI hM hC hS ⟨d5,d11,-⟩;have hM':=hM;obtain ⟨hB102,hkb102,hka102,hps102⟩:=hM';obtain ⟨v102_101,e101,h101⟩:=hI.get (i:=5) (.tail _ (.tail _ (.tail _ (.tail _ (.tail _ (.head _)))))) d5;obtain rfl:=h101;obtain ⟨v102_107,e107,h107⟩:=hI.get (i:=11) (.tail _ (.tail _ (.tail _ (.tail _ (.tail _ (.tail _ (.tail _ (.tail _ (.tail _ (.tail _ (.tail _ (.head _)))))))))))) d11;obtain rfl:=h107;exact eC [(101,_),(107,_)] hU hmo hme hI hM (.tail _ (.tail _ (.tail _ (.tail _ (.tail _ (.tail _ (.tail _ (.tail _ (.tail _ (.tail _ (.tail _ (.tail _ (.head _))))))))))))) rfl rfl (by kernel_rfl) ⟨e101,e107,trivial⟩ (cG (cq rfl rfl) (bne_self_eq_false _)) (aj.rfl_) (rfl)
      exact trivial
     case hend=>
      intro w103 hM;obtain ⟨hB103,hkb103,hka103,hps103⟩:=hM;rintro v103_96 rfl v103_97 rfl v103_98 rfl v103_99 rfl v103_100 rfl v103_101 rfl v103_102 rfl v103_103 rfl v103_104 rfl v103_105 rfl v103_106 rfl v103_107 rfl v103_108 rfl;refine yz ?_;have hps:PS _ N s s2 (eg D a.2.1.1) (eg D a.2.1.1) b8:=hps103;have hP:=hkb103;have P12:=hka103;refine ab (av rfl (fun Q104=>?_) (fun Q104=>?_))
      ·exfalso;first | omega | (simp [hb33] at*;done)
      refine au (aN ?_);refine aR ((eg D a.2.1.1)) trivial (by (iterate 19 refine aF rfl ?_);exact aK) ?_;exact ⟨hps.from_ aj.rfl_,hP.from_ aj.rfl_,P12.from_ aj.rfl_,hB103⟩
    refine ff (G:=Bool) [110,111] (fun x=>[(109,.bool x)]) (fun _ w'=>w85=w') ?_ ?_
    ·refine ag (aa (ae (cF rfl rfl) (asb rfl (ah (ab (Li rfl (fun Q105=>?_) (fun Q105=>?_)))))))
     ·refine au ?_;refine aR (_) ⟨rfl,trivial⟩ (by (iterate 2 refine aF rfl ?_);exact aK) ?_;rfl
     refine aa (ae (cF rfl rfl) (asb rfl (ah ?_)));refine aR (_) ⟨rfl,trivial⟩ (by (iterate 4 refine aF rfl ?_);exact aK) ?_;rfl
    rintro x109 ρ106 w106 rfl;refine av rfl (fun Q107=>?_) (fun Q107=>?_)
    ·refine au (aN ?_);refine aR (D) trivial (by (iterate 9 refine aF rfl ?_);exact aK) ?_;exact ⟨hps.from_ aj.rfl_,hP.from_ aj.rfl_,P12.from_ aj.rfl_,((hB.next E8).only O12 (hg8))⟩
    refine ag ?_;apply B2 [(0,82,fun _ v _=>v=_),(1,83,fun _ v _=>v=_),(2,84,fun _ v _=>v=_),(3,85,fun _ v _=>v=_),(4,86,fun _ v _=>v=_),(5,87,fun _ v _=>v=_),(6,88,fun _ v _=>v=_),(7,89,fun _ v _=>v=_),(8,90,fun _ v _=>v=_),(9,91,fun _ v _=>v=_),(10,92,fun _ v _=>v=_)] [3,8] (fun S w'=>aj w w'∧Blk w' b1 25 #[.slice A ds.length ca,.slice (some ⟨bA,oA,none⟩) acs.length cb]∧Blk w' b8 39 (acV a).toArray∧PS w' N s s2 (cond (S 3) (lq D a.2.1) D) (cond (S 8) (lq D a.2.1) D) b8) (by kernel_rfl) (by kernel_rfl) rfl rfl ⟨fun _ _ _ _ _ _ _ h=>h,fun _ _ _ _ _ _ _ h=>h,fun _ _ _ _ _ _ _ h=>h,fun _ _ _ _ _ _ _ h=>h,fun _ _ _ _ _ _ _ h=>h,fun _ _ _ _ _ _ _ h=>h,fun _ _ _ _ _ _ _ h=>h,fun _ _ _ _ _ _ _ h=>h,fun _ _ _ _ _ _ _ h=>h,fun _ _ _ _ _ _ _ h=>h,fun _ _ _ _ _ _ _ h=>h,trivial⟩ (fun S i w1 w2 hq hF h=>⟨h.1.next hF,h.2.1.from_ hF,h.2.2.1.from_ hF,by rw [xm (show 3≠i by rintro rfl;exact absurd hq (by decide)),xm (show 8≠i by rintro rfl;exact absurd hq (by decide))];exact h.2.2.2.from_ hF⟩) (⟨(((hB.next E8).only O12 (hg8))).d1,hP.from_ aj.rfl_.d1,P12.from_ aj.rfl_.d1,hps.from_ aj.rfl_.d1⟩)
    case hstep=>
     constructor
     ·rintro S L' w108 hU hmo hme hI hM hC hS ⟨-⟩;have hM':=hM;obtain ⟨hB108,hkb108,hka108,hps108⟩:=hM';have e3:=hI.1 3 (xK rfl);exact eC [(3,_)] hU hmo hme hI hM (.head _) rfl rfl (by kernel_rfl) ⟨e3,trivial⟩ (ar (v:=.pointer _) rfl) aj.rfl_ rfl
     constructor
     ·rintro S L' w109 hU hmo hme hI hM hC hS ⟨-⟩;have hM':=hM;obtain ⟨hB109,hkb109,hka109,hps109⟩:=hM';have e8:=hI.1 8 (xK rfl);exact eC [(8,_)] hU hmo hme hI hM (.tail _ (.head _)) rfl rfl (by kernel_rfl) ⟨e8,trivial⟩ (ak eJ rfl) aj.rfl_ rfl
     constructor
     ·rintro S L' w110 hU hmo hme hI hM hC hS ⟨d1,-⟩;have hM':=hM;obtain ⟨hB110,hkb110,hka110,hps110⟩:=hM';obtain ⟨v110_83,e83,h83⟩:=hI.get (i:=1) (.tail _ (.head _)) d1;obtain rfl:=h83;exact eC [(83,_)] hU hmo hme hI hM (.tail _ (.tail _ (.head _))) rfl rfl (by kernel_rfl) ⟨e83,trivial⟩ (bw (cs:=[_,_]) bO bq rfl (by exact B4 hka110)) aj.rfl_ rfl
     constructor
     ·rintro S L' w111 hU hmo hme hI hM hC hS ⟨d0,d2,-⟩;have hM':=hM;obtain ⟨hB111,hkb111,hka111,hps111⟩:=hM';obtain ⟨v111_82,e82,h82⟩:=hI.get (i:=0) (.head _) d0;obtain rfl:=h82;obtain ⟨v111_84,e84,h84⟩:=hI.get (i:=2) (.tail _ (.tail _ (.head _))) d2;obtain rfl:=h84;rw [hS] at hps111;obtain ⟨U,V,hu,hv,hUa,hVa,hUV⟩:=hps111;change dD _ U _ D at hu;have hg8:=hka111.lt;refine lW (al:=[.tmp 82,.tmp 84]) [(82,_),(84,_)] hU hI (.tail _ (.tail _ (.tail _ (.head _)))) (by kernel_rfl) ⟨e82,e84,trivial⟩ mo ((wi U s D _ hu a.2.1 hs1 hs2).mono ?_);rintro v w2 ⟨rfl,hs9,hC9⟩;refine ⟨⟨hB111.chg hC9 (fun k hk=>Nat.le_trans hNw (hUa k hk).1),hkb111.chg hC9 (fun h=>by have:=(hUa _ h).1;omega),hka111.chg hC9 (fun h=>(hUa _ h).2.2 rfl),?_⟩,rfl,⟨fun _ _ _ h=>h,fun _ _ _ h=>h,fun _ _ _ h=>h,fun _ _ _ h=>h,fun _ _ _ h=>h,fun _ _ _ h=>h,fun _ _ _ h=>h,fun _ _ _ h=>h,fun _ _ _ h=>h,fun _ _ _ h=>h,fun _ _ _ h=>h,trivial⟩⟩;rw [Eo,xm (by decide)];exact PS.stepA hu hv hUa hVa hUV hg8 hs9 hC9
     constructor
     ·rintro S L' w112 hU hmo hme hI hM hC hS ⟨d3,d3,-⟩;have hM':=hM;obtain ⟨hB112,hkb112,hka112,hps112⟩:=hM';obtain ⟨v112_85,e85,h85⟩:=hI.get (i:=3) (.tail _ (.tail _ (.tail _ (.head _)))) d3;obtain rfl:=h85;refine lV (al:=[.tmp 85]) [(85,_)] hU hmo hme hI hM (.tail _ (.tail _ (.tail _ (.tail _ (.head _))))) rfl (by kernel_rfl) ⟨e85,trivial⟩ cE ((da _ _).mono ?_);rintro v w2 ⟨rfl,rfl⟩;exact ⟨aj.rfl_,rfl⟩
     constructor
     ·rintro S L' w113 hU hmo hme hI hM hC hS ⟨-⟩;have hM':=hM;obtain ⟨hB113,hkb113,hka113,hps113⟩:=hM';have e5:=hI.1 5 (xK rfl);exact eC [(5,_)] hU hmo hme hI hM (.tail _ (.tail _ (.tail _ (.tail _ (.tail _ (.head _)))))) rfl rfl (by kernel_rfl) ⟨e5,trivial⟩ (ar (v:=.pointer _) rfl) aj.rfl_ rfl
     constructor
     ·rintro S L' w114 hU hmo hme hI hM hC hS ⟨-⟩;have hM':=hM;obtain ⟨hB114,hkb114,hka114,hps114⟩:=hM';have e8:=hI.1 8 (xK rfl);exact eC [(8,_)] hU hmo hme hI hM (.tail _ (.tail _ (.tail _ (.tail _ (.tail _ (.tail _ (.head _))))))) rfl rfl (by kernel_rfl) ⟨e8,trivial⟩ (ak eJ rfl) aj.rfl_ rfl
     constructor
     ·rintro S L' w115 hU hmo hme hI hM hC hS ⟨d6,-⟩;have hM':=hM;obtain ⟨hB115,hkb115,hka115,hps115⟩:=hM';obtain ⟨v115_88,e88,h88⟩:=hI.get (i:=6) (.tail _ (.tail _ (.tail _ (.tail _ (.tail _ (.tail _ (.head _))))))) d6;obtain rfl:=h88;exact eC [(88,_)] hU hmo hme hI hM (.tail _ (.tail _ (.tail _ (.tail _ (.tail _ (.tail _ (.tail _ (.head _)))))))) rfl rfl (by kernel_rfl) ⟨e88,trivial⟩ (bw (cs:=[_,_]) bO bq rfl (by exact B4 hka115)) aj.rfl_ rfl
     constructor
     ·rintro S L' w116 hU hmo hme hI hM hC hS ⟨d5,d7,d4,-⟩;have hM':=hM;obtain ⟨hB116,hkb116,hka116,hps116⟩:=hM';obtain ⟨v116_87,e87,h87⟩:=hI.get (i:=5) (.tail _ (.tail _ (.tail _ (.tail _ (.tail _ (.head _)))))) d5;obtain rfl:=h87;obtain ⟨v116_89,e89,h89⟩:=hI.get (i:=7) (.tail _ (.tail _ (.tail _ (.tail _ (.tail _ (.tail _ (.tail _ (.head _)))))))) d7;obtain rfl:=h89;rw [hS] at hps116;obtain ⟨U,V,hu,hv,hUa,hVa,hUV⟩:=hps116;change dD _ V _ D at hv;have hg8:=hka116.lt;refine lW (al:=[.tmp 87,.tmp 89]) [(87,_),(89,_)] hU hI (.tail _ (.tail _ (.tail _ (.tail _ (.tail _ (.tail _ (.tail _ (.tail _ (.head _))))))))) (by kernel_rfl) ⟨e87,e89,trivial⟩ mo ((wi V s2 D _ hv a.2.1 hs1 hs2).mono ?_);rintro v w2 ⟨rfl,hs9,hC9⟩;refine ⟨⟨hB116.chg hC9 (fun k hk=>Nat.le_trans hNw (hVa k hk).1),hkb116.chg hC9 (fun h=>by have:=(hVa _ h).1;omega),hka116.chg hC9 (fun h=>(hVa _ h).2.2 rfl),?_⟩,rfl,⟨fun _ _ _ h=>h,fun _ _ _ h=>h,fun _ _ _ h=>h,fun _ _ _ h=>h,fun _ _ _ h=>h,fun _ _ _ h=>h,fun _ _ _ h=>h,fun _ _ _ h=>h,fun _ _ _ h=>h,fun _ _ _ h=>h,fun _ _ _ h=>h,trivial⟩⟩;rw [Eo,xm (by decide)];exact PS.stepB hu hv hUa hVa hUV hg8 hs9 hC9
     constructor
     ·rintro S L' w117 hU hmo hme hI hM hC hS ⟨d8,d8,-⟩;have hM':=hM;obtain ⟨hB117,hkb117,hka117,hps117⟩:=hM';obtain ⟨v117_90,e90,h90⟩:=hI.get (i:=8) (.tail _ (.tail _ (.tail _ (.tail _ (.tail _ (.tail _ (.tail _ (.tail _ (.head _))))))))) d8;obtain rfl:=h90;refine lV (al:=[.tmp 90]) [(90,_)] hU hmo hme hI hM (.tail _ (.tail _ (.tail _ (.tail _ (.tail _ (.tail _ (.tail _ (.tail _ (.tail _ (.head _)))))))))) rfl (by kernel_rfl) ⟨e90,trivial⟩ cE ((da _ _).mono ?_);rintro v w2 ⟨rfl,rfl⟩;exact ⟨aj.rfl_,rfl⟩
     constructor
     ·rintro S L' w118 hU hmo hme hI hM hC hS ⟨d4,d9,-⟩;have hM':=hM;obtain ⟨hB118,hkb118,hka118,hps118⟩:=hM';obtain ⟨v118_86,e86,h86⟩:=hI.get (i:=4) (.tail _ (.tail _ (.tail _ (.tail _ (.head _))))) d4;obtain rfl:=h86;obtain ⟨v118_91,e91,h91⟩:=hI.get (i:=9) (.tail _ (.tail _ (.tail _ (.tail _ (.tail _ (.tail _ (.tail _ (.tail _ (.tail _ (.head _)))))))))) d9;obtain rfl:=h91;exact eC [(86,_),(91,_)] hU hmo hme hI hM (.tail _ (.tail _ (.tail _ (.tail _ (.tail _ (.tail _ (.tail _ (.tail _ (.tail _ (.tail _ (.head _))))))))))) rfl rfl (by kernel_rfl) ⟨e86,e91,trivial⟩ (cG (cq rfl rfl) (bne_self_eq_false _)) (aj.rfl_) (rfl)
     exact trivial
    case hend=>
     intro w119 hM;obtain ⟨hB119,hkb119,hka119,hps119⟩:=hM;rintro v119_82 rfl v119_83 rfl v119_84 rfl v119_85 rfl v119_86 rfl v119_87 rfl v119_88 rfl v119_89 rfl v119_90 rfl v119_91 rfl v119_92 rfl;refine yz ?_;have hps:PS _ N s s2 (lq D a.2.1) (lq D a.2.1) b8:=hps119;have hP:=hkb119;have P12:=hka119;refine ab (av rfl (fun Q120=>?_) (fun Q120=>?_))
     ·exfalso;first | omega | (simp [hb33] at*;done)
     refine au (aN ?_);refine aR ((lq D a.2.1)) trivial (by (iterate 20 refine aF rfl ?_);exact aK) ?_;exact ⟨hps.from_ aj.rfl_,hP.from_ aj.rfl_,P12.from_ aj.rfl_,hB119⟩
   rintro D' ρ121 w121 ⟨hps,hP,P12,hB⟩;refine ag (aa (mvp rfl ?_));have hM113:=(show aj _ w121 from aj.rfl_);obtain ⟨U113,V113,hu113,hv113,hU113,hV113,hUV113⟩:=hps.from_ hM113;have hP113:=hP.from_ hM113;have hQ113:=P12.from_ hM113;refine aA oM (iG V113 s2 D' _ hv113) ?_;rintro v113 w122 ⟨hs113,hC113⟩;replace hP:=hP113.chg hC113 (fun h=>by have:=(hV113 _ h).1;omega);replace P12:=hQ113.chg hC113 (fun h=>(hV113 _ h).2.2 rfl);replace hps:=PS.stepB hu113 hv113 hU113 hV113 hUV113 hQ113.lt hs113 hC113;refine ah (ab (ff (G:=Unit) [114,115,116,117,118] (fun _=>[]) (fun _ w'=>PS w' N s s2 D' D' b8∧Blk w' b1 25 #[.slice A ds.length ca,.slice (some ⟨bA,oA,none⟩) acs.length cb]∧Blk w' b8 39 (acV a).toArray∧aj w w') ?_ ?_))
   ·refine ag (aa (mvi rfl (ae (jP (b:=3) rfl rfl (by decide)) (ae (cF rfl rfl) (ah (ab (Li rfl (fun Q123=>?_) (fun Q123=>?_))))))))
    ·refine aa (mvp rfl ?_);have hM118:=(show aj _ w122 from aj.rfl_);obtain ⟨U118,V118,hu118,hv118,hU118,hV118,hUV118⟩:=hps.from_ hM118;have hP118:=hP.from_ hM118;have hQ118:=P12.from_ hM118;refine aA tL (jw V118 s2 D' _ hv118) ?_;rintro v118 w124 ⟨hs118,hC118⟩;replace hP:=hP118.chg hC118 (fun h=>by have:=(hV118 _ h).1;omega);replace P12:=hQ118.chg hC118 (fun h=>(hV118 _ h).2.2 rfl);replace hps:=PS.stepB hu118 hv118 hU118 hV118 hUV118 hQ118.lt hs118 hC118;refine ah ?_;refine aR (()) trivial (by (iterate 5 refine aF rfl ?_);exact aK) ?_;exact ⟨hps.from_ aj.rfl_,hP.from_ aj.rfl_,P12.from_ aj.rfl_,((((hB).chg hC113 (fun k hk=>Nat.le_trans hNw (hV113 k hk).1))).chg hC118 (fun k hk=>Nat.le_trans hNw (hV118 k hk).1))⟩
    refine au ?_;refine aR (()) trivial (by (iterate 3 refine aF rfl ?_);exact aK) ?_;exact ⟨hps.from_ aj.rfl_,hP.from_ aj.rfl_,P12.from_ aj.rfl_,((hB).chg hC113 (fun k hk=>Nat.le_trans hNw (hV113 k hk).1))⟩
   rintro _ ρ125 w125 ⟨hps,hP,P12,hB⟩;have hdc:=hps.docs;have hck2:jm D'=0:=BT hdc.1 hdc.2;have hfit2:=hdc.2;have hDl2:=hfit2.1;refine ag (aa (mvp rfl ?_));have hps0:=hps;obtain ⟨U0,V0,hu0,hv0,hU0,hV0,hUV0⟩:=hps0;refine aA ju (kf U0 s D' _ (hu0.from_ aj.rfl_)) ?_;rintro v121 w126 ⟨⟨A121,c121,rfl,ho121⟩,E121⟩;refine aA gv (nH A121 c121 D' _ (cL.own bI (by decide) ho121).2 (kP ho121) (fun e=>(ph ho121 e).2) hck2) ?_;rintro v122 w127 ⟨⟨s3,rfl,hs3x⟩,E122⟩;replace hps:=hps.from_ (((aj.rfl_.next E121).next E122));replace P12:=P12.from_ (((aj.rfl_.next E121).next E122));replace hP:=hP.from_ (((aj.rfl_.next E121).next E122));replace hu0:=hu0.from_ (((aj.rfl_.next E121).next E122));replace hv0:=hv0.from_ (((aj.rfl_.next E121).next E122));refine mvt rfl (ae (ax rfl rfl) (ae (ax rfl rfl) (asp rfl (asi rfl (ah (ab (ag (ag (aa (mvi rfl (aA cE (da _ _) ?_)))))))))));rintro v126 w128 ⟨rfl,rfl⟩;refine ae (cG (cq rfl rfl) (bne_self_eq_false _)) (mvb rfl (an rfl (mvp rfl (an rfl (ae (cG (er (by kernel_rfl) rfl rfl) rfl) (ae (aQ (v:=.bool _) rfl rfl) (ah (ab (cm rfl ?_)))))))));refine au (ab (ag (aa (mvp rfl (ae (ak gK rfl) (ae (aq bf rfl (by exact (P12.from_ aj.rfl_).rd 3 rfl)) ?_))))));refine ae (ak iS rfl) (ae (aq aY rfl (by exact (P12.from_ aj.rfl_).rd 4 rfl)) ?_);refine aA jt (ir U0 s D' _ (hu0.from_ aj.rfl_) a.2.2.1 a.2.2.2 m (br ((hB.next E121).next E122) hm) hs3) ?_;rintro v138 w129 ⟨⟨A138,c138,rfl,ho138⟩,E138⟩;replace hps:=hps.from_ ((aj.rfl_.next E138));replace P12:=P12.from_ ((aj.rfl_.next E138));replace hP:=hP.from_ ((aj.rfl_.next E138));replace hu0:=hu0.from_ ((aj.rfl_.next E138));replace hv0:=hv0.from_ ((aj.rfl_.next E138));replace hs3x:=hs3x.from_ ((aj.rfl_.next E138));have hr138:=(cL.own eB (by decide) ho138).2;refine mvt rfl (ae (ax rfl rfl) (ae (ax rfl rfl) (ae (ax rfl rfl) (ass rfl (asi rfl (asi rfl (ah (ab (ag (aa (mvp rfl ?_)))))))))));refine ae (ak gK rfl) (ae (aq bf rfl (by exact (P12.from_ aj.rfl_).rd 3 rfl)) ?_);refine ae (ak iS rfl) (ae (aq aY rfl (by exact (P12.from_ aj.rfl_).rd 4 rfl)) ?_);refine aA jt (ir V0 s2 D' _ (hv0.from_ aj.rfl_) a.2.2.1 a.2.2.2 m (br (((hB.next E121).next E122).next E138) hm) hs3) ?_;rintro v148 w130 ⟨⟨A148,c148,rfl,ho148⟩,E148⟩;replace hps:=hps.from_ ((aj.rfl_.next E148));replace P12:=P12.from_ ((aj.rfl_.next E148));replace hP:=hP.from_ ((aj.rfl_.next E148));replace hu0:=hu0.from_ ((aj.rfl_.next E148));replace hv0:=hv0.from_ ((aj.rfl_.next E148));replace hs3x:=hs3x.from_ ((aj.rfl_.next E148));replace hr138:=hr138.from_ ((aj.rfl_.next E148));have hr148:=(cL.own eB (by decide) ho148).2;refine mvt rfl (ae (ax rfl rfl) (ae (ax rfl rfl) (ae (ax rfl rfl) (ass rfl (asi rfl (asi rfl (ah (ab (ag (aa (mvp rfl ?_)))))))))));refine ae (ak gK rfl) (ae (aq bf rfl (by exact (P12.from_ aj.rfl_).rd 3 rfl)) ?_);refine ae (ak iS rfl) (ae (aq aY rfl (by exact (P12.from_ aj.rfl_).rd 4 rfl)) ?_);refine aA jt (ir _ s3 D' _ (hs3x.from_ aj.rfl_) a.2.2.1 a.2.2.2 m (br ((((hB.next E121).next E122).next E138).next E148) hm) hs3) ?_;rintro v158 w131 ⟨⟨A158,c158,rfl,ho158⟩,E158⟩;replace hps:=hps.from_ ((aj.rfl_.next E158));replace P12:=P12.from_ ((aj.rfl_.next E158));replace hP:=hP.from_ ((aj.rfl_.next E158));replace hu0:=hu0.from_ ((aj.rfl_.next E158));replace hv0:=hv0.from_ ((aj.rfl_.next E158));replace hr138:=hr138.from_ ((aj.rfl_.next E158));replace hr148:=hr148.from_ ((aj.rfl_.next E158));have hr158:=(cL.own eB (by decide) ho158).2;refine mvt rfl (ae (ax rfl rfl) (ae (ax rfl rfl) (ae (ax rfl rfl) (ass rfl (asi rfl (asi rfl (ah (ab (ag (aa (mvi rfl ?_)))))))))));refine aA cE (da _ _) ?_;rintro v163 w132 ⟨rfl,rfl⟩;refine mvi rfl (aA cE (da _ _) ?_);rintro v165 w133 ⟨rfl,rfl⟩;refine ae (cG (cq rfl rfl) (bne_self_eq_false _)) (mvb rfl (an rfl (mvi rfl (an rfl (aA cE (da _ _) ?_)))));rintro v169 w134 ⟨rfl,rfl⟩;refine an rfl (mvi rfl (an rfl (aA cE (da _ _) ?_)));rintro v171 w135 ⟨rfl,rfl⟩;refine an rfl (ae (cG (cq rfl rfl) (bne_self_eq_false _)) (ae (aQ (v:=.bool _) rfl rfl) (mvb rfl (an rfl (mvi rfl (an rfl (mvi rfl (an rfl ?_))))))));refine ae (cG (cq rfl rfl) (bne_self_eq_false _)) (ae (aQ (v:=.bool _) rfl rfl) (mvb rfl (an rfl (mvi rfl (an rfl (mvi rfl (an rfl (ae (cG (cq rfl rfl) (bne_self_eq_false _)) ?_))))))));refine ae (aQ (v:=.bool _) rfl rfl) (mvb rfl (an rfl (mvs rfl (an rfl (mvs rfl (an rfl (aA kD (lM A138 A148 c138 c148 (sH D' a.2.2.1 a.2.2.2).length (sH D' a.2.2.1 a.2.2.2).length (sH D' a.2.2.1 a.2.2.2) (sH D' a.2.2.1 a.2.2.2) _ (hr138.from_ aj.rfl_) (hr148.from_ aj.rfl_) rfl rfl (vj hfit2 _ _)) ?_)))))));rintro v187 w136 ⟨rfl,E187⟩;refine an rfl (ae (cG (dZ rfl) (by rw [decide_eq_true rfl];rfl)) ?_);refine ae (aQ (v:=.bool _) rfl rfl) (mvb rfl (an rfl (mvs rfl (an rfl (mvs rfl (an rfl (aA kD (lM A138 A158 c138 c158 (sH D' a.2.2.1 a.2.2.2).length (sH D' a.2.2.1 a.2.2.2).length (sH D' a.2.2.1 a.2.2.2) (sH D' a.2.2.1 a.2.2.2) _ (hr138.from_ (aj.rfl_.next E187)) (hr158.from_ (aj.rfl_.next E187)) rfl rfl (vj hfit2 _ _)) ?_)))))));rintro v193 w137 ⟨rfl,E193⟩;refine an rfl (ae (cG (dZ rfl) (by rw [decide_eq_true rfl];rfl)) ?_);refine ae (aQ (v:=.bool _) rfl rfl) (mvb rfl (an rfl (mvp rfl (an rfl (aA ju (kf U0 s D' _ (hu0.from_ ((aj.rfl_.next E187).next E193))) ?_)))));rintro v198 w138 ⟨⟨A198,c198,rfl,ho198⟩,E198⟩;replace hps:=hps.from_ ((((aj.rfl_.next E187).next E193).next E198));replace P12:=P12.from_ ((((aj.rfl_.next E187).next E193).next E198));replace hP:=hP.from_ ((((aj.rfl_.next E187).next E193).next E198));replace hu0:=hu0.from_ ((((aj.rfl_.next E187).next E193).next E198));replace hv0:=hv0.from_ ((((aj.rfl_.next E187).next E193).next E198));refine an rfl (mvp rfl (an rfl (aA ju (kf V0 s2 D' _ (hv0.from_ aj.rfl_)) ?_)));rintro v200 w139 ⟨⟨A200,c200,rfl,ho200⟩,E200⟩;replace hps:=hps.from_ ((aj.rfl_.next E200));replace P12:=P12.from_ ((aj.rfl_.next E200));replace hP:=hP.from_ ((aj.rfl_.next E200));replace hu0:=hu0.from_ ((aj.rfl_.next E200));replace hv0:=hv0.from_ ((aj.rfl_.next E200));refine an rfl (aA oK (mZ A198 A200 c198 c200 D'.length D'.length D' _ ((cL.own bI (by decide) ho198).2.from_ E200) (cL.own bI (by decide) ho200).2 rfl rfl (by omega)) ?_);rintro v201 w140 ⟨rfl,E201⟩;refine an rfl (ae (cG (dZ rfl) rfl) (ae (aQ (v:=.bool _) rfl rfl) (ah (ab (cm rfl (au (aN (ab (aa (mvi rfl (ae (aJ (b:=1) rfl rfl (by omega)) (asi rfl ?_))))))))))));refine ah ?_;refine aR ((i+1,D')) ⟨(by first | rfl | (refine aM ?_;omega)),trivial⟩ (by (iterate 311 refine aF rfl ?_);exact aK) ⟨?_,?_⟩
   ·exact ⟨by omega,(hps.from_ (aj.rfl_.next E201)).off1 hNb,hP.from_ (aj.rfl_.next E201),((((((((((hB.next E121).next E122).next E138).next E148).next E158).next E187).next E193).next E198).next E200).next E201)⟩
   ·show acs.length-(i+1)<acs.length-i;omega
  refine aZ (aD (aD (aU (ab (ag (aa (aA fM (fC _ m (br hB hm)) ?_)))))));rintro v204 w141 ⟨rfl,E204⟩;refine asb rfl (ah (ab (ay (bE (v:=.bool _) rfl rfl (⟨rfl,(hB.next E204)⟩)))))
 refine aB rfl rfl (aB rfl rfl (ae (aQ (v:=.bool _) rfl rfl) (ah (ab (cm rfl (aZ (aD (aD (aU (ab (ag (aa (aA fM (fC _ m (br hB hm)) ?_)))))))))))));rintro v204 w142 ⟨rfl,E204⟩;refine asb rfl (ah (ab (ay (bE (v:=.bool _) rfl rfl (⟨rfl,(hB.next E204)⟩)))))
theorem ze (cs:Array Value) (x:(Ty.pr (.sl lN) (.pr (.sl l9) .unit)).den) (w:World) (hS:w.ShapedOpen prog) (hs:cs.size=(Ty.pr (.sl lN) (.pr (.sl l9) .unit)).size) (h:(Ty.pr (.sl lN) (.pr (.sl l9) .unit)).At w (fun j=>cs[j]?) x) :
 Rt prog 4 [.agg cs] w fun v w'=>v=.bool true∧aj w w':=by
 obtain ⟨A,B,ca,cb,ds,acs,rfl,ha⟩:=pD hs h;exact zd A B ca cb ds acs w hS ha
theorem qI (os:Os) (started:os.Started) (H:Type) (enc:TypeId×Value→H) :
 ReturnsInHanded {} Tryz.checked os 4 .any (Rows.shelfSameSpec.pre6 enc prog Tryz.f4 Rows.shelfSameRow.domain false) (Rows.shelfSameSpec.post enc prog Tryz.f4 false true false false):=by
 refine returnsInHanded_of_change_shaped (C:=Tryz.checked) Tryz.own started (by kernel_rfl) Tryz.func4
  (ChangeSpec.witness6 (enc:=enc) (C:=Tryz.checked) false ⟨#[],#[.agg #[.slice none 0 0,.slice none 0 0]],[]⟩ 8 (by kernel_rfl) (by kernel_rfl) (by kernel_rfl) (by kernel_rfl)) ?_
 intro W base args ds gs before hval hW _ hsz hS _;exact gY 4 Tryz.f4 25 4 Rows.shelfSameSpec Tryz.params4 (by kernel_rfl) Tryz.underlying4 rfl (fun _=>rfl) (by kernel_rfl) (dT_ (by kernel_rfl)) (fB (Ty.sl lN) (.pr (.sl l9) .unit) (by kernel_rfl) ze) W base args ds gs before hval hW hsz hS
theorem ShelfSame_holds:Rows.ShelfSameSaid:=
 OpenClaim.holds_of_wide 4 Tryz.f4 rfl rfl rfl rfl rfl rfl rfl ⟨rfl,rfl,rfl,rfl,rfl⟩ rfl rfl rfl rfl rfl (by kernel_rfl) Tryz.func4 (by kernel_rfl)
  (dT_ (by kernel_rfl)) (by unfold Func.isWrapper;first | (rw [if_pos (by decide+kernel)];kernel_rfl) | (rw [if_neg (by decide+kernel)];exact ⟨rfl,rfl⟩))
  (fun os started H enc _=>qI os started H enc)
theorem oP:aH prog 14=true:=by kernel_rfl
theorem AB:aH prog 26=true:=by kernel_rfl
theorem z8 (A B:Option Addr) (ca cb:Nat) (ds:List Dc) (acs:List Ac) (w:World) (hS:w.ShapedOpen prog) (ha:w_ w A B ca ds acs) :
 Rt prog 6 [.agg #[.slice A ds.length ca,.slice B acs.length cb]] w (fun v w'=>v=.bool true∧aj w w'):=by
 obtain ⟨m,hm⟩:=nB hS;have hlen:=ha.len;have hlenA:=ha.lenA;refine enter (n:=71) Tryz.func6 rfl rfl rfl (ag (aa (cW (v:=.agg _) rfl ?_)));intro b1 w1 E1 hb1 hk1;refine asb rfl (ah (ab (ag (ag (aa (ae (bw (cs:=[_,_]) mn ml rfl (by exact (hk1.from_ aj.rfl_).whole)) ?_))))));refine aA mm (l8 A B ca cb ds acs _ (ha.from_ (aj.rfl_.next E1))) ?_;rintro v9 w2 ⟨⟨hv,rfl,hli⟩,E9⟩;refine mvb rfl (bz (t:=10) rfl (fun Q3=>?_) (fun Q3=>?_))
 ·refine aB rfl rfl (aB rfl rfl (aB rfl rfl (aB rfl rfl (ae (bc (v:=.bool _) rfl rfl) (ah (ab (cB rfl (ag (aa (asb rfl ?_))))))))));refine ah (ab (ay (aC (bE (v:=.bool _) rfl rfl (⟨rfl,((aj.rfl_.next E1).next E9)⟩)))))
 refine an rfl (ae (ak cM rfl) (an rfl (ae (aq bK rfl (by exact (hk1.from_ (aj.rfl_.next E9)).rd 0 rfl)) ?_)));refine an rfl ?_;refine aA oP (oq A ca ds.length ds _ (ha.row.from_ ((aj.rfl_.next E1).next E9)) rfl (by have h9:=hli (by first | assumption | simp_all);omega)) ?_;rintro v13 w4 ⟨rfl,E13⟩;refine an rfl (ae (cq rfl rfl) (ae (aQ (v:=.bool _) rfl rfl) (ah (ab (Lf rfl (fun Q5=>?_) (fun Q5=>?_))))))
 ·refine ag (aa (asb rfl (ah (ab (ay (aC (bE (v:=.bool _) rfl rfl (⟨rfl,(((aj.rfl_.next E1).next E9).next E13)⟩))))))))
 have hck:jm ds=0:=by simpa using Q5
 obtain ⟨hord,hfit⟩:=pz hck;have hsd:=uI hord;have hf1:=hfit.1;have hf3:=hfit.2.2;refine au (ab (ag (ag (aa (asi rfl (ah (ab (az (bg (G:=Nat) [2,4,5,6,7,16,17,18,19,20,21,22,23,24,25,26,27,28,29,30,31,32,33,34,35,36,37,38,39,40,41,42,43,44,45,46,47,48,49,50,51,52,53,54,55,56,57,58,59,60,61,62,63,64,65,66,67,68,69] (fun i=>[(3,.int .i64 (i:Nat))]) (fun i w'=>i≤acs.length∧Blk w' b1 25 #[.slice A ds.length ca,.slice B acs.length cb]∧aj w w') (fun i=>acs.length-i) (0) ⟨rfl,trivial⟩ ?_ ?_)))))))))
 ·exact ⟨Nat.zero_le _,hk1.from_ ((aj.rfl_.next E9).next E13),(((aj.rfl_.next E1).next E9).next E13)⟩
 rintro i ρ6 w6 ⟨hi,hP,hB⟩;refine ag (ag (aa (mvi rfl (ae (ak cD rfl) (ae (aq cU rfl (by exact (hP.from_ aj.rfl_).rd 1 rfl)) ?_)))));refine ae (aS fN rfl) (ae (aX rfl rfl) (mvb rfl (KL (t:=21) rfl (fun Q7=>?_) (fun Q7=>?_))))
 ·refine an rfl (mvi rfl (an rfl (ae (aX rfl rfl) (ae (bc (v:=.bool _) rfl rfl) (ah (ab (Li rfl (fun Q8=>?_) (fun Q8=>?_))))))))
  ·obtain ⟨bA,oA,rfl,hcA⟩:=ha.rowA (by omega);have hil:i<acs.length:=by omega
   obtain ⟨a,haa⟩:∃ a,a=acs[i]:=⟨_,rfl⟩;have hce:=hcA i hil;rw [←haa] at hce;obtain ⟨hs0,hs1,hs2,hs3,hs4⟩:=ha.smA a (by rw [haa];exact List.getElem_mem hil);unfold Small at hs1 hs2 hs3;refine au (ab (ag (az (ag (aa (ae (ak cM rfl) (ae (aq bK rfl (by exact (hP.from_ aj.rfl_).rd 0 rfl)) ?_)))))));obtain ⟨N,hN⟩:∃ N,N=(w6).heap.size:=⟨_,rfl⟩;have hNw:w.heap.size≤N:=by rw [hN];exact (hB).size
   have hP30:=hP.from_ (aj.rfl_);have hNb:b1<N:=by rw [hN];exact hP30.lt
   refine aA gv (nH A ca ds _ (ha.row.from_ hB) ha.cap ha.nil hck) ?_;rintro v30 w9 ⟨⟨s,rfl,hsh⟩,E30⟩;rw [←hN] at hsh;obtain ⟨U,hsh,hUd⟩:=ShU.of hsh;replace hP:=hP30.from_ E30;refine mvt rfl (ae (ax rfl rfl) (ae (ax rfl rfl) (asp rfl (asi rfl (ah (ab (ag (ag (aa (mvi rfl (aA cE (da _ _) ?_)))))))))));rintro v34 w10 ⟨rfl,rfl⟩;refine ae (cG (cq rfl rfl) (bne_self_eq_false _)) (mvb rfl (an rfl (mvp rfl (an rfl (ae (cG (er (by kernel_rfl) rfl rfl) rfl) (ae (aQ (v:=.bool _) rfl rfl) (ah (ab (cm rfl ?_)))))))));refine au (ab (ag ?_));apply bH 14 [(41,eqp _),(42,eqp _),(43,eqp _),(44,eqp _),(45,eqp _),(46,eqp _),(47,eqp _),(48,eqp (.agg (dV a.2.1).toArray)),(49,fun v w'=>AQ w' U (lq ds a.2.1) (kN ds a.2.1) v),(40,fun v w'=>AQ w' U (lq ds a.2.1) (kN ds a.2.1) v),(50,fun v w'=>AR w' U (lq ds a.2.1) v),(51,eqp (.int .i64 (kN ds a.2.1))),(6,fun v w'=>AR w' U (lq ds a.2.1) v),(7,eqp (.int .i64 (kN ds a.2.1)))] (by repeat first | exact bT | refine bS ?_ | refine bG ?_) (by kernel_rfl) (by kernel_rfl) ⟨af _,af _,af _,af _,af _,af _,af _,af _,AQ.mono,AQ.mono,AR.mono,af _,AR.mono,af _,trivial⟩
   case hop=>
    constructor
    ·rintro-w12 D12;exact ai (ak cM rfl) rfl
    constructor
    ·rintro-w13 D13;rintro _ rfl;exact ai (aq bK rfl (by exact (hP.from_ (aj.rfl_.next D13)).rd 0 rfl)) rfl
    constructor
    ·rintro-w14 D14;exact ai (ak cD rfl) rfl
    constructor
    ·rintro-w15 D15;rintro _ rfl;exact ai (aq cU rfl (by exact (hP.from_ (aj.rfl_.next D15)).rd 1 rfl)) rfl
    constructor
    ·rintro-w16 D16;exact ai (ar (v:=.int _ _) rfl) rfl
    constructor
    ·rintro-w17 D17;rintro _ rfl _ rfl;exact ai (aG eX rfl rfl (by omega)) rfl
    constructor
    ·rintro-w18 D18;rintro _ rfl;exact ai (ak eJ rfl) rfl
    constructor
    ·rintro-w19 D19;rintro _ rfl;exact ai (bw (cs:=dV a.2.1) bO bq rfl (c0 ((hB.next E30).next D19) (Cc hce))) rfl
    constructor
    ·rintro-w20 D20;rintro _ rfl v20_48 rfl;refine dP AB ((CG U A ca ds.length ds _ (j6.arg ha.row ha.cap ha.nil ((hB.next E30).next D20) hNw (fun k hk=>(hUd k hk).1)) (fun k hk=>Nat.lt_of_lt_of_le (hUd k hk).2 ((aj.rfl_.next D20)).size) rfl (by omega) hsd a.2.1 hs1 hs2 hfit).mono ?_);rintro v w2 ⟨⟨A49,c49,rfl,hX49⟩,hE⟩;exact ⟨hE,A49,c49,rfl,hX49⟩
    constructor
    ·rintro-w21 D21;rintro v21_49 ⟨A49,c49,rfl,hX49⟩;exact d_ (ar rfl) aj.rfl_ ⟨_,_,rfl,hX49⟩
    constructor
    ·rintro-w22 D22;rintro v22_40 ⟨A40,c40,rfl,hX40⟩;exact d_ (ax rfl rfl) aj.rfl_ ⟨_,_,rfl,hX40⟩
    constructor
    ·rintro-w23 D23;rintro v23_40 ⟨A40,c40,rfl,hX40⟩;exact ai (ax rfl rfl) rfl
    constructor
    ·rintro-w24 D24;rintro v24_50 ⟨A50,c50,rfl,hX50⟩;exact d_ (bQ rfl) aj.rfl_ ⟨_,_,rfl,hX50⟩
    constructor
    ·rintro-w25 D25;rintro v25_51 rfl;exact ai (bQ (v:=.int _ _) rfl) rfl
    exact trivial
   case hend=>
    intro w26 D26;rintro _ rfl _ rfl _ rfl _ rfl _ rfl _ rfl _ rfl v48 rfl v49 ⟨A49,c49,rfl,hX49⟩ v40 ⟨A40,c40,rfl,hX40⟩ v50 ⟨A50,c50,rfl,hX50⟩ v51 rfl v6 ⟨A6,c6,rfl,hX6⟩ v7 rfl;show St ..;refine ah (ab (ag (aa (mvp rfl (ae (ak cD rfl) (ae (aq cU rfl (by exact (hP.from_ (aj.rfl_.next D26)).rd 1 rfl)) ?_))))));refine mvi rfl (ae (aG eX rfl rfl (by omega)) (ae (ak eJ rfl) (ae (bw (cs:=[_,_]) bO bq rfl (by exact c0 ((hB.next E30).next D26) (Cc hce))) ?_)));have hP59:=hP.from_ ((aj.rfl_.next D26));refine aA mo (wi U s ds _ (hsh.from_ (aj.rfl_.next D26)) a.2.1 hs1 hs2) ?_;rintro v59 w27 ⟨rfl,hs59,hC59⟩;have hX6b:=hX6.chg hC59 (fun _ h=>h);replace hP:=hP59.chg hC59 (fun h=>by have:=(hUd _ h).1;omega);have hdl:=hs59.docs.2.1;refine aA cE (da _ _) ?_;rintro v60 w28 ⟨rfl,rfl⟩;refine mvi rfl (ae (cG (cq rfl rfl) (bne_self_eq_false _)) (mvb rfl (an rfl (mvp rfl (an rfl (aA ju (kf _ s (lq ds a.2.1) _ (hs59.from_ aj.rfl_)) ?_))))));rintro v65 w29 ⟨⟨A65,c65,rfl,ho65⟩,E65⟩;refine an rfl (mvs rfl (an rfl (aA oK (mZ A65 A6 c65 c6 (lq ds a.2.1).length (lq ds a.2.1).length (lq ds a.2.1) _ (cL.own bI (by decide) ho65).2 (hX6b.row.from_ (aj.rfl_.next E65)) rfl rfl (by omega)) ?_)));rintro v67 w30 ⟨rfl,E67⟩;refine an rfl (ae (cG (dZ rfl) rfl) (ae (aQ (v:=.bool _) rfl rfl) (ah (ab (cm rfl (au (aN (ab (aa (mvi rfl (ae (aJ (b:=1) rfl rfl (by omega)) (asi rfl ?_))))))))))));refine ah ?_;refine aR (i+1) ⟨(by first | rfl | (refine aM ?_;omega)),trivial⟩ (by (iterate 120 refine aF rfl ?_);exact aK) ⟨?_,?_⟩
    ·exact ⟨by omega,hP.from_ ((aj.rfl_.next E65).next E67),((((((hB.next E30).next D26)).chg hC59 (fun k hk=>Nat.le_trans hNw (hUd k hk).1)).next E65).next E67)⟩
    ·show acs.length-(i+1)<acs.length-i;omega
  refine aZ (aD (aD (aU (ab (ag (aa (aA fM (fC _ m (br hB hm)) ?_)))))));rintro v70 w31 ⟨rfl,E70⟩;refine asb rfl (ah (ab (ay (bE (v:=.bool _) rfl rfl (⟨rfl,(hB.next E70)⟩)))))
 refine aB rfl rfl (aB rfl rfl (ae (aQ (v:=.bool _) rfl rfl) (ah (ab (cm rfl (aZ (aD (aD (aU (ab (ag (aa (aA fM (fC _ m (br hB hm)) ?_)))))))))))));rintro v70 w32 ⟨rfl,E70⟩;refine asb rfl (ah (ab (ay (bE (v:=.bool _) rfl rfl (⟨rfl,(hB.next E70)⟩)))))
theorem z_ (cs:Array Value) (x:(Ty.pr (.sl lN) (.pr (.sl l9) .unit)).den) (w:World) (hS:w.ShapedOpen prog) (hs:cs.size=(Ty.pr (.sl lN) (.pr (.sl l9) .unit)).size) (h:(Ty.pr (.sl lN) (.pr (.sl l9) .unit)).At w (fun j=>cs[j]?) x) :
 Rt prog 6 [.agg cs] w fun v w'=>v=.bool true∧aj w w':=by
 obtain ⟨A,B,ca,cb,ds,acs,rfl,ha⟩:=pD hs h;exact z8 A B ca cb ds acs w hS ha
theorem qJ (os:Os) (started:os.Started) (H:Type) (enc:TypeId×Value→H) :
 ReturnsInHanded {} Tryz.checked os 6 .any (Rows.shelfAddsSpec.pre6 enc prog Tryz.f6 Rows.shelfAddsRow.domain false) (Rows.shelfAddsSpec.post enc prog Tryz.f6 false true false false):=by
 refine returnsInHanded_of_change_shaped (C:=Tryz.checked) Tryz.own started (by kernel_rfl) Tryz.func6
  (ChangeSpec.witness6 (enc:=enc) (C:=Tryz.checked) false ⟨#[],#[.agg #[.slice none 0 0,.slice none 0 0]],[]⟩ 8 (by kernel_rfl) (by kernel_rfl) (by kernel_rfl) (by kernel_rfl)) ?_
 intro W base args ds gs before hval hW _ hsz hS _;exact gY 6 Tryz.f6 25 4 Rows.shelfAddsSpec Tryz.params6 (by kernel_rfl) Tryz.underlying4 rfl (fun _=>rfl) (by kernel_rfl) (dT_ (by kernel_rfl)) (fB (Ty.sl lN) (.pr (.sl l9) .unit) (by kernel_rfl) z_) W base args ds gs before hval hW hsz hS
theorem ShelfAdds_holds:Rows.ShelfAddsSaid:=
 OpenClaim.holds_of_wide 6 Tryz.f6 rfl rfl rfl rfl rfl rfl rfl ⟨rfl,rfl,rfl,rfl,rfl⟩ rfl rfl rfl rfl rfl (by kernel_rfl) Tryz.func6 (by kernel_rfl)
  (dT_ (by kernel_rfl)) (by unfold Func.isWrapper;first | (rw [if_pos (by decide+kernel)];kernel_rfl) | (rw [if_neg (by decide+kernel)];exact ⟨rfl,rfl⟩))
  (fun os started H enc _=>qJ os started H enc)
theorem AA:aH prog 18=true:=by kernel_rfl
theorem tM:aH prog 21=true:=by kernel_rfl
theorem um (A B:Option Addr) (ca cb:Nat) (ds:List Dc) (acs:List Ac) (w:World) (hS:w.ShapedOpen prog) (ha:w_ w A B ca ds acs) :
 Rt prog 7 [.agg #[.slice A ds.length ca,.slice B acs.length cb]] w (fun v w'=>v=.bool true∧aj w w'):=by
 obtain ⟨m,hm⟩:=nB hS;have hlen:=ha.len;have hlenA:=ha.lenA;refine enter (n:=126) Tryz.func7 rfl rfl rfl (ag (aa (cW (v:=.agg _) rfl ?_)));intro b1 w1 E1 hb1 hk1;refine asb rfl (ah (ab (ag (ag (aa (ae (bw (cs:=[_,_]) mn ml rfl (by exact (hk1.from_ aj.rfl_).whole)) ?_))))));refine aA mm (l8 A B ca cb ds acs _ (ha.from_ (aj.rfl_.next E1))) ?_;rintro v16 w2 ⟨⟨hv,rfl,hli⟩,E16⟩;refine mvb rfl (bz (t:=17) rfl (fun Q3=>?_) (fun Q3=>?_))
 ·refine aB rfl rfl (aB rfl rfl (aB rfl rfl (aB rfl rfl (ae (bc (v:=.bool _) rfl rfl) (ah (ab (cB rfl (ag (aa (asb rfl ?_))))))))));refine ah (ab (ay (aC (bE (v:=.bool _) rfl rfl (⟨rfl,((aj.rfl_.next E1).next E16)⟩)))))
 refine an rfl (ae (ak cM rfl) (an rfl (ae (aq bK rfl (by exact (hk1.from_ (aj.rfl_.next E16)).rd 0 rfl)) ?_)));refine an rfl ?_;refine aA oP (oq A ca ds.length ds _ (ha.row.from_ ((aj.rfl_.next E1).next E16)) rfl (by have h9:=hli (by first | assumption | simp_all);omega)) ?_;rintro v20 w4 ⟨rfl,E20⟩;refine an rfl (ae (cq rfl rfl) (ae (aQ (v:=.bool _) rfl rfl) (ah (ab (Lf rfl (fun Q5=>?_) (fun Q5=>?_))))))
 ·refine ag (aa (asb rfl (ah (ab (ay (aC (bE (v:=.bool _) rfl rfl (⟨rfl,(((aj.rfl_.next E1).next E16).next E20)⟩))))))))
 have hck:jm ds=0:=by simpa using Q5
 obtain ⟨hord,hfit⟩:=pz hck;have hsd:=uI hord;have hf1:=hfit.1;have hf3:=hfit.2.2;refine au (ab (ag (ag (aa (asi rfl (ah (ab (az (bg (G:=Nat) (2::4::5::6::7::8::9::10::11::12::13::14::23::24::25::26::27::28::29::30::31::32::33::34::35::36::37::38::39::40::41::42::43::44::45::46::47::48::49::50::51::52::53::54::55::56::57::58::59::60::61::62::63::64::65::66::67::68::69::70::71::72::73::74::75::76::77::78::79::80::81::82::83::84::85::86::87::88::89::90::91::92::93::94::95::96::97::98::99::100::101::102::103::104::105::106::107::108::109::110::111::112::113::114::115::116::117::118::119::120::121::122::123::124::[]) (fun i=>[(3,.int .i64 (i:Nat))]) (fun i w'=>i≤acs.length∧Blk w' b1 25 #[.slice A ds.length ca,.slice B acs.length cb]∧aj w w') (fun i=>acs.length-i) (0) ⟨rfl,trivial⟩ ?_ ?_)))))))))
 ·exact ⟨Nat.zero_le _,hk1.from_ ((aj.rfl_.next E16).next E20),(((aj.rfl_.next E1).next E16).next E20)⟩
 rintro i ρ6 w6 ⟨hi,hP,hB⟩;refine ag (ag (aa (mvi rfl (ae (ak cD rfl) (ae (aq cU rfl (by exact (hP.from_ aj.rfl_).rd 1 rfl)) ?_)))));refine ae (aS fN rfl) (ae (aX rfl rfl) (mvb rfl (KL (t:=28) rfl (fun Q7=>?_) (fun Q7=>?_))))
 ·refine an rfl (mvi rfl (an rfl (ae (aX rfl rfl) (ae (bc (v:=.bool _) rfl rfl) (ah (ab (Li rfl (fun Q8=>?_) (fun Q8=>?_))))))))
  ·obtain ⟨bA,oA,rfl,hcA⟩:=ha.rowA (by omega);have hil:i<acs.length:=by omega
   obtain ⟨a,haa⟩:∃ a,a=acs[i]:=⟨_,rfl⟩;have hce:=hcA i hil;rw [←haa] at hce;obtain ⟨hs0,hs1,hs2,hs3,hs4⟩:=ha.smA a (by rw [haa];exact List.getElem_mem hil);unfold Small at hs1 hs2 hs3;refine au (ab (ag (az (ag (aa (ae (ak cM rfl) (ae (aq bK rfl (by exact (hP.from_ aj.rfl_).rd 0 rfl)) ?_)))))));obtain ⟨N,hN⟩:∃ N,N=(w6).heap.size:=⟨_,rfl⟩;have hNw:w.heap.size≤N:=by rw [hN];exact (hB).size
   have hP37:=hP.from_ (aj.rfl_);have hNb:b1<N:=by rw [hN];exact hP37.lt
   refine aA gv (nH A ca ds _ (ha.row.from_ hB) ha.cap ha.nil hck) ?_;rintro v37 w9 ⟨⟨s,rfl,hsh⟩,E37⟩;rw [←hN] at hsh;replace hP:=hP37.from_ E37;refine mvt rfl (ae (ax rfl rfl) (ae (ax rfl rfl) (asp rfl (asi rfl (ah (ab (ag (ag (aa (mvi rfl (aA cE (da _ _) ?_)))))))))));rintro v41 w10 ⟨rfl,rfl⟩;refine ae (cG (cq rfl rfl) (bne_self_eq_false _)) (mvb rfl (an rfl (mvp rfl (an rfl (ae (cG (er (by kernel_rfl) rfl rfl) rfl) (ae (aQ (v:=.bool _) rfl rfl) (ah (ab (cm rfl ?_)))))))));refine au (ab (ff (G:=Unit) [47,48,49,50,51] (fun _=>[]) (fun _ w'=>dD w' (fun k=>N≤k) s ds∧Blk w' b1 25 #[.slice A ds.length ca,.slice (some ⟨bA,oA,none⟩) acs.length cb]∧aj w w') ?_ ?_))
   ·refine ag (aa (mvi rfl (ae (jP (b:=2) rfl rfl (by decide)) (ae (cF rfl rfl) (ah (ab (Li rfl (fun Q11=>?_) (fun Q11=>?_))))))))
    ·refine aa (mvp rfl ?_);have hP51:=hP.from_ (aj.rfl_);have hsh51:=hsh.from_ (aj.rfl_);refine aA oM (iG _ s ds _ (hsh.from_ aj.rfl_)) ?_;rintro v51 w12 ⟨hs51,hC51⟩;replace hP:=hP51.chg hC51 (fun h=>by have h9:N≤b1:=h;omega);replace hsh:=hsh51.on hs51;refine ah ?_;refine aR (()) trivial (by (iterate 5 refine aF rfl ?_);exact aK) ?_;exact ⟨hsh.from_ aj.rfl_,hP.from_ aj.rfl_,(((hB.next E37)).chg hC51 (fun k hk=>Nat.le_trans hNw hk))⟩
    refine au ?_;refine aR (()) trivial (by (iterate 3 refine aF rfl ?_);exact aK) ?_;exact ⟨hsh.from_ aj.rfl_,hP.from_ aj.rfl_,(hB.next E37)⟩
   rintro _ ρ13 w13 ⟨hsh,hP,hB⟩;refine ag (aa (ae (ak cD rfl) (ae (aq cU rfl (by exact (hP.from_ aj.rfl_).rd 1 rfl)) ?_)));refine mvi rfl (ae (aG eX rfl rfl (by omega)) (ae (ak eJ rfl) (ae (ak aW rfl) (ae (aq bf rfl (by exact br hB (hce 1 _ rfl))) ?_))));refine asg rfl (ah (ab (ff (G:=ByteArray) [59,60,61,62,63,64,65,66,67,68,69,70,71,72,73,74,75,76,77] (fun q=>[(6,.string q)]) (fun q w'=>q.size≤140737488351232∧dD w' (fun k=>N≤k) s ds∧Blk w' b1 25 #[.slice A ds.length ca,.slice (some ⟨bA,oA,none⟩) acs.length cb]∧aj w w') ?_ ?_)))
   ·refine ag (aa (ae (ak cM rfl) (ae (aq bK rfl (by exact (hP.from_ aj.rfl_).rd 0 rfl)) ?_)));refine ae (aS bx rfl) (ae (bU rfl rfl) (mvb rfl (KL (t:=63) rfl (fun Q14=>?_) (fun Q14=>?_))))
    ·refine an rfl (mvi rfl (an rfl (ae (jP (b:=3) rfl rfl (by decide)) (an rfl (ae (bU rfl rfl) (ae (bc (v:=.bool _) rfl rfl) (ah (ab (Li rfl (fun Q15=>?_) (fun Q15=>?_))))))))))
     ·have hdl0:0<ds.length:=by omega
      have hmod:i%ds.length<ds.length:=Nat.mod_lt _ hdl0;obtain ⟨bd,od,rfl,hcd⟩:=ha.row hdl0;have hcdi:=hcd (i%ds.length) hmod;apply bH 11 [(68,eqp _),(69,eqp _),(70,eqp _),(71,eqp _),(72,eqp _),(73,eqp _),(74,eqp _),(75,eqp _),(76,eqp _),(77,eqp (.string ds[i%ds.length].1)),(6,eqp (.string ds[i%ds.length].1))] (by repeat first | exact bT | refine bS ?_ | refine bG ?_) (by kernel_rfl) (by kernel_rfl) ⟨af _,af _,af _,af _,af _,af _,af _,af _,af _,af _,af _,trivial⟩
      case hop=>
       constructor
       ·rintro-w17 D17;exact ai (ak cM rfl) rfl
       constructor
       ·rintro-w18 D18;rintro _ rfl;exact ai (aq bK rfl (by exact (hP.from_ (aj.rfl_.next D18)).rd 0 rfl)) rfl
       constructor
       ·rintro-w19 D19;exact ai (ar (v:=.int _ _) rfl) rfl
       constructor
       ·rintro-w20 D20;exact ai (ak cM rfl) rfl
       constructor
       ·rintro-w21 D21;rintro _ rfl;exact ai (aq bK rfl (by exact (hP.from_ (aj.rfl_.next D21)).rd 0 rfl)) rfl
       constructor
       ·rintro-w22 D22;rintro _ rfl;exact ai (aS bx rfl) rfl
       constructor
       ·rintro-w23 D23;rintro _ rfl _ rfl;exact ai (jP rfl rfl (by omega)) rfl
       constructor
       ·rintro-w24 D24;rintro _ rfl _ rfl;exact ai (aG aO rfl rfl (by omega)) rfl
       constructor
       ·rintro-w25 D25;rintro _ rfl;exact ai (ak aW rfl) rfl
       constructor
       ·rintro-w26 D26;rintro _ rfl;exact ai (aq (v:=.string ds[i%ds.length].1) bf rfl (br (hB.next D26) (hcdi 0 _ rfl))) rfl
       constructor
       ·rintro-w27 D27;rintro v27_77 rfl;exact ai (bQ (v:=.string _) rfl) rfl
       exact trivial
      case hend=>
       intro w28 D28;rintro _ rfl _ rfl _ rfl _ rfl _ rfl _ rfl _ rfl _ rfl _ rfl v77 rfl v6 rfl;show St ..;refine ah ?_;refine aR ((ds[i%ds.length].1)) ⟨(by first | rfl | (refine aM ?_;omega)),trivial⟩ (by (iterate 21 refine aF rfl ?_);exact aK) ?_;exact ⟨by have h9:=(ha.sm _ (List.getElem_mem hmod)).1;unfold Small at h9;omega,hsh.from_ (aj.rfl_.next D28),hP.from_ (aj.rfl_.next D28),(hB.next D28)⟩
     refine au ?_;refine aR (a.2.1.1) ⟨(by first | rfl | (refine aM ?_;omega)),trivial⟩ (by (iterate 10 refine aF rfl ?_);exact aK) ?_;exact ⟨hs1,hsh.from_ aj.rfl_,hP.from_ aj.rfl_,hB⟩
    refine aB rfl rfl (aB rfl rfl (aB rfl rfl (ae (aQ (v:=.bool _) rfl rfl) (ah (ab (cm rfl (au ?_)))))));refine aR (a.2.1.1) ⟨(by first | rfl | (refine aM ?_;omega)),trivial⟩ (by (iterate 10 refine aF rfl ?_);exact aK) ?_;exact ⟨hs1,hsh.from_ aj.rfl_,hP.from_ aj.rfl_,hB⟩
   rintro q ρ29 w29 ⟨hq,hsh,hP,hB⟩;refine ag (aa (ae (ak cM rfl) (ae (aq bK rfl (by exact (hP.from_ aj.rfl_).rd 0 rfl)) ?_)));refine mvg rfl ?_;obtain ⟨U,hsh82,hUd⟩:=ShU.of (hsh.from_ (aj.rfl_));have hP82:=hP.from_ (aj.rfl_);refine aA AA (vp U A ca ds.length ds _ (j6.arg ha.row ha.cap ha.nil hB hNw (fun k hk=>(hUd k hk).1)) (fun k hk=>(hUd k hk).2) rfl (by omega) hsd q hq hord) ?_;rintro v82 w30 ⟨⟨A82,c82,rfl,hX82⟩,E82⟩;have hsh2:=hsh82.from_ E82;replace hP:=hP82.from_ E82;refine mvt rfl (ae (ax rfl rfl) (ae (ax rfl rfl) (ass rfl (asi rfl (ah (ab (ag (ag (aa (mvp rfl (mvg rfl ?_)))))))))));have hP87:=hP.from_ (aj.rfl_);have hX87:=hX82.from_ (aj.rfl_);refine aA oO (qC U s ds _ (hsh2.from_ aj.rfl_) q hq) ?_;rintro v87 w31 ⟨rfl,hs87,hC87⟩;have hX:=hX87.chg hC87 (fun _ h=>h);replace hP:=hP87.chg hC87 (fun h=>by have:=(hUd _ h).1;omega);have hdl:=hs87.docs.2.1;have hdz:=hs87.docs.2.2.2;refine aA cE (da _ _) ?_;rintro v88 w32 ⟨rfl,rfl⟩;refine mvi rfl (ae (cG (cq rfl rfl) (bne_self_eq_false _)) (mvb rfl (an rfl (mvp rfl (an rfl (aA ju (kf _ s (eg ds q) _ (hs87.from_ aj.rfl_)) ?_))))));rintro v93 w33 ⟨⟨A93,c93,rfl,ho93⟩,E93⟩;refine an rfl (mvs rfl (an rfl (aA oK (mZ A93 A82 c93 c82 (eg ds q).length (eg ds q).length (eg ds q) _ (cL.own bI (by decide) ho93).2 (hX.row.from_ (aj.rfl_.next E93)) rfl rfl (by omega)) ?_)));rintro v95 w34 ⟨rfl,E95⟩;refine an rfl (ae (cG (dZ rfl) rfl) (ae (aQ (v:=.bool _) rfl rfl) (ah (ab (cm rfl (au (ab (ag (aa (mvp rfl ?_))))))))));have hP100:=hP.from_ (((aj.rfl_.next E93).next E95));have hX100:=hX.from_ (((aj.rfl_.next E93).next E95));refine aA jt (ir _ s (eg ds q) _ (hs87.from_ ((aj.rfl_.next E93).next E95)) ⟨#[97]⟩ 1000 m (br (((((hB.next E82)).chg hC87 (fun k hk=>Nat.le_trans hNw (hUd k hk).1)).next E93).next E95) hm) (by decide)) ?_;rintro v100 w35 ⟨⟨A100,c100,rfl,ho100⟩,E100⟩;have hr100:=(cL.own eB (by decide) ho100).2;replace hX:=hX100.from_ E100;replace hP:=hP100.from_ E100;refine mvt rfl (ae (ax rfl rfl) (ae (ax rfl rfl) (ae (ax rfl rfl) (ass rfl (asi rfl (asi rfl (ah (ab (ag (aa (mvs rfl ?_)))))))))));refine aA tM (o9 A82 c82 (eg ds q).length (eg ds q) _ (hX.row.from_ aj.rfl_) rfl (by omega) ⟨#[97]⟩ 1000 (by decide) (by omega)) ?_;rintro v106 w36 ⟨⟨A106,c106,rfl,hr106⟩,E106⟩;refine mvt rfl (ae (ax rfl rfl) (ae (ax rfl rfl) (ae (ax rfl rfl) (ass rfl (asi rfl (asi rfl (ah (ab (ag (aa (mvi rfl ?_)))))))))));refine aA cE (da _ _) ?_;rintro v111 w37 ⟨rfl,rfl⟩;refine mvi rfl (ae (cG (cq rfl rfl) (bne_self_eq_false _)) (mvb rfl (an rfl (mvi rfl (an rfl (mvi rfl (an rfl (ae (cG (cq rfl rfl) (bne_self_eq_false _)) ?_))))))));refine ae (aQ (v:=.bool _) rfl rfl) (mvb rfl (an rfl (mvs rfl (an rfl (mvs rfl (an rfl (aA kD (lM A100 A106 c100 c106 (sH (eg ds q) ⟨#[97]⟩ 1000).length (sH (eg ds q) ⟨#[97]⟩ 1000).length (sH (eg ds q) ⟨#[97]⟩ 1000) (sH (eg ds q) ⟨#[97]⟩ 1000) _ (hr100.from_ (aj.rfl_.next E106)) (hr106.from_ (by first | exact aj.rfl_ | exact aj.rfl_.d1 | exact aj.rfl_.dn _)) rfl rfl (vj hs87.docs.2 _ _)) ?_)))))));rintro v122 w38 ⟨rfl,E122⟩;refine an rfl (ae (cG (dZ rfl) (by rw [decide_eq_true rfl];rfl)) ?_);refine ae (aQ (v:=.bool _) rfl rfl) (ah (ab (cm rfl (au (aN (ab (aa (mvi rfl (ae (aJ (b:=1) rfl rfl (by omega)) (asi rfl (ah ?_)))))))))));refine aR (i+1) ⟨(by first | rfl | (refine aM ?_;omega)),trivial⟩ (by (iterate 231 refine aF rfl ?_);exact aK) ⟨?_,?_⟩
   ·exact ⟨by omega,hP.from_ ((aj.rfl_.next E106).next E122),((((((((hB.next E82)).chg hC87 (fun k hk=>Nat.le_trans hNw (hUd k hk).1)).next E93).next E95).next E100).next E106).next E122)⟩
   ·show acs.length-(i+1)<acs.length-i;omega
  refine aZ (aD (aD (aU (ab (ag (aa (aA fM (fC _ m (br hB hm)) ?_)))))));rintro v125 w39 ⟨rfl,E125⟩;refine asb rfl (ah (ab (ay (bE (v:=.bool _) rfl rfl (⟨rfl,(hB.next E125)⟩)))))
 refine aB rfl rfl (aB rfl rfl (ae (aQ (v:=.bool _) rfl rfl) (ah (ab (cm rfl (aZ (aD (aD (aU (ab (ag (aa (aA fM (fC _ m (br hB hm)) ?_)))))))))))));rintro v125 w40 ⟨rfl,E125⟩;refine asb rfl (ah (ab (ay (bE (v:=.bool _) rfl rfl (⟨rfl,(hB.next E125)⟩)))))
theorem uo (cs:Array Value) (x:(Ty.pr (.sl lN) (.pr (.sl l9) .unit)).den) (w:World) (hS:w.ShapedOpen prog) (hs:cs.size=(Ty.pr (.sl lN) (.pr (.sl l9) .unit)).size) (h:(Ty.pr (.sl lN) (.pr (.sl l9) .unit)).At w (fun j=>cs[j]?) x) :
 Rt prog 7 [.agg cs] w fun v w'=>v=.bool true∧aj w w':=by
 obtain ⟨A,B,ca,cb,ds,acs,rfl,ha⟩:=pD hs h;exact um A B ca cb ds acs w hS ha
theorem nR (os:Os) (started:os.Started) (H:Type) (enc:TypeId×Value→H) :
 ReturnsInHanded {} Tryz.checked os 7 .any (Rows.shelfDeletesSpec.pre6 enc prog Tryz.f7 Rows.shelfDeletesRow.domain false) (Rows.shelfDeletesSpec.post enc prog Tryz.f7 false true false false):=by
 refine returnsInHanded_of_change_shaped (C:=Tryz.checked) Tryz.own started (by kernel_rfl) Tryz.func7
  (ChangeSpec.witness6 (enc:=enc) (C:=Tryz.checked) false ⟨#[],#[.agg #[.slice none 0 0,.slice none 0 0]],[]⟩ 8 (by kernel_rfl) (by kernel_rfl) (by kernel_rfl) (by kernel_rfl)) ?_
 intro W base args ds gs before hval hW _ hsz hS _;exact gY 7 Tryz.f7 25 4 Rows.shelfDeletesSpec Tryz.params7 (by kernel_rfl) Tryz.underlying4 rfl (fun _=>rfl) (by kernel_rfl) (dT_ (by kernel_rfl)) (fB (Ty.sl lN) (.pr (.sl l9) .unit) (by kernel_rfl) uo) W base args ds gs before hval hW hsz hS
theorem ShelfDeletes_holds:Rows.ShelfDeletesSaid:=
 OpenClaim.holds_of_wide 7 Tryz.f7 rfl rfl rfl rfl rfl rfl rfl ⟨rfl,rfl,rfl,rfl,rfl⟩ rfl rfl rfl rfl rfl (by kernel_rfl) Tryz.func7 (by kernel_rfl)
  (dT_ (by kernel_rfl)) (by unfold Func.isWrapper;first | (rw [if_pos (by decide+kernel)];kernel_rfl) | (rw [if_neg (by decide+kernel)];exact ⟨rfl,rfl⟩))
  (fun os started H enc _=>nR os started H enc)
theorem se (A B:Option Addr) (ca cb:Nat) (ds:List Dc) (acs:List Ac) (w:World) (hS:w.ShapedOpen prog) (ha:w_ w A B ca ds acs) :
 Rt prog 8 [.agg #[.slice A ds.length ca,.slice B acs.length cb]] w (fun v w'=>v=.bool true∧aj w w'):=by
 obtain ⟨m,hm⟩:=nB hS;have hlen:=ha.len;have hlenA:=ha.lenA;refine enter (n:=103) Tryz.func8 rfl rfl rfl (ag (aa (cW (v:=.agg _) rfl ?_)));intro b1 w1 E1 hb1 hk1;refine asb rfl (ah (ab (ag (ag (aa (ae (bw (cs:=[_,_]) mn ml rfl (by exact (hk1.from_ aj.rfl_).whole)) ?_))))));refine aA mm (l8 A B ca cb ds acs _ (ha.from_ (aj.rfl_.next E1))) ?_;rintro v13 w2 ⟨⟨hv,rfl,hli⟩,E13⟩;refine mvb rfl (bz (t:=14) rfl (fun Q3=>?_) (fun Q3=>?_))
 ·refine aB rfl rfl (aB rfl rfl (aB rfl rfl (aB rfl rfl (ae (bc (v:=.bool _) rfl rfl) (ah (ab (cB rfl (ag (aa (asb rfl ?_))))))))));refine ah (ab (ay (aC (bE (v:=.bool _) rfl rfl (⟨rfl,((aj.rfl_.next E1).next E13)⟩)))))
 refine an rfl (ae (ak cM rfl) (an rfl (ae (aq bK rfl (by exact (hk1.from_ (aj.rfl_.next E13)).rd 0 rfl)) ?_)));refine an rfl ?_;refine aA oP (oq A ca ds.length ds _ (ha.row.from_ ((aj.rfl_.next E1).next E13)) rfl (by have h9:=hli (by first | assumption | simp_all);omega)) ?_;rintro v17 w4 ⟨rfl,E17⟩;refine an rfl (ae (cq rfl rfl) (ae (aQ (v:=.bool _) rfl rfl) (ah (ab (Lf rfl (fun Q5=>?_) (fun Q5=>?_))))))
 ·refine ag (aa (asb rfl (ah (ab (ay (aC (bE (v:=.bool _) rfl rfl (⟨rfl,(((aj.rfl_.next E1).next E13).next E17)⟩))))))))
 have hck:jm ds=0:=by simpa using Q5
 obtain ⟨hord,hfit⟩:=pz hck;have hsd:=uI hord;have hf1:=hfit.1;have hf3:=hfit.2.2;refine au (ab (ag (aa (ae (ak cM rfl) (ae (aq bK rfl (by exact (hk1.from_ ((aj.rfl_.next E13).next E17)).rd 0 rfl)) ?_)))));obtain ⟨N,hN⟩:∃ N,N=(w4).heap.size:=⟨_,rfl⟩;have hNw:w.heap.size≤N:=by rw [hN];exact ((((aj.rfl_.next E1).next E13).next E17)).size
 have hk1a:=hk1.from_ (((aj.rfl_.next E13).next E17));have hNb:b1<N:=by rw [hN];exact hk1a.lt
 refine aA gv (nH A ca ds _ (ha.row.from_ (((aj.rfl_.next E1).next E13).next E17)) ha.cap ha.nil hck) ?_;rintro v23 w6 ⟨⟨s,rfl,hsh⟩,E23⟩;rw [←hN] at hsh;replace hk1:=hk1a.from_ E23;refine mvt rfl (ae (ax rfl rfl) (ae (ax rfl rfl) (asp rfl (asi rfl (ah (ab (ag (ag (aa (mvi rfl (aA cE (da _ _) ?_)))))))))));rintro v27 w7 ⟨rfl,rfl⟩;refine ae (cG (cq rfl rfl) (bne_self_eq_false _)) (mvb rfl (an rfl (mvp rfl (an rfl (ae (cG (er (by kernel_rfl) rfl rfl) rfl) (ae (aQ (v:=.bool _) rfl rfl) (ah (ab (cm rfl ?_)))))))));refine au (ab (ag (ag (aa (asi rfl (ah (ab (az (bg (G:=Nat) (2::6::7::8::9::10::11::33::34::35::36::37::38::39::40::41::42::43::44::45::46::47::48::49::50::51::52::53::54::55::56::57::58::59::60::61::62::63::64::65::66::67::68::69::70::71::72::73::74::75::76::77::78::79::80::81::82::83::84::85::86::87::88::89::90::91::92::93::94::95::96::97::98::99::100::101::[]) (fun i=>[(5,.int .i64 (i:Nat))]) (fun i w'=>i≤acs.length∧dD w' (fun k=>N≤k) s ds∧Blk w' b1 25 #[.slice A ds.length ca,.slice B acs.length cb]∧aj w w') (fun i=>acs.length-i) (0) ⟨rfl,trivial⟩ ?_ ?_)))))))))
 ·exact ⟨Nat.zero_le _,hsh.from_ aj.rfl_,hk1.from_ aj.rfl_,((((aj.rfl_.next E1).next E13).next E17).next E23)⟩
 rintro i ρ8 w8 ⟨hi,hsh,hP,hB⟩;refine ag (ag (aa (mvi rfl (ae (ak cD rfl) (ae (aq cU rfl (by exact (hP.from_ aj.rfl_).rd 1 rfl)) ?_)))));refine ae (aS fN rfl) (ae (aX rfl rfl) (mvb rfl (KL (t:=38) rfl (fun Q9=>?_) (fun Q9=>?_))))
 ·refine an rfl (mvi rfl (an rfl (ae (aX rfl rfl) (ae (bc (v:=.bool _) rfl rfl) (ah (ab (Li rfl (fun Q10=>?_) (fun Q10=>?_))))))))
  ·obtain ⟨bA,oA,rfl,hcA⟩:=ha.rowA (by omega);have hil:i<acs.length:=by omega
   obtain ⟨a,haa⟩:∃ a,a=acs[i]:=⟨_,rfl⟩;have hce:=hcA i hil;rw [←haa] at hce;obtain ⟨hs0,hs1,hs2,hs3,hs4⟩:=ha.smA a (by rw [haa];exact List.getElem_mem hil);unfold Small at hs1 hs2 hs3;refine au (ab (ag (az (ag ?_))));apply bH 21 [(45,eqp _),(46,eqp _),(47,eqp _),(48,eqp _),(49,eqp _),(50,eqp _),(51,eqp (.string a.2.2.1)),(52,eqp _),(53,eqp _),(54,eqp _),(55,eqp _),(56,eqp _),(57,eqp (.int .i64 a.2.2.2)),(58,fun v w'=>tY w' ds a.2.2.1 a.2.2.2 v),(44,fun v w'=>tY w' ds a.2.2.1 a.2.2.2 v),(59,fun v w'=>tZ w' ds a.2.2.1 a.2.2.2 v),(60,eqp (.int .i64 (sN ds a.2.2.1 a.2.2.2:Nat))),(61,eqp (.int .i64 (ik a.2.2.1 a.2.2.2))),(6,fun v w'=>tZ w' ds a.2.2.1 a.2.2.2 v),(7,eqp (.int .i64 (sN ds a.2.2.1 a.2.2.2:Nat))),(8,eqp (.int .i64 (ik a.2.2.1 a.2.2.2)))] (by repeat first | exact bT | refine bS ?_ | refine bG ?_) (by kernel_rfl) (by kernel_rfl) ⟨af _,af _,af _,af _,af _,af _,af _,af _,af _,af _,af _,af _,af _,tY.mono,tY.mono,tZ.mono,af _,af _,tZ.mono,af _,af _,trivial⟩
   case hop=>
    constructor
    ·rintro-w12 D12;exact ai (ar (v:=.pointer _) rfl) rfl
    constructor
    ·rintro-w13 D13;exact ai (ak cD rfl) rfl
    constructor
    ·rintro-w14 D14;rintro _ rfl;exact ai (aq cU rfl (by exact (hP.from_ (aj.rfl_.next D14)).rd 1 rfl)) rfl
    constructor
    ·rintro-w15 D15;exact ai (ar (v:=.int _ _) rfl) rfl
    constructor
    ·rintro-w16 D16;rintro _ rfl _ rfl;exact ai (aG eX rfl rfl (by omega)) rfl
    constructor
    ·rintro-w17 D17;rintro _ rfl;exact ai (ak gK rfl) rfl
    constructor
    ·rintro-w18 D18;rintro _ rfl;exact ai (aq (v:=.string a.2.2.1) bf rfl (br (hB.next D18) (hce 3 _ rfl))) rfl
    constructor
    ·rintro-w19 D19;exact ai (ak cD rfl) rfl
    constructor
    ·rintro-w20 D20;rintro _ rfl;exact ai (aq cU rfl (by exact (hP.from_ (aj.rfl_.next D20)).rd 1 rfl)) rfl
    constructor
    ·rintro-w21 D21;exact ai (ar (v:=.int _ _) rfl) rfl
    constructor
    ·rintro-w22 D22;rintro _ rfl _ rfl;exact ai (aG eX rfl rfl (by omega)) rfl
    constructor
    ·rintro-w23 D23;rintro _ rfl;exact ai (ak iS rfl) rfl
    constructor
    ·rintro-w24 D24;rintro _ rfl;exact ai (aq (v:=.int .i64 a.2.2.2) aY rfl (br (hB.next D24) (hce 4 _ rfl))) rfl
    constructor
    ·rintro-w25 D25;rintro _ rfl v25_51 rfl v25_57 rfl;refine dP jt ((ir _ s ds _ (hsh.from_ (aj.rfl_.next D25)) a.2.2.1 a.2.2.2 m (br (hB.next D25) hm) hs3).mono ?_);rintro v w2 ⟨⟨A58,c58,rfl,ho58⟩,hE⟩;exact ⟨hE,A58,c58,rfl,(cL.own eB (by decide) ho58).2⟩
    constructor
    ·rintro-w26 D26;rintro v26_58 ⟨A58,c58,rfl,hr58⟩;exact d_ (ar rfl) aj.rfl_ ⟨_,_,rfl,hr58⟩
    constructor
    ·rintro-w27 D27;rintro v27_44 ⟨A44,c44,rfl,hr44⟩;exact d_ (ax rfl rfl) aj.rfl_ ⟨_,_,rfl,hr44⟩
    constructor
    ·rintro-w28 D28;rintro v28_44 ⟨A44,c44,rfl,hr44⟩;exact ai (ax rfl rfl) rfl
    constructor
    ·rintro-w29 D29;rintro v29_44 ⟨A44,c44,rfl,hr44⟩;exact ai (ax rfl rfl) rfl
    constructor
    ·rintro-w30 D30;rintro v30_59 ⟨A59,c59,rfl,hr59⟩;exact d_ (bQ rfl) aj.rfl_ ⟨_,_,rfl,hr59⟩
    constructor
    ·rintro-w31 D31;rintro v31_60 rfl;exact ai (bQ (v:=.int _ _) rfl) rfl
    constructor
    ·rintro-w32 D32;rintro v32_61 rfl;exact ai (bQ (v:=.int _ _) rfl) rfl
    exact trivial
   case hend=>
    intro w33 D33;rintro _ rfl _ rfl _ rfl _ rfl _ rfl _ rfl v51 rfl _ rfl _ rfl _ rfl _ rfl _ rfl v57 rfl v58 ⟨A58,c58,rfl,hr58⟩ v44 ⟨A44,c44,rfl,hr44⟩ v59 ⟨A59,c59,rfl,hr59⟩ v60 rfl v61 rfl v6 ⟨A6,c6,rfl,hr6⟩ v7 rfl v8 rfl;show St ..;refine ah (ab (ag ?_));apply bH 22 [(63,eqp _),(64,eqp _),(65,eqp _),(66,eqp _),(67,eqp _),(68,eqp _),(69,eqp _),(70,eqp (.string a.2.2.1)),(71,eqp _),(72,eqp _),(73,eqp _),(74,eqp _),(75,eqp _),(76,eqp (.int .i64 a.2.2.2)),(77,fun v w'=>tY w' ds a.2.2.1 a.2.2.2 v),(62,fun v w'=>tY w' ds a.2.2.1 a.2.2.2 v),(78,fun v w'=>tZ w' ds a.2.2.1 a.2.2.2 v),(79,eqp (.int .i64 (sN ds a.2.2.1 a.2.2.2:Nat))),(80,eqp (.int .i64 (ik a.2.2.1 a.2.2.2))),(9,fun v w'=>tZ w' ds a.2.2.1 a.2.2.2 v),(10,eqp (.int .i64 (sN ds a.2.2.1 a.2.2.2:Nat))),(11,eqp (.int .i64 (ik a.2.2.1 a.2.2.2)))] (by repeat first | exact bT | refine bS ?_ | refine bG ?_) (by kernel_rfl) (by kernel_rfl) ⟨af _,af _,af _,af _,af _,af _,af _,af _,af _,af _,af _,af _,af _,af _,tY.mono,tY.mono,tZ.mono,af _,af _,tZ.mono,af _,af _,trivial⟩
    case hop=>
     constructor
     ·rintro-w35 D35;exact ai (ak cM rfl) rfl
     constructor
     ·rintro-w36 D36;rintro _ rfl;exact ai (aq bK rfl (by exact (hP.from_ ((aj.rfl_.next D33).next D36)).rd 0 rfl)) rfl
     constructor
     ·rintro-w37 D37;exact ai (ak cD rfl) rfl
     constructor
     ·rintro-w38 D38;rintro _ rfl;exact ai (aq cU rfl (by exact (hP.from_ ((aj.rfl_.next D33).next D38)).rd 1 rfl)) rfl
     constructor
     ·rintro-w39 D39;exact ai (ar (v:=.int _ _) rfl) rfl
     constructor
     ·rintro-w40 D40;rintro _ rfl _ rfl;exact ai (aG eX rfl rfl (by omega)) rfl
     constructor
     ·rintro-w41 D41;rintro _ rfl;exact ai (ak gK rfl) rfl
     constructor
     ·rintro-w42 D42;rintro _ rfl;exact ai (aq (v:=.string a.2.2.1) bf rfl (br ((hB.next D33).next D42) (hce 3 _ rfl))) rfl
     constructor
     ·rintro-w43 D43;exact ai (ak cD rfl) rfl
     constructor
     ·rintro-w44 D44;rintro _ rfl;exact ai (aq cU rfl (by exact (hP.from_ ((aj.rfl_.next D33).next D44)).rd 1 rfl)) rfl
     constructor
     ·rintro-w45 D45;exact ai (ar (v:=.int _ _) rfl) rfl
     constructor
     ·rintro-w46 D46;rintro _ rfl _ rfl;exact ai (aG eX rfl rfl (by omega)) rfl
     constructor
     ·rintro-w47 D47;rintro _ rfl;exact ai (ak iS rfl) rfl
     constructor
     ·rintro-w48 D48;rintro _ rfl;exact ai (aq (v:=.int .i64 a.2.2.2) aY rfl (br ((hB.next D33).next D48) (hce 4 _ rfl))) rfl
     constructor
     ·rintro-w49 D49;rintro _ rfl v49_70 rfl v49_76 rfl;refine dP tM ((o9 A ca ds.length ds _ (ha.row.from_ ((hB.next D33).next D49)) rfl (by omega) a.2.2.1 a.2.2.2 hs3 (by omega)).mono ?_);rintro v w2 ⟨⟨A77,c77,rfl,hr77⟩,hE⟩;exact ⟨hE,A77,c77,rfl,hr77⟩
     constructor
     ·rintro-w50 D50;rintro v50_77 ⟨A77,c77,rfl,hr77⟩;exact d_ (ar rfl) aj.rfl_ ⟨_,_,rfl,hr77⟩
     constructor
     ·rintro-w51 D51;rintro v51_62 ⟨A62,c62,rfl,hr62⟩;exact d_ (ax rfl rfl) aj.rfl_ ⟨_,_,rfl,hr62⟩
     constructor
     ·rintro-w52 D52;rintro v52_62 ⟨A62,c62,rfl,hr62⟩;exact ai (ax rfl rfl) rfl
     constructor
     ·rintro-w53 D53;rintro v53_62 ⟨A62,c62,rfl,hr62⟩;exact ai (ax rfl rfl) rfl
     constructor
     ·rintro-w54 D54;rintro v54_78 ⟨A78,c78,rfl,hr78⟩;exact d_ (bQ rfl) aj.rfl_ ⟨_,_,rfl,hr78⟩
     constructor
     ·rintro-w55 D55;rintro v55_79 rfl;exact ai (bQ (v:=.int _ _) rfl) rfl
     constructor
     ·rintro-w56 D56;rintro v56_80 rfl;exact ai (bQ (v:=.int _ _) rfl) rfl
     exact trivial
    case hend=>
     intro w57 D57;rintro _ rfl _ rfl _ rfl _ rfl _ rfl _ rfl _ rfl v70 rfl _ rfl _ rfl _ rfl _ rfl _ rfl v76 rfl v77 ⟨A77,c77,rfl,hr77⟩ v62 ⟨A62,c62,rfl,hr62⟩ v78 ⟨A78,c78,rfl,hr78⟩ v79 rfl v80 rfl v9 ⟨A9,c9,rfl,hr9⟩ v10 rfl v11 rfl;show St ..;replace hr6:=hr6.from_ D57;refine ah (ab (ag (ag (aa (mvi rfl (aA cE (da _ _) ?_))))));rintro v82 w58 ⟨rfl,rfl⟩;refine mvi rfl (ae (cG (cq rfl rfl) (bne_self_eq_false _)) (mvb rfl (an rfl (mvi rfl (an rfl (mvi rfl (an rfl (ae (cG (cq rfl rfl) (bne_self_eq_false _)) ?_))))))));refine ae (aQ (v:=.bool _) rfl rfl) (mvb rfl (an rfl (mvs rfl (an rfl (mvs rfl (an rfl (aA kD (lM A6 A9 c6 c9 (sH ds a.2.2.1 a.2.2.2).length (sH ds a.2.2.1 a.2.2.2).length (sH ds a.2.2.1 a.2.2.2) (sH ds a.2.2.1 a.2.2.2) _ (hr6.from_ aj.rfl_) (hr9.from_ aj.rfl_) rfl rfl (vj hfit _ _)) ?_)))))));rintro v93 w59 ⟨rfl,E93⟩;refine an rfl (ae (cG (dZ rfl) (by rw [decide_eq_true rfl];rfl)) ?_);refine ae (aQ (v:=.bool _) rfl rfl) (ah (ab (cm rfl (au (ab (ag (aa (mvi rfl (ae (cF rfl rfl) (ah (ab (Li rfl (fun Q60=>?_) (fun Q60=>?_)))))))))))))
     ·refine ag (aa (mvp rfl ?_));have hP99:=hP.from_ ((((aj.rfl_.next D33).next D57).next E93));have hsh99:=hsh.from_ ((((aj.rfl_.next D33).next D57).next E93));refine aA oM (iG _ s ds _ (hsh.from_ (((aj.rfl_.next D33).next D57).next E93))) ?_;rintro v99 w61 ⟨hs99,hC99⟩;replace hP:=hP99.chg hC99 (fun h=>by have h9:N≤b1:=h;omega);replace hsh:=hsh99.on hs99;refine ah (ab (aa (mvp rfl ?_)));have hP101:=hP.from_ (aj.rfl_);have hsh101:=hsh.from_ (aj.rfl_);refine aA tL (jw _ s ds _ (hsh.from_ aj.rfl_)) ?_;rintro v101 w62 ⟨hs101,hC101⟩;replace hP:=hP101.chg hC101 (fun h=>by have h9:N≤b1:=h;omega);replace hsh:=hsh101.on hs101;refine ah (aN (ab (aa (mvi rfl (ae (aJ (b:=1) rfl rfl (by omega)) (asi rfl (ah ?_)))))));refine aR (i+1) ⟨(by first | rfl | (refine aM ?_;omega)),trivial⟩ (by (iterate 154 refine aF rfl ?_);exact aK) ⟨?_,?_⟩
      ·exact ⟨by omega,hsh.from_ aj.rfl_,hP.from_ aj.rfl_,(((((((hB.next D33).next D57).next E93)).chg hC99 (fun k hk=>Nat.le_trans hNw hk))).chg hC101 (fun k hk=>Nat.le_trans hNw hk))⟩
      ·show acs.length-(i+1)<acs.length-i;omega
     refine au (aN (ab (aa (mvi rfl (ae (aJ (b:=1) rfl rfl (by omega)) (asi rfl (ah ?_)))))));refine aR (i+1) ⟨(by first | rfl | (refine aM ?_;omega)),trivial⟩ (by (iterate 150 refine aF rfl ?_);exact aK) ⟨?_,?_⟩
     ·exact ⟨by omega,hsh.from_ (((aj.rfl_.next D33).next D57).next E93),hP.from_ (((aj.rfl_.next D33).next D57).next E93),(((hB.next D33).next D57).next E93)⟩
     ·show acs.length-(i+1)<acs.length-i;omega
  refine aZ (aD (aD (aU (ab (ag (aa (aA fM (fC _ m (br hB hm)) ?_)))))));rintro v102 w63 ⟨rfl,E102⟩;refine asb rfl (ah (ab (ay (bE (v:=.bool _) rfl rfl (⟨rfl,(hB.next E102)⟩)))))
 refine aB rfl rfl (aB rfl rfl (ae (aQ (v:=.bool _) rfl rfl) (ah (ab (cm rfl (aZ (aD (aD (aU (ab (ag (aa (aA fM (fC _ m (br hB hm)) ?_)))))))))))));rintro v102 w64 ⟨rfl,E102⟩;refine asb rfl (ah (ab (ay (bE (v:=.bool _) rfl rfl (⟨rfl,(hB.next E102)⟩)))))
theorem sh (cs:Array Value) (x:(Ty.pr (.sl lN) (.pr (.sl l9) .unit)).den) (w:World) (hS:w.ShapedOpen prog) (hs:cs.size=(Ty.pr (.sl lN) (.pr (.sl l9) .unit)).size) (h:(Ty.pr (.sl lN) (.pr (.sl l9) .unit)).At w (fun j=>cs[j]?) x) :
 Rt prog 8 [.agg cs] w fun v w'=>v=.bool true∧aj w w':=by
 obtain ⟨A,B,ca,cb,ds,acs,rfl,ha⟩:=pD hs h;exact se A B ca cb ds acs w hS ha
theorem nt (os:Os) (started:os.Started) (H:Type) (enc:TypeId×Value→H) :
 ReturnsInHanded {} Tryz.checked os 8 .any (Rows.shelfSearchesSpec.pre6 enc prog Tryz.f8 Rows.shelfSearchesRow.domain false) (Rows.shelfSearchesSpec.post enc prog Tryz.f8 false true false false):=by
 refine returnsInHanded_of_change_shaped (C:=Tryz.checked) Tryz.own started (by kernel_rfl) Tryz.func8
  (ChangeSpec.witness6 (enc:=enc) (C:=Tryz.checked) false ⟨#[],#[.agg #[.slice none 0 0,.slice none 0 0]],[]⟩ 8 (by kernel_rfl) (by kernel_rfl) (by kernel_rfl) (by kernel_rfl)) ?_
 intro W base args ds gs before hval hW _ hsz hS _;exact gY 8 Tryz.f8 25 4 Rows.shelfSearchesSpec Tryz.params8 (by kernel_rfl) Tryz.underlying4 rfl (fun _=>rfl) (by kernel_rfl) (dT_ (by kernel_rfl)) (fB (Ty.sl lN) (.pr (.sl l9) .unit) (by kernel_rfl) sh) W base args ds gs before hval hW hsz hS
theorem ShelfSearches_holds:Rows.ShelfSearchesSaid:=
 OpenClaim.holds_of_wide 8 Tryz.f8 rfl rfl rfl rfl rfl rfl rfl ⟨rfl,rfl,rfl,rfl,rfl⟩ rfl rfl rfl rfl rfl (by kernel_rfl) Tryz.func8 (by kernel_rfl)
  (dT_ (by kernel_rfl)) (by unfold Func.isWrapper;first | (rw [if_pos (by decide+kernel)];kernel_rfl) | (rw [if_neg (by decide+kernel)];exact ⟨rfl,rfl⟩))
  (fun os started H enc _=>nt os started H enc)
end Go.Proofs.YtcbakncjacnnjaaGreat
