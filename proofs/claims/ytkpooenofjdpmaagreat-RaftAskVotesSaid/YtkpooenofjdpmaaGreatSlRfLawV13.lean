/- texts that the claim stands on. -/
import Derived.Test.YtkpooenofjdpmaaGreatSlRfLawV12
import Derived.Shelf.Small.Bits
import Derived.Shelf.Small.Wraps
import Derived.Shelf.Strconv.Itoa0
import Derived.Shelf.Sort.Plain
import Derived.Shelf.Slices.Turned
import Derived.Shelf.Slices.Reverse
import Derived.Ground.Names2Prog
import Derived.Shelf.Slices.Clone
import Derived.Shelf.Slices.SearchI
import Derived.Shelf.Slices.Cells
import Derived.Shelf.Slices.In.SortNone
import Derived.Shelf.Slices.Empties
import Derived.Sort.OwnSortedInts
set_option maxRecDepth 100000
set_option maxHeartbeats 4000000
namespace Go.Proofs
open Go.Shelf
def Tryz.lays128_ren:Go.Shelf.Ren:=⟨fun | 128=>192 | n=>n,fun | 51=>197 | 3=>3 | 4=>4 | 46=>108 | 5=>5 | 9=>9 | n=>n,fun | n=>n⟩
def Tryz.lays125_ren:Go.Shelf.Ren:=⟨fun | 125=>181 | 128=>192 | 129=>193 | n=>n,fun | 46=>108 | 3=>3 | 51=>197 | 53=>25 | 4=>4 | 5=>5 | 9=>9 | n=>n,fun | n=>n⟩
def Tryz.lays215_ren:Go.Shelf.Ren:=⟨fun | 215=>182 | n=>n,fun | 3=>3 | 4=>4 | n=>n,fun | n=>n⟩
def Tryz.lays129_ren:Go.Shelf.Ren:=⟨fun | 129=>193 | n=>n,fun | 53=>25 | 3=>3 | 4=>4 | 46=>108 | 5=>5 | 9=>9 | n=>n,fun | n=>n⟩
def Tryz.lays189_ren:Go.Shelf.Ren:=⟨fun | 189=>169 | 125=>181 | 257=>180 | 128=>192 | 129=>193 | 294=>184 | 295=>185 | 296=>186 | 297=>187 | 298=>188 | 299=>189 | 216=>174 | 300=>190 | 301=>191 | 328=>195 | 329=>196 | 330=>197 | 331=>198 | 332=>199 | 215=>182 | 343=>200 | n=>n,fun | 28=>26 | 3=>3 | 46=>108 | 0=>0 | 51=>197 | 53=>25 | 4=>4 | 183=>191 | 182=>190 | 131=>119 | 5=>5 | 9=>9 | 218=>199 | 222=>156 | 228=>204 | 229=>105 | n=>n,fun | n=>n⟩
theorem Tryz.lays189:Go.Proofs.Lays.n189 prog Tryz.lays189_ren:={
 mixed:=by kernel_rfl
 f125:=Tryz.func181.trans (congrArg some (by kernel_rfl))
 f128:=Tryz.func192.trans (congrArg some (by kernel_rfl))
 f129:=Tryz.func193.trans (congrArg some (by kernel_rfl))
 f189:=Tryz.func169.trans (congrArg some (by kernel_rfl))
 f215:=Tryz.func182.trans (congrArg some (by kernel_rfl))
 f216:=Tryz.func174.trans (congrArg some (by kernel_rfl))
 f257:=Tryz.func180.trans (congrArg some (by kernel_rfl))
 f294:=Tryz.func184.trans (congrArg some (by kernel_rfl))
 f295:=Tryz.func185.trans (congrArg some (by kernel_rfl))
 f296:=Tryz.func186.trans (congrArg some (by kernel_rfl))
 f297:=Tryz.func187.trans (congrArg some (by kernel_rfl))
 f298:=Tryz.func188.trans (congrArg some (by kernel_rfl))
 f299:=Tryz.func189.trans (congrArg some (by kernel_rfl))
 f300:=Tryz.func190.trans (congrArg some (by kernel_rfl))
 f301:=Tryz.func191.trans (congrArg some (by kernel_rfl))
 f328:=Tryz.func195.trans (congrArg some (by kernel_rfl))
 f329:=Tryz.func196.trans (congrArg some (by kernel_rfl))
 f330:=Tryz.func197.trans (congrArg some (by kernel_rfl))
 f331:=Tryz.func198.trans (congrArg some (by kernel_rfl))
 f332:=Tryz.func199.trans (congrArg some (by kernel_rfl))
 f343:=Tryz.func200.trans (congrArg some (by kernel_rfl))
 t0:=Tryz.underlying0
 a0:=Tryz.isAgg0
 z0:=Tryz.sizeOf0
 v0:=Tryz.zeroValue0
 t3:=Tryz.underlying3
 a3:=Tryz.isAgg3
 z3:=Tryz.sizeOf3
 v3:=Tryz.zeroValue3
 t4:=Tryz.underlying4
 a4:=Tryz.isAgg4
 z4:=Tryz.sizeOf4
 v4:=Tryz.zeroValue4
 t5:=Tryz.underlying5
 a5:=Tryz.isAgg5
 z5:=Tryz.sizeOf5
 v5:=Tryz.zeroValue5
 t9:=Tryz.underlying9
 a9:=Tryz.isAgg9
 z9:=Tryz.sizeOf9
 v9:=Tryz.zeroValue9
 t28:=Tryz.underlying26
 a28:=Tryz.isAgg26
 z28:=Tryz.sizeOf26
 v28:=Tryz.zeroValue26
 t46:=Tryz.underlying108
 a46:=Tryz.isAgg108
 z46:=Tryz.sizeOf108
 v46:=Tryz.zeroValue108
 t51:=Tryz.underlying197
 a51:=Tryz.isAgg197
 z51:=Tryz.sizeOf197
 v51:=Tryz.zeroValue197
 t53:=Tryz.underlying25
 a53:=Tryz.isAgg25
 z53:=Tryz.sizeOf25
 v53:=Tryz.zeroValue25
 t131:=Tryz.underlying119
 a131:=Tryz.isAgg119
 z131:=Tryz.sizeOf119
 v131:=Tryz.zeroValue119
 t182:=Tryz.underlying190
 a182:=Tryz.isAgg190
 z182:=Tryz.sizeOf190
 v182:=Tryz.zeroValue190
 t183:=Tryz.underlying191
 a183:=Tryz.isAgg191
 z183:=Tryz.sizeOf191
 v183:=Tryz.zeroValue191
 t218:=Tryz.underlying199
 a218:=Tryz.isAgg199
 z218:=Tryz.sizeOf199
 v218:=Tryz.zeroValue199
 t222:=Tryz.underlying156
 a222:=Tryz.isAgg156
 z222:=Tryz.sizeOf156
 v222:=Tryz.zeroValue156
 t228:=Tryz.underlying204
 a228:=Tryz.isAgg204
 z228:=Tryz.sizeOf204
 v228:=Tryz.zeroValue204
 t229:=Tryz.underlying105
 a229:=Tryz.isAgg105
 z229:=Tryz.sizeOf105
 v229:=Tryz.zeroValue105 }
open Go.Sort Go.RowKit in
theorem Tryz.slices_Sort_int (blk off cap:Nat) (zs:List Int) (w:World) (hH:Holds (Value.int .i64) w blk off zs.toArray) (hblk:blk<w.heap.size) (hsz:zs.length<4611686018427387904) :
 Calls prog 169 #[.slice (some ⟨blk,off,none⟩) zs.length cap] w fun e w'=>
  e=.returned (.tuple #[])∧∃ n os,w'=grow (putRow (Value.int .i64) (Sort.ahead w n) blk off (zs.mergeSort fun x y=>decide (x≤y)).toArray) os:=Any.slices_Sort_int Tryz.lays189 blk off cap zs w hH hblk hsz
def Tryz.lays114_ren:Go.Shelf.Ren:=⟨fun | 114=>155 | n=>n,fun | 28=>26 | 3=>3 | 4=>4 | 9=>9 | 20=>20 | 0=>0 | n=>n,fun | n=>n⟩
def Tryz.lays112_ren:Go.Shelf.Ren:=⟨fun | 112=>194 | n=>n,fun | 28=>26 | 3=>3 | 4=>4 | 0=>0 | n=>n,fun | n=>n⟩
def Tryz.laysNm215_ren:Go.Shelf.Ren:=⟨fun | 15=>136 | n=>n,fun | 22=>26 | 3=>3 | 4=>4 | n=>n,fun | n=>n⟩
def Tryz.laysNm237_ren:Go.Shelf.Ren:=⟨fun | 37=>182 | n=>n,fun | 3=>3 | 4=>4 | n=>n,fun | n=>n⟩
def Tryz.laysNm232_ren:Go.Shelf.Ren:=⟨fun | 32=>175 | n=>n,fun | 3=>3 | 4=>4 | n=>n,fun | n=>n⟩
def Tryz.laysNm231_ren:Go.Shelf.Ren:=⟨fun | 31=>174 | 37=>182 | n=>n,fun | 3=>3 | 4=>4 | n=>n,fun | n=>n⟩
def Tryz.laysNm225_ren:Go.Shelf.Ren:=⟨fun | 25=>163 | 31=>174 | 32=>175 | 37=>182 | n=>n,fun | 22=>26 | 3=>3 | 4=>4 | 40=>108 | 0=>0 | n=>n,fun | n=>n⟩
end Go.Proofs
namespace Go.Proofs.YtkpooenofjdpmaaGreat
open Go.Proofs.Tryz (prog)
open Go.RowKit
open Go.ChangeShapes Go.WideShapes Go.ChangeAt
theorem cB:(gT prog 26).isSome=true:=by kernel_rfl
theorem db:gT prog 26=some (3,1):=by kernel_rfl
theorem si:aR prog 179=true:=by kernel_rfl
theorem sk:aR prog 168=true:=by kernel_rfl
theorem sj:aR prog 169=true:=by kernel_rfl
theorem sq:aR prog 155=true:=by kernel_rfl
theorem sm:aR prog 157=true:=by kernel_rfl
theorem so:aR prog 156=true:=by kernel_rfl
theorem y6 (A:Option Addr) (c:Nat) (L:List Int) (w:World) (hr:eu iV w A L) (hn:1≤L.length) (hl:L.length≤1000000) :
 Rt prog 155 [.slice A L.length c] w (fun v w'=>(∃ m,v=.int .i64 m∧m∈L∧∀ x∈L,m≤x)∧w=w'):=by
 obtain ⟨ba,oa,rfl,hca⟩:=hr (by omega);refine enter (n:=25) Tryz.func155 rfl rfl rfl (ak (ag (asi rfl (aj (af (ak (ak (ag (mvs rfl (ab (bW cB rfl) (ab (cJ (b_ rfl rfl) (decide_eq_false (by omega))) (aj (af (br rfl ?_))))))))))))));refine aM (af (ak (ag (mvs rfl (ab (dh (i:=0) db rfl rfl (by omega)) (ab (aq an rfl (by exact hca 0 (by omega))) ?_))))));refine asi rfl (aj (af (ak (ak (ag (asi rfl (aj (af (bg (dd (G:=Int×Nat) [12,13,14,15,16,17,18,19,20,21,22,23] (fun (m,k)=>[(3,.int .i64 m),(4,.int .i64 (k:Nat))]) (fun (m,k) w'=>1≤k∧k≤L.length∧m∈L∧(∀ i (h:i<L.length),i<k→m≤L[i])∧w=w') (fun (_,k)=>L.length-k) ((L[0],1)) ⟨rfl,rfl,trivial⟩ ?_ ?_))))))))))
 ·exact ⟨Nat.le_refl _,hn,List.getElem_mem _,fun i h h0=>by (obtain rfl:i=0:=by omega);exact Int.le_refl _,rfl⟩
 rintro ⟨m,k⟩ ρ1 w1 ⟨hk1,hk,hm,hle,rfl⟩;refine ak (ak (ag (mvi rfl (mvs rfl (ab (bW cB rfl) (ab (b_ rfl rfl) (aj (af (Ab rfl (fun Q2=>?_) (fun Q2=>?_))))))))))
 ·refine aM (af (ak (bg (ag (mvi rfl (mvs rfl (mvi rfl (ab (dh db rfl rfl (by omega)) (ab (aq an rfl (by exact hca k (by omega))) ?_)))))))));refine ab (lH rfl rfl) (asi rfl (aj (bE (af (ag (mvi rfl (ab (dI (b:=1) rfl rfl (by omega)) (asi rfl (aj ?_)))))))));refine cu ((min m L[k],k+1)) ⟨(by first | rfl | (refine bT ?_;omega)),(by first | rfl | (refine bT ?_;omega)),trivial⟩ (by (iterate 28 refine bI rfl ?_);exact bU) ⟨?_,?_⟩
  ·refine ⟨by omega,by omega,?_,fun i h h0=>?_,rfl⟩
   ·rcases Int.le_total m L[k] with a | a
    ·rw [Int.min_eq_left a];exact hm
    ·rw [Int.min_eq_right a];exact List.getElem_mem _
   ·rcases Nat.lt_or_ge i k with a | a
    ·have:=hle i h a;omega
    ·obtain rfl:i=k:=by omega
     omega
  ·show _-_<_-_;omega
 refine cI (bD (bD (cr (af (ak (ag (mvi rfl (asi rfl (aj (af (aC (bo (v:=.int _ _) rfl rfl ?_))))))))))));obtain rfl:k=L.length:=by omega
 exact ⟨⟨m,rfl,hm,fun x hx=>by obtain ⟨i,hi,rfl⟩:=List.getElem_of_mem hx;exact hle i hi hi⟩,rfl⟩
theorem ui (A:Option Addr) (n c:Nat) (w:World) :
 Rt prog 157 [.slice A n c] w (fun v w'=>(∃ Bs,v=.func (.func 170) #[] #[.pointer (some ⟨Bs,0,none⟩)]∧w'.cell? ⟨Bs,0,none⟩=some (.slice A n c)∧Bs<w'.heap.size)∧ai w w'):=by
 refine enter (n:=4) Tryz.func157 rfl rfl rfl (ak (ag (bZ (v:=.slice _ _ _) rfl ?_)));intro b1 w1 E1 hb1 hk1;refine ab (cy (v:=.nilFunc) rfl) (aj (af (ak (ag (ab (rh (l1:=[]) (l2:=[.tmp 1])) (ab (cy (v:=.func _ _ _) rfl) (aj (af (aC (bo (v:=.func _ _ _) rfl rfl (⟨⟨b1,rfl,(hk1.from_ ai.rfl_).rd 0 rfl,(hk1.from_ ai.rfl_).lt⟩,(ai.rfl_.next E1)⟩)))))))))))
theorem sY (Bs b off cap:Nat) (L:List Int) (w:World) (hL:L.length≤1000000) (hb:b<w.heap.size) (hBs:Bs<w.heap.size) (hs:w.cell? ⟨Bs,0,none⟩=some (.slice (some ⟨b,off,none⟩) L.length cap)) (hc:∀ j (h:j<L.length),w.cell? ⟨b,off+j,none⟩=some (.int .i64 L[j])) :
 Rt prog 168 [.func (.func 170) #[] #[.pointer (some ⟨Bs,0,none⟩)]] w (fun v w'=>(∃ A c,v=.slice A L.length c∧w'.ownsRow w.heap.size 3 1 (.slice A L.length c) L.length (L.map iV))∧ai w w'):=by
 refine enter (n:=5) Tryz.func168 rfl rfl rfl (ak (ag (ass rfl (aj (af (ak (ag (ab (aH (v:=.func _ _ _) rfl) (aB si (qu Bs b off cap L _ hL hb hBs hs hc) ?_)))))))));rintro v4 w1 ⟨⟨A4,c4,rfl,ho4⟩,E4⟩;refine ass rfl (aj (af (aC (bo (v:=.slice _ _ _) rfl rfl (⟨⟨A4,c4,rfl,ho4⟩,(ai.rfl_.next E4)⟩)))))
theorem vu (base c:Nat) (A:Option Addr) (L:List Int) (w:World) (ho:w.ownsRow base 3 1 (.slice A L.length c) L.length (L.map iV)) (hn:1≤L.length) (hl:L.length≤1000000) :
 Rt prog 169 [.slice A L.length c] w fun _ w'=>w'.ownsRow base 3 1 (.slice A L.length c) L.length ((srt L).map iV)∧w.grownBy w' (A.map (·.block)):=by
 rcases ho.2 with ⟨_,hz⟩ | ⟨g,cap,cur,hv,hbase,hb,h1,h2,h3,h4⟩
 ·omega
 ·simp only [Value.slice.injEq] at hv;obtain ⟨rfl,_,rfl⟩:=hv;refine Calls.mono (Tryz.slices_Sort_int g 0 c L w (holds_of_blockI hb (by simpa using h4)) (Array.getElem?_eq_some_iff.1 hb).1 (by omega)) fun e w' ⟨he,n,os,hw⟩=>⟨_,he,?_,?_⟩
  ·rw [hw];exact ownsRow_sortedI (qa L) hbase hb h1 h2 h3
  ·rw [hw];exact grownBy_sortedI _
theorem ur (Bs b off cap:Nat) (L:List Int) (w:World) (hL:L.length≤1000000) (hb:b<w.heap.size) (hBs:Bs<w.heap.size) (hs:w.cell? ⟨Bs,0,none⟩=some (.slice (some ⟨b,off,none⟩) L.length cap)) (hc:∀ j (h:j<L.length),w.cell? ⟨b,off+j,none⟩=some (.int .i64 L[j])) (hn:1≤L.length) :
 Rt prog 156 [.func (.func 170) #[] #[.pointer (some ⟨Bs,0,none⟩)]] w (fun v w'=>(∃ A c,v=.slice A L.length c∧w'.ownsRow w.heap.size 3 1 (.slice A L.length c) L.length ((srt L).map iV))∧ai w w'):=by
 refine enter (n:=9) Tryz.func156 rfl rfl rfl (ak (ag (ass rfl (aj (af (ak (ag (ab (aH (v:=.func _ _ _) rfl) (aB sk (sY Bs b off cap L _ hL hb hBs hs hc) ?_)))))))));rintro v5 w1 ⟨⟨A5,c5,rfl,ho5⟩,E5⟩;refine ass rfl (aj (af (ak (ag (mvs rfl (aB sj (vu _ c5 A5 L _ ho5 hn hL) ?_))))));rintro v7 w2 ⟨ho7,hg7⟩;refine aj (af (ak (ag (mvs rfl (ass rfl (aj (af (aC (bo (v:=.slice _ _ _) rfl rfl (⟨⟨A5,c5,rfl,ho7⟩,((ai.rfl_.next E5).grew hg7 (fun k hk=>(fe ho5 k hk).1))⟩))))))))))
def zo (L:List Int) (v:Value):Prop:=(Fit L∧v=.tuple #[.int .i64 (med L),.int .i64 0])∨(¬ Fit L∧v=.tuple #[.int .i64 0,.int .i64 1])
theorem wz (A:Option Addr) (c:Nat) (L:List Int) (w:World) (hr:eu iV w A L) :
 Rt prog 115 [.slice A L.length c] w (fun v w'=>zo L v∧ai w w'):=by
 refine enter (n:=28) Tryz.func115 rfl rfl rfl (ak (ag (asi rfl (asi rfl (aj (af (ak (ak (ag (mvs rfl (ab (bW cB rfl) (ab (b_ rfl rfl) (mvb rfl ?_)))))))))))));refine zt (t:=8) rfl (fun Q1=>?_) (fun Q1=>?_)
 ·refine ao rfl rfl (ao rfl rfl (ao rfl rfl (ab (aJ (v:=.bool _) rfl rfl) (mvb rfl (ao rfl rfl (ao rfl rfl (ao rfl rfl (ab (aJ (v:=.bool _) rfl rfl) ?_))))))));refine aj (af (aL rfl (ak (ag (asi rfl (asi rfl (aj (af (aC (az (mz (v:=.int _ _) (v':=.int _ _) rfl rfl rfl (⟨.inr ⟨fun hf=>?_,rfl⟩,ai.rfl_⟩))))))))))));obtain ⟨f1,f2,f3⟩:=hf
  first
   |omega
   |(have:=f3 _ hm15;omega)
 refine ae rfl (mvs rfl (ae rfl (ab (bW cB rfl) (ae rfl (ab (bS rfl rfl) (ab (aw (v:=.bool _) rfl rfl) (mvb rfl (zt (t:=13) rfl (fun Q2=>?_) (fun Q2=>?_)))))))))
 ·refine ao rfl rfl (ao rfl rfl (ao rfl rfl (ab (aJ (v:=.bool _) rfl rfl) (aj (af (aL rfl (ak (ag (asi rfl (asi rfl ?_))))))))));refine aj (af (aC (az (mz (v:=.int _ _) (v':=.int _ _) rfl rfl rfl (⟨.inr ⟨fun hf=>?_,rfl⟩,ai.rfl_⟩)))));obtain ⟨f1,f2,f3⟩:=hf
  first
   |omega
   |(have:=f3 _ hm15;omega)
 refine ae rfl (mvs rfl (ae rfl (aB sq (y6 A c L _ (hr.from_ ai.rfl_) (by omega) (by omega)) ?_)));rintro v15 w3 ⟨⟨m15,rfl,hm15,hle15⟩,rfl⟩;refine ae rfl (ab (b_ rfl rfl) (ab (aw (v:=.bool _) rfl rfl) (aj (af (Ab rfl (fun Q4=>?_) (fun Q4=>?_))))))
 ·refine ak (ag (asi rfl (asi rfl (aj (af (aC (az (mz (v:=.int _ _) (v':=.int _ _) rfl rfl rfl (⟨.inr ⟨fun hf=>?_,rfl⟩,ai.rfl_⟩)))))))));obtain ⟨f1,f2,f3⟩:=hf
  first
   |omega
   |(have:=f3 _ hm15;omega)
 refine aM (af (ak (ag (mvs rfl ?_))));have hfit:Fit L:=⟨by omega,by omega,fun x hx=>by have:=hle15 x hx;omega⟩;obtain ⟨ba,oa,rfl,hca⟩:=hr (by omega);refine aB sm (ui _ L.length c _) ?_;rintro v19 w5 ⟨⟨Bs,rfl,hs19,hl19⟩,E19⟩;refine aB so (ur Bs ba oa c L _ (by omega) (by have:=World.block_lt_of_cell? _ _ (hca 0 (by omega));have:=E19.size;exact Nat.lt_of_lt_of_le ‹_› ‹_›) hl19 hs19 (fun j h=>fq (ai.rfl_.next E19) (hca j h)) (by omega)) ?_;rintro v20 w6 ⟨⟨A20,c20,rfl,ho20⟩,E20⟩;obtain ⟨g20,rfl⟩:=fK ho20 (by omega);refine ass rfl (aj (af (ak (ag (mvs rfl (mvs rfl (ab (bW cB rfl) (ab (xK (b:=1) rfl rfl (by omega)) (ab (xL (b:=2) rfl rfl (by omega)) (ab (ew db rfl rfl (by omega)) ?_))))))))));refine ab (aq an rfl (by have h27:=jN (l:=srt L) ho20 ((L.length-1)/2) (by rw [qa];omega);exact h27)) ?_;refine asi rfl (asi rfl (aj (af (aC (mz (v:=.int _ _) (v':=.int _ _) rfl rfl rfl ?_)))));obtain ⟨h2,e⟩:=wi hfit.1;exact ⟨.inl ⟨hfit,by rw [e]⟩,((ai.rfl_.next E19).next E20)⟩
theorem tA:ki prog 166=some (.agg #[.bool false,.bool false,.bool false,.bool false,.bool false,.bool false,.bool false,.bool false]):=by kernel_rfl
theorem oX:yv prog 166=some (8,1):=by kernel_rfl
theorem fm:jn prog 4=some false:=by kernel_rfl
theorem jl:eg prog 4=some 1:=by kernel_rfl
theorem yG {α:Type} {a b:List α} {k:Nat} (hl:a.length=b.length) (hk:¬ k<a.length) (h:a.take k=b.take k):a=b:=by
 rw [List.take_of_length_le (by omega),List.take_of_length_le (by omega)] at h;exact h
theorem tF {α:Type} {a b:List α} {k:Nat} (ha:k<a.length) (hb:k<b.length) (h:a.take k=b.take k) (he:a[k]=b[k]):a.take (k+1)=b.take (k+1):=by
 rw [List.take_succ_eq_append_getElem ha,List.take_succ_eq_append_getElem hb,h,he]
theorem ze (n:Nat):cv [] n=0:=by
 unfold cv;rw [List.countP_eq_zero];simp
def okV (n:Int) (L:List Int):Bool:=decide (1≤n∧n≤7)&&decide (n<2*(cv L n.toNat:Nat))
def eV (n:Int):Int:=if 1≤n∧n≤7 then 0 else 1
theorem y3 {N:Nat} (h:1≤(N:Int)∧(N:Int)≤7) (L:List Int):okV N L=decide ((N:Int)<2*(cv L N:Nat)):=by
 unfold okV;rw [decide_eq_true h,Bool.true_and,Int.toNat_natCast]
theorem tO {n:Int} (h:¬ (1≤n∧n≤7)) (L:List Int):okV n L=false:=by
 unfold okV;rw [decide_eq_false h,Bool.false_and]
theorem zV {n:Int} (h:1≤n∧n≤7):eV n=0:=if_pos h
theorem wL {n:Int} (h:¬ (1≤n∧n≤7)):eV n=1:=if_neg h
theorem zx {a b:Bool} {x:Value} (h:a=b):Value.tuple #[.bool a,x]=.tuple #[.bool b,x]:=by rw [h]
theorem uY (A:Option Addr) (c:Nat) (n:Int) (L:List Int) (w:World) (hr:eu iV w A L) (hl:L.length≤1000000) :
 Rt prog 123 [.int .i64 n,.slice A L.length c] w (fun v w'=>v=.tuple #[.bool (okV n L),.int .i64 (eV n)]∧ai w w'):=by
 refine enter (n:=43) Tryz.func123 rfl rfl rfl (ak (ag (asb rfl (asi rfl (aj (af (ak (ak (ag (mvi rfl (ab (b_ rfl rfl) (mvb rfl (zt (t:=12) rfl (fun Q1=>?_) (fun Q1=>?_))))))))))))))
 ·refine ao rfl rfl (ao rfl rfl (ab (aJ (v:=.bool _) rfl rfl) (aj (af (aL rfl (ak (ag (asb rfl (asi rfl (aj (af (aC (az ?_)))))))))))));refine mz (v:=.bool _) (v':=.int _ _) rfl rfl rfl (⟨?_,ai.rfl_⟩);rw [tO (by omega),wL (by omega)]
 refine ae rfl (mvi rfl (ae rfl (ab (bS rfl rfl) (ab (aw (v:=.bool _) rfl rfl) (aj (af (Ab rfl (fun Q2=>?_) (fun Q2=>?_))))))))
 ·refine ak (ag (asb rfl (asi rfl (aj (af (aC (az (mz (v:=.bool _) (v':=.int _ _) rfl rfl rfl (⟨?_,ai.rfl_⟩)))))))));rw [tO (by omega),wL (by omega)]
 refine aM (af (ak (ag ?_)));obtain ⟨N,rfl⟩:∃ N:Nat,n=N:=⟨n.toNat,by omega⟩;have hB6:ai w w:=ai.rfl_;refine cf tA ?_;intro b6 w3 E6 hb6 hk6;have hg6:w.heap.size≤b6:=by have:=hB6.size;omega
 refine aj (af (ak (ag (asi rfl (aj (af (ak (ak (ag (mvs rfl (ab (bW cB rfl) (mvi rfl (aj (af (bg (dd (G:=Nat) [9,19,20,21,22,23,24,25,26,27,28,29,30,31,32,33,34,35,36,37,38] (fun k=>[(7,.int .i64 (cv (L.take k) N:Nat)),(18,.int .i64 (k:Nat))]) (fun k w'=>k≤L.length∧Blk w' b6 166 (lN (L.take k) N).toArray∧ai w w') (fun k=>L.length-k) (0) ⟨(bT (by rw [List.take_zero,ze];rfl)),rfl,trivial⟩ ?_ ?_))))))))))))))))
 ·exact ⟨Nat.zero_le _,by rw [List.take_zero,vg];exact hk6.from_ ai.rfl_,(ai.rfl_.next E6)⟩
 rintro k ρ4 w4 ⟨hk,hP,hB⟩;have hcl:=zW (L.take k) N;refine ak (ag (ab (b_ rfl rfl) (aj (af (ak (Ab rfl (fun Q5=>?_) (fun Q5=>?_)))))))
 ·obtain ⟨ba,oa,rfl,hca⟩:=hr (by omega);refine aM (af (ak (bg (ak (ag (ab (dh db rfl rfl (by omega)) (ab (aq an rfl (by exact fq hB (hca k (by omega)))) ?_)))))));refine asi rfl (aj (af (ak (ak (ag (mvi rfl (ab (b_ rfl rfl) (mvb rfl (zt (t:=24) rfl (fun Q6=>?_) (fun Q6=>?_))))))))))
  ·have hsk:¬ (1≤L[k]∧L[k]≤N)∨L[k]∈L.take k:=.inl (by omega);have hV:=hP;rw [←mh (by omega) hsk] at hV;have hC:=nJ (n:=N) (by omega) hsk;refine ao rfl rfl (ao rfl rfl (ao rfl rfl (ab (aJ (v:=.bool _) rfl rfl) (mvb rfl (ao rfl rfl (ao rfl rfl (ao rfl rfl (ab (aJ (v:=.bool _) rfl rfl) ?_))))))));refine aj (af (aL rfl (cI (bD (cr (af (ag (ab (dI (b:=1) rfl rfl (by omega)) (mvi rfl (aj ?_))))))))));refine cu (k+1) ⟨(by first | rfl | (refine bT ?_;omega)),(by first | rfl | (refine bT ?_;omega)),trivial⟩ (by (iterate 42 refine bI rfl ?_);exact bU) ⟨?_,?_⟩
   ·exact ⟨by omega,hV,hB⟩
   ·omega
  refine ae rfl (mvi rfl (ae rfl (mvi rfl (ae rfl (ab (bS rfl rfl) (ab (aw (v:=.bool _) rfl rfl) (mvb rfl (zt (t:=29) rfl (fun Q7=>?_) (fun Q7=>?_)))))))))
  ·have hsk:¬ (1≤L[k]∧L[k]≤N)∨L[k]∈L.take k:=.inl (by omega);have hV:=hP;rw [←mh (by omega) hsk] at hV;have hC:=nJ (n:=N) (by omega) hsk;refine ao rfl rfl (ao rfl rfl (ao rfl rfl (ab (aJ (v:=.bool _) rfl rfl) (aj (af (aL rfl (cI (bD (cr (af (ag (ab (dI (b:=1) rfl rfl (by omega)) ?_))))))))))));refine mvi rfl (aj ?_);refine cu (k+1) ⟨(by first | rfl | (refine bT ?_;omega)),(by first | rfl | (refine bT ?_;omega)),trivial⟩ (by (iterate 43 refine bI rfl ?_);exact bU) ⟨?_,?_⟩
   ·exact ⟨by omega,hV,hB⟩
   ·omega
  refine ae rfl (mvi rfl (ae rfl (ab (lu oX rfl rfl (by omega)) (ae rfl (ab (aq fm rfl (by exact hP.rd _ (qP _ N _ (by omega)))) ?_)))));refine ab (aw (v:=.bool _) rfl rfl) (aj (af (Ab rfl (fun Q8=>?_) (fun Q8=>?_))))
  ·have h9:=Q8;have hsk:¬ (1≤L[k]∧L[k]≤N)∨L[k]∈L.take k:=.inr (by have h8:=h9.2.2;rwa [Int.toNat_of_nonneg (by omega)] at h8);have hV:=hP;rw [←mh (by omega) hsk] at hV;have hC:=nJ (n:=N) (by omega) hsk;refine cI (bD (cr (af (ag (ab (dI (b:=1) rfl rfl (by omega)) (mvi rfl (aj ?_)))))));refine cu (k+1) ⟨(by first | rfl | (refine bT ?_;omega)),(by first | rfl | (refine bT ?_;omega)),trivial⟩ (by (iterate 43 refine bI rfl ?_);exact bU) ⟨?_,?_⟩
   ·exact ⟨by omega,hV,hB⟩
   ·omega
  have h9:=Q8;have hnew:L[k] ∉ L.take k:=fun hm=>h9 ⟨by omega,by omega,by rw [Int.toNat_of_nonneg (by omega)];exact hm⟩
  have hC:=wM (by omega) hnew N (by omega) (by omega);refine aM (af (ak (ag (mvi rfl (ab (lu oX rfl rfl (by omega)) (dD (v:=.bool _) jl rfl rfl rfl (hP) (by simp [lN];omega) ?_))))));intro w9 O9 P9;have hV:=P9;rw [vh (by omega) (by omega) (by omega) (by omega)] at hV;refine aj (af (ag (mvi rfl (ab (dI (b:=1) rfl rfl (by omega)) (asi rfl (aj (bE (af (ag (ab (dI (b:=1) rfl rfl (by omega)) (mvi rfl (aj ?_))))))))))));refine cu (k+1) ⟨(by first | rfl | (refine bT ?_;omega)),(by first | rfl | (refine bT ?_;omega)),trivial⟩ (by (iterate 48 refine bI rfl ?_);exact bU) ⟨?_,?_⟩
  ·exact ⟨by omega,hV,(hB.only O9 (hg6))⟩
  ·omega
 refine cI (bD (bD (cr (af (ak (ag (mvi rfl (ab (xM (a:=2) rfl rfl (by omega)) (mvi rfl (ab (bS rfl rfl) (asb rfl (asi rfl (aj (af (aC ?_)))))))))))))));refine mz (v:=.bool _) (v':=.int _ _) rfl rfl rfl ?_;obtain rfl:k=L.length:=by omega
 refine ⟨?_,hB⟩;rw [y3 (by omega),zV (by omega),List.take_length];exact zx (decide_eq_decide.2 (by omega))
theorem aE:cP prog 91 0=some 0:=by kernel_rfl
theorem bq:cP prog 29 6=some 6:=by kernel_rfl
theorem mb:aR prog 152=true:=by kernel_rfl
theorem qC:aR prog 121=true:=by kernel_rfl
theorem gK:aR prog 111=true:=by kernel_rfl
theorem ec:cP prog 24 2=some 2:=by kernel_rfl
theorem cY:jn prog 22=some false:=by kernel_rfl
theorem bX:cP prog 29 1=some 1:=by kernel_rfl
theorem qB:aR prog 123=true:=by kernel_rfl
theorem gL:cP prog 29 11=some 13:=by kernel_rfl
theorem kS:jn prog 25=some false:=by kernel_rfl
theorem r6:aR prog 94=true:=by kernel_rfl
theorem r5:eg prog 25=some 1:=by kernel_rfl
theorem eY:cP prog 29 10=some 12:=by kernel_rfl
theorem aS:eg prog 3=some 1:=by kernel_rfl
theorem c_:cP prog 29 9=some 11:=by kernel_rfl
theorem cM:cP prog 29 0=some 0:=by kernel_rfl
theorem yp (s:Int) (w:World):Rt prog 94 [.int .u64 s,.int .i64 10] w fun v w'=>v=.tuple #[.int .u64 (nx s),.int .i64 (bl s 10)]∧ai w w':=Rt.of (below s 10 w (by decide))
theorem yf (A:Option Addr) (c:Nat) (n:Int) (L:List Int) (w:World) (hr:eu iV w A L) (hl:L.length≤1000000) (hn:1≤n∧n≤7):Rt prog 123 [.int .i64 n,.slice A L.length c] w fun v w'=>v=.tuple #[.bool (ft n L),.int .i64 0]∧ai w w':=
 (uY A c n L w hr hl).mono fun v w' h=>⟨by
  rw [h.1];unfold okV eV ft;rw [if_pos hn,decide_eq_true hn,Bool.true_and,show decide (n<2*((cv L n.toNat:Nat):Int))=decide (n.toNat<2*cv L n.toNat) from decide_eq_decide.2 (by omega)],h.2⟩
theorem tN (id:Int) (k:Nat):(jO id k).length≤k:=by
 unfold jO;refine Nat.le_trans (List.length_filter_le _ _) ?_;simp
theorem vQ {id:Int} {k:Nat} (h:((k:Int)+1)≠id):jO id (k+1)=jO id k++[(k:Int)+1]:=by
 rw [pG,if_neg (by omega)];rfl
theorem xS {id:Int} {k:Nat} (h:((k:Int)+1)=id):jO id (k+1)=jO id k:=by rw [pG,if_pos (by omega)]
theorem kF (T g:Nat) (s:Rf) (a:Ra) (R:List Value) (w:World) (hb:Blk w g T (rfV s a++R).toArray) (he:cF w (.slice a.E s.es.length a.Ec) s.es) (hm:cD s.b s.t s.es=true) :
 Rt prog 111 [.pointer (some ⟨g,0,none⟩)] w (fun v w'=>v=.tuple #[.int .i64 (bH s),.int .i64 (dp s.t s.es)]∧ai w w'):=by
 refine enter (n:=16) Tryz.func111 rfl rfl rfl (ak (ag (asi rfl (asi rfl (aj (af (ak (ag (mvp rfl (ab (ay rfl) (ab (aa aE rfl) (ab (aa bq rfl) ?_))))))))))));refine ab (aG (cs:=[.int .i64 s.b,.int .i64 s.t,.slice a.E s.es.length a.Ec]) bB bd rfl (fB (hb.from_ ai.rfl_))) (aB mb (x6 s.b s.t a.E s.es.length a.Ec s.es _ (he.from_ ai.rfl_) hm) ?_);rintro v10 w1 ⟨rfl,E10⟩;refine mvt rfl (ab (aY rfl rfl) (ab (aY rfl rfl) (ab (aY rfl rfl) (asi rfl (asi rfl (aj (af (ak (ag (mvi rfl (mvi rfl ?_)))))))))));refine asi rfl (asi rfl (aj (af (aC (mz (v:=.int _ _) (v':=.int _ _) rfl rfl rfl (⟨rfl,(ai.rfl_.next E10)⟩))))))
theorem qS (T g:Nat) (s:Rf) (a:Ra) (R:List Value) (w:World) (hb:Blk w g T (rfV s a++R).toArray) (he:cF w (.slice a.E s.es.length a.Ec) s.es) (hm:cD s.b s.t s.es=true) (i:Int) (hi:s.b≤i∧i≤bH s) :
 Rt prog 83 [.pointer (some ⟨g,0,none⟩),.int .i64 i] w (fun v w'=>v=.int .i64 (er s.b s.t s.es i)∧ai w w'):=by
 refine enter (n:=18) Tryz.func83 rfl rfl rfl (ak (ag (asi rfl (aj (af (ak (ag (mvp rfl (ab (ay rfl) (ab (aa aE rfl) (ab (aa bq rfl) (ab (aG (cs:=[.int .i64 s.b,.int .i64 s.t,.slice a.E s.es.length a.Ec]) bB bd rfl (fB (hb.from_ ai.rfl_))) ?_))))))))))));refine mvi rfl (aB qC (xD s.b s.t i a.E s.es.length a.Ec s.es _ (he.from_ ai.rfl_) hm hi) ?_);rintro v14 w1 ⟨rfl,E14⟩;refine mvt rfl (ab (aY rfl rfl) (ab (aY rfl rfl) (asi rfl (asi rfl (aj (af (ak (ag (mvi rfl (asi rfl (aj (af (aC ?_)))))))))))));refine bo (v:=.int _ _) rfl rfl (⟨rfl,(ai.rfl_.next E14)⟩)
theorem x_ (T g:Nat) (s:Rf) (a:Ra) (R:List Value) (w:World) (hb:Blk w g T (rfV s a++R).toArray) (he:cF w (.slice a.E s.es.length a.Ec) s.es) (hm:cD s.b s.t s.es=true) :
 Rt prog 75 [.pointer (some ⟨g,0,none⟩)] w (fun v w'=>v=.bool (il s)∧ai w w'):=by
 refine enter (n:=22) Tryz.func75 rfl rfl rfl (ak (ag (asb rfl (aj (af (ak (ag (mvp rfl (aB gK (kF T g s a R _ (hb.from_ ai.rfl_) (he.from_ ai.rfl_) hm) ?_)))))))));rintro v7 w1 ⟨rfl,E7⟩;refine mvt rfl (ab (aY rfl rfl) (ab (aY rfl rfl) (asi rfl (asi rfl (aj (af (ak (ag (mvp rfl (ab (ay rfl) (ab (aa aE rfl) ?_)))))))))));refine ab (aa bq rfl) (ab (aa ec rfl) (ab (aq cY rfl (by exact dO (hb.from_ (ai.rfl_.next E7)) 8 rfl)) ?_));refine ab (bW cC rfl) (ab (bj rfl rfl) (mvb rfl (zr (t:=18) rfl (fun Q2=>?_) (fun Q2=>?_))))
 ·refine ao rfl rfl (ao rfl rfl (ab (aJ (v:=.bool _) rfl rfl) (asb rfl (aj (af (aC (bo (v:=.bool _) rfl rfl (⟨congrArg Value.bool ?_,(ai.rfl_.next E7)⟩))))))));unfold il
  first
   |(rw [Bool.eq_iff_iff];simp only [Bool.or_eq_true,decide_eq_true_eq];omega)
   |(rw [eq_comm,Bool.or_eq_true];left;rw [decide_eq_true_eq];omega)
 refine ae rfl (mvi rfl (ae rfl (ab (bj rfl rfl) (ab (aw (v:=.bool _) rfl rfl) (asb rfl (aj (af (aC (bo (v:=.bool _) rfl rfl (⟨congrArg Value.bool ?_,(ai.rfl_.next E7)⟩))))))))));unfold il
 first
  |(rw [Bool.eq_iff_iff];simp only [Bool.or_eq_true,decide_eq_true_eq,beq_iff_eq];omega)
  |(rw [eq_comm,Bool.or_eq_true];left;rw [decide_eq_true_eq];omega)
theorem sT (T g:Nat) (s:Rf) (a:Ra) (R:List Value) (w:World) (hb:Blk w g T (rfV s a++R).toArray) (A:Option Addr) (c:Nat) (l:List Int) (hr:eu iV w A l) (hl:l.length≤1000000) (hn:1≤s.nodes∧s.nodes≤7) :
 Rt prog 86 [.pointer (some ⟨g,0,none⟩),.slice A l.length c] w (fun v w'=>v=.bool (ft s.nodes l)∧ai w w'):=by
 refine enter (n:=22) Tryz.func86 rfl rfl rfl (ak (ag (asb rfl (aj (af (ak (ag (mvp rfl (ab (ay rfl) (ab (aa aE rfl) (ab (aa bX rfl) (ab (aq an rfl (by exact dO (hb.from_ ai.rfl_) 1 rfl)) ?_))))))))))));refine mvs rfl (aB qB (yf A c s.nodes l _ (hr.from_ ai.rfl_) hl hn) ?_);rintro v14 w1 ⟨rfl,E14⟩;refine mvt rfl (ab (aY rfl rfl) (ab (aY rfl rfl) (asb rfl (asi rfl (aj (af (ak (ag (mvb rfl (mvb rfl (zt (t:=18) rfl (fun Q2=>?_) (fun Q2=>?_))))))))))))
 ·refine ae rfl (mvi rfl (ae rfl (ab (cQ (bj rfl rfl) rfl) (ab (aJ (v:=.bool _) rfl rfl) (asb rfl (aj (af (aC (bo (v:=.bool _) rfl rfl (⟨congrArg Value.bool ?_,(ai.rfl_.next E14)⟩))))))))));unfold ft
  first
   |exact (decide_eq_true (by omega)).symm
   |exact (decide_eq_false (by omega)).symm
 refine ao rfl rfl (ao rfl rfl (ab (aw (v:=.bool _) rfl rfl) (asb rfl (aj (af (aC (bo (v:=.bool _) rfl rfl (⟨congrArg Value.bool ?_,(ai.rfl_.next E14)⟩))))))));unfold ft
 first
  |exact (decide_eq_true (by omega)).symm
  |exact (decide_eq_false (by omega)).symm
theorem qo (T g:Nat) (s:Rf) (a:Ra) (R:List Value) (w:World) (hb:Blk w g T (rfV s a++R).toArray) :
 Rt prog 54 [.pointer (some ⟨g,0,none⟩)] w (fun v w'=>v=.tuple #[]∧Blk w' g T (rfV (iy s) a++R).toArray∧Chg (fun k=>k=g) w w'):=by
 have hbl:=s5 s.seed;refine enter (n:=28) Tryz.func54 rfl rfl rfl (ak (ag (mvp rfl (ab (ay rfl) (ab (aa aE rfl) (ab (aa gL rfl) (ab (aq kS rfl (by exact dO (hb.from_ ai.rfl_) 13 rfl)) ?_)))))));refine aB r6 (yp s.seed _) ?_;rintro v10 w1 ⟨rfl,E10⟩;refine mvt rfl (ab (aY rfl rfl) (ab (aY rfl rfl) (asi rfl (asi rfl (aj (af (ag (mvp rfl (mvp rfl (mvp rfl ?_))))))))));refine mvi rfl (mvi rfl (ab (cq rfl rfl (by omega)) (ab (ay rfl) (ab (aa aE rfl) (ab (aa gL rfl) (cW (s':={ s with seed:=nx s.seed }) (a':=a) (v:=.int _ _) r5 rfl rfl rfl ((hb.from_ (ai.rfl_.next E10))) (by exact ⟨by decide,rfl⟩) ?_))))));intro w2 O1a P1a;have hC1:Chg (fun k=>k=g) w w2:=(ai.toChg E10).only O1a rfl;refine ab (ay rfl) (ab (aa aE rfl) (ab (aa eY rfl) (cW (s':={ s with seed:=nx s.seed,timeout:=10+bl s.seed 10 }) (a':=a) (v:=.int _ _) aS rfl rfl rfl (P1a) (by exact ⟨by decide,rfl⟩) ?_)));intro w3 O1b P1b;replace hC1:=hC1.only O1b rfl;refine ab (ay rfl) (ab (aa aE rfl) (ab (aa c_ rfl) (cW (s':=iy s) (a':=a) (v:=.int _ _) aS rfl rfl rfl (P1b) (by exact ⟨by decide,rfl⟩) ?_)));intro w4 O1c P1c;replace hC1:=hC1.only O1c rfl;refine aj (cR (ey rfl (⟨rfl,P1c,hC1⟩)))
theorem pF (T g:Nat) (s:Rf) (a:Ra) (R:List Value) (w:World) (hb:Blk w g T (rfV s a++R).toArray) (hn:0≤s.nodes∧s.nodes≤1000000) :
 Rt prog 77 [.pointer (some ⟨g,0,none⟩)] w (fun v w'=>(∃ A c,v=.slice A (dM s).length c∧w'.ownsRow w.heap.size 3 1 (.slice A (dM s).length c) (dM s).length ((dM s).map iV))∧ai w w'):=by
 refine enter (n:=26) Tryz.func77 rfl rfl rfl (ak (ag (ass rfl (aj (af (ak (ag (ass rfl (aj (af (ak (ak (ag (asi rfl (aj (af (bg (dd (G:=Nat×Option Addr×Nat) [5,6,7,8,9,10,11,12,13,14,15,16,17,18,19,20,21,22,23,24] (fun (k,A3,c3)=>[(3,.slice A3 (jO s.id k).length c3),(4,.int .i64 ((k:Int)+1))]) (fun (k,A3,c3) w'=>(k:Int)≤s.nodes∧w'.ownsRow w.heap.size 3 1 (.slice A3 (jO s.id k).length c3) (jO s.id k).length ((jO s.id k).map iV)∧ai w w') (fun (k,_,_)=>s.nodes.toNat-k) ((0,none,0)) ⟨rfl,rfl,trivial⟩ ?_ ?_))))))))))))))))))
 ·exact ⟨by omega,World.ownsRow_nil _ _ _ _,ai.rfl_⟩
 rintro ⟨k,A3,c3⟩ ρ1 w1 ⟨hk,ho3,hB⟩;refine ak (ak (ag (mvi rfl (mvp rfl (ab (ay rfl) (ab (aa aE rfl) (ab (aa bX rfl) (ab (aq an rfl (by exact dO (hb.from_ hB) 1 rfl)) ?_))))))));refine ab (gu rfl rfl) (aj (af (Ab rfl (fun Q2=>?_) (fun Q2=>?_))))
 ·have hle:=tN s.id k;refine aM (af (ak (bg (ak (ag (mvi rfl (mvp rfl (ab (ay rfl) (ab (aa aE rfl) (ab (aa cM rfl) (ab (aq an rfl (by exact dO (hb.from_ hB) 0 rfl)) ?_)))))))))));refine ab (dG rfl rfl) (aj (af (aU rfl (fun Q3=>?_) (fun Q3=>?_))))
  ·replace Q3:=dw Q3;replace Q3:=ee Q3;have hoy:=vQ (id:=s.id) (k:=k) (by omega);have hol:(jO s.id (k+1)).length=(jO s.id k).length+1:=by rw [hoy,List.length_append];rfl
   refine ag (mvs rfl (mvi rfl (fb (v:=.int _ _) ct rfl rfl rfl ?_)));intro b23 w4 E23 hb23 hk23;refine qY (a0:=w) ct rfl rfl (ho3.kept_from E23) (hB.next E23) rfl hk23 rfl (by omega) (by omega) ?_;intro A24 c24 w5 ho24 B24 hg24;refine ass rfl (aj (bE (af (ag (mvi rfl (ab (cq rfl rfl (by omega)) (asi rfl (aj ?_))))))));refine cu ((k+1,A24,c24)) ⟨by first | exact congrArg (fun q=>Value.slice A24 q c24) hol.symm | exact (congrArg (fun q=>Value.slice A24 q c24) hol).symm,bT (by omega),trivial⟩ (by (iterate 44 refine bI rfl ?_);exact bU) ⟨?_,?_⟩
   ·exact ⟨by omega,by first | (rw [hoy,List.map_append,List.length_append];exact ho24) | (rw [hoy];exact ho24),B24⟩
   ·show s.nodes.toNat-(k+1)<s.nodes.toNat-k;omega
  replace Q3:=dy Q3;replace Q3:=ed Q3;obtain ⟨A24,rfl⟩:∃ x,x=A3:=⟨_,rfl⟩;obtain ⟨c24,rfl⟩:∃ x,x=c3:=⟨_,rfl⟩;have hoy:=xS (id:=s.id) (k:=k) (by omega);have hol:(jO s.id (k+1)).length=(jO s.id k).length:=by rw [hoy]
  have ho24:=ho3;refine aM (bE (af (ag (mvi rfl (ab (cq rfl rfl (by omega)) (asi rfl (aj ?_)))))));refine cu ((k+1,A24,c24)) ⟨by first | exact congrArg (fun q=>Value.slice A24 q c24) hol.symm | exact (congrArg (fun q=>Value.slice A24 q c24) hol).symm,bT (by omega),trivial⟩ (by (iterate 39 refine bI rfl ?_);exact bU) ⟨?_,?_⟩
  ·exact ⟨by omega,by first | (rw [hoy,List.map_append,List.length_append];exact ho24) | (rw [hoy];exact ho24),hB⟩
  ·show s.nodes.toNat-(k+1)<s.nodes.toNat-k;omega
 refine cI (bD (bD (cr (af (ak (ag (mvs rfl (ass rfl (aj (af (aC (bo (v:=.slice _ _ _) rfl rfl ?_))))))))))));have hkn:k=s.nodes.toNat:=by omega
 subst hkn;exact ⟨⟨A3,c3,rfl,ho3⟩,hB⟩
end Go.Proofs.YtkpooenofjdpmaaGreat
namespace Go.Proofs.YtkpooenofjdpmaaGreat
open Go.Proofs.Tryz (prog)
open Go.RowKit
def nV (B T:Int) (xs:List Ent) (i n:Int):Int:=if cD B T xs=true then (if B+1≤i∧i≤dP B xs+1 then (if n<0 then 1 else 0) else 3) else 1
def Af (w w':World) (ys:List Ent) (c:Int) (v:Value):Prop:=(c≠0→v=.slice none 0 0)∧(c=0→w'.ownsRow w.heap.size 99 3 v ys.length (eb ys))
def zz (A:Option Addr) (cap k:Nat):Option Addr:=if cap=k then A else Option.map (fun x=>x.add (k*3)) A
theorem uu (B T i n:Int) (v:Value) (xs:List Ent) (w:World) (h:cF w v xs) (hn9:n≤9223372036854775807) :
 Calls prog 114 #[.agg #[.int .i64 B,.int .i64 T,v],.int .i64 i,.int .i64 n] w fun e w'=>∃ L,e=.returned (.tuple #[L,.int .i64 (nV B T xs i n)])∧Af w w' ((xs.drop (i-B-1).toNat).take n.toNat) (nV B T xs i n) L∧ai w w':=by
 obtain ⟨f0,f1,f2,hbb,hwb⟩:=gi (w:=w) (B:=B) (T:=T) (v:=v) (t:=24);have hch:=fun w' (hw:ai w w')=>g_ B T v xs w' (h.from_ hw)
 have hlo:=fun w' (hw:ai w w')=>gZ B T v xs w' (h.from_ hw)
 have hwi:=iR;have HW:=Lib.hid hwi;unfold chk at hch;have HE:=Lib.hid h;have hdef:nV B T xs i n=nV B T xs i n:=rfl
 conv at hdef=>rhs;unfold nV
 obtain ⟨A,cap,rfl,hc1,hc2,hc3,hrow⟩:=h;clear hc3 hrow hwi;by_cases hm:cD B T xs=true
 ·rw [if_pos hm] at hch hdef;obtain ⟨hl,hB0,hB1,hx⟩:=pL hm;rw [hl] at hlo hdef;have HC:=Lib.hid hch;have HL:=Lib.hid hlo;clear hch hlo hm hl;by_cases hin:B+1≤i∧i≤B+xs.length+1
  ·rw [if_pos hin] at hdef;have hib:=ff hin;by_cases hneg:n<0
   ·rw [if_pos hneg] at hdef;rw [hdef];have e1:decide (n<0)=true:=decide_eq_true hneg;clear hdef hin hneg
    go_enter Tryz.func114,Tryz.ntmps114
    go_wp2_with (first
     |(go_at_call 116;(with_reducible refine (HC.out _ hwb).mono ?_);rintro e w1 ⟨rfl,hb1⟩;have hw1:=ai.next (a:=w) hwb hb1;have hbw1:=ai.next (a:=_) hbb hb1)
     |(go_at_call 117;(with_reducible refine (HL.out _ hw1).mono ?_);rintro e w2 ⟨rfl,hb3⟩;have hw2:=ai.next (a:=w) hw1 hb3;have hbw2:=ai.next (a:=_) hbw1 hb3)
     |(go_at_call 118;(with_reducible refine (HW.out _ _ _ _).mono ?_);rintro e w3 ⟨rfl,hb4⟩;have hw3:=ai.next (a:=w) hw2 hb4))
    go_ret2
    exact ⟨_,rfl,⟨fun _=>rfl,fun h=>absurd h (by decide)⟩,hw3⟩
   ·rw [if_neg hneg] at hdef;rw [hdef];obtain ⟨k,hk⟩:∃ k:Nat,i=B+k+1:=⟨(i-B-1).toNat,by omega⟩;obtain ⟨m,hmn⟩:∃ m:Nat,n=m:=⟨n.toNat,by omega⟩;subst hmn;have e1:decide ((m:Int)<0)=false:=decide_eq_false hneg;have hkn:(i-B-1).toNat=k:=by omega
    have hmt:(m:Int).toNat=m:=by omega
    rw [hkn,hmt];have hkl:k≤xs.length:=by omega
    have hrest:=HE.out.rest hkl;have hdl:(xs.drop k).length=xs.length-k:=List.length_drop;obtain ⟨q,hq⟩:∃ q:Nat,q=min m (xs.length-k):=⟨_,rfl⟩;have hql:q≤xs.length-k:=by omega
    have hcut:=hrest.cut (k:=q) (by omega)
    have htk:(xs.drop k).take m=(xs.drop k).take q:=by
     rw [hq];by_cases hle:m≤xs.length-k
     ·rw [Nat.min_eq_left hle]
     ·rw [Nat.min_eq_right (by omega),List.take_of_length_le (by omega),List.take_of_length_le (by omega)]
    rw [htk];have hcl:=fun w' (hw:ai w w')=>pU _ _ w' (hcut.from_ hw) (by rw [List.length_take];omega)
    have HCL:=Lib.hid hcl;have hra:(if cap=k then A else Option.map (fun x=>x.add (k*3)) A)=zz A cap k:=rfl;rw [hra] at HCL;have j0:i-B-1=(k:Int):=by omega
    have j1:(0:Int)≤(k:Int):=by omega
    have j2:(k:Int)≤(xs.length:Int):=by omega
    have j3:(k:Int)≤(cap:Int):=by omega
    have q1:(0:Int)≤(q:Int):=by omega
    have q2:(q:Int)≤((xs.length-k:Nat):Int):=by omega
    have q3:(q:Int)≤((cap-k:Nat):Int):=by omega
    have hHQ:=Lib.hid hq;have HI:=Lib.hid hin;have hii:B+1≤i∧i≤B+600:=by omega
    clear hdef hkn hmt hrest hcut htk hcl hin hneg hq;by_cases hle:m≤xs.length-k
    ·have hqm:q=m:=by have:=hHQ.out;omega
     subst hqm;have e5:min (q:Int) ((xs.length-k:Nat):Int)=(q:Int):=by omega
     have e6:(q:Int)≤((xs.length-k:Nat):Int):=by omega
     clear hk
     go_enter Tryz.func114,Tryz.ntmps114
     go_wp2_with (first
      |(go_at_call 116;(with_reducible refine (HC.out _ hwb).mono ?_);rintro e w1 ⟨rfl,hb1⟩;have hw1:=ai.next (a:=w) hwb hb1;have hbw1:=ai.next (a:=_) hbb hb1)
      |(go_at_call 117;(with_reducible refine (HL.out _ hw1).mono ?_);rintro e w2 ⟨rfl,hb3⟩;have hw2:=ai.next (a:=w) hw1 hb3;have hbw2:=ai.next (a:=_) hbw1 hb3)
      |(go_at_call 118;(with_reducible refine (HW.out _ _ _ _).mono ?_);rintro e w3 ⟨rfl,hb4⟩;have hw3:=ai.next (a:=w) hw2 hb4;have hbw3:=ai.next (a:=_) hbw2 hb4)
      |(go_at_call 120;(with_reducible refine (HCL.out _ hw3).mono ?_);rintro e w4 ⟨v4,rfl,hown4,hb5⟩;have hw4:=ai.next (a:=w) hw3 hb5;have HO:=Lib.hid (And.intro hown4 hw3.size);clear hown4))
     go_ret2
     exact ⟨_,rfl,⟨fun h=>absurd rfl h,fun _=>fD HO.out.1 HO.out.2⟩,hw4⟩
    ·have hqm:q=xs.length-k:=by have:=hHQ.out;omega
     subst hqm;have e5:min (m:Int) ((xs.length-k:Nat):Int)=((xs.length-k:Nat):Int):=by omega
     have e6:¬ (m:Int)≤((xs.length-k:Nat):Int):=by omega
     clear hk
     go_enter Tryz.func114,Tryz.ntmps114
     go_wp2_with (first
      |(go_at_call 116;(with_reducible refine (HC.out _ hwb).mono ?_);rintro e w1 ⟨rfl,hb1⟩;have hw1:=ai.next (a:=w) hwb hb1;have hbw1:=ai.next (a:=_) hbb hb1)
      |(go_at_call 117;(with_reducible refine (HL.out _ hw1).mono ?_);rintro e w2 ⟨rfl,hb3⟩;have hw2:=ai.next (a:=w) hw1 hb3;have hbw2:=ai.next (a:=_) hbw1 hb3)
      |(go_at_call 118;(with_reducible refine (HW.out _ _ _ _).mono ?_);rintro e w3 ⟨rfl,hb4⟩;have hw3:=ai.next (a:=w) hw2 hb4;have hbw3:=ai.next (a:=_) hbw2 hb4)
      |(go_at_call 120;(with_reducible refine (HCL.out _ hw3).mono ?_);rintro e w4 ⟨v4,rfl,hown4,hb5⟩;have hw4:=ai.next (a:=w) hw3 hb5;have HO:=Lib.hid (And.intro hown4 hw3.size);clear hown4))
     go_ret2
     exact ⟨_,rfl,⟨fun h=>absurd rfl h,fun _=>fD HO.out.1 HO.out.2⟩,hw4⟩
  ·rw [if_neg hin] at hdef;rw [hdef];have hib:=ql hin;clear hdef hin
   go_enter Tryz.func114,Tryz.ntmps114
   go_wp2_with (first
    |(go_at_call 116;(with_reducible refine (HC.out _ hwb).mono ?_);rintro e w1 ⟨rfl,hb1⟩;have hw1:=ai.next (a:=w) hwb hb1;have hbw1:=ai.next (a:=_) hbb hb1)
    |(go_at_call 117;(with_reducible refine (HL.out _ hw1).mono ?_);rintro e w2 ⟨rfl,hb3⟩;have hw2:=ai.next (a:=w) hw1 hb3;have hbw2:=ai.next (a:=_) hbw1 hb3)
    |(go_at_call 118;(with_reducible refine (HW.out _ _ _ _).mono ?_);rintro e w3 ⟨rfl,hb4⟩;have hw3:=ai.next (a:=w) hw2 hb4))
   go_ret2
   exact ⟨_,rfl,⟨fun _=>rfl,fun h=>absurd h (by decide)⟩,hw3⟩
 ·rw [if_neg hm] at hch hdef;rw [hdef];have HC:=Lib.hid hch;clear hch hlo hm hdef
  go_enter Tryz.func114,Tryz.ntmps114
  go_wp2_with (first
   |(go_at_call 116;(with_reducible refine (HC.out _ hwb).mono ?_);rintro e w1 ⟨rfl,hb1⟩;have hw1:=ai.next (a:=w) hwb hb1))
  go_ret2
  exact ⟨_,rfl,⟨fun _=>rfl,fun h=>absurd h (by decide)⟩,hw1⟩
def sU (l:List Oper):Bool:=(List.range l.length).all fun i=>match l[i]? with
 |none=>false
 |some o=>o.after.toList.all fun e=> !Region.binds .any e||decide (e.on<i)
section
variable {P:Program} {Q:Exit→Act→World→Prop} {n:Fr} {L:List (Nat×Value)} {w:World} {l:List Oper}
theorem wx {Inv:(Nat→Bool)→List (Nat×Value)→World→Prop} (hwf:sU l=true)
 (hstep:∀ (i:Nat) (o:Oper) (S:Nat→Bool) (L':List (Nat×Value)) (w':World),l[i]? =some o→Inv S L' w'→S i=false→(∀ e∈o.after,Region.binds .any e=true→S e.on=true)→Region.wanted o (yielded l.toArray (mkT n.n L'))=true∧gD P n o (Inv (dL S i)) L' w')
 (hend:∀ L' w',Inv (fun i=>decide (i<l.length)) L' w'→Q .normal (mkA n L') w') :
 ∀ (m:Nat) (listed:Array Bool) (L':List (Nat×Value)) (w':World),listed.toList.count false=m→listed.size=l.length→Inv (fun i=>listed.getD i false) L' w'→wpAny P .any l.toArray Q m listed (mkA n L') w':=by
 have hck:=List.all_eq_true.1 hwf;intro m
 induction m with
 |zero=>
  intro listed L' w' hcount hs hI
  have hall:∀ i,i<l.length→listed.getD i false=true:=fun i hi=>by
   have hm:listed[i]'(by omega)∈listed.toList:=by simp
   cases hb:listed[i]'(by omega) with
   |true=>simp [Array.getD,show i<listed.size by omega,hb]
   |false=>rw [hb] at hm;exact absurd hcount (Nat.pos_iff_ne_zero.1 (List.count_pos_iff.2 hm))
  have e:(fun i=>listed.getD i false)=fun i=>decide (i<l.length):=by
   funext i
   by_cases hi:i<l.length
   ·rw [hall i hi,decide_eq_true hi]
   ·rw [decide_eq_false hi];simp [Array.getD,show ¬ i<listed.size by omega]
  rw [e] at hI;refine ⟨?_,hend L' w' hI⟩;cases hr:Region.ready .any l.toArray listed with
  |nil=>rfl
  |cons i r=>
   exfalso;obtain ⟨h0,o,ho,_⟩:=mem_ready.1 (show i∈Region.ready .any l.toArray listed by rw [hr];simp);rw [List.getElem?_toArray] at ho;have hil:i<l.length:=(List.getElem?_eq_some_iff.1 ho).1;have:=hall i hil;rw [←cd (by omega),h0] at this;cases this
 |succ m ih=>
  intro listed L' w' hcount hs hI
  have hn0:∃ i,i<l.length∧listed.getD i true=false:=by
   have hpos:0<listed.toList.count false:=by omega
   obtain ⟨i,hi,hb⟩:=List.getElem_of_mem (List.count_pos_iff.1 hpos);rw [Array.length_toList] at hi;refine ⟨i,by omega,?_⟩;rw [Array.getElem_toList] at hb;simp [Array.getD,hi,hb]
  obtain ⟨i0,hi0,hmin⟩:=exists_least (p:=fun i=>i<l.length∧listed.getD i true=false) hn0
  have hready:i0∈Region.ready .any l.toArray listed:=by
   refine mem_ready.2 ⟨hi0.2,l[i0]'hi0.1,by rw [List.getElem?_toArray,List.getElem?_eq_getElem hi0.1],fun e he hb=>?_⟩;have hx:=hck i0 (List.mem_range.2 hi0.1);rw [List.getElem?_eq_getElem hi0.1] at hx;have he2:=List.all_eq_true.1 hx e (by simpa using he);rw [hb] at he2;simp at he2;have:=hi0.1;rw [←cd (by omega)];cases hb2:listed.getD e.on true with
   |true=>rfl
   |false=>exact absurd (hmin e.on ⟨by omega,hb2⟩) (by omega)
  refine ⟨fun h0=>(by rw [h0] at hready;cases hready),fun i hi=>?_⟩;obtain ⟨h0,o,ho,hall⟩:=mem_ready.1 hi;rw [List.getElem?_toArray] at ho;have hil:i<l.length:=(List.getElem?_eq_some_iff.1 ho).1;have hx:=hck i (List.mem_range.2 hil);rw [ho] at hx;have h0f:listed.getD i false=false:=by rw [←cd (by omega)];exact h0
  have hset:(fun j=>(listed.setIfInBounds i true).getD j false)=dL (fun j=>listed.getD j false) i:=by
   funext j
   unfold dL;by_cases e:j=i
   ·subst e;simp [Array.getD,show j<listed.size by omega]
   ·rw [if_neg e,getD_set_ne false (Ne.symm e)]
  have hcnt:(listed.setIfInBounds i true).toList.count false=m:=by
   have hil':i<listed.size:=by omega
   have hfalse:listed.toList[i]? =some false:=by
    rw [Array.getElem?_toList,Array.getElem?_eq_getElem hil'];simp [Array.getD,hil'] at h0;rw [h0]
   rw [Array.toList_setIfInBounds];have:=eW (l:=listed.toList) (i:=i) hfalse;omega
  have next:∀ L2 w2,Inv (dL (fun j=>listed.getD j false) i) L2 w2→wpAny P .any l.toArray Q m (listed.setIfInBounds i true) (mkA n L2) w2:=fun L2 w2 h=>
   ih _ L2 w2 hcnt (by simpa using hs) (by rw [hset];exact h)
  unfold wpOp;rw [List.getElem?_toArray,ho];show if Region.wanted o (yielded l.toArray (mkT n.n L'))=true then _ else _
  rw [if_pos (hstep i o _ L' w' ho hI h0f hall).1];refine .inl ?_;unfold Oper.wp;rw [dB];rcases (hstep i o _ L' w' ho hI h0f hall).2 with ⟨d,v,w'',hd,hr,hI2⟩ | ⟨w'',hd,hr,hI2⟩ | ⟨d,f,args,hd,hr,hc⟩
  ·rw [hr,Oper.upon_value,hd,fC];exact next _ _ hI2
  ·rw [hr,Oper.upon_skip,hd];exact next _ _ hI2
  ·rw [hr,Oper.upon_enter,hd];refine Calls.mono hc fun e w'' ⟨v,he,hI2⟩=>?_
   subst he;show wpAny P .any l.toArray Q m (listed.setIfInBounds i true) ((mkA n L').put (some d) v) w'';rw [fC];exact next _ _ hI2
theorem yl {id:Nat} (Inv:(Nat→Bool)→List (Nat×Value)→World→Prop) (hm:P.follows .mixedOrders=true) (hwf:sU l=true) (h0:Inv (fun _=>false) L { w with drawn:=w.drawn+1 })
 (hstep:∀ (i:Nat) (o:Oper) (S:Nat→Bool) (L':List (Nat×Value)) (w':World),l[i]? =some o→Inv S L' w'→S i=false→(∀ e∈o.after,Region.binds .any e=true→S e.on=true)→Region.wanted o (yielded l.toArray (mkT n.n L'))=true∧gD P n o (Inv (dL S i)) L' w')
 (hend:∀ L' w',Inv (fun i=>decide (i<l.length)) L' w'→Q .normal (mkA n L') w'):Cd P (.region id l.toArray true) Q n L w:=by
 refine ⟨wp_region_any hm ?_⟩
 have:=wx (Q:=Q) hwf hstep hend l.length (Array.replicate l.length false) L { w with drawn:=w.drawn+1 } (by simp) (by simp) (by
  have e:(fun i=>(Array.replicate l.length false).getD i false)=fun _=>false:=by
   funext i
   by_cases hi:i<l.length <;> simp [Array.getD,hi]
  rw [e];exact h0)
 simpa using this
def xA (o:Oper):Oper:={ o with guard:=none }
theorem uU (ρ:Operand→Value) (o:Oper):execOp ρ (xA o)=execOp ρ o:=by
 obtain ⟨dst,op,ty,pos,after,g⟩:=o;cases op <;> rfl
theorem um {o:Oper} {Inv:List (Nat×Value)→World→Prop} {L':List (Nat×Value)} {w':World} (h:gD P n (xA o) Inv L' w'):gD P n o Inv L' w':=by
 unfold gD at h ⊢;simp only [uU] at h;exact h
def gdB (n:Fr) (T:List (Nat×Nat×Value)) (l:List Oper) (o:Oper):Bool:=match o.guard with
 |none=>true
 |some (j,b)=>o.after.toList.any (fun e=>e.on==j&&Region.binds .any e)&&match T.find? fun p=>p.1==j with
  |some (_,t,.bool x)=>(x==b)&&(match j9 l j with | some t'=>t'==t&&Nat.blt t n.n | none=>false)
  |_=>false
end
end Go.Proofs.YtkpooenofjdpmaaGreat
namespace Go.Proofs.YtkpooenofjdpmaaGreat
open Go.Proofs.Tryz (prog)
open Go.RowKit
abbrev PT:=List (Nat×Nat×((Nat→Bool)→Value→World→Prop))
def kr (L:List (Nat×Value)) (T:PT) (S:Nat→Bool) (L':List (Nat×Value)) (w:World):Prop:=
 (∀ t,(∀ p∈T,p.2.1≠t)→bF L' t=bF L t)∧(∀ p∈T,S p.1=true→p.2.2 S (bF L' p.2.1) w)∧∀ p∈T,S p.1=false→bF L' p.2.1=bF L p.2.1
def mQ:List (Nat×Nat)→Prop
 |[]=>True
 |p::r=>(∀ q∈r,q.1≠p.1∧q.2≠p.2)∧mQ r
def uj:List (Nat×Nat)→Bool
 |[]=>true
 |p::r=>(r.all fun q=> !(Nat.beq q.1 p.1)&&!(Nat.beq q.2 p.2))&&uj r
theorem vV {a b:Nat}:Nat.beq a b=false↔a≠b:=by
 refine ⟨fun h e=>?_,fun h=>?_⟩
 ·subst e;rw [Nat.beq_refl] at h;cases h
 ·rcases hb:Nat.beq a b with _ | _
  ·rfl
  ·exact absurd (Nat.eq_of_beq_eq_true hb) h
theorem lO:∀ {l:List (Nat×Nat)},uj l=true→mQ l
 |[],_=>trivial
 |p::r,h=>by
  simp only [uj,Bool.and_eq_true,List.all_eq_true,Bool.not_eq_true',vV] at h;exact ⟨fun q hq=>h.1 q hq,lO h.2⟩
theorem nB:∀ {T:PT},mQ (T.map fun p=>(p.1,p.2.1))→∀ {p q:Nat×Nat×((Nat→Bool)→Value→World→Prop)},p∈T→q∈T→p.1=q.1∨p.2.1=q.2.1→p=q
 |_::_,⟨h1,h2⟩,p,q,hp,hq,he=>by
  rcases List.mem_cons.1 hp with rfl | hp' <;> rcases List.mem_cons.1 hq with rfl | hq'
  ·rfl
  ·rcases he with e | e
   ·exact absurd e.symm (h1 _ (List.mem_map_of_mem (f:=fun p=>(p.1,p.2.1)) hq')).1
   ·exact absurd e.symm (h1 _ (List.mem_map_of_mem (f:=fun p=>(p.1,p.2.1)) hq')).2
  ·rcases he with e | e
   ·exact absurd e (h1 _ (List.mem_map_of_mem (f:=fun p=>(p.1,p.2.1)) hp')).1
   ·exact absurd e (h1 _ (List.mem_map_of_mem (f:=fun p=>(p.1,p.2.1)) hp')).2
  ·exact nB h2 hp' hq' he
theorem kr.get {L:List (Nat×Value)} {T:PT} {S:Nat→Bool} {L':List (Nat×Value)} {w:World} {i d:Nat} {R:(Nat→Bool)→Value→World→Prop} (h:kr L T S L' w) (hp:(i,d,R)∈T) (hs:S i=true):∃ v,bF L' d=v∧R S v w:=⟨_,rfl,h.2.1 _ hp hs⟩
theorem o3 {S:Nat→Bool} {i k:Nat} (h:dL S i k=false):S k=false:=by
 unfold dL at h;split at h
 ·cases h
 ·exact h
theorem o1 {S:Nat→Bool} {i k:Nat} (hk:k≠i) (h:dL S i k=true):S k=true:=by
 unfold dL at h
 rwa [if_neg hk] at h
theorem ny (S:Nat→Bool) (i:Nat):dL S i i=true:=by unfold dL;rw [if_pos rfl]
theorem fA {S:Nat→Bool} {i k:Nat} (hk:k≠i):dL S i k=S k:=by unfold dL;rw [if_neg hk]
def mf (Mu:List Nat):PT→Prop
 |[]=>True
 |p::r=>(∀ S i v w1 w2,Mu.elem i=false→ai w1 w2→p.2.2 S v w1→p.2.2 (dL S i) v w2)∧mf Mu r
def ChP (i:Nat) (S:Nat→Bool) (w1 w2:World):PT→Prop
 |[]=>True
 |p::r=>(Nat.beq p.1 i=false→S p.1=true→∀ v,p.2.2 S v w1→p.2.2 (dL S i) v w2)∧ChP i S w1 w2 r
theorem rA {Mu:List Nat}:∀ {T:PT},mf Mu T→∀ p∈T,∀ S i v w1 w2,Mu.elem i=false→ai w1 w2→p.2.2 S v w1→p.2.2 (dL S i) v w2
 |_::_,⟨h1,h2⟩,p,hp=>by
  rcases List.mem_cons.1 hp with rfl | hp
  ·exact h1
  ·exact rA h2 p hp
theorem sZ {i:Nat} {S:Nat→Bool} {w1 w2:World}:∀ {T:PT},ChP i S w1 w2 T→∀ p∈T,p.1≠i→S p.1=true→∀ v,p.2.2 S v w1→p.2.2 (dL S i) v w2
 |_::_,⟨h1,h2⟩,p,hp=>by
  rcases List.mem_cons.1 hp with rfl | hp
  ·exact fun hne=>h1 (by rw [vV];exact hne)
  ·exact sZ h2 p hp
theorem kr.next {L:List (Nat×Value)} {T:PT} {S:Nat→Bool} {L':List (Nat×Value)} {w w':World} {i d:Nat} {v:Value} {R:(Nat→Bool)→Value→World→Prop} (h:kr L T S L' w) (hU:mQ (T.map fun p=>(p.1,p.2.1))) (hp:(i,d,R)∈T) (hR:R (dL S i) v w')
 (hst:∀ p∈T,p.1≠i→S p.1=true→∀ v,p.2.2 S v w→p.2.2 (dL S i) v w'):kr L T (dL S i) ((d,v)::L') w':=by
 refine ⟨fun t ht=>?_,fun p hq hs=>?_,fun p hq hs=>?_⟩
 ·rw [cV,if_neg (fun e=>ht _ hp e.symm)];exact h.1 t ht
 ·rw [cV];by_cases e:p.2.1=d
  ·rw [if_pos e,nB hU hq hp (.inr e)];exact hR
  ·rw [if_neg e];have e2:p.1≠i:=fun e2=>e (congrArg (·.2.1) (nB hU hq hp (.inl e2)))
   have hs':=o1 e2 hs;exact hst p hq e2 hs' _ (h.2.1 p hq hs')
 ·have hs':=o3 hs;have e2:p.1≠i:=fun e2=>by rw [e2,ny] at hs;cases hs
  rw [cV,if_neg (fun e=>e2 (congrArg (·.1) (nB hU hq hp (.inr e))))];exact h.2.2 p hq hs'
theorem kr.same {L:List (Nat×Value)} {T:PT} {S:Nat→Bool} {L':List (Nat×Value)} {w w':World} {i:Nat} (h:kr L T S L' w) (hi:∀ p∈T,p.1≠i)
 (hst:∀ p∈T,p.1≠i→S p.1=true→∀ v,p.2.2 S v w→p.2.2 (dL S i) v w'):kr L T (dL S i) L' w':=by
 refine ⟨h.1,fun p hq hs=>?_,fun p hq hs=>h.2.2 p hq (o3 hs)⟩;have hs':=o1 (hi p hq) hs;exact hst p hq (hi p hq) hs' _ (h.2.1 p hq hs')
def qL (L':List (Nat×Value)):List (Nat×Value)→Prop
 |[]=>True
 |(t,v)::r=>bF L' t=v∧qL L' r
theorem pX {L':List (Nat×Value)}:∀ {M:List (Nat×Value)},qL L' M→∀ t,(M.map Prod.fst).elem t=true→bF M t=bF L' t
 |(k,v)::r,⟨h1,h2⟩,t,ht=>by
  rw [cV];by_cases e:t=k
  ·rw [if_pos e,e,h1]
  ·rw [if_neg e];refine pX h2 t ?_;simpa [e] using ht
section
variable {P:Program} {Q:Exit→Act→World→Prop} {n:Fr} {L L' M:List (Nat×Value)} {w w' w'':World} {l:List Oper} {T:PT} {Mem:(Nat→Bool)→World→Prop} {Mu:List Nat} {S:Nat→Bool} {op:Op} {ty:TypeId} {pos:String} {after:Array Edge} {i d:Nat} {v:Value} {R:(Nat→Bool)→Value→World→Prop}
theorem jS {dst:Option Nat} (hs:dQ op=false) (hk:(((⟨dst,op,ty,pos,after,none⟩:Oper).looksAt #[]).all fun t=>(M.map Prod.fst).elem t)=true) (hag:qL L' M):execOp (ev n L') ⟨dst,op,ty,pos,after,none⟩=execOp (ev n M) ⟨dst,op,ty,pos,after,none⟩:=by
 have h:∀ t,((⟨dst,op,ty,pos,after,none⟩:Oper).looksAt #[]).elem t=true→bF M t=bF L' t:=fun t ht=>
  pX hag t (List.all_eq_true.1 hk t (List.elem_iff.1 ht))
 exact (fN (n:=n) (ops:=#[]) (o:=⟨dst,op,ty,pos,after,none⟩) hs h).1.symm
abbrev pY (P:Program) (n:Fr) (L:List (Nat×Value)) (T:PT) (Mem:(Nat→Bool)→World→Prop) (S:Nat→Bool) (i:Nat) (o:Oper) (L':List (Nat×Value)) (w':World):Prop:=gD P n o (fun L2 w2=>kr L T (dL S i) L2 w2∧Mem (dL S i) w2) L' w'
theorem vL (hmo:mf Mu T) (hq:Mu.elem i=false) (hF:ai w' w''):∀ p∈T,p.1≠i→S p.1=true→∀ v,p.2.2 S v w'→p.2.2 (dL S i) v w'':=fun p hp _ _ v h=>rA hmo p hp S i v w' w'' hq hF h
theorem bf (M:List (Nat×Value)) (hU:mQ (T.map fun p=>(p.1,p.2.1))) (hmo:mf Mu T) (hme:∀ S i w1 w2,Mu.elem i=false→ai w1 w2→Mem S w1→Mem (dL S i) w2) (hI:kr L T S L' w') (hM:Mem S w') (hp:(i,d,R)∈T) (hq:Mu.elem i=false)
 (hs:dQ op=false) (hk:(((⟨some d,op,ty,pos,after,none⟩:Oper).looksAt #[]).all fun t=>(M.map Prod.fst).elem t)=true) (hag:qL L' M) (hr:RO P (ev n M) op w' v w'') (hF:ai w' w'') (hR:R (dL S i) v w''):pY P n L T Mem S i ⟨some d,op,ty,pos,after,none⟩ L' w':=
 .inl ⟨d,v,w'',rfl,by rw [jS hs hk hag];exact hr _ _ _ _ _,hI.next hU hp hR (vL hmo hq hF),hme S i _ _ hq hF hM⟩
theorem jY (M:List (Nat×Value)) {f:FuncId} {al:List Operand} {ats:Array TypeId} (hU:mQ (T.map fun p=>(p.1,p.2.1))) (hmo:mf Mu T) (hme:∀ S i w1 w2,Mu.elem i=false→ai w1 w2→Mem S w1→Mem (dL S i) w2) (hI:kr L T S L' w') (hM:Mem S w') (hp:(i,d,R)∈T) (hq:Mu.elem i=false)
 (hk:(((⟨some d,.call { callee:=.value (.func f),args:=al.toArray,argTypes:=ats },ty,pos,after,none⟩:Oper).looksAt #[]).all fun t=>(M.map Prod.fst).elem t)=true) (hag:qL L' M) (hf:aR P f=true) (hc:Rt P f (al.map (ev n M)) w' fun v w''=>ai w' w''∧R (dL S i) v w'') :
 pY P n L T Mem S i ⟨some d,.call { callee:=.value (.func f),args:=al.toArray,argTypes:=ats },ty,pos,after,none⟩ L' w':=
 .inr (.inr ⟨d,f,al.map (ev n M),rfl,by rw [jS rfl hk hag,jR (fun _=>rfl),kB hf],Calls.mono hc fun e w2 ⟨v,he,hF,hR⟩=>⟨v,he,hI.next hU hp hR (vL hmo hq hF),hme S i _ _ hq hF hM⟩⟩)
theorem jZ (M:List (Nat×Value)) {f:FuncId} {al:List Operand} {ats:Array TypeId} (hU:mQ (T.map fun p=>(p.1,p.2.1))) (hI:kr L T S L' w') (hp:(i,d,R)∈T)
 (hk:(((⟨some d,.call { callee:=.value (.func f),args:=al.toArray,argTypes:=ats },ty,pos,after,none⟩:Oper).looksAt #[]).all fun t=>(M.map Prod.fst).elem t)=true) (hag:qL L' M) (hf:aR P f=true) (hc:Rt P f (al.map (ev n M)) w' fun v w''=>Mem (dL S i) w''∧R (dL S i) v w''∧ChP i S w' w'' T) :
 pY P n L T Mem S i ⟨some d,.call { callee:=.value (.func f),args:=al.toArray,argTypes:=ats },ty,pos,after,none⟩ L' w':=
 .inr (.inr ⟨d,f,al.map (ev n M),rfl,by rw [jS rfl hk hag,jR (fun _=>rfl),kB hf],Calls.mono hc fun e w2 ⟨v,he,hM,hR,hC⟩=>⟨v,he,hI.next hU hp hR (sZ hC),hM⟩⟩)
theorem nR (M:List (Nat×Value)) (hI:kr L T S L' w') (hi:∀ p∈T,p.1≠i)
 (hs:dQ op=false) (hk:(((⟨none,op,ty,pos,after,none⟩:Oper).looksAt #[]).all fun t=>(M.map Prod.fst).elem t)=true) (hag:qL L' M) (hr:RS P (ev n M) op w' w'') (hM:Mem (dL S i) w'') (hC:ChP i S w' w'' T):pY P n L T Mem S i ⟨none,op,ty,pos,after,none⟩ L' w':=
 .inr (.inl ⟨w'',rfl,by rw [jS hs hk hag];exact hr _ _ _ _ _,hI.same hi (sZ hC),hM⟩)
def xp (S:Nat→Bool) (w:World):PT→(List (Nat×Value)→Prop)→Prop
 |[],K=>K []
 |p::r,K=>∀ v,p.2.2 S v w→xp S w r fun M=>K ((p.2.1,v)::M)
theorem jd {S:Nat→Bool} {w:World} {K:List (Nat×Value)→Prop} (h:K []):xp S w [] K:=h
theorem qx {S:Nat→Bool} {w:World} (ρ:Nat→Value):∀ (l:PT) {K:List (Nat×Value)→Prop},(∀ p∈l,p.2.2 S (ρ p.2.1) w)→xp S w l K→K (l.map fun p=>(p.2.1,ρ p.2.1))
 |[],_,_,h=>h
 |p::r,_,hr,h=>qx ρ r (fun e he=>hr e (List.mem_cons_of_mem _ he)) (h (ρ p.2.1) (hr p (List.mem_cons_self ..)))
theorem pM (ρ:Nat→Value) (T:PT) (L:List (Nat×Value)) (t:Nat):((∃ p∈T,p.2.1=t)∧bF (T.map (fun p=>(p.2.1,ρ p.2.1))++L) t=ρ t)∨((∀ p∈T,p.2.1≠t)∧bF (T.map (fun p=>(p.2.1,ρ p.2.1))++L) t=bF L t):=by
 induction T with
 |nil=>exact .inr ⟨fun p hp=>by simp at hp,rfl⟩
 |cons q r ih=>
  rw [List.map_cons,List.cons_append,cV];by_cases e:t=q.2.1
  ·rw [if_pos e,←e];exact .inl ⟨⟨q,.head _,e.symm⟩,rfl⟩
  ·rw [if_neg e];rcases ih with ⟨⟨p,hp,h1⟩,h2⟩ | ⟨h1,h2⟩
   ·exact .inl ⟨⟨p,.tail _ hp,h1⟩,h2⟩
   ·refine .inr ⟨fun p hp=>?_,h2⟩;rcases List.mem_cons.1 hp with rfl | hp2
    ·exact fun e2=>e e2.symm
    ·exact h1 p hp2
theorem fM {T:PT} {t:Nat} (h:(T.map fun p=>p.2.1).elem t=false):∀ p∈T,p.2.1≠t:=fun p hp e=>by
 have:t∈T.map fun p=>p.2.1:=List.mem_map.2 ⟨p,hp,e⟩
 rw [List.elem_eq_mem,decide_eq_false_iff_not] at h;exact h this
theorem y9 {T:PT} {i:Nat} (h:(T.map fun p=>p.1).elem i=false):∀ p∈T,p.1≠i:=fun p hp e=>by
 have:i∈T.map fun p=>p.1:=List.mem_map.2 ⟨p,hp,e⟩
 rw [List.elem_eq_mem,decide_eq_false_iff_not] at h;exact h this
theorem gD.mono {o:Oper} {I1 I2:List (Nat×Value)→World→Prop} (hi:∀ L2 w2,I1 L2 w2→I2 L2 w2) (h:gD P n o I1 L' w'):gD P n o I2 L' w':=by
 rcases h with ⟨d,v,w2,h1,h2,h3⟩ | ⟨w2,h1,h2,h3⟩ | ⟨d,f,args,h1,h2,h3⟩
 ·exact .inl ⟨d,v,w2,h1,h2,hi _ _ h3⟩
 ·exact .inr (.inl ⟨w2,h1,h2,hi _ _ h3⟩)
 ·exact .inr (.inr ⟨d,f,args,h1,h2,Calls.mono h3 fun e w2 ⟨v,he,h⟩=>⟨v,he,hi _ _ h⟩⟩)
def ig (l:List Oper) (S:Nat→Bool):Prop:=∀ j o,l[j]? =some o→S j=true→∀ e∈o.after,Region.binds .any e=true→S e.on=true
theorem au {j i:Nat} {o:Oper} (hC:ig l S) (ho:l[j]? =some o) (he:(o.after.toList.any fun e=>Region.binds .any e&&Nat.beq e.on i)=true) (hS:S i=false):S j=false:=by
 rcases hj:S j with _ | _
 ·rfl
 ·obtain ⟨e,h1,h2⟩:=List.any_eq_true.1 he;rw [Bool.and_eq_true] at h2;have:=hC j o ho hj e (by simpa using h1) h2.1;rw [Nat.eq_of_beq_eq_true h2.2,hS] at this;cases this
theorem kK {i:Nat} {o:Oper} (hC:ig l S) (ho:l[i]? =some o) (hE:∀ e∈o.after,Region.binds .any e=true→S e.on=true):ig l (dL S i):=fun j o' hj hs e he hb=>by
 have up:∀ k,S k=true→dL S i k=true:=fun k hk=>by
  unfold dL;split
  ·rfl
  ·exact hk
 by_cases hji:j=i
 ·subst hji;rw [ho] at hj;cases hj;exact up _ (hE e he hb)
 ·exact up _ (hC j o' hj (o1 hji hs) e he hb)
def qy (P:Program) (n:Fr) (L:List (Nat×Value)) (T:PT) (Mu:List Nat) (Mem:(Nat→Bool)→World→Prop) (l:List Oper):Nat→List Oper→Prop
 |_,[]=>True
 |i,o::r=>(∀ S L' w',mQ (T.map fun p=>(p.1,p.2.1))→mf Mu T→(∀ S i w1 w2,Mu.elem i=false→ai w1 w2→Mem S w1→Mem (dL S i) w2)→kr L T S L' w'→Mem S w'→ig l S→S i=false→iM S o.after.toList→pY P n L T Mem S i o L' w')∧qy P n L T Mu Mem l (i+1) r
theorem ml {L0:List (Nat×Value)} {l0:List Oper}:∀ {r:List Oper} {k:Nat},qy P n L0 T Mu Mem l0 k r→mQ (T.map fun p=>(p.1,p.2.1))→mf Mu T→(∀ S i w1 w2,Mu.elem i=false→ai w1 w2→Mem S w1→Mem (dL S i) w2)→∀ (i:Nat) (o:Oper),r[i]? =some o→∀ S L' w',kr L0 T S L' w'→Mem S w'→ig l0 S→S (k+i)=false→iM S o.after.toList→pY P n L0 T Mem S (k+i) o L' w'
 |[],_,_,_,_,_,i,o,h=>by simp at h
 |x::r,k,⟨h1,h2⟩,a,b,c,0,o,h=>by
  simp only [List.getElem?_cons_zero,Option.some.injEq] at h;subst h;exact fun S L' w'=>h1 S L' w' a b c
 |x::r,k,⟨h1,h2⟩,a,b,c,i+1,o,h=>by
  have:=ml h2 a b c i o (by simpa using h)
  rwa [show k+1+i=k+(i+1) by omega] at this
theorem nK {id:Nat} (T:PT) (Mu:List Nat) (Mem:(Nat→Bool)→World→Prop) (hm:P.follows .mixedOrders=true) (hwf:oG l=true) (hlt:(T.all fun p=>Nat.blt p.1 l.length)=true) (hU:uj (T.map fun p=>(p.1,p.2.1))=true) (hmo:mf Mu T) (hme:∀ S i w1 w2,Mu.elem i=false→ai w1 w2→Mem S w1→Mem (dL S i) w2) (h0:Mem (fun _=>false) { w with drawn:=w.drawn+1 })
 (hstep:qy P n L T Mu Mem l 0 l) (hend:∀ w',Mem (fun i=>decide (i<l.length)) w'→xp (fun i=>decide (i<l.length)) w' T fun M=>Q .normal (mkA n (M++L)) w'):Cd P (.region id l.toArray true) Q n L w:=
 s3 (fun S L' w'=>kr L T S L' w'∧Mem S w'∧ig l S) hm hwf ⟨⟨fun _ _=>rfl,fun _ _ h=>(by cases h),fun _ _ _=>rfl⟩,h0,fun _ _ _ h=>by cases h⟩ (fun i o S L' w' ho ⟨hI,hM,hC⟩ hS hE=>by
  have:=ml hstep (lO hU) hmo hme i o ho S L' w' hI hM hC (by rw [Nat.zero_add];exact hS) (kI fun e he=>hE e (by simpa using he));rw [Nat.zero_add] at this;exact gD.mono (fun L2 w2 h=>⟨h.1,h.2,kK hC ho hE⟩) this) fun L' w' ⟨hI,hM,_⟩=>by
  have hlt':∀ p∈T,p.1<l.length:=fun p hp=>by
   have:=List.all_eq_true.1 hlt p hp;exact Nat.le_of_ble_eq_true this
  have h:=qx (bF L') T (fun p hp=>hI.2.1 p hp (decide_eq_true (hlt' p hp))) (hend w' hM)
  have e:mkA n L'=mkA n (T.map (fun p=>(p.2.1,bF L' p.2.1))++L):=by
   unfold mkA;rw [jP fun t _=>?_];rcases pM (bF L') T L t with ⟨_,h2⟩ | ⟨h1,h2⟩
   ·exact h2.symm
   ·rw [h2];exact hI.1 t h1
  rw [e];exact h
end
end Go.Proofs.YtkpooenofjdpmaaGreat
namespace Go.Proofs.YtkpooenofjdpmaaGreat
open Go.Proofs.Tryz (prog)
open Go.RowKit
def GdP (n:Fr) (T:PT) (l0:List Oper):List Oper→Prop
 |[]=>True
 |o::r=>(match o.guard with
  |none=>True
  |some (j,b)=>o.after.toList.any (fun e=>e.on==j&&Region.binds .any e)=true∧∃ t R,(j,t,R)∈T∧j9 l0 j=some t∧Nat.blt t n.n=true∧∀ S v w,R S v w→v=.bool b)∧GdP n T l0 r
section
variable {P:Program} {Q:Exit→Act→World→Prop} {n:Fr} {L:List (Nat×Value)} {w:World} {l:List Oper}
theorem y_ {T:PT}:∀ (r:List Oper),GdP n T l r→∀ o∈r,∀ j b,o.guard=some (j,b)→o.after.toList.any (fun e=>e.on==j&&Region.binds .any e)=true∧∃ t R,(j,t,R)∈T∧j9 l j=some t∧Nat.blt t n.n=true∧∀ S v w,R S v w→v=.bool b:=by
 intro r
 induction r with
 |nil=>intro _ o ho;cases ho
 |cons x r ih=>
  intro h o ho j b hg;rcases List.mem_cons.1 ho with e | ho'
  ·subst e;have h1:=h.1;rw [hg] at h1;exact h1
  ·exact ih h.2 o ho' j b hg
theorem sr {T:PT} {S:Nat→Bool} {L':List (Nat×Value)} {w':World} (hI:kr L T S L' w') {r:List Oper} (hG:GdP n T l r) {o:Oper} (ho:o∈r) (hE:∀ e∈o.after,Region.binds .any e=true→S e.on=true):Region.wanted o (yielded l.toArray (mkT n.n L'))=true:=by
 have hg:=y_ r hG o ho;obtain ⟨dst,op,ty,pos,after,g⟩:=o;cases g with
 |none=>rfl
 |some jb=>
  obtain ⟨j,b⟩:=jb;obtain ⟨ha,t,R,hp,hn,hlt,hR⟩:=hg j b rfl;obtain ⟨e,he,he2⟩:=List.any_eq_true.1 ha;simp only [Bool.and_eq_true] at he2;have hej:e.on=j:=by simpa using he2.1
  have hS:S j=true:=by rw [←hej];exact hE e (by simpa using he) he2.2
  obtain ⟨v,hv,hRv⟩:=hI.get hp hS;have hvb:=hR _ _ _ hRv;subst hvb
  have hw:jr l.toArray n L' j=.bool b:=by
   unfold jr;rw [show l.toArray.toList=l from rfl,hn];show (bif Nat.blt t n.n then bF L' t else undef)=_;rw [hlt];exact hv
  show (yielded l.toArray (mkT n.n L') j==some b)=true;rw [gA hw];simp
theorem oJ {id:Nat} (T:PT) (Mu:List Nat) (Mem:(Nat→Bool)→World→Prop) (hm:P.follows .mixedOrders=true) (hwf:sU l=true) (hgd:GdP n T l l) (hlt:(T.all fun p=>Nat.blt p.1 l.length)=true) (hU:uj (T.map fun p=>(p.1,p.2.1))=true) (hmo:mf Mu T) (hme:∀ S i w1 w2,Mu.elem i=false→ai w1 w2→Mem S w1→Mem (dL S i) w2) (h0:Mem (fun _=>false) { w with drawn:=w.drawn+1 })
 (hstep:qy P n L T Mu Mem l 0 (l.map xA)) (hend:∀ w',Mem (fun i=>decide (i<l.length)) w'→xp (fun i=>decide (i<l.length)) w' T fun M=>Q .normal (mkA n (M++L)) w'):Cd P (.region id l.toArray true) Q n L w:=
 yl (fun S L' w'=>kr L T S L' w'∧Mem S w'∧ig l S) hm hwf ⟨⟨fun _ _=>rfl,fun _ _ h=>(by cases h),fun _ _ _=>rfl⟩,h0,fun _ _ _ h=>by cases h⟩ (fun i o S L' w' ho ⟨hI,hM,hC⟩ hS hE=>by
  refine ⟨sr hI hgd (List.mem_of_getElem? ho) hE,?_⟩;have:=ml hstep (lO hU) hmo hme i (xA o) (by rw [List.getElem?_map,ho];rfl) S L' w' hI hM hC (by rw [Nat.zero_add];exact hS) (kI fun e he=>hE e (by have he':e∈o.after.toList:=he;simpa using he'));rw [Nat.zero_add] at this;exact gD.mono (fun L2 w2 h=>⟨h.1,h.2,kK hC ho hE⟩) (um this)) fun L' w' ⟨hI,hM,_⟩=>by
  have hlt':∀ p∈T,p.1<l.length:=fun p hp=>by
   have:=List.all_eq_true.1 hlt p hp;exact Nat.le_of_ble_eq_true this
  have h:=qx (bF L') T (fun p hp=>hI.2.1 p hp (decide_eq_true (hlt' p hp))) (hend w' hM)
  have e:mkA n L'=mkA n (T.map (fun p=>(p.2.1,bF L' p.2.1))++L):=by
   unfold mkA;rw [jP fun t _=>?_];rcases pM (bF L') T L t with ⟨_,h2⟩ | ⟨h1,h2⟩
   ·exact h2.symm
   ·rw [h2];exact hI.1 t h1
  rw [e];exact h
end
end Go.Proofs.YtkpooenofjdpmaaGreat
namespace Go.Proofs.YtkpooenofjdpmaaGreat
open Go.Proofs.Tryz (prog)
open Go.RowKit
open Go.ChangeShapes Go.WideShapes Go.ChangeAt
theorem bk:jn prog 39=some true:=by kernel_rfl
theorem aP:eg prog 39=some 13:=by kernel_rfl
theorem h_:kn prog 48=some (39,13,128,(.agg #[.int .i64 0,.int .i64 0,.int .i64 0,.int .i64 0,.int .i64 0,.int .i64 0,.int .i64 0,.int .i64 0,.bool false,.slice none 0 0,.int .i64 0,.string ⟨#[]⟩,.bool false]:Value)):=by kernel_rfl
theorem ji:jn prog 48=some false:=by kernel_rfl
theorem aN:cP prog 96 0=some 0:=by kernel_rfl
theorem bt:cP prog 29 3=some 3:=by kernel_rfl
theorem bA:cP prog 39 1=some 1:=by kernel_rfl
theorem ez:cP prog 39 2=some 2:=by kernel_rfl
theorem bu:cP prog 39 3=some 3:=by kernel_rfl
theorem iK:cP prog 96 1=some 22:=by kernel_rfl
theorem oS:eg prog 48=some 1:=by kernel_rfl
theorem u5:prog.underlying 9=some .string:=by kernel_rfl
theorem fj:aR prog 113=true:=by kernel_rfl
theorem cL:cP prog 29 13=some 15:=by kernel_rfl
theorem bn:jn prog 26=some false:=by kernel_rfl
theorem cT:cP prog 29 15=some 17:=by kernel_rfl
theorem dF:cP prog 29 7=some 9:=by kernel_rfl
theorem cK:jn prog 9=some false:=by kernel_rfl
theorem dA:cP prog 29 16=some 18:=by kernel_rfl
theorem gy:∀ (a0:Int) (a1:Int) (a2:Int) (a3:Int) (a4:ByteArray) (a5:Bool),prog.built 39 [(0,.int .i64 5),(4,.int .i64 a0),(5,.int .i64 a1),(10,.int .i64 a3),(11,.string a4),(12,.bool a5),(7,.int .i64 a2)]=some #[.int .i64 5,.int .i64 0,.int .i64 0,.int .i64 0,.int .i64 a0,.int .i64 a1,.int .i64 0,.int .i64 a2,.bool false,.slice none 0 0,.int .i64 a3,.string a4,.bool a5]:=by intros;kernel_rfl
theorem r4:aR prog 114=true:=by kernel_rfl
theorem oT:aR prog 83=true:=by kernel_rfl
theorem dr:cP prog 29 8=some 10:=by kernel_rfl
theorem ia:∀ (a0:Int) (a1:Int) (a2:Int) (a3:Int) (a4:Option Addr) (a5 a6:Nat),prog.built 39 [(0,.int .i64 3),(4,.int .i64 a0),(5,.int .i64 a1),(6,.int .i64 a2),(9,.slice a4 a5 a6),(7,.int .i64 a3)]=some #[.int .i64 3,.int .i64 0,.int .i64 0,.int .i64 0,.int .i64 a0,.int .i64 a1,.int .i64 a2,.int .i64 a3,.bool false,.slice a4 a5 a6,.int .i64 0,.string ⟨#[]⟩,.bool false]:=by intros;kernel_rfl
theorem j8 (w0:World) (Z:Nat→Prop) (T g:Nat) (p:Sp) (w:World) (h:a_ w0 Z w T g p) (tag:Nat→Nat) (a:Ra) (O:Option Addr) (oc:Nat) (L:List Msg) (hs:gQ w Z T g tag p a O oc L) (hl:L.length≤1000) (m:Msg) (to:Int) (hE:w.ownsRow 0 99 3 (.slice m.E m.es.length m.c) m.es.length (eb m.es)∧Col tag (1000+2*L.length) m.E) :
 Rt prog 113 [.pointer (some ⟨g,0,none⟩),.int .i64 to,.agg (bM m).toArray] w (fun v w'=>v=.tuple #[]∧a_ w0 Z w' T g (p.tell (pl { m with t:=to }))):=by
 refine enter (n:=32) Tryz.func113 rfl rfl rfl (ak (ag (bZ (v:=.agg _) rfl ?_)));intro b5 w1 E5 hb5 hk5;have hgb:=hs.b.lt;have h5:g≠b5:=by omega
 have hg5:w.heap.size≤b5:=Nat.le_of_eq hb5.symm;have hb0:=hs.b.from_ (ai.rfl_.next E5);refine aj (af (ak ?_));have hU2:iA [(0,6,.pointer (some ⟨g,0,none⟩)),(1,7,.pointer (some ⟨g,0,none⟩)),(2,8,.pointer (some ⟨g,0+0,none⟩)),(3,9,.pointer (some ⟨g,0+0+0,none⟩)),(4,10,.pointer (some ⟨g,0+0+0+0,none⟩)),(5,11,.int .i64 p.s.id),(6,12,.int .i64 to),(7,13,.pointer (some ⟨g,0,none⟩)),(8,14,.pointer (some ⟨g,0,none⟩)),(9,15,.pointer (some ⟨g,0+0,none⟩)),(10,16,.pointer (some ⟨g,0+0+0,none⟩)),(11,17,.pointer (some ⟨g,0+0+0+3,none⟩)),(12,18,.int .i64 p.s.term),(13,19,.pointer (some ⟨b5,0+1,none⟩)),(15,20,.pointer (some ⟨b5,0+2,none⟩)),(17,21,.pointer (some ⟨b5,0+3,none⟩))]:=by simp [iA]
 refine iJ [(0,6,.pointer (some ⟨g,0,none⟩)),(1,7,.pointer (some ⟨g,0,none⟩)),(2,8,.pointer (some ⟨g,0+0,none⟩)),(3,9,.pointer (some ⟨g,0+0+0,none⟩)),(4,10,.pointer (some ⟨g,0+0+0+0,none⟩)),(5,11,.int .i64 p.s.id),(6,12,.int .i64 to),(7,13,.pointer (some ⟨g,0,none⟩)),(8,14,.pointer (some ⟨g,0,none⟩)),(9,15,.pointer (some ⟨g,0+0,none⟩)),(10,16,.pointer (some ⟨g,0+0+0,none⟩)),(11,17,.pointer (some ⟨g,0+0+0+3,none⟩)),(12,18,.int .i64 p.s.term),(13,19,.pointer (some ⟨b5,0+1,none⟩)),(15,20,.pointer (some ⟨b5,0+2,none⟩)),(17,21,.pointer (some ⟨b5,0+3,none⟩))] (fun S w'=>Blk w' g T (rfV p.s a++[Value.slice O L.length oc]).toArray∧Blk w' b5 39 #[.int .i64 m.k,.int .i64 (bif S 14 then p.s.id else m.f),.int .i64 (bif S 16 then to else m.t),.int .i64 (bif S 18 then p.s.term else m.tm),.int .i64 m.ix,.int .i64 m.lt,.int .i64 m.cm,.int .i64 m.rd,.bool m.ok,.slice m.E m.es.length m.c,.int .i64 m.a,.string m.d,.bool m.dn]∧ai w w') (by kernel_rfl) (by kernel_rfl) hU2 (by simp) (⟨hb0.from_ ((ai.rfl_).d1),hk5.from_ ((ai.rfl_).d1),((ai.rfl_.next E5)).d1⟩) ?_ ?_
 ·constructor
  ·rintro S L' wS hI hM hS0 ⟨-⟩;have e0:=hI.1 0 (by simp);have hM':=hM;obtain ⟨hgB,hX,hB⟩:=hM';exact bp (aH e0) ⟨hI.put hU2 (.head _),hM⟩
  constructor
  ·rintro S L' wS hI hM hS0 ⟨d0,-⟩;have e6:bF L' 6=.pointer (some ⟨g,0,none⟩):=hI.get (i:=0) (.head _) d0;have hM':=hM;obtain ⟨hgB,hX,hB⟩:=hM';exact bp (ay e6) ⟨hI.put hU2 (.tail _ (.head _)),hM⟩
  constructor
  ·rintro S L' wS hI hM hS0 ⟨d1,-⟩;have e7:bF L' 7=.pointer (some ⟨g,0,none⟩):=hI.get (i:=1) (.tail _ (.head _)) d1;have hM':=hM;obtain ⟨hgB,hX,hB⟩:=hM';exact bp (aa aN e7) ⟨hI.put hU2 (gM 2 rfl),hM⟩
  constructor
  ·rintro S L' wS hI hM hS0 ⟨d2,-⟩;have e8:bF L' 8=.pointer (some ⟨g,0+0,none⟩):=hI.get (i:=2) (gM 2 rfl) d2;have hM':=hM;obtain ⟨hgB,hX,hB⟩:=hM';exact bp (aa aE e8) ⟨hI.put hU2 (gM 3 rfl),hM⟩
  constructor
  ·rintro S L' wS hI hM hS0 ⟨d3,-⟩;have e9:bF L' 9=.pointer (some ⟨g,0+0+0,none⟩):=hI.get (i:=3) (gM 3 rfl) d3;have hM':=hM;obtain ⟨hgB,hX,hB⟩:=hM';exact bp (aa cM e9) ⟨hI.put hU2 (gM 4 rfl),hM⟩
  constructor
  ·rintro S L' wS hI hM hS0 ⟨d4,-⟩;have e10:bF L' 10=.pointer (some ⟨g,0+0+0+0,none⟩):=hI.get (i:=4) (gM 4 rfl) d4;have hM':=hM;obtain ⟨hgB,hX,hB⟩:=hM';exact bp (aq an e10 (by exact dO hgB 0 rfl)) ⟨hI.put hU2 (gM 5 rfl),hM⟩
  constructor
  ·rintro S L' wS hI hM hS0 ⟨-,-⟩;have e1:=hI.1 1 (by simp);have hM':=hM;obtain ⟨hgB,hX,hB⟩:=hM';exact bp (aH e1) ⟨hI.put hU2 (gM 6 rfl),hM⟩
  constructor
  ·rintro S L' wS hI hM hS0 ⟨-,-⟩;have e0:=hI.1 0 (by simp);have hM':=hM;obtain ⟨hgB,hX,hB⟩:=hM';exact bp (aH e0) ⟨hI.put hU2 (gM 7 rfl),hM⟩
  constructor
  ·rintro S L' wS hI hM hS0 ⟨d7,-,-⟩;have e13:bF L' 13=.pointer (some ⟨g,0,none⟩):=hI.get (i:=7) (gM 7 rfl) d7;have hM':=hM;obtain ⟨hgB,hX,hB⟩:=hM';exact bp (ay e13) ⟨hI.put hU2 (gM 8 rfl),hM⟩
  constructor
  ·rintro S L' wS hI hM hS0 ⟨d8,-,-⟩;have e14:bF L' 14=.pointer (some ⟨g,0,none⟩):=hI.get (i:=8) (gM 8 rfl) d8;have hM':=hM;obtain ⟨hgB,hX,hB⟩:=hM';exact bp (aa aN e14) ⟨hI.put hU2 (gM 9 rfl),hM⟩
  constructor
  ·rintro S L' wS hI hM hS0 ⟨d9,-,-⟩;have e15:bF L' 15=.pointer (some ⟨g,0+0,none⟩):=hI.get (i:=9) (gM 9 rfl) d9;have hM':=hM;obtain ⟨hgB,hX,hB⟩:=hM';exact bp (aa aE e15) ⟨hI.put hU2 (gM 10 rfl),hM⟩
  constructor
  ·rintro S L' wS hI hM hS0 ⟨d10,-,-⟩;have e16:bF L' 16=.pointer (some ⟨g,0+0+0,none⟩):=hI.get (i:=10) (gM 10 rfl) d10;have hM':=hM;obtain ⟨hgB,hX,hB⟩:=hM';exact bp (aa bt e16) ⟨hI.put hU2 (gM 11 rfl),hM⟩
  constructor
  ·rintro S L' wS hI hM hS0 ⟨d11,-,-⟩;have e17:bF L' 17=.pointer (some ⟨g,0+0+0+3,none⟩):=hI.get (i:=11) (gM 11 rfl) d11;have hM':=hM;obtain ⟨hgB,hX,hB⟩:=hM';exact bp (aq an e17 (by exact dO hgB 3 rfl)) ⟨hI.put hU2 (gM 12 rfl),hM⟩
  constructor
  ·rintro S L' wS hI hM hS0 ⟨d0,d1,d2,d3,d4,d5,-,-,-,-,-,-,-,-⟩;have e5:=hI.1 5 (by simp);have hM':=hM;obtain ⟨hgB,hX,hB⟩:=hM';exact bp (aa bA e5) ⟨hI.put hU2 (gM 13 rfl),hM⟩
  constructor
  ·rintro S L' wS hI hM hS0 ⟨d13,d5,d0,d1,d2,d3,d4,d5,-,-,-,-,-,-,-,-⟩;have e11:bF L' 11=.int .i64 p.s.id:=hI.get (i:=5) (gM 5 rfl) d5;have e19:bF L' 19=.pointer (some ⟨b5,0+1,none⟩):=hI.get (i:=13) (gM 13 rfl) d13;have hM':=hM;obtain ⟨hgB,hX,hB⟩:=hM';obtain ⟨w2,hR,hO,hb⟩:=eK (n:=32) (L:=L') (x:=.tmp 19) (y:=.tmp 11) aS e19 e11 rfl hX (by simp);exact dZ hR ⟨hI.skip (by simp),hgB.only hO h5,hb,hB.only hO hg5⟩
  constructor
  ·rintro S L' wS hI hM hS0 ⟨d0,d1,d2,d3,d4,d5,d6,-,-,-,-,-,-,d13,d14,-⟩;have e5:=hI.1 5 (by simp);have hM':=hM;obtain ⟨hgB,hX,hB⟩:=hM';exact bp (aa ez e5) ⟨hI.put hU2 (gM 14 rfl),hM⟩
  constructor
  ·rintro S L' wS hI hM hS0 ⟨d15,d6,d14,d0,d1,d2,d3,d4,d5,d6,-,-,-,-,-,-,d13,d14,-⟩;have e12:bF L' 12=.int .i64 to:=hI.get (i:=6) (gM 6 rfl) d6;have e20:bF L' 20=.pointer (some ⟨b5,0+2,none⟩):=hI.get (i:=15) (gM 14 rfl) d15;have hM':=hM;obtain ⟨hgB,hX,hB⟩:=hM';obtain ⟨w2,hR,hO,hb⟩:=eK (n:=32) (L:=L') (x:=.tmp 20) (y:=.tmp 12) aS e20 e12 rfl hX (by simp);exact dZ hR ⟨hI.skip (by simp),hgB.only hO h5,hb,hB.only hO hg5⟩
  constructor
  ·rintro S L' wS hI hM hS0 ⟨d0,d1,d2,d3,d4,d5,d6,d7,d8,d9,d10,d11,d12,d13,d14,d15,d16,-⟩;have e5:=hI.1 5 (by simp);have hM':=hM;obtain ⟨hgB,hX,hB⟩:=hM';exact bp (aa bu e5) ⟨hI.put hU2 (gM 15 rfl),hM⟩
  constructor
  ·rintro S L' wS hI hM hS0 ⟨d17,d12,d16,d0,d1,d2,d3,d4,d5,d6,d7,d8,d9,d10,d11,d12,d13,d14,d15,d16,-⟩;have e18:bF L' 18=.int .i64 p.s.term:=hI.get (i:=12) (gM 12 rfl) d12;have e21:bF L' 21=.pointer (some ⟨b5,0+3,none⟩):=hI.get (i:=17) (gM 15 rfl) d17;have hM':=hM;obtain ⟨hgB,hX,hB⟩:=hM';obtain ⟨w2,hR,hO,hb⟩:=eK (n:=32) (L:=L') (x:=.tmp 21) (y:=.tmp 18) aS e21 e18 rfl hX (by simp);exact dZ hR ⟨hI.skip (by simp),hgB.only hO h5,hb,hB.only hO hg5⟩
  exact trivial
 ·intro w3 hM;obtain ⟨hgB,hX,hB⟩:=hM;have hB1:=hB;replace hX:Blk w3 b5 39 (bM { m with f:=p.s.id,t:=to,tm:=p.s.term }).toArray:=hX;refine af ?_;apply wR 8 7 [28] [(22,eqp _),(23,eqp _),(24,eqp _),(25,eqp _),(26,eqp (.slice O L.length oc)),(27,eqp (.agg (bM { m with f:=p.s.id,t:=to,tm:=p.s.term }).toArray)),(28,fun v w'=>∃ q,v=.slice (some ⟨q,0,none⟩) 1 1∧Blk w' q 39 (bM { m with f:=p.s.id,t:=to,tm:=p.s.term }).toArray),(29,fun v w'=>∃ A2 c2,v=.slice A2 (L.length+1) c2∧w'.ownsRow 0 39 13 (.slice A2 (L.length+1) c2) (L.length+1) (L.flatMap bM++bM { m with f:=p.s.id,t:=to,tm:=p.s.term })∧(∀ k,A2.map (·.block)=some k→O.map (·.block)=some k∨(w3).heap.size≤k))] (fun w'=>ai w3 w') (fun w'=>(w3).grownBy w' (O.map (·.block))) (by repeat first | exact cj | refine ch ?_ | refine bQ ?_) (by kernel_rfl) (by kernel_rfl) (by kernel_rfl) ⟨ah _,ah _,ah _,ah _,ah _,ah _,(fun _ _ _ hF ⟨q,h1,h2⟩=>⟨q,h1,h2.from_ hF⟩),(fun _ _ _ hF ⟨A2,c2,h1,h2,h3⟩=>⟨A2,c2,h1,h2.kept_from hF,h3⟩),trivial⟩ (ai.rfl_.d1) (ai.rfl_.d1.grown _) (fun _ _ hF h=>h.next hF) (fun _ _ hF h=>eS h (hF.grown _))
  case hop=>
   constructor
   ·rintro-w5 hG5;exact ar (aH (v:=.pointer _) rfl) rfl
   constructor
   ·rintro-w6 D6;exact ar (aH (v:=.pointer _) rfl) rfl
   constructor
   ·rintro-w7 D7;rintro _ rfl;exact ar (ay rfl) rfl
   constructor
   ·rintro-w8 D8;rintro _ rfl;exact ar (aa iK rfl) rfl
   constructor
   ·rintro-w9 D9;rintro _ rfl;exact ar (aq ji rfl (show _=some (Value.slice O L.length oc) from (hgB.from_ D9).rd 22 rfl)) rfl
   constructor
   ·rintro-w10 D10;exact ar (aG (cs:=bM { m with f:=p.s.id,t:=to,tm:=p.s.term }) bk aP rfl ((hX.from_ D10).whole)) rfl
   constructor
   ·rintro-w11 D11;rintro v11_27 rfl;exact oq (qe (l:=[(0,.tmp 27)]) (cells:=(bM { m with f:=p.s.id,t:=to,tm:=p.s.term }).toArray) h_ rfl rfl (by show Instr.fill _ _ [(0,Value.agg (bM { m with f:=p.s.id,t:=to,tm:=p.s.term }).toArray)]=_;kernel_rfl)) (ai.rfl_.new _) ⟨_,rfl,Blk.new _ _ _⟩
   constructor
   ·intro h;cases h
   exact trivial
  case hmu=>
   rintro w13 D13;rintro v13_26 rfl v13_28 ⟨q13,rfl,hq13⟩;show u_ ..;refine ot (news:=bM { m with f:=p.s.id,t:=to,tm:=p.s.term }) h_ rfl (by decide) rfl ((hs.m.o.kept_from hB).kept_from D13) (Nat.zero_le _) rfl rfl ⟨_,_,rfl,hq13.whole⟩ (by simp [bM,Value.oneCell']) (by omega) (by omega) ?_;intro A3 c3 w3 ho3 hg3 hl3;exact ⟨eS (D13.grown _) hg3,⟨A3,c3,rfl,ho3,fun k hk=>(hl3 k hk).imp id fun e=>Nat.le_trans D13.size e⟩,fun t u ht h=>ou (by repeat first | exact trivial | refine ⟨.inl rfl,?_⟩ | refine ⟨.inr (fun _ h=>h),?_⟩) t u ht h⟩
  case hend=>
   rintro w14 hG14;rintro _ rfl _ rfl _ rfl _ rfl v26 rfl v27 rfl v28 _ v29 ⟨A29,c29,rfl,ho29,hL29⟩;show St ..;have hgD:=hG14;have hgC:=hgB.chg (Chg.of_grown (U:=fun k=>tag k=6) hgD (fun k hk=>hs.m.c k hk)) (fun e=>by rw [hs.gc] at e;cases e);refine ab (ay rfl) (ab (aa iK rfl) (dD (v:=.slice _ _ _) oS rfl rfl rfl (hgC) (by show _<23;decide) ?_));intro w15 O2 P2;refine aj (cR (ey rfl (⟨rfl,h.push hs (x:={ m with f:=p.s.id,t:=to,tm:=p.s.term }) hE hB hgD ho29 rfl (fun k hk=>(hL29 k hk).imp id fun e=>Nat.le_trans hB.size e) O2 P2⟩)))
theorem yQ (B T i:Int) (A:Option Addr) (n c:Nat) (xs:List Ent) (w:World) (h:cF w (.slice A n c) xs) (hm:cD B T xs=true) (hi:B+1≤i∧i≤dP B xs+1) :
 Rt prog 114 [.agg #[.int .i64 B,.int .i64 T,.slice A n c],.int .i64 i,.int .i64 16] w fun v w'=>(∃ A' c',v=.tuple #[.slice A' ((xs.drop (i-B-1).toNat).take 16).length c',.int .i64 0]∧w'.ownsRow w.heap.size 99 3 (.slice A' ((xs.drop (i-B-1).toNat).take 16).length c') ((xs.drop (i-B-1).toNat).take 16).length (eb ((xs.drop (i-B-1).toNat).take 16)))∧ai w w':=
 (uu B T i 16 (.slice A n c) xs w h (by decide)).mono fun e w' ⟨L,he,hg,hF⟩=>by
  have h0:nV B T xs i 16=0:=by
   unfold nV;rw [if_pos hm,if_pos hi,if_neg (by decide)]
  rw [h0] at he hg;have ho:=hg.2 rfl;obtain ⟨A',c',rfl⟩:=fL ho;exact ⟨_,he,⟨A',c',rfl,ho⟩,hF⟩
theorem sA {P:Program} {ρ:Operand→Value} {w:World} {t:TypeId} {x y z:Operand} {k k':IntKind} {s r:ByteArray} {l h:Nat} (ht:P.underlying t=some .string) (hx:ρ x=.string s) (hy:ρ y=.int k (l:Int)) (hz:ρ z=.int k' (h:Int)) (h1:l≤h) (h2:h≤s.size) (hr:s.extract l h=r):RO P ρ (.slice t x (some y) (some z) none) w (.string r) w:=fun _ _ _ _ _=>by
 subst hr;simp only [execOp,hx,hy,hz,Option.map_none,Option.map_some,Sem.run_bind];rw [run_sliceAt_string w t _ _ _ _ ht,run_slice_string_if w t s k k' (l:Int) (h:Int) ht,if_pos (by omega),if_pos (by omega),Result.andThen_ok,Int.toNat_natCast,Int.toNat_natCast];rfl
theorem sy {s:Rf} {to:Int} (h:at1 s.next to≤s.b) {na:Nat} (ha:at1 s.sent to=(na:Int)):kA s to={ zM with k:=5,t:=to,ix:=s.b,lt:=s.t,rd:=s.round,a:=(na:Int),d:=s.snap.extract na (min (na+1024) s.snap.size),dn:=decide (min (na+1024) s.snap.size=s.snap.size) }:=by
 unfold kA;simp only;rw [if_pos h,ha,Int.toNat_natCast]
theorem uy {s:Rf} {to:Int} (h:¬ at1 s.next to≤s.b):kA s to={ zM with k:=3,t:=to,ix:=at1 s.next to-1,lt:=er s.b s.t s.es (at1 s.next to-1),cm:=s.commit,rd:=s.round,es:=(s.es.drop (at1 s.next to-s.b-1).toNat).take 16 }:=by
 unfold kA;simp only;rw [if_neg h,show at1 s.next to-1-s.b=at1 s.next to-s.b-1 by omega]
theorem wV {l:List Int} {k:Nat} (h:k<l.length):at1 l ((k:Int)+1)=l[k]:=by
 unfold at1;rw [show ((k:Int)+1-1).toNat=k by omega,List.getD_eq_getElem?_getD,List.getElem?_eq_getElem h];rfl
theorem xI (w0:World) (Z:Nat→Prop) (T g:Nat) (p:Sp) (w:World) (h:a_ w0 Z w T g p) (hF:RfF p.s) (hr:p.s.role=2) (hl:p.out.length≤900) (to:Int) (hto:1≤to∧to≤p.s.nodes) :
 Rt prog 78 [.pointer (some ⟨g,0,none⟩),.int .i64 to] w (fun v w'=>v=.tuple #[]∧a_ w0 Z w' T g (p.send to)):=by
 obtain ⟨tag,a,O,oc,L,hs⟩:=h.ex;obtain ⟨E,Ec,V,Vc,X,Xc,M,Mc,S,Sc,Q,Qc,LL⟩:=a;have hb:=hs.b;have hll:L.length=p.out.length:=by rw [←hs.m.l,List.length_map]
 obtain ⟨k,rfl⟩:∃ k:Nat,to=(k:Int)+1:=⟨(to-1).toNat,by omega⟩;have hXl:p.s.next.length=p.s.nodes.toNat:=by rw [hF.nx.1,jw hr]
 have hSl:p.s.sent.length=p.s.nodes.toNat:=by rw [hF.se.1,jw hr]
 have hkX:k<p.s.next.length:=by omega
 have hkS:k<p.s.sent.length:=by omega
 have hnx:=hF.nx.2 _ (List.getElem_mem hkX);have hse:=hF.se.2 _ (List.getElem_mem hkS);obtain ⟨gX,rfl⟩:∃ q,X=some ⟨q,0,none⟩:=fK (hs.f.x (by decide)).1 (by omega);have hXo:w.ownsRow 0 3 1 (.slice (some ⟨gX,0,none⟩) p.s.next.length Xc) p.s.next.length (p.s.next.map iV):=(hs.f.x (by decide)).1;have hXc:=jN (l:=p.s.next) hXo k hkX;obtain ⟨gS,rfl⟩:∃ q,S=some ⟨q,0,none⟩:=fK (hs.f.n (by decide)).1 (by omega);have hSo:w.ownsRow 0 3 1 (.slice (some ⟨gS,0,none⟩) p.s.sent.length Sc) p.s.sent.length (p.s.sent.map iV):=(hs.f.n (by decide)).1;have hSc:=jN (l:=p.s.sent) hSo k hkS;obtain ⟨na,hna⟩:∃ na:Nat,p.s.sent[k]=(na:Int):=⟨p.s.sent[k].toNat,by omega⟩;have he:cF w (.slice E p.s.es.length Ec) p.s.es:=hs.f.rd.e;have hzw:=h.zw;have hnn:=hF.n;have hsn:=hF.sn;have hbl:=hF.last;have hlb:dP p.s.b p.s.es=bH p.s:=rfl;have hpn:=wV hkX;have hpx:=wV hkS;refine enter (n:=127) Tryz.func78 rfl rfl rfl (ak (ag (mvp rfl (ab (ay rfl) (ab (aa aN rfl) (ab (aa aE rfl) (ab (aa cL rfl) (ab (aq bn rfl (by exact dO (hb.from_ ai.rfl_) 15 rfl)) ?_))))))));refine mvi rfl (ab (eA rfl rfl (by omega)) (dm (t:=16) (v:=.int _ _) (v':=.int .i64 (k:Nat)) rfl (by exact bT (by omega)) ?_));refine ab (ew db rfl rfl (by omega)) (ab (aq an rfl (by exact fq ai.rfl_ hXc)) ?_);refine asi rfl (aj (af (ak (ak (ag (mvi rfl (mvp rfl (ab (ay rfl) (ab (aa aN rfl) (ab (aa aE rfl) (ab (aa bq rfl) (ab (aa dH rfl) ?_))))))))))));refine ab (aq an rfl (by exact dO (hb.from_ ai.rfl_) 6 rfl)) ?_;refine ab (gu rfl rfl) (aj (af (Ab rfl (fun Q1=>?_) (fun Q1=>?_))))
 ·refine ak (ag (mvp rfl (ab (ay rfl) (ab (aa aN rfl) (ab (aa aE rfl) (ab (aa cT rfl) (ab (aq bn rfl (by exact dO (hb.from_ ai.rfl_) 17 rfl)) ?_)))))));refine mvi rfl (ab (eA rfl rfl (by omega)) (dm (t:=35) (v:=.int _ _) (v':=.int .i64 (k:Nat)) rfl (by exact bT (by omega)) ?_));refine ab (ew db rfl rfl (by omega)) (ab (aq an rfl (by exact fq ai.rfl_ hSc)) ?_);refine dm (t:=37) (v:=.int _ _) (v':=.int .i64 (na:Nat)) rfl (by exact congrArg (Value.int .i64) hna) ?_;refine asi rfl (aj (af (ak (ag (mvi rfl (ab (dI (b:=1024) rfl rfl (by omega)) (mvp rfl (ab (ay rfl) (ab (aa aN rfl) (ab (aa aE rfl) (ab (aa dF rfl) ?_)))))))))));refine ab (aq cK rfl (by exact dO (hb.from_ ai.rfl_) 9 rfl)) ?_;refine ab (eG (by kernel_rfl) rfl) (ab (lH rfl rfl) (dm (t:=47) (v:=.int _ _) (v':=.int .i64 ((min (na+1024) p.s.snap.size:Nat):Int)) rfl (by exact bT (by omega)) ?_));refine asi rfl (aj (af (ak ?_)));apply nK [(0,48,fun _ v _=>v=_),(1,49,fun _ v _=>v=_),(2,50,fun _ v _=>v=_),(3,51,fun _ v _=>v=_),(4,52,fun _ v _=>v=_),(5,53,fun _ v _=>v=_),(6,54,fun _ v _=>v=_),(7,55,fun _ v _=>v=_),(8,56,fun _ v _=>v=_),(9,57,fun _ v _=>v=_),(10,58,fun _ v _=>v=_),(11,59,fun _ v _=>v=_),(12,60,fun _ v _=>v=_),(13,61,fun _ v _=>v=_),(14,62,fun _ v _=>v=_),(15,63,fun _ v _=>v=_),(16,64,fun _ v _=>v=_),(17,65,fun _ v _=>v=_),(18,66,fun _ v _=>v=_),(19,67,fun _ v _=>v=_),(20,68,fun _ v _=>v=_),(21,69,fun _ v _=>v=_),(22,70,fun _ v _=>v=_),(23,71,fun _ v _=>v=_),(24,72,fun _ v _=>v=_),(25,73,fun _ v _=>v=_),(26,74,fun _ v _=>v=_),(27,75,fun _ v _=>v=_),(28,76,fun _ v _=>v=_),(29,77,fun _ v _=>v=_),(30,78,fun _ v _=>v=_),(31,79,fun _ v _=>v=_),(32,80,fun _ v _=>v=_),(33,81,fun _ v _=>v=_),(34,82,fun _ v _=>v=_),(35,83,fun _ v _=>v=_),(36,84,fun _ v _=>v=_),(37,85,fun _ v _=>v=_),(38,86,fun _ v _=>v=_),(39,87,fun _ v _=>v=_),(40,88,fun _ v _=>v=_),(41,89,fun _ v _=>v=_),(42,90,fun _ v _=>v=_)] [42] (fun S w'=>(S 42=false→ai w w')∧(S 42=true→a_ w0 Z w' T g (p.tell (pl { ({ zM with k:=5,ix:=p.s.b,lt:=p.s.t,rd:=p.s.round,a:=(na:Int),d:=p.s.snap.extract na (min (na+1024) p.s.snap.size),dn:=decide (min (na+1024) p.s.snap.size=p.s.snap.size) }:Msg) with t:=(k:Int)+1 })))) (by kernel_rfl) (by kernel_rfl) rfl rfl ⟨fun _ _ _ _ _ _ _ h=>h,fun _ _ _ _ _ _ _ h=>h,fun _ _ _ _ _ _ _ h=>h,fun _ _ _ _ _ _ _ h=>h,fun _ _ _ _ _ _ _ h=>h,fun _ _ _ _ _ _ _ h=>h,fun _ _ _ _ _ _ _ h=>h,fun _ _ _ _ _ _ _ h=>h,fun _ _ _ _ _ _ _ h=>h,fun _ _ _ _ _ _ _ h=>h,fun _ _ _ _ _ _ _ h=>h,fun _ _ _ _ _ _ _ h=>h,fun _ _ _ _ _ _ _ h=>h,fun _ _ _ _ _ _ _ h=>h,fun _ _ _ _ _ _ _ h=>h,fun _ _ _ _ _ _ _ h=>h,fun _ _ _ _ _ _ _ h=>h,fun _ _ _ _ _ _ _ h=>h,fun _ _ _ _ _ _ _ h=>h,fun _ _ _ _ _ _ _ h=>h,fun _ _ _ _ _ _ _ h=>h,fun _ _ _ _ _ _ _ h=>h,fun _ _ _ _ _ _ _ h=>h,fun _ _ _ _ _ _ _ h=>h,fun _ _ _ _ _ _ _ h=>h,fun _ _ _ _ _ _ _ h=>h,fun _ _ _ _ _ _ _ h=>h,fun _ _ _ _ _ _ _ h=>h,fun _ _ _ _ _ _ _ h=>h,fun _ _ _ _ _ _ _ h=>h,fun _ _ _ _ _ _ _ h=>h,fun _ _ _ _ _ _ _ h=>h,fun _ _ _ _ _ _ _ h=>h,fun _ _ _ _ _ _ _ h=>h,fun _ _ _ _ _ _ _ h=>h,fun _ _ _ _ _ _ _ h=>h,fun _ _ _ _ _ _ _ h=>h,fun _ _ _ _ _ _ _ h=>h,fun _ _ _ _ _ _ _ h=>h,fun _ _ _ _ _ _ _ h=>h,fun _ _ _ _ _ _ _ h=>h,fun _ _ _ _ _ _ _ h=>h,fun _ _ _ _ _ _ _ h=>h,trivial⟩ (fun S i w1 w2 hq hF h=>⟨fun h0=>(h.1 (o3 h0)).next hF,fun h1=>(fun h=>h.from_ hF) (h.2 (o1 (show 42≠i by rintro rfl;exact absurd hq (by decide)) h1))⟩) ⟨fun _=>ai.rfl_.d1,fun h=>by cases h⟩
  case hstep=>
   constructor
   ·rintro S L' w2 hU hmo hme hI hM hC hS ⟨-⟩;have hS0:S 42=false:=(au hC (j:=42) rfl (by kernel_rfl) hS);have hM2:=hM.1 hS0;have e0:=hI.1 0 (fM rfl);exact bf [(0,_)] hU hmo hme hI hM (.head _) rfl rfl (by kernel_rfl) ⟨e0,trivial⟩ (aH (v:=.pointer _) rfl) ai.rfl_ (rfl)
   constructor
   ·rintro S L' w3 hU hmo hme hI hM hC hS ⟨-⟩;have hS0:S 42=false:=(au hC (j:=42) rfl (by kernel_rfl) hS);have hM3:=hM.1 hS0;have e1:=hI.1 1 (fM rfl);exact bf [(1,_)] hU hmo hme hI hM (.tail _ (.head _)) rfl rfl (by kernel_rfl) ⟨e1,trivial⟩ (aH (v:=.int _ _) rfl) ai.rfl_ (rfl)
   constructor
   ·rintro S L' w4 hU hmo hme hI hM hC hS ⟨-⟩;have hS0:S 42=false:=(au hC (j:=42) rfl (by kernel_rfl) (au hC (j:=41) rfl (by kernel_rfl) (au hC (j:=8) rfl (by kernel_rfl) (au hC (j:=7) rfl (by kernel_rfl) (au hC (j:=6) rfl (by kernel_rfl) (au hC (j:=5) rfl (by kernel_rfl) (au hC (j:=4) rfl (by kernel_rfl) (au hC (j:=3) rfl (by kernel_rfl) hS))))))));have hM4:=hM.1 hS0;have e0:=hI.1 0 (fM rfl);exact bf [(0,_)] hU hmo hme hI hM (gM 2 rfl) rfl rfl (by kernel_rfl) ⟨e0,trivial⟩ (aH (v:=.pointer _) rfl) ai.rfl_ (rfl)
   constructor
   ·rintro S L' w5 hU hmo hme hI hM hC hS ⟨d2,-⟩;have hS0:S 42=false:=(au hC (j:=42) rfl (by kernel_rfl) (au hC (j:=41) rfl (by kernel_rfl) (au hC (j:=8) rfl (by kernel_rfl) (au hC (j:=7) rfl (by kernel_rfl) (au hC (j:=6) rfl (by kernel_rfl) (au hC (j:=5) rfl (by kernel_rfl) (au hC (j:=4) rfl (by kernel_rfl) hS)))))));have hM5:=hM.1 hS0;obtain ⟨v5_50,e50,h50⟩:=hI.get (i:=2) (gM 2 rfl) d2;obtain rfl:=h50;exact bf [(50,_)] hU hmo hme hI hM (gM 3 rfl) rfl rfl (by kernel_rfl) ⟨e50,trivial⟩ (ay rfl) ai.rfl_ (rfl)
   constructor
   ·rintro S L' w6 hU hmo hme hI hM hC hS ⟨d3,-⟩;have hS0:S 42=false:=(au hC (j:=42) rfl (by kernel_rfl) (au hC (j:=41) rfl (by kernel_rfl) (au hC (j:=8) rfl (by kernel_rfl) (au hC (j:=7) rfl (by kernel_rfl) (au hC (j:=6) rfl (by kernel_rfl) (au hC (j:=5) rfl (by kernel_rfl) hS))))));have hM6:=hM.1 hS0;obtain ⟨v6_51,e51,h51⟩:=hI.get (i:=3) (gM 3 rfl) d3;obtain rfl:=h51;exact bf [(51,_)] hU hmo hme hI hM (gM 4 rfl) rfl rfl (by kernel_rfl) ⟨e51,trivial⟩ (aa aN rfl) ai.rfl_ (rfl)
   constructor
   ·rintro S L' w7 hU hmo hme hI hM hC hS ⟨d4,-⟩;have hS0:S 42=false:=(au hC (j:=42) rfl (by kernel_rfl) (au hC (j:=41) rfl (by kernel_rfl) (au hC (j:=8) rfl (by kernel_rfl) (au hC (j:=7) rfl (by kernel_rfl) (au hC (j:=6) rfl (by kernel_rfl) hS)))));have hM7:=hM.1 hS0;obtain ⟨v7_52,e52,h52⟩:=hI.get (i:=4) (gM 4 rfl) d4;obtain rfl:=h52;exact bf [(52,_)] hU hmo hme hI hM (gM 5 rfl) rfl rfl (by kernel_rfl) ⟨e52,trivial⟩ (aa aE rfl) ai.rfl_ (rfl)
   constructor
   ·rintro S L' w8 hU hmo hme hI hM hC hS ⟨d5,-⟩;have hS0:S 42=false:=(au hC (j:=42) rfl (by kernel_rfl) (au hC (j:=41) rfl (by kernel_rfl) (au hC (j:=8) rfl (by kernel_rfl) (au hC (j:=7) rfl (by kernel_rfl) hS))));have hM8:=hM.1 hS0;obtain ⟨v8_53,e53,h53⟩:=hI.get (i:=5) (gM 5 rfl) d5;obtain rfl:=h53;exact bf [(53,_)] hU hmo hme hI hM (gM 6 rfl) rfl rfl (by kernel_rfl) ⟨e53,trivial⟩ (aa bq rfl) ai.rfl_ (rfl)
   constructor
   ·rintro S L' w9 hU hmo hme hI hM hC hS ⟨d6,-⟩;have hS0:S 42=false:=(au hC (j:=42) rfl (by kernel_rfl) (au hC (j:=41) rfl (by kernel_rfl) (au hC (j:=8) rfl (by kernel_rfl) hS)));have hM9:=hM.1 hS0;obtain ⟨v9_54,e54,h54⟩:=hI.get (i:=6) (gM 6 rfl) d6;obtain rfl:=h54;exact bf [(54,_)] hU hmo hme hI hM (gM 7 rfl) rfl rfl (by kernel_rfl) ⟨e54,trivial⟩ (aa dH rfl) ai.rfl_ (rfl)
   constructor
   ·rintro S L' w10 hU hmo hme hI hM hC hS ⟨d7,-⟩;have hS0:S 42=false:=(au hC (j:=42) rfl (by kernel_rfl) (au hC (j:=41) rfl (by kernel_rfl) hS));have hM10:=hM.1 hS0;obtain ⟨v10_55,e55,h55⟩:=hI.get (i:=7) (gM 7 rfl) d7;obtain rfl:=h55;exact bf [(55,_)] hU hmo hme hI hM (gM 8 rfl) rfl rfl (by kernel_rfl) ⟨e55,trivial⟩ (aq an rfl (by exact dO (hb.from_ (ai.rfl_.next hM10)) 6 rfl)) ai.rfl_ (rfl)
   constructor
   ·rintro S L' w11 hU hmo hme hI hM hC hS ⟨-⟩;have hS0:S 42=false:=(au hC (j:=42) rfl (by kernel_rfl) (au hC (j:=41) rfl (by kernel_rfl) (au hC (j:=15) rfl (by kernel_rfl) (au hC (j:=14) rfl (by kernel_rfl) (au hC (j:=13) rfl (by kernel_rfl) (au hC (j:=12) rfl (by kernel_rfl) (au hC (j:=11) rfl (by kernel_rfl) (au hC (j:=10) rfl (by kernel_rfl) hS))))))));have hM11:=hM.1 hS0;have e0:=hI.1 0 (fM rfl);exact bf [(0,_)] hU hmo hme hI hM (gM 9 rfl) rfl rfl (by kernel_rfl) ⟨e0,trivial⟩ (aH (v:=.pointer _) rfl) ai.rfl_ (rfl)
   constructor
   ·rintro S L' w12 hU hmo hme hI hM hC hS ⟨d9,-⟩;have hS0:S 42=false:=(au hC (j:=42) rfl (by kernel_rfl) (au hC (j:=41) rfl (by kernel_rfl) (au hC (j:=15) rfl (by kernel_rfl) (au hC (j:=14) rfl (by kernel_rfl) (au hC (j:=13) rfl (by kernel_rfl) (au hC (j:=12) rfl (by kernel_rfl) (au hC (j:=11) rfl (by kernel_rfl) hS)))))));have hM12:=hM.1 hS0;obtain ⟨v12_57,e57,h57⟩:=hI.get (i:=9) (gM 9 rfl) d9;obtain rfl:=h57;exact bf [(57,_)] hU hmo hme hI hM (gM 10 rfl) rfl rfl (by kernel_rfl) ⟨e57,trivial⟩ (ay rfl) ai.rfl_ (rfl)
   constructor
   ·rintro S L' w13 hU hmo hme hI hM hC hS ⟨d10,-⟩;have hS0:S 42=false:=(au hC (j:=42) rfl (by kernel_rfl) (au hC (j:=41) rfl (by kernel_rfl) (au hC (j:=15) rfl (by kernel_rfl) (au hC (j:=14) rfl (by kernel_rfl) (au hC (j:=13) rfl (by kernel_rfl) (au hC (j:=12) rfl (by kernel_rfl) hS))))));have hM13:=hM.1 hS0;obtain ⟨v13_58,e58,h58⟩:=hI.get (i:=10) (gM 10 rfl) d10;obtain rfl:=h58;exact bf [(58,_)] hU hmo hme hI hM (gM 11 rfl) rfl rfl (by kernel_rfl) ⟨e58,trivial⟩ (aa aN rfl) ai.rfl_ (rfl)
   constructor
   ·rintro S L' w14 hU hmo hme hI hM hC hS ⟨d11,-⟩;have hS0:S 42=false:=(au hC (j:=42) rfl (by kernel_rfl) (au hC (j:=41) rfl (by kernel_rfl) (au hC (j:=15) rfl (by kernel_rfl) (au hC (j:=14) rfl (by kernel_rfl) (au hC (j:=13) rfl (by kernel_rfl) hS)))));have hM14:=hM.1 hS0;obtain ⟨v14_59,e59,h59⟩:=hI.get (i:=11) (gM 11 rfl) d11;obtain rfl:=h59;exact bf [(59,_)] hU hmo hme hI hM (gM 12 rfl) rfl rfl (by kernel_rfl) ⟨e59,trivial⟩ (aa aE rfl) ai.rfl_ (rfl)
   constructor
   ·rintro S L' w15 hU hmo hme hI hM hC hS ⟨d12,-⟩;have hS0:S 42=false:=(au hC (j:=42) rfl (by kernel_rfl) (au hC (j:=41) rfl (by kernel_rfl) (au hC (j:=15) rfl (by kernel_rfl) (au hC (j:=14) rfl (by kernel_rfl) hS))));have hM15:=hM.1 hS0;obtain ⟨v15_60,e60,h60⟩:=hI.get (i:=12) (gM 12 rfl) d12;obtain rfl:=h60;exact bf [(60,_)] hU hmo hme hI hM (gM 13 rfl) rfl rfl (by kernel_rfl) ⟨e60,trivial⟩ (aa bq rfl) ai.rfl_ (rfl)
   constructor
   ·rintro S L' w16 hU hmo hme hI hM hC hS ⟨d13,-⟩;have hS0:S 42=false:=(au hC (j:=42) rfl (by kernel_rfl) (au hC (j:=41) rfl (by kernel_rfl) (au hC (j:=15) rfl (by kernel_rfl) hS)));have hM16:=hM.1 hS0;obtain ⟨v16_61,e61,h61⟩:=hI.get (i:=13) (gM 13 rfl) d13;obtain rfl:=h61;exact bf [(61,_)] hU hmo hme hI hM (gM 14 rfl) rfl rfl (by kernel_rfl) ⟨e61,trivial⟩ (aa kW rfl) ai.rfl_ (rfl)
   constructor
   ·rintro S L' w17 hU hmo hme hI hM hC hS ⟨d14,-⟩;have hS0:S 42=false:=(au hC (j:=42) rfl (by kernel_rfl) (au hC (j:=41) rfl (by kernel_rfl) hS));have hM17:=hM.1 hS0;obtain ⟨v17_62,e62,h62⟩:=hI.get (i:=14) (gM 14 rfl) d14;obtain rfl:=h62;exact bf [(62,_)] hU hmo hme hI hM (gM 15 rfl) rfl rfl (by kernel_rfl) ⟨e62,trivial⟩ (aq an rfl (by exact dO (hb.from_ (ai.rfl_.next hM17)) 7 rfl)) ai.rfl_ (rfl)
   constructor
   ·rintro S L' w18 hU hmo hme hI hM hC hS ⟨-⟩;have hS0:S 42=false:=(au hC (j:=42) rfl (by kernel_rfl) (au hC (j:=41) rfl (by kernel_rfl) hS));have hM18:=hM.1 hS0;have e5:=hI.1 5 (fM rfl);exact bf [(5,_)] hU hmo hme hI hM (gM 16 rfl) rfl rfl (by kernel_rfl) ⟨e5,trivial⟩ (aH (v:=.int _ _) rfl) ai.rfl_ (rfl)
   constructor
   ·rintro S L' w19 hU hmo hme hI hM hC hS ⟨-⟩;have hS0:S 42=false:=(au hC (j:=42) rfl (by kernel_rfl) (au hC (j:=41) rfl (by kernel_rfl) (au hC (j:=25) rfl (by kernel_rfl) (au hC (j:=22) rfl (by kernel_rfl) (au hC (j:=21) rfl (by kernel_rfl) (au hC (j:=20) rfl (by kernel_rfl) (au hC (j:=19) rfl (by kernel_rfl) (au hC (j:=18) rfl (by kernel_rfl) hS))))))));have hM19:=hM.1 hS0;have e0:=hI.1 0 (fM rfl);exact bf [(0,_)] hU hmo hme hI hM (gM 17 rfl) rfl rfl (by kernel_rfl) ⟨e0,trivial⟩ (aH (v:=.pointer _) rfl) ai.rfl_ (rfl)
   constructor
   ·rintro S L' w20 hU hmo hme hI hM hC hS ⟨d17,-⟩;have hS0:S 42=false:=(au hC (j:=42) rfl (by kernel_rfl) (au hC (j:=41) rfl (by kernel_rfl) (au hC (j:=25) rfl (by kernel_rfl) (au hC (j:=22) rfl (by kernel_rfl) (au hC (j:=21) rfl (by kernel_rfl) (au hC (j:=20) rfl (by kernel_rfl) (au hC (j:=19) rfl (by kernel_rfl) hS)))))));have hM20:=hM.1 hS0;obtain ⟨v20_65,e65,h65⟩:=hI.get (i:=17) (gM 17 rfl) d17;obtain rfl:=h65;exact bf [(65,_)] hU hmo hme hI hM (gM 18 rfl) rfl rfl (by kernel_rfl) ⟨e65,trivial⟩ (ay rfl) ai.rfl_ (rfl)
   constructor
   ·rintro S L' w21 hU hmo hme hI hM hC hS ⟨d18,-⟩;have hS0:S 42=false:=(au hC (j:=42) rfl (by kernel_rfl) (au hC (j:=41) rfl (by kernel_rfl) (au hC (j:=25) rfl (by kernel_rfl) (au hC (j:=22) rfl (by kernel_rfl) (au hC (j:=21) rfl (by kernel_rfl) (au hC (j:=20) rfl (by kernel_rfl) hS))))));have hM21:=hM.1 hS0;obtain ⟨v21_66,e66,h66⟩:=hI.get (i:=18) (gM 18 rfl) d18;obtain rfl:=h66;exact bf [(66,_)] hU hmo hme hI hM (gM 19 rfl) rfl rfl (by kernel_rfl) ⟨e66,trivial⟩ (aa aN rfl) ai.rfl_ (rfl)
   constructor
   ·rintro S L' w22 hU hmo hme hI hM hC hS ⟨d19,-⟩;have hS0:S 42=false:=(au hC (j:=42) rfl (by kernel_rfl) (au hC (j:=41) rfl (by kernel_rfl) (au hC (j:=25) rfl (by kernel_rfl) (au hC (j:=22) rfl (by kernel_rfl) (au hC (j:=21) rfl (by kernel_rfl) hS)))));have hM22:=hM.1 hS0;obtain ⟨v22_67,e67,h67⟩:=hI.get (i:=19) (gM 19 rfl) d19;obtain rfl:=h67;exact bf [(67,_)] hU hmo hme hI hM (gM 20 rfl) rfl rfl (by kernel_rfl) ⟨e67,trivial⟩ (aa aE rfl) ai.rfl_ (rfl)
   constructor
   ·rintro S L' w23 hU hmo hme hI hM hC hS ⟨d20,-⟩;have hS0:S 42=false:=(au hC (j:=42) rfl (by kernel_rfl) (au hC (j:=41) rfl (by kernel_rfl) (au hC (j:=25) rfl (by kernel_rfl) (au hC (j:=22) rfl (by kernel_rfl) hS))));have hM23:=hM.1 hS0;obtain ⟨v23_68,e68,h68⟩:=hI.get (i:=20) (gM 20 rfl) d20;obtain rfl:=h68;exact bf [(68,_)] hU hmo hme hI hM (gM 21 rfl) rfl rfl (by kernel_rfl) ⟨e68,trivial⟩ (aa dF rfl) ai.rfl_ (rfl)
   constructor
   ·rintro S L' w24 hU hmo hme hI hM hC hS ⟨d21,-⟩;have hS0:S 42=false:=(au hC (j:=42) rfl (by kernel_rfl) (au hC (j:=41) rfl (by kernel_rfl) (au hC (j:=25) rfl (by kernel_rfl) hS)));have hM24:=hM.1 hS0;obtain ⟨v24_69,e69,h69⟩:=hI.get (i:=21) (gM 21 rfl) d21;obtain rfl:=h69;exact bf [(69,_)] hU hmo hme hI hM (gM 22 rfl) rfl rfl (by kernel_rfl) ⟨e69,trivial⟩ (aq cK rfl (by exact dO (hb.from_ (ai.rfl_.next hM24)) 9 rfl)) ai.rfl_ (rfl)
   constructor
   ·rintro S L' w25 hU hmo hme hI hM hC hS ⟨-⟩;have hS0:S 42=false:=(au hC (j:=42) rfl (by kernel_rfl) (au hC (j:=41) rfl (by kernel_rfl) (au hC (j:=25) rfl (by kernel_rfl) hS)));have hM25:=hM.1 hS0;have e5:=hI.1 5 (fM rfl);exact bf [(5,_)] hU hmo hme hI hM (gM 23 rfl) rfl rfl (by kernel_rfl) ⟨e5,trivial⟩ (aH (v:=.int _ _) rfl) ai.rfl_ (rfl)
   constructor
   ·rintro S L' w26 hU hmo hme hI hM hC hS ⟨-⟩;have hS0:S 42=false:=(au hC (j:=42) rfl (by kernel_rfl) (au hC (j:=41) rfl (by kernel_rfl) (au hC (j:=25) rfl (by kernel_rfl) hS)));have hM26:=hM.1 hS0;have e6:=hI.1 6 (fM rfl);exact bf [(6,_)] hU hmo hme hI hM (gM 24 rfl) rfl rfl (by kernel_rfl) ⟨e6,trivial⟩ (aH (v:=.int _ _) rfl) ai.rfl_ (rfl)
   constructor
   ·rintro S L' w27 hU hmo hme hI hM hC hS ⟨d22,d23,d24,-⟩;have hS0:S 42=false:=(au hC (j:=42) rfl (by kernel_rfl) (au hC (j:=41) rfl (by kernel_rfl) hS));have hM27:=hM.1 hS0;obtain ⟨v27_70,e70,h70⟩:=hI.get (i:=22) (gM 22 rfl) d22;obtain rfl:=h70;obtain ⟨v27_71,e71,h71⟩:=hI.get (i:=23) (gM 23 rfl) d23;obtain rfl:=h71;obtain ⟨v27_72,e72,h72⟩:=hI.get (i:=24) (gM 24 rfl) d24;obtain rfl:=h72;exact bf [(70,_),(71,_),(72,_)] hU hmo hme hI hM (gM 25 rfl) rfl rfl (by kernel_rfl) ⟨e70,e71,e72,trivial⟩ ((sA (l:=na) (h:=min (na+1024) p.s.snap.size) u5 rfl rfl rfl (by omega) (by omega) rfl)) (ai.rfl_) (rfl)
   constructor
   ·rintro S L' w28 hU hmo hme hI hM hC hS ⟨-⟩;have hS0:S 42=false:=(au hC (j:=42) rfl (by kernel_rfl) (au hC (j:=41) rfl (by kernel_rfl) (au hC (j:=34) rfl (by kernel_rfl) hS)));have hM28:=hM.1 hS0;have e6:=hI.1 6 (fM rfl);exact bf [(6,_)] hU hmo hme hI hM (gM 26 rfl) rfl rfl (by kernel_rfl) ⟨e6,trivial⟩ (aH (v:=.int _ _) rfl) ai.rfl_ (rfl)
   constructor
   ·rintro S L' w29 hU hmo hme hI hM hC hS ⟨-⟩;have hS0:S 42=false:=(au hC (j:=42) rfl (by kernel_rfl) (au hC (j:=41) rfl (by kernel_rfl) (au hC (j:=34) rfl (by kernel_rfl) (au hC (j:=33) rfl (by kernel_rfl) (au hC (j:=32) rfl (by kernel_rfl) (au hC (j:=31) rfl (by kernel_rfl) (au hC (j:=30) rfl (by kernel_rfl) (au hC (j:=29) rfl (by kernel_rfl) (au hC (j:=28) rfl (by kernel_rfl) hS)))))))));have hM29:=hM.1 hS0;have e0:=hI.1 0 (fM rfl);exact bf [(0,_)] hU hmo hme hI hM (gM 27 rfl) rfl rfl (by kernel_rfl) ⟨e0,trivial⟩ (aH (v:=.pointer _) rfl) ai.rfl_ (rfl)
   constructor
   ·rintro S L' w30 hU hmo hme hI hM hC hS ⟨d27,-⟩;have hS0:S 42=false:=(au hC (j:=42) rfl (by kernel_rfl) (au hC (j:=41) rfl (by kernel_rfl) (au hC (j:=34) rfl (by kernel_rfl) (au hC (j:=33) rfl (by kernel_rfl) (au hC (j:=32) rfl (by kernel_rfl) (au hC (j:=31) rfl (by kernel_rfl) (au hC (j:=30) rfl (by kernel_rfl) (au hC (j:=29) rfl (by kernel_rfl) hS))))))));have hM30:=hM.1 hS0;obtain ⟨v30_75,e75,h75⟩:=hI.get (i:=27) (gM 27 rfl) d27;obtain rfl:=h75;exact bf [(75,_)] hU hmo hme hI hM (gM 28 rfl) rfl rfl (by kernel_rfl) ⟨e75,trivial⟩ (ay rfl) ai.rfl_ (rfl)
   constructor
   ·rintro S L' w31 hU hmo hme hI hM hC hS ⟨d28,-⟩;have hS0:S 42=false:=(au hC (j:=42) rfl (by kernel_rfl) (au hC (j:=41) rfl (by kernel_rfl) (au hC (j:=34) rfl (by kernel_rfl) (au hC (j:=33) rfl (by kernel_rfl) (au hC (j:=32) rfl (by kernel_rfl) (au hC (j:=31) rfl (by kernel_rfl) (au hC (j:=30) rfl (by kernel_rfl) hS)))))));have hM31:=hM.1 hS0;obtain ⟨v31_76,e76,h76⟩:=hI.get (i:=28) (gM 28 rfl) d28;obtain rfl:=h76;exact bf [(76,_)] hU hmo hme hI hM (gM 29 rfl) rfl rfl (by kernel_rfl) ⟨e76,trivial⟩ (aa aN rfl) ai.rfl_ (rfl)
   constructor
   ·rintro S L' w32 hU hmo hme hI hM hC hS ⟨d29,-⟩;have hS0:S 42=false:=(au hC (j:=42) rfl (by kernel_rfl) (au hC (j:=41) rfl (by kernel_rfl) (au hC (j:=34) rfl (by kernel_rfl) (au hC (j:=33) rfl (by kernel_rfl) (au hC (j:=32) rfl (by kernel_rfl) (au hC (j:=31) rfl (by kernel_rfl) hS))))));have hM32:=hM.1 hS0;obtain ⟨v32_77,e77,h77⟩:=hI.get (i:=29) (gM 29 rfl) d29;obtain rfl:=h77;exact bf [(77,_)] hU hmo hme hI hM (gM 30 rfl) rfl rfl (by kernel_rfl) ⟨e77,trivial⟩ (aa aE rfl) ai.rfl_ (rfl)
   constructor
   ·rintro S L' w33 hU hmo hme hI hM hC hS ⟨d30,-⟩;have hS0:S 42=false:=(au hC (j:=42) rfl (by kernel_rfl) (au hC (j:=41) rfl (by kernel_rfl) (au hC (j:=34) rfl (by kernel_rfl) (au hC (j:=33) rfl (by kernel_rfl) (au hC (j:=32) rfl (by kernel_rfl) hS)))));have hM33:=hM.1 hS0;obtain ⟨v33_78,e78,h78⟩:=hI.get (i:=30) (gM 30 rfl) d30;obtain rfl:=h78;exact bf [(78,_)] hU hmo hme hI hM (gM 31 rfl) rfl rfl (by kernel_rfl) ⟨e78,trivial⟩ (aa dF rfl) ai.rfl_ (rfl)
   constructor
   ·rintro S L' w34 hU hmo hme hI hM hC hS ⟨d31,-⟩;have hS0:S 42=false:=(au hC (j:=42) rfl (by kernel_rfl) (au hC (j:=41) rfl (by kernel_rfl) (au hC (j:=34) rfl (by kernel_rfl) (au hC (j:=33) rfl (by kernel_rfl) hS))));have hM34:=hM.1 hS0;obtain ⟨v34_79,e79,h79⟩:=hI.get (i:=31) (gM 31 rfl) d31;obtain rfl:=h79;exact bf [(79,_)] hU hmo hme hI hM (gM 32 rfl) rfl rfl (by kernel_rfl) ⟨e79,trivial⟩ (aq cK rfl (by exact dO (hb.from_ (ai.rfl_.next hM34)) 9 rfl)) ai.rfl_ (rfl)
   constructor
   ·rintro S L' w35 hU hmo hme hI hM hC hS ⟨d32,-⟩;have hS0:S 42=false:=(au hC (j:=42) rfl (by kernel_rfl) (au hC (j:=41) rfl (by kernel_rfl) (au hC (j:=34) rfl (by kernel_rfl) hS)));have hM35:=hM.1 hS0;obtain ⟨v35_80,e80,h80⟩:=hI.get (i:=32) (gM 32 rfl) d32;obtain rfl:=h80;exact bf [(80,_)] hU hmo hme hI hM (gM 33 rfl) rfl rfl (by kernel_rfl) ⟨e80,trivial⟩ (eG (by kernel_rfl) rfl) ai.rfl_ (rfl)
   constructor
   ·rintro S L' w36 hU hmo hme hI hM hC hS ⟨d26,d33,-⟩;have hS0:S 42=false:=(au hC (j:=42) rfl (by kernel_rfl) (au hC (j:=41) rfl (by kernel_rfl) hS));have hM36:=hM.1 hS0;obtain ⟨v36_74,e74,h74⟩:=hI.get (i:=26) (gM 26 rfl) d26;obtain rfl:=h74;obtain ⟨v36_81,e81,h81⟩:=hI.get (i:=33) (gM 33 rfl) d33;obtain rfl:=h81;exact bf [(74,_),(81,_)] hU hmo hme hI hM (gM 34 rfl) rfl rfl (by kernel_rfl) ⟨e74,e81,trivial⟩ ((iD (bj rfl rfl) (congrArg Value.bool (show (((min (na+1024) p.s.snap.size:Nat):Int)==((p.s.snap.size:Nat):Int))=decide (min (na+1024) p.s.snap.size=p.s.snap.size) by rw [Bool.eq_iff_iff,beq_iff_eq,decide_eq_true_eq];omega)))) (ai.rfl_) (rfl)
   constructor
   ·rintro S L' w37 hU hmo hme hI hM hC hS ⟨-⟩;have hS0:S 42=false:=(au hC (j:=42) rfl (by kernel_rfl) (au hC (j:=41) rfl (by kernel_rfl) (au hC (j:=40) rfl (by kernel_rfl) (au hC (j:=39) rfl (by kernel_rfl) (au hC (j:=38) rfl (by kernel_rfl) (au hC (j:=37) rfl (by kernel_rfl) (au hC (j:=36) rfl (by kernel_rfl) hS)))))));have hM37:=hM.1 hS0;have e0:=hI.1 0 (fM rfl);exact bf [(0,_)] hU hmo hme hI hM (gM 35 rfl) rfl rfl (by kernel_rfl) ⟨e0,trivial⟩ (aH (v:=.pointer _) rfl) ai.rfl_ (rfl)
   constructor
   ·rintro S L' w38 hU hmo hme hI hM hC hS ⟨d35,-⟩;have hS0:S 42=false:=(au hC (j:=42) rfl (by kernel_rfl) (au hC (j:=41) rfl (by kernel_rfl) (au hC (j:=40) rfl (by kernel_rfl) (au hC (j:=39) rfl (by kernel_rfl) (au hC (j:=38) rfl (by kernel_rfl) (au hC (j:=37) rfl (by kernel_rfl) hS))))));have hM38:=hM.1 hS0;obtain ⟨v38_83,e83,h83⟩:=hI.get (i:=35) (gM 35 rfl) d35;obtain rfl:=h83;exact bf [(83,_)] hU hmo hme hI hM (gM 36 rfl) rfl rfl (by kernel_rfl) ⟨e83,trivial⟩ (ay rfl) ai.rfl_ (rfl)
   constructor
   ·rintro S L' w39 hU hmo hme hI hM hC hS ⟨d36,-⟩;have hS0:S 42=false:=(au hC (j:=42) rfl (by kernel_rfl) (au hC (j:=41) rfl (by kernel_rfl) (au hC (j:=40) rfl (by kernel_rfl) (au hC (j:=39) rfl (by kernel_rfl) (au hC (j:=38) rfl (by kernel_rfl) hS)))));have hM39:=hM.1 hS0;obtain ⟨v39_84,e84,h84⟩:=hI.get (i:=36) (gM 36 rfl) d36;obtain rfl:=h84;exact bf [(84,_)] hU hmo hme hI hM (gM 37 rfl) rfl rfl (by kernel_rfl) ⟨e84,trivial⟩ (aa aN rfl) ai.rfl_ (rfl)
   constructor
   ·rintro S L' w40 hU hmo hme hI hM hC hS ⟨d37,-⟩;have hS0:S 42=false:=(au hC (j:=42) rfl (by kernel_rfl) (au hC (j:=41) rfl (by kernel_rfl) (au hC (j:=40) rfl (by kernel_rfl) (au hC (j:=39) rfl (by kernel_rfl) hS))));have hM40:=hM.1 hS0;obtain ⟨v40_85,e85,h85⟩:=hI.get (i:=37) (gM 37 rfl) d37;obtain rfl:=h85;exact bf [(85,_)] hU hmo hme hI hM (gM 38 rfl) rfl rfl (by kernel_rfl) ⟨e85,trivial⟩ (aa aE rfl) ai.rfl_ (rfl)
   constructor
   ·rintro S L' w41 hU hmo hme hI hM hC hS ⟨d38,-⟩;have hS0:S 42=false:=(au hC (j:=42) rfl (by kernel_rfl) (au hC (j:=41) rfl (by kernel_rfl) (au hC (j:=40) rfl (by kernel_rfl) hS)));have hM41:=hM.1 hS0;obtain ⟨v41_86,e86,h86⟩:=hI.get (i:=38) (gM 38 rfl) d38;obtain rfl:=h86;exact bf [(86,_)] hU hmo hme hI hM (gM 39 rfl) rfl rfl (by kernel_rfl) ⟨e86,trivial⟩ (aa dA rfl) ai.rfl_ (rfl)
   constructor
   ·rintro S L' w42 hU hmo hme hI hM hC hS ⟨d39,-⟩;have hS0:S 42=false:=(au hC (j:=42) rfl (by kernel_rfl) (au hC (j:=41) rfl (by kernel_rfl) hS));have hM42:=hM.1 hS0;obtain ⟨v42_87,e87,h87⟩:=hI.get (i:=39) (gM 39 rfl) d39;obtain rfl:=h87;exact bf [(87,_)] hU hmo hme hI hM (gM 40 rfl) rfl rfl (by kernel_rfl) ⟨e87,trivial⟩ (aq an rfl (by exact dO (hb.from_ (ai.rfl_.next hM42)) 18 rfl)) ai.rfl_ (rfl)
   constructor
   ·rintro S L' w43 hU hmo hme hI hM hC hS ⟨d8,d15,d16,d25,d34,d40,-⟩;have hS0:S 42=false:=(au hC (j:=42) rfl (by kernel_rfl) hS);have hM43:=hM.1 hS0;obtain ⟨v43_56,e56,h56⟩:=hI.get (i:=8) (gM 8 rfl) d8;obtain rfl:=h56;obtain ⟨v43_63,e63,h63⟩:=hI.get (i:=15) (gM 15 rfl) d15;obtain rfl:=h63;obtain ⟨v43_64,e64,h64⟩:=hI.get (i:=16) (gM 16 rfl) d16;obtain rfl:=h64;obtain ⟨v43_73,e73,h73⟩:=hI.get (i:=25) (gM 25 rfl) d25;obtain rfl:=h73;obtain ⟨v43_82,e82,h82⟩:=hI.get (i:=34) (gM 34 rfl) d34;obtain rfl:=h82;obtain ⟨v43_88,e88,h88⟩:=hI.get (i:=40) (gM 40 rfl) d40;obtain rfl:=h88;exact bf [(56,_),(63,_),(64,_),(73,_),(82,_),(88,_)] hU hmo hme hI hM (gM 41 rfl) rfl rfl (by kernel_rfl) ⟨e56,e63,e64,e73,e82,e88,trivial⟩ (cp (l:=[(0,.const (.int .i64 5)),(4,.tmp 56),(5,.tmp 63),(10,.tmp 64),(11,.tmp 73),(12,.tmp 82),(7,.tmp 88)]) (gy _ _ _ _ _ _)) ai.rfl_ (rfl)
   constructor
   ·rintro S L' w44 hU hmo hme hI hM hC hS ⟨d0,d1,d41,-⟩;have hS0:S 42=false:=hS;have hM44:=hM.1 hS0;obtain ⟨v44_48,e48,h48⟩:=hI.get (i:=0) (.head _) d0;obtain rfl:=h48;obtain ⟨v44_49,e49,h49⟩:=hI.get (i:=1) (.tail _ (.head _)) d1;obtain rfl:=h49;obtain ⟨v44_89,e89,h89⟩:=hI.get (i:=41) (gM 41 rfl) d41;obtain rfl:=h89;refine jZ (al:=[.tmp 48,.tmp 49,.tmp 89]) [(48,_),(49,_),(89,_)] hU hI (gM 42 rfl) (by kernel_rfl) ⟨e48,e49,e89,trivial⟩ fj ((j8 w0 Z T g p _ (h.from_ (ai.rfl_.next hM44)) tag _ O oc L (hs.from_ (ai.rfl_.next hM44)) (by omega) { zM with k:=5,ix:=p.s.b,lt:=p.s.t,rd:=p.s.round,a:=(na:Int),d:=p.s.snap.extract na (min (na+1024) p.s.snap.size),dn:=decide (min (na+1024) p.s.snap.size=p.s.snap.size) } ((k:Int)+1) ⟨c6,Col.none⟩).mono ?_);rintro v9 w2 ⟨rfl,hS2⟩;exact ⟨⟨fun h0=>(by rw [ny] at h0;cases h0),fun _=>hS2⟩,rfl,⟨fun _ _ _ h=>h,fun _ _ _ h=>h,fun _ _ _ h=>h,fun _ _ _ h=>h,fun _ _ _ h=>h,fun _ _ _ h=>h,fun _ _ _ h=>h,fun _ _ _ h=>h,fun _ _ _ h=>h,fun _ _ _ h=>h,fun _ _ _ h=>h,fun _ _ _ h=>h,fun _ _ _ h=>h,fun _ _ _ h=>h,fun _ _ _ h=>h,fun _ _ _ h=>h,fun _ _ _ h=>h,fun _ _ _ h=>h,fun _ _ _ h=>h,fun _ _ _ h=>h,fun _ _ _ h=>h,fun _ _ _ h=>h,fun _ _ _ h=>h,fun _ _ _ h=>h,fun _ _ _ h=>h,fun _ _ _ h=>h,fun _ _ _ h=>h,fun _ _ _ h=>h,fun _ _ _ h=>h,fun _ _ _ h=>h,fun _ _ _ h=>h,fun _ _ _ h=>h,fun _ _ _ h=>h,fun _ _ _ h=>h,fun _ _ _ h=>h,fun _ _ _ h=>h,fun _ _ _ h=>h,fun _ _ _ h=>h,fun _ _ _ h=>h,fun _ _ _ h=>h,fun _ _ _ h=>h,fun _ _ _ h=>h,fun _ _ _ h=>h,trivial⟩⟩
   exact trivial
  case hend=>
   intro w45 hM;obtain hS9:=hM.2 rfl;rintro v45_48 rfl v45_49 rfl v45_50 rfl v45_51 rfl v45_52 rfl v45_53 rfl v45_54 rfl v45_55 rfl v45_56 rfl v45_57 rfl v45_58 rfl v45_59 rfl v45_60 rfl v45_61 rfl v45_62 rfl v45_63 rfl v45_64 rfl v45_65 rfl v45_66 rfl v45_67 rfl v45_68 rfl v45_69 rfl v45_70 rfl v45_71 rfl v45_72 rfl v45_73 rfl v45_74 rfl v45_75 rfl v45_76 rfl v45_77 rfl v45_78 rfl v45_79 rfl v45_80 rfl v45_81 rfl v45_82 rfl v45_83 rfl v45_84 rfl v45_85 rfl v45_86 rfl v45_87 rfl v45_88 rfl v45_89 rfl v45_90 rfl;refine jd (af (aC (az (ey rfl ?_))))
   have e9:p.send ((k:Int)+1)=p.tell (pl { ({ zM with k:=5,ix:=p.s.b,lt:=p.s.t,rd:=p.s.round,a:=(na:Int),d:=p.s.snap.extract na (min (na+1024) p.s.snap.size),dn:=decide (min (na+1024) p.s.snap.size=p.s.snap.size) }:Msg) with t:=(k:Int)+1 }):=by
    unfold Sp.send;rw [sy (by rw [hpn];omega) (by rw [hpx,hna])];rfl
   rw [e9];exact ⟨rfl,hS9⟩
 refine aM (af (ak (ag (mvp rfl (ab (ay rfl) (ab (aa aN rfl) (ab (aa aE rfl) (ab (aa bq rfl) (ab (aG (cs:=[.int .i64 p.s.b,.int .i64 p.s.t,.slice E p.s.es.length Ec]) bB bd rfl (fB (hb.from_ ai.rfl_))) (mvi rfl ?_))))))))));have hB98:ai w w:=ai.rfl_;have hz98:=hB98.size;refine aB r4 (yQ p.s.b p.s.t p.s.next[k] E p.s.es.length Ec p.s.es _ (he.from_ ai.rfl_) hF.lg (by omega)) ?_;rintro v99 w46 ⟨⟨A99,c99,rfl,ho99⟩,E99⟩;have hs9:=hs.new hzw (ai.rfl_.next E99) (1000+2*L.length);have hc9:Col (fI w.heap.size (1000+2*L.length) tag) (1000+2*L.length) A99:=fun q hq=>dY (by have:=(fe ho99 q hq).1;omega)
 have h9:=h.from_ (ai.rfl_.next E99);refine mvt rfl (ab (aY rfl rfl) (ab (aY rfl rfl) (ass rfl (asi rfl (aj (af ?_))))));apply nK [(0,102,fun _ v _=>v=_),(1,103,fun _ v _=>v=_),(2,104,fun _ v _=>v=_),(3,105,fun _ v _=>v=_),(4,106,fun _ v _=>v=_),(5,107,fun _ v _=>v=_),(6,108,fun _ v _=>v=_),(7,109,fun _ v _=>v=_),(8,110,fun _ v _=>v=_),(9,111,fun _ v _=>v=_),(10,112,fun _ v _=>v=_),(11,113,fun _ v _=>v=_),(12,114,fun _ v _=>v=_),(13,115,fun _ v _=>v=_),(14,116,fun _ v _=>v=_),(15,117,fun _ v _=>v=_),(16,118,fun _ v _=>v=_),(17,119,fun _ v _=>v=_),(18,120,fun _ v _=>v=_),(19,121,fun _ v _=>v=_),(20,122,fun _ v _=>v=_),(21,123,fun _ v _=>v=_),(22,124,fun _ v _=>v=_),(23,125,fun _ v _=>v=_),(24,126,fun _ v _=>v=_)] [24] (fun S w'=>(S 24=false→ai w46 w')∧(S 24=true→a_ w0 Z w' T g (p.tell (pl { ({ zM with k:=3,ix:=p.s.next[k]-1,lt:=er p.s.b p.s.t p.s.es (p.s.next[k]-1),cm:=p.s.commit,rd:=p.s.round,E:=A99,c:=c99,es:=(p.s.es.drop (p.s.next[k]-p.s.b-1).toNat).take 16 }:Msg) with t:=(k:Int)+1 })))) (by kernel_rfl) (by kernel_rfl) rfl rfl ⟨fun _ _ _ _ _ _ _ h=>h,fun _ _ _ _ _ _ _ h=>h,fun _ _ _ _ _ _ _ h=>h,fun _ _ _ _ _ _ _ h=>h,fun _ _ _ _ _ _ _ h=>h,fun _ _ _ _ _ _ _ h=>h,fun _ _ _ _ _ _ _ h=>h,fun _ _ _ _ _ _ _ h=>h,fun _ _ _ _ _ _ _ h=>h,fun _ _ _ _ _ _ _ h=>h,fun _ _ _ _ _ _ _ h=>h,fun _ _ _ _ _ _ _ h=>h,fun _ _ _ _ _ _ _ h=>h,fun _ _ _ _ _ _ _ h=>h,fun _ _ _ _ _ _ _ h=>h,fun _ _ _ _ _ _ _ h=>h,fun _ _ _ _ _ _ _ h=>h,fun _ _ _ _ _ _ _ h=>h,fun _ _ _ _ _ _ _ h=>h,fun _ _ _ _ _ _ _ h=>h,fun _ _ _ _ _ _ _ h=>h,fun _ _ _ _ _ _ _ h=>h,fun _ _ _ _ _ _ _ h=>h,fun _ _ _ _ _ _ _ h=>h,fun _ _ _ _ _ _ _ h=>h,trivial⟩ (fun S i w1 w2 hq hF h=>⟨fun h0=>(h.1 (o3 h0)).next hF,fun h1=>(fun h=>h.from_ hF) (h.2 (o1 (show 24≠i by rintro rfl;exact absurd hq (by decide)) h1))⟩) ⟨fun _=>ai.rfl_.d1,fun h=>by cases h⟩
 case hstep=>
  constructor
  ·rintro S L' w47 hU hmo hme hI hM hC hS ⟨-⟩;have hS0:S 24=false:=(au hC (j:=24) rfl (by kernel_rfl) hS);have hM47:=hM.1 hS0;have e0:=hI.1 0 (fM rfl);exact bf [(0,_)] hU hmo hme hI hM (.head _) rfl rfl (by kernel_rfl) ⟨e0,trivial⟩ (aH (v:=.pointer _) rfl) ai.rfl_ (rfl)
  constructor
  ·rintro S L' w48 hU hmo hme hI hM hC hS ⟨-⟩;have hS0:S 24=false:=(au hC (j:=24) rfl (by kernel_rfl) hS);have hM48:=hM.1 hS0;have e1:=hI.1 1 (fM rfl);exact bf [(1,_)] hU hmo hme hI hM (.tail _ (.head _)) rfl rfl (by kernel_rfl) ⟨e1,trivial⟩ (aH (v:=.int _ _) rfl) ai.rfl_ (rfl)
  constructor
  ·rintro S L' w49 hU hmo hme hI hM hC hS ⟨-⟩;have hS0:S 24=false:=(au hC (j:=24) rfl (by kernel_rfl) (au hC (j:=23) rfl (by kernel_rfl) (au hC (j:=3) rfl (by kernel_rfl) hS)));have hM49:=hM.1 hS0;have e4:=hI.1 4 (fM rfl);exact bf [(4,_)] hU hmo hme hI hM (gM 2 rfl) rfl rfl (by kernel_rfl) ⟨e4,trivial⟩ (aH (v:=.int _ _) rfl) ai.rfl_ (rfl)
  constructor
  ·rintro S L' w50 hU hmo hme hI hM hC hS ⟨d2,-⟩;have hS0:S 24=false:=(au hC (j:=24) rfl (by kernel_rfl) (au hC (j:=23) rfl (by kernel_rfl) hS));have hM50:=hM.1 hS0;obtain ⟨v50_104,e104,h104⟩:=hI.get (i:=2) (gM 2 rfl) d2;obtain rfl:=h104;exact bf [(104,_)] hU hmo hme hI hM (gM 3 rfl) rfl rfl (by kernel_rfl) ⟨e104,trivial⟩ (eA rfl rfl (by omega)) ai.rfl_ (rfl)
  constructor
  ·rintro S L' w51 hU hmo hme hI hM hC hS ⟨-⟩;have hS0:S 24=false:=(au hC (j:=24) rfl (by kernel_rfl) (au hC (j:=23) rfl (by kernel_rfl) (au hC (j:=9) rfl (by kernel_rfl) (au hC (j:=6) rfl (by kernel_rfl) (au hC (j:=5) rfl (by kernel_rfl) hS)))));have hM51:=hM.1 hS0;have e0:=hI.1 0 (fM rfl);exact bf [(0,_)] hU hmo hme hI hM (gM 4 rfl) rfl rfl (by kernel_rfl) ⟨e0,trivial⟩ (aH (v:=.pointer _) rfl) ai.rfl_ (rfl)
  constructor
  ·rintro S L' w52 hU hmo hme hI hM hC hS ⟨d4,-⟩;have hS0:S 24=false:=(au hC (j:=24) rfl (by kernel_rfl) (au hC (j:=23) rfl (by kernel_rfl) (au hC (j:=9) rfl (by kernel_rfl) (au hC (j:=6) rfl (by kernel_rfl) hS))));have hM52:=hM.1 hS0;obtain ⟨v52_106,e106,h106⟩:=hI.get (i:=4) (gM 4 rfl) d4;obtain rfl:=h106;exact bf [(106,_)] hU hmo hme hI hM (gM 5 rfl) rfl rfl (by kernel_rfl) ⟨e106,trivial⟩ (ay rfl) ai.rfl_ (rfl)
  constructor
  ·rintro S L' w53 hU hmo hme hI hM hC hS ⟨d5,-⟩;have hS0:S 24=false:=(au hC (j:=24) rfl (by kernel_rfl) (au hC (j:=23) rfl (by kernel_rfl) (au hC (j:=9) rfl (by kernel_rfl) hS)));have hM53:=hM.1 hS0;obtain ⟨v53_107,e107,h107⟩:=hI.get (i:=5) (gM 5 rfl) d5;obtain rfl:=h107;exact bf [(107,_)] hU hmo hme hI hM (gM 6 rfl) rfl rfl (by kernel_rfl) ⟨e107,trivial⟩ (aa aN rfl) ai.rfl_ (rfl)
  constructor
  ·rintro S L' w54 hU hmo hme hI hM hC hS ⟨-⟩;have hS0:S 24=false:=(au hC (j:=24) rfl (by kernel_rfl) (au hC (j:=23) rfl (by kernel_rfl) (au hC (j:=9) rfl (by kernel_rfl) (au hC (j:=8) rfl (by kernel_rfl) hS))));have hM54:=hM.1 hS0;have e4:=hI.1 4 (fM rfl);exact bf [(4,_)] hU hmo hme hI hM (gM 7 rfl) rfl rfl (by kernel_rfl) ⟨e4,trivial⟩ (aH (v:=.int _ _) rfl) ai.rfl_ (rfl)
  constructor
  ·rintro S L' w55 hU hmo hme hI hM hC hS ⟨d7,-⟩;have hS0:S 24=false:=(au hC (j:=24) rfl (by kernel_rfl) (au hC (j:=23) rfl (by kernel_rfl) (au hC (j:=9) rfl (by kernel_rfl) hS)));have hM55:=hM.1 hS0;obtain ⟨v55_109,e109,h109⟩:=hI.get (i:=7) (gM 7 rfl) d7;obtain rfl:=h109;exact bf [(109,_)] hU hmo hme hI hM (gM 8 rfl) rfl rfl (by kernel_rfl) ⟨e109,trivial⟩ (eA rfl rfl (by omega)) ai.rfl_ (rfl)
  constructor
  ·rintro S L' w56 hU hmo hme hI hM hC hS ⟨d6,d8,-⟩;have hS0:S 24=false:=(au hC (j:=24) rfl (by kernel_rfl) hS);have hM56:=hM.1 hS0;obtain ⟨v56_108,e108,h108⟩:=hI.get (i:=6) (gM 6 rfl) d6;obtain rfl:=h108;obtain ⟨v56_110,e110,h110⟩:=hI.get (i:=8) (gM 8 rfl) d8;obtain rfl:=h110;refine jY (al:=[.tmp 108,.tmp 110]) [(108,_),(110,_)] hU hmo hme hI hM (gM 9 rfl) rfl (by kernel_rfl) ⟨e108,e110,trivial⟩ oT ((qS T g p.s _ _ _ (hb.from_ ((ai.rfl_.next E99).next hM56)) (he.from_ ((ai.rfl_.next E99).next hM56)) hF.lg (p.s.next[k]-1) (by omega)).mono ?_);rintro v w2 ⟨rfl,E56'⟩;exact ⟨E56',rfl⟩
  constructor
  ·rintro S L' w57 hU hmo hme hI hM hC hS ⟨-⟩;have hS0:S 24=false:=(au hC (j:=24) rfl (by kernel_rfl) (au hC (j:=23) rfl (by kernel_rfl) (au hC (j:=15) rfl (by kernel_rfl) (au hC (j:=14) rfl (by kernel_rfl) (au hC (j:=13) rfl (by kernel_rfl) (au hC (j:=12) rfl (by kernel_rfl) (au hC (j:=11) rfl (by kernel_rfl) hS)))))));have hM57:=hM.1 hS0;have e0:=hI.1 0 (fM rfl);exact bf [(0,_)] hU hmo hme hI hM (gM 10 rfl) rfl rfl (by kernel_rfl) ⟨e0,trivial⟩ (aH (v:=.pointer _) rfl) ai.rfl_ (rfl)
  constructor
  ·rintro S L' w58 hU hmo hme hI hM hC hS ⟨d10,-⟩;have hS0:S 24=false:=(au hC (j:=24) rfl (by kernel_rfl) (au hC (j:=23) rfl (by kernel_rfl) (au hC (j:=15) rfl (by kernel_rfl) (au hC (j:=14) rfl (by kernel_rfl) (au hC (j:=13) rfl (by kernel_rfl) (au hC (j:=12) rfl (by kernel_rfl) hS))))));have hM58:=hM.1 hS0;obtain ⟨v58_112,e112,h112⟩:=hI.get (i:=10) (gM 10 rfl) d10;obtain rfl:=h112;exact bf [(112,_)] hU hmo hme hI hM (gM 11 rfl) rfl rfl (by kernel_rfl) ⟨e112,trivial⟩ (ay rfl) ai.rfl_ (rfl)
  constructor
  ·rintro S L' w59 hU hmo hme hI hM hC hS ⟨d11,-⟩;have hS0:S 24=false:=(au hC (j:=24) rfl (by kernel_rfl) (au hC (j:=23) rfl (by kernel_rfl) (au hC (j:=15) rfl (by kernel_rfl) (au hC (j:=14) rfl (by kernel_rfl) (au hC (j:=13) rfl (by kernel_rfl) hS)))));have hM59:=hM.1 hS0;obtain ⟨v59_113,e113,h113⟩:=hI.get (i:=11) (gM 11 rfl) d11;obtain rfl:=h113;exact bf [(113,_)] hU hmo hme hI hM (gM 12 rfl) rfl rfl (by kernel_rfl) ⟨e113,trivial⟩ (aa aN rfl) ai.rfl_ (rfl)
  constructor
  ·rintro S L' w60 hU hmo hme hI hM hC hS ⟨d12,-⟩;have hS0:S 24=false:=(au hC (j:=24) rfl (by kernel_rfl) (au hC (j:=23) rfl (by kernel_rfl) (au hC (j:=15) rfl (by kernel_rfl) (au hC (j:=14) rfl (by kernel_rfl) hS))));have hM60:=hM.1 hS0;obtain ⟨v60_114,e114,h114⟩:=hI.get (i:=12) (gM 12 rfl) d12;obtain rfl:=h114;exact bf [(114,_)] hU hmo hme hI hM (gM 13 rfl) rfl rfl (by kernel_rfl) ⟨e114,trivial⟩ (aa aE rfl) ai.rfl_ (rfl)
  constructor
  ·rintro S L' w61 hU hmo hme hI hM hC hS ⟨d13,-⟩;have hS0:S 24=false:=(au hC (j:=24) rfl (by kernel_rfl) (au hC (j:=23) rfl (by kernel_rfl) (au hC (j:=15) rfl (by kernel_rfl) hS)));have hM61:=hM.1 hS0;obtain ⟨v61_115,e115,h115⟩:=hI.get (i:=13) (gM 13 rfl) d13;obtain rfl:=h115;exact bf [(115,_)] hU hmo hme hI hM (gM 14 rfl) rfl rfl (by kernel_rfl) ⟨e115,trivial⟩ (aa dr rfl) ai.rfl_ (rfl)
  constructor
  ·rintro S L' w62 hU hmo hme hI hM hC hS ⟨d14,-⟩;have hS0:S 24=false:=(au hC (j:=24) rfl (by kernel_rfl) (au hC (j:=23) rfl (by kernel_rfl) hS));have hM62:=hM.1 hS0;obtain ⟨v62_116,e116,h116⟩:=hI.get (i:=14) (gM 14 rfl) d14;obtain rfl:=h116;exact bf [(116,_)] hU hmo hme hI hM (gM 15 rfl) rfl rfl (by kernel_rfl) ⟨e116,trivial⟩ (aq an rfl (by exact dO (hb.from_ ((ai.rfl_.next E99).next hM62)) 10 rfl)) ai.rfl_ (rfl)
  constructor
  ·rintro S L' w63 hU hmo hme hI hM hC hS ⟨-⟩;have hS0:S 24=false:=(au hC (j:=24) rfl (by kernel_rfl) (au hC (j:=23) rfl (by kernel_rfl) hS));have hM63:=hM.1 hS0;have e7:=hI.1 7 (fM rfl);exact bf [(7,_)] hU hmo hme hI hM (gM 16 rfl) rfl rfl (by kernel_rfl) ⟨e7,trivial⟩ (aH (v:=.slice _ _ _) rfl) ai.rfl_ (rfl)
  constructor
  ·rintro S L' w64 hU hmo hme hI hM hC hS ⟨-⟩;have hS0:S 24=false:=(au hC (j:=24) rfl (by kernel_rfl) (au hC (j:=23) rfl (by kernel_rfl) (au hC (j:=22) rfl (by kernel_rfl) (au hC (j:=21) rfl (by kernel_rfl) (au hC (j:=20) rfl (by kernel_rfl) (au hC (j:=19) rfl (by kernel_rfl) (au hC (j:=18) rfl (by kernel_rfl) hS)))))));have hM64:=hM.1 hS0;have e0:=hI.1 0 (fM rfl);exact bf [(0,_)] hU hmo hme hI hM (gM 17 rfl) rfl rfl (by kernel_rfl) ⟨e0,trivial⟩ (aH (v:=.pointer _) rfl) ai.rfl_ (rfl)
  constructor
  ·rintro S L' w65 hU hmo hme hI hM hC hS ⟨d17,-⟩;have hS0:S 24=false:=(au hC (j:=24) rfl (by kernel_rfl) (au hC (j:=23) rfl (by kernel_rfl) (au hC (j:=22) rfl (by kernel_rfl) (au hC (j:=21) rfl (by kernel_rfl) (au hC (j:=20) rfl (by kernel_rfl) (au hC (j:=19) rfl (by kernel_rfl) hS))))));have hM65:=hM.1 hS0;obtain ⟨v65_119,e119,h119⟩:=hI.get (i:=17) (gM 17 rfl) d17;obtain rfl:=h119;exact bf [(119,_)] hU hmo hme hI hM (gM 18 rfl) rfl rfl (by kernel_rfl) ⟨e119,trivial⟩ (ay rfl) ai.rfl_ (rfl)
  constructor
  ·rintro S L' w66 hU hmo hme hI hM hC hS ⟨d18,-⟩;have hS0:S 24=false:=(au hC (j:=24) rfl (by kernel_rfl) (au hC (j:=23) rfl (by kernel_rfl) (au hC (j:=22) rfl (by kernel_rfl) (au hC (j:=21) rfl (by kernel_rfl) (au hC (j:=20) rfl (by kernel_rfl) hS)))));have hM66:=hM.1 hS0;obtain ⟨v66_120,e120,h120⟩:=hI.get (i:=18) (gM 18 rfl) d18;obtain rfl:=h120;exact bf [(120,_)] hU hmo hme hI hM (gM 19 rfl) rfl rfl (by kernel_rfl) ⟨e120,trivial⟩ (aa aN rfl) ai.rfl_ (rfl)
  constructor
  ·rintro S L' w67 hU hmo hme hI hM hC hS ⟨d19,-⟩;have hS0:S 24=false:=(au hC (j:=24) rfl (by kernel_rfl) (au hC (j:=23) rfl (by kernel_rfl) (au hC (j:=22) rfl (by kernel_rfl) (au hC (j:=21) rfl (by kernel_rfl) hS))));have hM67:=hM.1 hS0;obtain ⟨v67_121,e121,h121⟩:=hI.get (i:=19) (gM 19 rfl) d19;obtain rfl:=h121;exact bf [(121,_)] hU hmo hme hI hM (gM 20 rfl) rfl rfl (by kernel_rfl) ⟨e121,trivial⟩ (aa aE rfl) ai.rfl_ (rfl)
  constructor
  ·rintro S L' w68 hU hmo hme hI hM hC hS ⟨d20,-⟩;have hS0:S 24=false:=(au hC (j:=24) rfl (by kernel_rfl) (au hC (j:=23) rfl (by kernel_rfl) (au hC (j:=22) rfl (by kernel_rfl) hS)));have hM68:=hM.1 hS0;obtain ⟨v68_122,e122,h122⟩:=hI.get (i:=20) (gM 20 rfl) d20;obtain rfl:=h122;exact bf [(122,_)] hU hmo hme hI hM (gM 21 rfl) rfl rfl (by kernel_rfl) ⟨e122,trivial⟩ (aa dA rfl) ai.rfl_ (rfl)
  constructor
  ·rintro S L' w69 hU hmo hme hI hM hC hS ⟨d21,-⟩;have hS0:S 24=false:=(au hC (j:=24) rfl (by kernel_rfl) (au hC (j:=23) rfl (by kernel_rfl) hS));have hM69:=hM.1 hS0;obtain ⟨v69_123,e123,h123⟩:=hI.get (i:=21) (gM 21 rfl) d21;obtain rfl:=h123;exact bf [(123,_)] hU hmo hme hI hM (gM 22 rfl) rfl rfl (by kernel_rfl) ⟨e123,trivial⟩ (aq an rfl (by exact dO (hb.from_ ((ai.rfl_.next E99).next hM69)) 18 rfl)) ai.rfl_ (rfl)
  constructor
  ·rintro S L' w70 hU hmo hme hI hM hC hS ⟨d3,d9,d15,d16,d22,-⟩;have hS0:S 24=false:=(au hC (j:=24) rfl (by kernel_rfl) hS);have hM70:=hM.1 hS0;obtain ⟨v70_105,e105,h105⟩:=hI.get (i:=3) (gM 3 rfl) d3;obtain rfl:=h105;obtain ⟨v70_111,e111,h111⟩:=hI.get (i:=9) (gM 9 rfl) d9;obtain rfl:=h111;obtain ⟨v70_117,e117,h117⟩:=hI.get (i:=15) (gM 15 rfl) d15;obtain rfl:=h117;obtain ⟨v70_118,e118,h118⟩:=hI.get (i:=16) (gM 16 rfl) d16;obtain rfl:=h118;obtain ⟨v70_124,e124,h124⟩:=hI.get (i:=22) (gM 22 rfl) d22;obtain rfl:=h124;exact bf [(105,_),(111,_),(117,_),(118,_),(124,_)] hU hmo hme hI hM (gM 23 rfl) rfl rfl (by kernel_rfl) ⟨e105,e111,e117,e118,e124,trivial⟩ (cp (l:=[(0,.const (.int .i64 3)),(4,.tmp 105),(5,.tmp 111),(6,.tmp 117),(9,.tmp 118),(7,.tmp 124)]) (ia _ _ _ _ _ _ _)) ai.rfl_ (rfl)
  constructor
  ·rintro S L' w71 hU hmo hme hI hM hC hS ⟨d0,d1,d23,d9,-⟩;have hS0:S 24=false:=hS;have hM71:=hM.1 hS0;obtain ⟨v71_102,e102,h102⟩:=hI.get (i:=0) (.head _) d0;obtain rfl:=h102;obtain ⟨v71_103,e103,h103⟩:=hI.get (i:=1) (.tail _ (.head _)) d1;obtain rfl:=h103;obtain ⟨v71_125,e125,h125⟩:=hI.get (i:=23) (gM 23 rfl) d23;obtain rfl:=h125;refine jZ (al:=[.tmp 102,.tmp 103,.tmp 125]) [(102,_),(103,_),(125,_)] hU hI (gM 24 rfl) (by kernel_rfl) ⟨e102,e103,e125,trivial⟩ fj ((j8 w0 Z T g p _ (h9.from_ (ai.rfl_.next hM71)) _ _ O oc L (hs9.from_ (ai.rfl_.next hM71)) (by omega) { zM with k:=3,ix:=p.s.next[k]-1,lt:=er p.s.b p.s.t p.s.es (p.s.next[k]-1),cm:=p.s.commit,rd:=p.s.round,E:=A99,c:=c99,es:=(p.s.es.drop (p.s.next[k]-p.s.b-1).toNat).take 16 } ((k:Int)+1) ⟨eU (ho99.kept_from (ai.rfl_.next hM71)) (Nat.zero_le _),hc9⟩).mono ?_);rintro v9 w2 ⟨rfl,hS2⟩;exact ⟨⟨fun h0=>(by rw [ny] at h0;cases h0),fun _=>hS2⟩,rfl,⟨fun _ _ _ h=>h,fun _ _ _ h=>h,fun _ _ _ h=>h,fun _ _ _ h=>h,fun _ _ _ h=>h,fun _ _ _ h=>h,fun _ _ _ h=>h,fun _ _ _ h=>h,fun _ _ _ h=>h,fun _ _ _ h=>h,fun _ _ _ h=>h,fun _ _ _ h=>h,fun _ _ _ h=>h,fun _ _ _ h=>h,fun _ _ _ h=>h,fun _ _ _ h=>h,fun _ _ _ h=>h,fun _ _ _ h=>h,fun _ _ _ h=>h,fun _ _ _ h=>h,fun _ _ _ h=>h,fun _ _ _ h=>h,fun _ _ _ h=>h,fun _ _ _ h=>h,fun _ _ _ h=>h,trivial⟩⟩
  exact trivial
 case hend=>
  intro w72 hM;obtain hS9:=hM.2 rfl;rintro v72_102 rfl v72_103 rfl v72_104 rfl v72_105 rfl v72_106 rfl v72_107 rfl v72_108 rfl v72_109 rfl v72_110 rfl v72_111 rfl v72_112 rfl v72_113 rfl v72_114 rfl v72_115 rfl v72_116 rfl v72_117 rfl v72_118 rfl v72_119 rfl v72_120 rfl v72_121 rfl v72_122 rfl v72_123 rfl v72_124 rfl v72_125 rfl v72_126 rfl;refine jd (cR (ey rfl ?_))
  have e9:p.send ((k:Int)+1)=p.tell (pl { ({ zM with k:=3,ix:=p.s.next[k]-1,lt:=er p.s.b p.s.t p.s.es (p.s.next[k]-1),cm:=p.s.commit,rd:=p.s.round,E:=A99,c:=c99,es:=(p.s.es.drop (p.s.next[k]-p.s.b-1).toNat).take 16 }:Msg) with t:=(k:Int)+1 }):=by
   unfold Sp.send;rw [uy (by rw [hpn];omega),hpn];rfl
  rw [e9];exact ⟨rfl,hS9⟩
theorem oQ:aR prog 77=true:=by kernel_rfl
theorem tc:aR prog 78=true:=by kernel_rfl
theorem jh:kn prog 22=some (99,3,32,(.agg #[.int .i64 0,.int .i64 0,.string ⟨#[]⟩])):=by kernel_rfl
theorem mS:∀ (a0:Int) (a1:Int) (a2:ByteArray),prog.built 99 [(0,.int .i64 a0),(1,.int .i64 a1),(2,.string a2)]=some #[.int .i64 a0,.int .i64 a1,.string a2]:=by intros;kernel_rfl
theorem rW:aR prog 112=true:=by kernel_rfl
theorem du:cP prog 29 2=some 2:=by kernel_rfl
theorem eQ:cP prog 29 5=some 5:=by kernel_rfl
theorem di:cP prog 29 12=some 14:=by kernel_rfl
theorem df:eg prog 26=some 1:=by kernel_rfl
theorem cO:cP prog 29 14=some 16:=by kernel_rfl
theorem bL:cP prog 29 17=some 19:=by kernel_rfl
theorem jg:eg prog 27=some 1:=by kernel_rfl
theorem bY:cP prog 29 4=some 4:=by kernel_rfl
theorem dS:cP prog 29 18=some 20:=by kernel_rfl
theorem jV:eg prog 9=some 1:=by kernel_rfl
theorem dJ:cP prog 29 19=some 21:=by kernel_rfl
theorem rV:aR prog 115=true:=by kernel_rfl
theorem qb (l:List Int) (p:Sp):(p.sends l).s=p.s:=by rw [kz]
theorem ux (l:List Int) (p:Sp):(p.sends l).out.length=p.out.length+l.length:=by rw [kz];simp
theorem uw {l:List Int} {i:Nat} (h:i<l.length) (p:Sp):p.sends (l.take (i+1))=(p.sends (l.take i)).send l[i]:=by
 rw [List.take_succ_eq_append_getElem h,ps];rfl
theorem lI (s:Rf):(dM s).length≤s.nodes.toNat:=tN _ _
theorem sD {s:Rf} {x:Int} (h:x∈dM s) (hn:0≤s.nodes):1≤x∧x≤s.nodes∧x≠s.id:=by
 have:=vR h;omega
theorem nW (w0:World) (Z:Nat→Prop) (T g:Nat) (p:Sp) (w:World) (h:a_ w0 Z w T g p) (hF:RfF p.s) (hr:p.s.role=2) (hl:p.out.length≤800) :
 Rt prog 84 [.pointer (some ⟨g,0,none⟩)] w (fun v w'=>v=.tuple #[]∧a_ w0 Z w' T g p.all):=by
 obtain ⟨tag,a,O,oc,L,hs⟩:=h.ex;obtain ⟨E,Ec,V,Vc,X,Xc,M,Mc,S,Sc,Q,Qc,LL⟩:=a;have hb:=hs.b;have hll:L.length=p.out.length:=by rw [←hs.m.l,List.length_map]
 have hn0:=hF.n;refine enter (n:=17) Tryz.func84 rfl rfl rfl (ak (ag (mvp rfl (ab (ay rfl) (ab (aa aN rfl) (aB oQ (pF T g p.s _ _ _ (hb.from_ ai.rfl_) (by omega)) ?_))))));rintro v7 w1 ⟨⟨A7,c7,rfl,ho7a⟩,E7⟩
 have h7:=h.at_ (Z':=fun k=>Z k∨A7.map (·.block)=some k) (ai.rfl_.next E7) (fun k hk=>by
  have hz7:=((ai.rfl_.next E7)).size;rcases hk with e | e
  ·exact ⟨Nat.lt_of_lt_of_le (h.zw k e) hz7,.inl e⟩
  ·have:=fe ho7a k e;exact ⟨this.2,.inr (by omega)⟩)
 have hB7:ai w w1:=(ai.rfl_.next E7);have ho7:=ho7a;obtain ⟨Z7,hZ7⟩:∃ Z7,Z7=fun k=>Z k∨A7.map (·.block)=some k:=⟨_,rfl⟩
 rw [←hZ7] at h7;have hzi:∀ k,Z k→Z7 k:=fun k hk=>by rw [hZ7];exact .inl hk
 have hzr:∀ k,A7.map (·.block)=some k→Z7 k:=fun k hk=>by rw [hZ7];exact .inr hk
 have hol:=lI p.s;have hnn:=hF.n;refine ab (bW cB rfl) (mvi rfl (aj (af (bg (dd (G:=Nat) [3,10,11,12,13,14,15,16] (fun i=>[(9,.int .i64 (i:Nat))]) (fun i w'=>i≤(dM p.s).length∧a_ w1 Z7 w' T g (p.sends ((dM p.s).take i))) (fun i=>(dM p.s).length-i) (0) ⟨rfl,trivial⟩ ?_ ?_)))))
 ·exact ⟨Nat.zero_le _,h7⟩
 rintro i ρ2 w2 ⟨hi,h15⟩;refine ak (ag (ab (b_ rfl rfl) (aj (af (ak (Ab rfl (fun Q3=>?_) (fun Q3=>?_)))))))
 ·have hi9:i<(dM p.s).length:=by omega
  obtain ⟨g7,rfl⟩:=fK ho7 (by omega);have ho8:=eH ho7 h15.fr (fun q hq e=>e (hzr q hq));have hc8:=jN (l:=dM p.s) ho8 i hi9;refine aM (af (ak (bg (ak (ag (ab (ew db rfl rfl (by omega)) (ab (aq an rfl (by exact fq (ai.rfl_ (a:=w2)) hc8)) ?_)))))));refine asi rfl (aj (af (ag (mvp rfl (mvi rfl ?_)))));refine aB tc (xI _ Z7 T g (p.sends ((dM p.s).take i)) _ (h15.from_ (ai.rfl_ (a:=w2))) (by rw [qb];exact hF) (by rw [qb];exact hr) (by rw [ux,List.length_take];omega) (dM p.s)[i] (by rw [qb];have:=sD (List.getElem_mem hi9) (by omega);omega)) ?_;rintro v15 w4 ⟨rfl,h16⟩;refine aj (bE (af (ag (ab (dI (b:=1) rfl rfl (by omega)) (mvi rfl (aj ?_))))));refine cu (i+1) ⟨(by first | rfl | (refine bT ?_;omega)),trivial⟩ (by (iterate 18 refine bI rfl ?_);exact bU) ⟨?_,?_⟩
  ·exact ⟨by omega,by rw [uw hi9];exact h16.from_ (ai.rfl_ (a:=w4))⟩
  ·omega
 refine cI (bD (bD (cr (cR (ey rfl ?_)))));obtain rfl:i=(dM p.s).length:=by omega
 rw [List.take_length] at h15;exact ⟨rfl,h.back hB7 h15 hzi⟩
theorem yw (s:Rf) (E U:Option Addr) (c u:Nat) (d:ByteArray) (w:World) (hF:RfF s) (hf:il s=false) (hd:d.size≤4096) (h:cF w (.slice E s.es.length c) s.es) (hu:cF w (.slice U 1 u) [⟨bH s+1,s.term,d⟩]) :
 Rt prog 112 [.agg #[.int .i64 s.b,.int .i64 s.t,.slice E s.es.length c],.slice U 1 u] w fun v w'=>(∃ A' c',v=.tuple #[.agg #[.int .i64 s.b,.int .i64 s.t,.slice A' (s.es.length+1) c'],.int .i64 0]∧w'.ownsRow w.heap.size 99 3 (.slice A' (s.es.length+1) c') (s.es.length+1) (eb (fy s d).es))∧ai w w':=
 (s6 s.b s.t (.slice E s.es.length c) (.slice U 1 u) s.es [⟨bH s+1,s.term,d⟩] w h hu (by show 1≤_;omega)).mono fun e w' ⟨L,he,hg,hF'⟩=>by
  have h1:=(hF.add hf d hd).1;have hl:=hF.last
  have h0:oN s.b s.t s.es [⟨bH s+1,s.term,d⟩]=0:=by
   unfold oN;rw [if_pos hF.lg,if_pos ?_,if_pos ?_]
   ·have:=(hF.add hf d hd).2.2;have h2:=(fT h1).2.2.2;rw [this] at h2;exact h2
   ·unfold il at hf;simp only [Bool.or_eq_false_iff,decide_eq_false_iff_not] at hf;show (gp _ (dP s.b s.es) (dp s.t s.es)&&true)=true;rw [Bool.and_true];unfold gp;have hte:=hF.te;have hlt:=hF.lt;simp only [Bool.and_eq_true,decide_eq_true_eq];exact ⟨⟨⟨rfl,ff ⟨by show 1≤bH s+1;omega,by show bH s+1≤_;omega⟩⟩,ff ⟨by show max (dp s.t s.es) 0≤s.term;omega,hte.2⟩⟩,hd⟩
  rw [h0] at he hg;obtain ⟨v',hL,ho⟩:=hg.2 rfl;rw [List.length_append] at ho;obtain ⟨A',c',rfl⟩:=fL ho;subst hL;exact ⟨_,he,⟨A',c',rfl,ho⟩,hF'⟩
theorem zj (w0:World) (Z:Nat→Prop) (T g:Nat) (p:Sp) (w:World) (h:a_ w0 Z w T g p) (hF:RfF p.s) (hf:il p.s=false) (d:ByteArray) (hd:d.size≤4096) :
 Rt prog 76 [.pointer (some ⟨g,0,none⟩),.string d] w (fun v w'=>v=.int .i64 (bH p.s+1)∧a_ w0 Z w' T g ⟨fy p.s d,p.out⟩):=by
 obtain ⟨tag,a,O,oc,L,hs⟩:=h.ex;obtain ⟨E,Ec,V,Vc,X,Xc,M,Mc,S,Sc,Q,Qc,LL⟩:=a;have hb:=hs.b;have hll:L.length=p.out.length:=by rw [←hs.m.l,List.length_map]
 have hbl:=hF.last;have hlb:dP p.s.b p.s.es=bH p.s:=rfl;have he:cF w (.slice E p.s.es.length Ec) p.s.es:=hs.f.rd.e;have hnn:=hF.n;have hzw:=h.zw;refine enter (n:=42) Tryz.func76 rfl rfl rfl (ak (ag (asi rfl (aj (af (ak (ag (mvp rfl (aB gK (kF T g p.s _ _ _ (hb.from_ ai.rfl_) (he.from_ ai.rfl_) hF.lg) ?_)))))))));rintro v11 w1 ⟨rfl,E11⟩;refine mvt rfl (ab (aY rfl rfl) (ab (aY rfl rfl) (asi rfl (asi rfl (aj (af (ak (ag (mvi rfl (ab (cq rfl rfl (by omega)) (asi rfl ?_)))))))))));refine aj (af (ak (ak ?_)));apply bK 19 [(17,eqp _),(18,eqp _),(19,eqp _),(20,eqp _),(21,eqp _),(22,eqp _),(23,eqp _),(24,eqp _),(25,eqp _),(26,eqp _),(27,eqp _),(28,eqp _),(29,eqp _),(30,fun v w'=>∃ b,v=.slice (some ⟨b,0,none⟩) 1 1∧cF w' (.slice (some ⟨b,0,none⟩) 1 1) [⟨bH p.s+1,p.s.term,d⟩]),(31,fun v w'=>∃ A' c',v=.tuple #[.agg #[.int .i64 p.s.b,.int .i64 p.s.t,.slice A' (p.s.es.length+1) c'],.int .i64 0]∧w'.ownsRow w.heap.size 99 3 (.slice A' (p.s.es.length+1) c') (p.s.es.length+1) (eb (fy p.s d).es)),(16,fun v w'=>∃ A' c',v=.tuple #[.agg #[.int .i64 p.s.b,.int .i64 p.s.t,.slice A' (p.s.es.length+1) c'],.int .i64 0]∧w'.ownsRow w.heap.size 99 3 (.slice A' (p.s.es.length+1) c') (p.s.es.length+1) (eb (fy p.s d).es)),(32,fun v w'=>∃ A' c',v=.agg #[.int .i64 p.s.b,.int .i64 p.s.t,.slice A' (p.s.es.length+1) c']∧w'.ownsRow w.heap.size 99 3 (.slice A' (p.s.es.length+1) c') (p.s.es.length+1) (eb (fy p.s d).es)),(33,eqp (.int .i64 0)),(7,fun v w'=>∃ b,v=.pointer (some ⟨b,0,none⟩)∧w.heap.size≤b∧Blk w' b 24 #[.int .i64 0,.int .i64 0,.slice none 0 0])] (by repeat first | exact cj | refine ch ?_ | refine bQ ?_) (by kernel_rfl) (by kernel_rfl) ⟨ah _,ah _,ah _,ah _,ah _,ah _,ah _,ah _,ah _,ah _,ah _,ah _,ah _,(fun _ _ _ hF ⟨b,h1,h2⟩=>⟨b,h1,h2.from_ hF⟩),(fun _ _ _ hF ⟨a,b,h1,h2⟩=>⟨a,b,h1,h2.kept_from hF⟩),(fun _ _ _ hF ⟨a,b,h1,h2⟩=>⟨a,b,h1,h2.kept_from hF⟩),(fun _ _ _ hF ⟨a,b,h1,h2⟩=>⟨a,b,h1,h2.kept_from hF⟩),ah _,(fun _ _ _ hF ⟨b,h1,h2,h3⟩=>⟨b,h1,h2,h3.from_ hF⟩),trivial⟩
 case hop=>
  constructor
  ·rintro-w3 D3;exact ar (aH (v:=.pointer _) rfl) rfl
  constructor
  ·rintro-w4 D4;rintro _ rfl;exact ar (ay rfl) rfl
  constructor
  ·rintro-w5 D5;rintro _ rfl;exact ar (aa aE rfl) rfl
  constructor
  ·rintro-w6 D6;rintro _ rfl;exact ar (aa bq rfl) rfl
  constructor
  ·rintro-w7 D7;rintro _ rfl;exact ar (aG (cs:=[.int .i64 p.s.b,.int .i64 p.s.t,.slice E p.s.es.length Ec]) bB bd rfl (fB (hb.from_ ((ai.rfl_.next E11).next D7)))) rfl
  constructor
  ·rintro-w8 D8;exact ar (aH (v:=.int _ _) rfl) rfl
  constructor
  ·rintro-w9 D9;exact ar (aH (v:=.pointer _) rfl) rfl
  constructor
  ·rintro-w10 D10;rintro _ rfl;exact ar (ay rfl) rfl
  constructor
  ·rintro-w11 D11;rintro _ rfl;exact ar (aa aE rfl) rfl
  constructor
  ·rintro-w12 D12;rintro _ rfl;exact ar (aa bt rfl) rfl
  constructor
  ·rintro-w13 D13;rintro _ rfl;exact ar (aq an rfl (by exact dO (hb.from_ ((ai.rfl_.next E11).next D13)) 3 rfl)) rfl
  constructor
  ·rintro-w14 D14;exact ar (aH (v:=.string _) rfl) rfl
  constructor
  ·rintro-w15 D15;rintro _ rfl _ rfl _ rfl;exact ar (cp (l:=[(0,.tmp 22),(1,.tmp 27),(2,.tmp 28)]) (mS _ _ _)) rfl
  constructor
  ·rintro-w16 D16;rintro _ rfl;exact oq (qe (l:=[(0,.tmp 29)]) (cells:=#[.int .i64 (bH p.s+1),.int .i64 p.s.term,.string d]) jh rfl rfl (by show Instr.fill _ _ [(0,Value.agg #[.int .i64 (bH p.s+1),.int .i64 p.s.term,.string d])]=_;kernel_rfl)) (ai.rfl_.new _) ⟨_,rfl,wG (e:=⟨bH p.s+1,p.s.term,d⟩) (Blk.new _ _ _)⟩
  constructor
  ·rintro-w17 D17;rintro _ rfl v17_30 ⟨b30,rfl,hl30⟩;refine gd rW ((yw p.s E _ Ec 1 d _ hF hf hd (he.from_ ((ai.rfl_.next E11).next D17)) hl30).mono ?_);rintro v w9 ⟨⟨a,b,rfl,ho⟩,hF9⟩;exact ⟨hF9,a,b,rfl,eU ho (((ai.rfl_.next E11).next D17)).size⟩
  constructor
  ·rintro-w18 D18;rintro v18_31 ⟨A31,c31,rfl,ho31⟩;exact ar (aH (v:=.tuple #[_,_]) rfl) ⟨_,_,rfl,ho31⟩
  constructor
  ·rintro-w19 D19;rintro v19_16 ⟨A16,c16,rfl,ho16⟩;exact ar (aY rfl rfl) ⟨_,_,rfl,ho16⟩
  constructor
  ·rintro-w20 D20;rintro v20_16 ⟨A16,c16,rfl,ho16⟩;exact ar (aY rfl rfl) rfl
  constructor
  ·rintro-w21 D21;exact oq (rj kh) (ai.rfl_.new _) ⟨_,rfl,(((ai.rfl_.next E11).next D21)).size,Blk.new _ _ _⟩
  exact trivial
 case hend=>
  intro w22 D22;rintro _ rfl _ rfl _ rfl _ rfl _ rfl _ rfl _ rfl _ rfl _ rfl _ rfl _ rfl _ rfl _ rfl v30 ⟨b30,rfl,hl30⟩ v31 ⟨A31,c31,rfl,ho31⟩ v16 ⟨A16,c16,rfl,ho16⟩ v32 ⟨A32,c32,rfl,ho32⟩ v33 rfl v7 ⟨b7,rfl,hg7,hk7⟩;show St ..;refine b0 (vs:=[_,_,_]) bd rfl rfl (by simp [Value.oneCell']) (hk7) rfl ?_;intro w23 O3 P3;have ho9:=gC ho32 O3 (k9 ho32 hk7 (by decide));refine asi rfl (aj (af (ak (ag (mvi rfl (ab (cQ (bj rfl rfl) rfl) (aj (af (aL rfl (ag (mvp rfl (ab (aG (cs:=[.int .i64 p.s.b,.int .i64 p.s.t,.slice A32 (p.s.es.length+1) c32]) bB bd rfl ((P3.from_ ai.rfl_).whole)) ?_))))))))))));refine ab (ay rfl) (ab (aa aE rfl) (ab (aa bq rfl) ?_));have hB5:ai w w23:=(((ai.rfl_.next E11).next D22).only O3 (hg7));have ho5:=ho9.kept_from ai.rfl_;refine pn (es:=(fy p.s d).es) (by show _=(p.s.es++[_]).length;rw [List.length_append];rfl) bd rfl rfl (hb.from_ (((ai.rfl_.next E11).next D22).only O3 (hg7))) ?_;intro w24 O5 P5;refine aj (af (ak (ag (mvi rfl (asi rfl (aj (af (aC (bo (v:=.int _ _) rfl rfl ?_)))))))));have hf5:=(hs.f.but (c:=0) (ai.toChg hB5)).log p.s.b p.s.t (l:=(fy p.s d).es) (by show _=(p.s.es++[_]).length;rw [List.length_append];rfl) (eU ho5 (Nat.zero_le _)) (fun q hq=>dY (fe ho32 q hq).1);exact ⟨rfl,((h.put hs (ai.toChg hB5) (.inl (by decide)) hf5 (O5.toChg rfl) P5).2).from_ (ai.rfl_ (a:=w24))⟩
theorem pQ (w0:World) (Z:Nat→Prop) (T g:Nat) (p:Sp) (w:World) (h:a_ w0 Z w T g p) (tm:Int) :
 Rt prog 99 [.pointer (some ⟨g,0,none⟩),.int .i64 tm] w (fun v w'=>v=.tuple #[]∧a_ w0 Z w' T g ⟨bC p.s tm,p.out⟩):=by
 obtain ⟨s,out⟩:=p;obtain ⟨tag,a,O,oc,L,hs⟩:=h.ex;obtain ⟨E,Ec,V,Vc,X,Xc,M,Mc,S,Sc,Q,Qc,LL⟩:=a;have hb:Blk w g T (rfV s (⟨E,Ec,V,Vc,X,Xc,M,Mc,S,Sc,Q,Qc,LL⟩:Ra)++[Value.slice O L.length oc]).toArray:=hs.b
 have hll:L.length=out.length:=by
  have h9:=congrArg List.length hs.m.l;rw [List.length_map] at h9;exact h9
 have hB0:ai w w:=ai.rfl_;refine enter (n:=56) Tryz.func99 rfl rfl rfl (ak (ag (mvp rfl (mvp rfl (ab (ay rfl) (ab (aa aE rfl) (ab (aa du rfl) (cW (s':=({ s with role:=0 }:Rf)) (a':=(⟨E,Ec,V,Vc,X,Xc,M,Mc,S,Sc,Q,Qc,LL⟩:Ra)) (v:=.int _ _) aS rfl rfl rfl ((hb.from_ ai.rfl_)) (by exact ⟨by decide,rfl⟩) ?_))))))));intro w1 O0_0 P0_0;have hC1:Chg (fun k=>k=g) w w1:=(ai.toChg hB0).only O0_0 rfl;refine ab (ay rfl) (ab (aa aE rfl) (ab (aa eQ rfl) (cW (s':=({ s with role:=0,leader:=0 }:Rf)) (a':=(⟨E,Ec,V,Vc,X,Xc,M,Mc,S,Sc,Q,Qc,LL⟩:Ra)) (v:=.int _ _) aS rfl rfl rfl (P0_0) (by exact ⟨by decide,rfl⟩) ?_)));intro w2 O0_1 P0_1;replace hC1:=hC1.only O0_1 rfl;refine aj (af (ak (ag (mvp rfl (mvp rfl (mvp rfl (mvp rfl (mvp rfl (ab (ay rfl) (ab (aa aE rfl) (ab (aa di rfl) ?_)))))))))));have hM0:ai _ w2:=ai.rfl_;refine cW (s':=({ s with role:=0,leader:=0,votes:=[] }:Rf)) (a':=(⟨E,Ec,none,0,X,Xc,M,Mc,S,Sc,Q,Qc,LL⟩:Ra)) (v:=.slice _ _ _) df rfl rfl rfl ((P0_1.from_ ai.rfl_)) (by exact ⟨by decide,rfl⟩) ?_;intro w3 O1_0 P1_0;replace hC1:=(hC1.next (ai.toChg hM0)).only O1_0 rfl;refine ab (ay rfl) (ab (aa aE rfl) (ab (aa cL rfl) (cW (s':=({ s with role:=0,leader:=0,votes:=[],next:=[] }:Rf)) (a':=(⟨E,Ec,none,0,none,0,M,Mc,S,Sc,Q,Qc,LL⟩:Ra)) (v:=.slice _ _ _) df rfl rfl rfl (P1_0) (by exact ⟨by decide,rfl⟩) ?_)));intro w4 O1_1 P1_1;replace hC1:=hC1.only O1_1 rfl;refine ab (ay rfl) (ab (aa aE rfl) (ab (aa cO rfl) (cW (s':=({ s with role:=0,leader:=0,votes:=[],next:=[],mtch:=[] }:Rf)) (a':=(⟨E,Ec,none,0,none,0,none,0,S,Sc,Q,Qc,LL⟩:Ra)) (v:=.slice _ _ _) df rfl rfl rfl (P1_1) (by exact ⟨by decide,rfl⟩) ?_)));intro w5 O1_2 P1_2;replace hC1:=hC1.only O1_2 rfl;refine ab (ay rfl) (ab (aa aE rfl) (ab (aa cT rfl) (cW (s':=({ s with role:=0,leader:=0,votes:=[],next:=[],mtch:=[],sent:=[] }:Rf)) (a':=(⟨E,Ec,none,0,none,0,none,0,none,0,Q,Qc,LL⟩:Ra)) (v:=.slice _ _ _) df rfl rfl rfl (P1_2) (by exact ⟨by decide,rfl⟩) ?_)));intro w6 O1_3 P1_3;replace hC1:=hC1.only O1_3 rfl;refine ab (ay rfl) (ab (aa aE rfl) (ab (aa bL rfl) (cW (s':=({ s with role:=0,leader:=0,votes:=[],next:=[],mtch:=[],sent:=[],reads:=[] }:Rf)) (a':=(⟨E,Ec,none,0,none,0,none,0,none,0,none,0,[]⟩:Ra)) (v:=.slice _ _ _) jg rfl rfl rfl (P1_3) (by exact ⟨by decide,rfl⟩) ?_)));intro w7 O1_4 P1_4;replace hC1:=hC1.only O1_4 rfl;refine aj (af (ak (ag (mvi rfl (mvp rfl (ab (ay rfl) (ab (aa aE rfl) (ab (aa bt rfl) (ab (aq an rfl (by exact (show _=some (Value.int .i64 s.term) from dO (P1_4.from_ ai.rfl_) 3 rfl))) ?_)))))))));refine ab (bS rfl rfl) (aj (af (Ab rfl (fun Q8=>?_) (fun Q8=>?_))))
 ·refine ag (mvp rfl (mvp rfl (mvp rfl (mvp rfl (mvi rfl (ab (ay rfl) (ab (aa aE rfl) (ab (aa bt rfl) ?_))))))));have hM0:ai _ w7:=ai.rfl_;refine cW (s':=({ s with role:=0,leader:=0,votes:=[],next:=[],mtch:=[],sent:=[],reads:=[],term:=tm }:Rf)) (a':=(⟨E,Ec,none,0,none,0,none,0,none,0,none,0,[]⟩:Ra)) (v:=.int _ _) aS rfl rfl rfl ((P1_4.from_ ai.rfl_)) (by exact ⟨by decide,rfl⟩) ?_;intro w9 O3_0 P3_0;replace hC1:=(hC1.next (ai.toChg hM0)).only O3_0 rfl;refine ab (ay rfl) (ab (aa aE rfl) (ab (aa bY rfl) (cW (s':=({ s with role:=0,leader:=0,votes:=[],next:=[],mtch:=[],sent:=[],reads:=[],term:=tm,vote:=0 }:Rf)) (a':=(⟨E,Ec,none,0,none,0,none,0,none,0,none,0,[]⟩:Ra)) (v:=.int _ _) aS rfl rfl rfl (P3_0) (by exact ⟨by decide,rfl⟩) ?_)));intro w10 O3_1 P3_1;replace hC1:=hC1.only O3_1 rfl;refine ab (ay rfl) (ab (aa aE rfl) (ab (aa dS rfl) (cW (s':=({ s with role:=0,leader:=0,votes:=[],next:=[],mtch:=[],sent:=[],reads:=[],term:=tm,vote:=0,part:=⟨#[]⟩ }:Rf)) (a':=(⟨E,Ec,none,0,none,0,none,0,none,0,none,0,[]⟩:Ra)) (v:=.string _) jV rfl rfl rfl (P3_1) (by exact ⟨by decide,rfl⟩) ?_)));intro w11 O3_2 P3_2;replace hC1:=hC1.only O3_2 rfl;refine ab (ay rfl) (ab (aa aE rfl) (ab (aa dJ rfl) (cW (s':=({ s with role:=0,leader:=0,votes:=[],next:=[],mtch:=[],sent:=[],reads:=[],term:=tm,vote:=0,part:=⟨#[]⟩,partOf:=0 }:Rf)) (a':=(⟨E,Ec,none,0,none,0,none,0,none,0,none,0,[]⟩:Ra)) (v:=.int _ _) aS rfl rfl rfl (P3_2) (by exact ⟨by decide,rfl⟩) ?_)));intro w12 O3_3 P3_3;replace hC1:=hC1.only O3_3 rfl;refine aj (cR (ey rfl (⟨rfl,?_⟩)));have hf1:=hs.f.alone;unfold bC;simp only
  first
   |(rw [if_pos (show s.term<tm by omega)];exact (h.set (s':=({ s with role:=0,leader:=0,votes:=[],next:=[],mtch:=[],sent:=[],reads:=[],term:=tm,vote:=0,part:=⟨#[]⟩,partOf:=0 }:Rf)) (a':=(⟨E,Ec,none,0,none,0,none,0,none,0,none,0,[]⟩:Ra)) hs hC1 (bw.same hf1 rfl rfl rfl rfl rfl rfl) P3_3).2)
   |(rw [if_neg (show ¬ s.term<tm by omega)];exact (h.set (s':=({ s with role:=0,leader:=0,votes:=[],next:=[],mtch:=[],sent:=[],reads:=[] }:Rf)) (a':=(⟨E,Ec,none,0,none,0,none,0,none,0,none,0,[]⟩:Ra)) hs (hC1.next (ai.toChg ai.rfl_)) (bw.same hf1 rfl rfl rfl rfl rfl rfl) (P1_4.from_ ai.rfl_)).2)
 refine aM (cR (ey rfl (⟨rfl,?_⟩)));have hf1:=hs.f.alone;unfold bC;simp only
 first
  |(rw [if_pos (show s.term<tm by omega)];exact (h.set (s':=({ s with role:=0,leader:=0,votes:=[],next:=[],mtch:=[],sent:=[],reads:=[],term:=tm,vote:=0,part:=⟨#[]⟩,partOf:=0 }:Rf)) (a':=(⟨E,Ec,none,0,none,0,none,0,none,0,none,0,[]⟩:Ra)) hs hC1 (bw.same hf1 rfl rfl rfl rfl rfl rfl) P3_3).2)
  |(rw [if_neg (show ¬ s.term<tm by omega)];exact (h.set (s':=({ s with role:=0,leader:=0,votes:=[],next:=[],mtch:=[],sent:=[],reads:=[] }:Rf)) (a':=(⟨E,Ec,none,0,none,0,none,0,none,0,none,0,[]⟩:Ra)) hs (hC1.next (ai.toChg ai.rfl_)) (bw.same hf1 rfl rfl rfl rfl rfl rfl) (P1_4.from_ ai.rfl_)).2)
theorem Ao (A:Option Addr) (c:Nat) (L:List Int) (w:World) (hr:eu iV w A L) (hf:Fit L):Rt prog 115 [.slice A L.length c] w fun v w'=>v=.tuple #[.int .i64 (med L),.int .i64 0]∧ai w w':=
 (wz A c L w hr).mono fun _ _ h=>⟨h.1.elim (fun e=>e.2) (fun e=>absurd hf e.1),h.2⟩
theorem vz (l:List Int) (k:Nat) (v:Int):(l.map iV).set k (iV v)=(l.set k v).map iV:=by rw [List.map_set]
theorem uv (w0:World) (Z:Nat→Prop) (T g:Nat) (s:Rf) (out:List Msg) (w:World) (h:a_ w0 Z w T g ⟨s,out⟩) (tag:Nat→Nat) (a:Ra) (O:Option Addr) (oc:Nat) (L:List Msg) (hs:gQ w Z T g tag ⟨s,out⟩ a O oc L) (hF:RfF s) (hr:s.role=2) :
 Rt prog 79 [.pointer (some ⟨g,0,none⟩)] w (fun v w'=>v=.tuple #[]∧a_ w0 Z w' T g ⟨dE s,out⟩∧∃ tag',gQ w' Z T g tag' ⟨dE s,out⟩ a O oc L):=by
 obtain ⟨E,Ec,V,Vc,X,Xc,M,Mc,S,Sc,Q,Qc,LL⟩:=a;have hb:Blk w g T (rfV s (⟨E,Ec,V,Vc,X,Xc,M,Mc,S,Sc,Q,Qc,LL⟩:Ra)++[Value.slice O L.length oc]).toArray:=hs.b
 have hll:L.length=out.length:=by
  have h9:=congrArg List.length hs.m.l;rw [List.length_map] at h9;exact h9
 have hbl:=hF.last;have hlb:dP s.b s.es=bH s:=rfl;have he:cF w (.slice E s.es.length Ec) s.es:=hs.f.rd.e;have hnn:=hF.n;have hid:=hF.i;have hzw:=h.zw;obtain ⟨k,hk⟩:∃ k:Nat,s.id=(k:Int)+1:=⟨(s.id-1).toNat,by omega⟩;have hMl:s.mtch.length=s.nodes.toNat:=by rw [hF.ma.1,jw hr]
 have hkM:k<s.mtch.length:=by omega
 obtain ⟨gM,rfl⟩:∃ q,M=some ⟨q,0,none⟩:=fK (n:=s.mtch.length) (hs.f.m (by decide)).1 (by omega);have hMo:w.ownsRow 0 3 1 (.slice (some ⟨gM,0,none⟩) s.mtch.length Mc) s.mtch.length (s.mtch.map iV):=(hs.f.m (by decide)).1;have hMc:=jN (l:=s.mtch) hMo k hkM;have hFs:=hF.settle hr;have hp1:eM s.mtch s.id (bH s)=s.mtch.set k (bH s):=by unfold eM;rw [show (s.id-1).toNat=k by omega]
 have hfit:Fit (eM s.mtch s.id (bH s)):=⟨by rw [fJ];omega,by rw [fJ];omega,fun x hx=>(hFs.ma.2 x hx).1⟩;have hmed:0≤med (eM s.mtch s.id (bH s))∧med (eM s.mtch s.id (bH s))≤bH s:=hFs.ma.2 _ (tP hfit.1);have hco:=hF.co;refine enter (n:=57) Tryz.func79 rfl rfl rfl (ak ?_);apply bK 16 [(5,eqp _),(6,eqp _),(7,eqp _),(8,eqp _),(9,eqp _),(10,eqp _),(11,eqp _),(12,eqp _),(13,eqp _),(14,eqp _),(15,eqp (.int .i64 (k:Nat))),(16,eqp _),(17,eqp _),(4,eqp _),(18,eqp _),(19,eqp _)] (by repeat first | exact cj | refine ch ?_ | refine bQ ?_) (by kernel_rfl) (by kernel_rfl) ⟨ah _,ah _,ah _,ah _,ah _,ah _,ah _,ah _,ah _,ah _,ah _,ah _,ah _,ah _,ah _,ah _,trivial⟩
 case hop=>
  constructor
  ·rintro-w2 D2;exact ar (aH (v:=.pointer _) rfl) rfl
  constructor
  ·rintro-w3 D3;rintro _ rfl;exact ar (ay rfl) rfl
  constructor
  ·rintro-w4 D4;rintro _ rfl;exact ar (aa aE rfl) rfl
  constructor
  ·rintro-w5 D5;rintro _ rfl;exact ar (aa cO rfl) rfl
  constructor
  ·rintro-w6 D6;rintro _ rfl;exact ar (aq bn rfl (by exact dO (hb.from_ (ai.rfl_.next D6)) 16 rfl)) rfl
  constructor
  ·rintro-w7 D7;exact ar (aH (v:=.pointer _) rfl) rfl
  constructor
  ·rintro-w8 D8;rintro _ rfl;exact ar (ay rfl) rfl
  constructor
  ·rintro-w9 D9;rintro _ rfl;exact ar (aa aE rfl) rfl
  constructor
  ·rintro-w10 D10;rintro _ rfl;exact ar (aa cM rfl) rfl
  constructor
  ·rintro-w11 D11;rintro _ rfl;exact ar (aq an rfl (by exact dO (hb.from_ (ai.rfl_.next D11)) 0 rfl)) rfl
  constructor
  ·rintro-w12 D12;rintro _ rfl;exact ar (iD (eA rfl rfl (by omega)) (bT (by omega))) rfl
  constructor
  ·rintro-w13 D13;exact ar (aH (v:=.pointer _) rfl) rfl
  constructor
  ·rintro-w14 D14;rintro _ rfl;refine gd gK ((kF T g s _ _ _ (hb.from_ (ai.rfl_.next D14)) (he.from_ (ai.rfl_.next D14)) hF.lg).mono ?_);rintro v _ ⟨rfl,E14'⟩;exact ⟨E14',rfl⟩
  constructor
  ·rintro-w15 D15;rintro _ rfl;exact ar (aH (v:=.tuple _) rfl) rfl
  constructor
  ·rintro-w16 D16;rintro _ rfl;exact ar (aY rfl rfl) rfl
  constructor
  ·rintro-w17 D17;rintro _ rfl;exact ar (aY rfl rfl) rfl
  exact trivial
 case hend=>
  intro w18 D18;rintro _ rfl _ rfl _ rfl _ rfl _ rfl _ rfl _ rfl _ rfl _ rfl _ rfl v15 rfl _ rfl _ rfl _ rfl _ rfl _ rfl;show St ..;refine ab (ew db rfl rfl (by omega)) ?_;have hB0:ai w w18:=(ai.rfl_.next D18);refine mn (xs:=s.mtch.map iV) aS rfl rfl rfl (hMo.kept_from (ai.rfl_.next D18)) (by omega) ?_;intro w19 O0 P0
  have hMo1:(w19).ownsRow 0 3 1 (.slice (some ⟨gM,0,none⟩) (eM s.mtch s.id (bH s)).length Mc) (eM s.mtch s.id (bH s)).length ((eM s.mtch s.id (bH s)).map iV):=by
   rw [fJ,hp1,←vz];exact P0
  have hgM7:tag gM=3:=(hs.f.m (by decide)).2 gM rfl;have hC1:Chg (fun k=>tag k=3) w w19:=(ai.toChg hB0).only O0 hgM7
  have hb1:Blk w19 g T (rfV ({ s with mtch:=eM s.mtch s.id (bH s) }:Rf) (⟨E,Ec,V,Vc,X,Xc,some ⟨gM,0,none⟩,Mc,S,Sc,Q,Qc,LL⟩:Ra)++[Value.slice O L.length oc]).toArray:=by
   have h9:=(hb.from_ hB0).only O0 (fun e=>by have:=hs.gc;rw [e,hgM7] at this;cases this)
   have e9:rfV ({ s with mtch:=eM s.mtch s.id (bH s) }:Rf) (⟨E,Ec,V,Vc,X,Xc,some ⟨gM,0,none⟩,Mc,S,Sc,Q,Qc,LL⟩:Ra)=rfV s (⟨E,Ec,V,Vc,X,Xc,some ⟨gM,0,none⟩,Mc,S,Sc,Q,Qc,LL⟩:Ra):=by
    unfold rfV;simp only [fJ]
   rw [e9];exact h9
  have hf1:=(hs.f.but hC1).mtch (l:=eM s.mtch s.id (bH s)) rfl hMo1 (fun q hq=>by cases hq;rw [da (ej hMo _ rfl)];exact hgM7);obtain ⟨hs1,h1⟩:=h.put hs hC1 (.inl (by decide)) hf1 (Chg.rfl_ (U:=fun k=>k=g)) hb1;have he1:cF w19 (.slice E s.es.length Ec) s.es:=hs1.f.rd.e;refine aj (af (ak (ag (mvp rfl (ab (ay rfl) (ab (aa aE rfl) (ab (aa cO rfl) (ab (aq bn rfl (by exact dO (hb1.from_ (ai.rfl_ (a:=w19))) 16 rfl)) ?_))))))));refine aB rV (Ao (some ⟨gM,0,none⟩) Mc (eM s.mtch s.id (bH s)) _ ((eu.own hMo1).2.from_ (ai.rfl_ (a:=w19))) hfit) ?_;rintro v27 w20 ⟨rfl,E27⟩;refine mvt rfl (ab (aY rfl rfl) (ab (aY rfl rfl) (asi rfl (asi rfl (aj (af (ak ?_)))))));by_cases hgt:s.commit<med (eM s.mtch s.id (bH s))
  ·apply bK 22 [(30,eqp _),(31,eqp _),(32,eqp _),(33,eqp _),(34,eqp _),(35,eqp _),(36,eqp _),(37,eqp _),(38,eqp _),(39,eqp _),(40,eqp _),(41,eqp _),(42,eqp _),(43,eqp _),(44,eqp _),(45,eqp _),(46,eqp _),(47,eqp _),(48,eqp _),(49,eqp _),(50,eqp _),(51,eqp _)] (by repeat first | exact cj | refine ch ?_ | refine bQ ?_) (by kernel_rfl) (by kernel_rfl) ⟨ah _,ah _,ah _,ah _,ah _,ah _,ah _,ah _,ah _,ah _,ah _,ah _,ah _,ah _,ah _,ah _,ah _,ah _,ah _,ah _,ah _,ah _,trivial⟩
   case hop=>
    constructor
    ·rintro-w22 D22;exact ar (aH (v:=.int _ _) rfl) rfl
    constructor
    ·rintro-w23 D23;rintro _ rfl;exact ar (cQ (bj rfl rfl) rfl) rfl
    constructor
    ·rintro-w24 D24;rintro _ rfl;exact ar (aH (v:=.bool _) rfl) rfl
    constructor
    ·rintro-w25 D25;rintro _ rfl;exact aD rfl (aH (v:=.int _ _) rfl) rfl
    constructor
    ·rintro-w26 D26;rintro _ rfl;exact aD rfl (aH (v:=.pointer _) rfl) rfl
    constructor
    ·rintro-w27 D27;rintro _ rfl _ rfl;exact aD rfl (ay rfl) rfl
    constructor
    ·rintro-w28 D28;rintro _ rfl _ rfl;exact aD rfl (aa aE rfl) rfl
    constructor
    ·rintro-w29 D29;rintro _ rfl _ rfl;exact aD rfl (aa dr rfl) rfl
    constructor
    ·rintro-w30 D30;rintro _ rfl _ rfl;exact aD rfl (aq an rfl (by exact (show _=some (Value.int .i64 s.commit) from dO (hb1.from_ (((ai.rfl_ (a:=w19)).next E27).next D30)) 10 rfl))) rfl
    constructor
    ·rintro-w31 D31;rintro _ rfl _ rfl _ rfl;exact aD rfl (cQ (bS rfl rfl) (decide_eq_true hgt)) rfl
    constructor
    ·rintro-w32 D32;rintro _ rfl _ rfl;exact ar (aJ (v:=.bool _) rfl rfl) rfl
    constructor
    ·rintro-w33 D33;rintro _ rfl;exact ar (aH (v:=.bool _) rfl) rfl
    constructor
    ·rintro-w34 D34;rintro _ rfl;exact aD rfl (aH (v:=.pointer _) rfl) rfl
    constructor
    ·rintro-w35 D35;rintro _ rfl;exact aD rfl (aH (v:=.int _ _) rfl) rfl
    constructor
    ·rintro-w36 D36;rintro _ rfl _ rfl _ rfl;refine gx rfl oT ((qS T g ({ s with mtch:=eM s.mtch s.id (bH s) }:Rf) _ _ _ (hb1.from_ (((ai.rfl_ (a:=w19)).next E27).next D36)) (he1.from_ (((ai.rfl_ (a:=w19)).next E27).next D36)) hF.lg (med (eM s.mtch s.id (bH s))) (by show s.b≤_∧_≤bH s;omega)).mono ?_);rintro v _ ⟨rfl,E36'⟩;exact ⟨E36',rfl⟩
    constructor
    ·rintro-w37 D37;rintro _ rfl;exact aD rfl (aH (v:=.pointer _) rfl) rfl
    constructor
    ·rintro-w38 D38;rintro _ rfl _ rfl;exact aD rfl (ay rfl) rfl
    constructor
    ·rintro-w39 D39;rintro _ rfl _ rfl;exact aD rfl (aa aE rfl) rfl
    constructor
    ·rintro-w40 D40;rintro _ rfl _ rfl;exact aD rfl (aa bt rfl) rfl
    constructor
    ·rintro-w41 D41;rintro _ rfl _ rfl;exact aD rfl (aq an rfl (by exact (show _=some (Value.int .i64 s.term) from dO (hb1.from_ (((ai.rfl_ (a:=w19)).next E27).next D41)) 3 rfl))) rfl
    constructor
    ·rintro-w42 D42;rintro _ rfl _ rfl _ rfl;exact aD rfl (bj rfl rfl) rfl
    constructor
    ·rintro-w43 D43;rintro _ rfl _ rfl;exact ar (aJ (v:=.bool _) rfl rfl) rfl
    exact trivial
   case hend=>
    intro w44 D44;rintro _ rfl _ rfl _ rfl _ rfl _ rfl _ rfl _ rfl _ rfl _ rfl _ rfl _ rfl _ rfl _ rfl _ rfl _ rfl _ rfl _ rfl _ rfl _ rfl _ rfl _ rfl _ rfl;show St ..;refine aj (af (Ab rfl (fun Q45=>?_) (fun Q45=>?_)))
    ·refine ag (mvp rfl (mvi rfl (ab (ay rfl) (ab (aa aE rfl) (ab (aa dr rfl) ?_)))));have hB3:ai _ w44:=(((ai.rfl_ (a:=w19)).next E27).next D44);refine cW (s':=({ s with mtch:=eM s.mtch s.id (bH s),commit:=med (eM s.mtch s.id (bH s)) }:Rf)) (a':=(⟨E,Ec,V,Vc,X,Xc,some ⟨gM,0,none⟩,Mc,S,Sc,Q,Qc,LL⟩:Ra)) (v:=.int _ _) aS rfl rfl rfl ((hb1.from_ (((ai.rfl_ (a:=w19)).next E27).next D44))) (by exact ⟨by decide,rfl⟩) ?_;intro w46 O3_0 P3_0;refine aj (cR (ey rfl ?_))
     first
      |(have e9:dE s=({ s with mtch:=eM s.mtch s.id (bH s),commit:=med (eM s.mtch s.id (bH s)) }:Rf):=by unfold dE;simp only;rw [if_pos ⟨hgt,by assumption⟩]
        rw [e9];obtain ⟨hs2,h2⟩:=h1.set (s':=({ s with mtch:=eM s.mtch s.id (bH s),commit:=med (eM s.mtch s.id (bH s)) }:Rf)) (a':=(⟨E,Ec,V,Vc,X,Xc,some ⟨gM,0,none⟩,Mc,S,Sc,Q,Qc,LL⟩:Ra)) hs1 ((ai.toChg hB3).only O3_0 rfl) (bw.same hs1.f rfl rfl rfl rfl rfl rfl) P3_0;exact ⟨rfl,h2,_,hs2⟩)
      |(have e9:dE s=({ s with mtch:=eM s.mtch s.id (bH s) }:Rf):=by unfold dE;simp only;rw [if_neg (fun e=>by first | exact absurd e.2 (by assumption) | exact absurd e.1 hgt)]
        rw [e9];exact ⟨rfl,h1.from_ (ai.rfl_ (a:=w46)),_,hs1.from_ (ai.rfl_ (a:=w46))⟩)
    refine aM (cR (ey rfl ?_))
    first
     |(have e9:dE s=({ s with mtch:=eM s.mtch s.id (bH s),commit:=med (eM s.mtch s.id (bH s)) }:Rf):=by unfold dE;simp only;rw [if_pos ⟨hgt,by assumption⟩]
       rw [e9];obtain ⟨hs2,h2⟩:=h1.set (s':=({ s with mtch:=eM s.mtch s.id (bH s),commit:=med (eM s.mtch s.id (bH s)) }:Rf)) (a':=(⟨E,Ec,V,Vc,X,Xc,some ⟨gM,0,none⟩,Mc,S,Sc,Q,Qc,LL⟩:Ra)) hs1 ((ai.toChg hB3).only O3_0 rfl) (bw.same hs1.f rfl rfl rfl rfl rfl rfl) P3_0;exact ⟨rfl,h2,_,hs2⟩)
     |(have e9:dE s=({ s with mtch:=eM s.mtch s.id (bH s) }:Rf):=by unfold dE;simp only;rw [if_neg (fun e=>by first | exact absurd e.2 (by assumption) | exact absurd e.1 hgt)]
       rw [e9];exact ⟨rfl,h1.from_ (((ai.rfl_ (a:=w19)).next E27).next D44),_,hs1.from_ (((ai.rfl_ (a:=w19)).next E27).next D44)⟩)
  apply bK 22 [(30,eqp _),(31,eqp _),(32,eqp _),(33,eqp _),(34,eqp _),(35,eqp _),(36,eqp _),(37,eqp _),(38,eqp _),(39,eqp _),(40,eqp _),(41,eqp _),(42,eqp _),(43,eqp _),(44,eqp _),(45,eqp _),(46,eqp _),(47,eqp _),(48,eqp _),(49,eqp _),(50,eqp _),(51,eqp _)] (by repeat first | exact cj | refine ch ?_ | refine bQ ?_) (by kernel_rfl) (by kernel_rfl) ⟨ah _,ah _,ah _,ah _,ah _,ah _,ah _,ah _,ah _,ah _,ah _,ah _,ah _,ah _,ah _,ah _,ah _,ah _,ah _,ah _,ah _,ah _,trivial⟩
  case hop=>
   constructor
   ·rintro-w48 D48;exact ar (aH (v:=.int _ _) rfl) rfl
   constructor
   ·rintro-w49 D49;rintro _ rfl;exact ar (cQ (bj rfl rfl) rfl) rfl
   constructor
   ·rintro-w50 D50;rintro _ rfl;exact ar (aH (v:=.bool _) rfl) rfl
   constructor
   ·rintro-w51 D51;rintro _ rfl;exact aD rfl (aH (v:=.int _ _) rfl) rfl
   constructor
   ·rintro-w52 D52;rintro _ rfl;exact aD rfl (aH (v:=.pointer _) rfl) rfl
   constructor
   ·rintro-w53 D53;rintro _ rfl _ rfl;exact aD rfl (ay rfl) rfl
   constructor
   ·rintro-w54 D54;rintro _ rfl _ rfl;exact aD rfl (aa aE rfl) rfl
   constructor
   ·rintro-w55 D55;rintro _ rfl _ rfl;exact aD rfl (aa dr rfl) rfl
   constructor
   ·rintro-w56 D56;rintro _ rfl _ rfl;exact aD rfl (aq an rfl (by exact (show _=some (Value.int .i64 s.commit) from dO (hb1.from_ (((ai.rfl_ (a:=w19)).next E27).next D56)) 10 rfl))) rfl
   constructor
   ·rintro-w57 D57;rintro _ rfl _ rfl _ rfl;exact aD rfl (cJ (bS rfl rfl) (decide_eq_false hgt)) rfl
   constructor
   ·rintro-w58 D58;rintro _ rfl _ rfl;exact ar (aJ (v:=.bool _) rfl rfl) rfl
   constructor
   ·rintro-w59 D59;rintro _ rfl;exact ar (aH (v:=.bool _) rfl) rfl
   constructor
   ·rintro-w60 D60;rintro _ rfl;exact bJ rfl rfl rfl
   constructor
   ·rintro-w61 D61;rintro _ rfl;exact bJ rfl rfl rfl
   constructor
   ·rintro-w62 D62;rintro _ rfl _ rfl _ rfl;exact bJ rfl rfl rfl
   constructor
   ·rintro-w63 D63;rintro _ rfl;exact bJ rfl rfl rfl
   constructor
   ·rintro-w64 D64;rintro _ rfl _ rfl;exact bJ rfl rfl rfl
   constructor
   ·rintro-w65 D65;rintro _ rfl _ rfl;exact bJ rfl rfl rfl
   constructor
   ·rintro-w66 D66;rintro _ rfl _ rfl;exact bJ rfl rfl rfl
   constructor
   ·rintro-w67 D67;rintro _ rfl _ rfl;exact bJ rfl rfl rfl
   constructor
   ·rintro-w68 D68;rintro _ rfl _ rfl _ rfl;exact bJ rfl rfl rfl
   constructor
   ·rintro-w69 D69;rintro _ rfl _ rfl;exact ar (aw (v:=.bool _) rfl rfl) rfl
   exact trivial
  case hend=>
   intro w70 D70;rintro _ rfl _ rfl _ rfl _ rfl _ rfl _ rfl _ rfl _ rfl _ rfl _ rfl _ rfl _ rfl _ rfl _ rfl _ rfl _ rfl _ rfl _ rfl _ rfl _ rfl _ rfl _ rfl;show St ..;refine aj (af (br rfl (aM (cR (ey rfl ?_)))))
   first
    |(have e9:dE s=({ s with mtch:=eM s.mtch s.id (bH s),commit:=med (eM s.mtch s.id (bH s)) }:Rf):=by unfold dE;simp only;rw [if_pos ⟨hgt,by assumption⟩]
      rw [e9];obtain ⟨hs2,h2⟩:=h1.set (s':=({ s with mtch:=eM s.mtch s.id (bH s),commit:=med (eM s.mtch s.id (bH s)) }:Rf)) (a':=(⟨E,Ec,V,Vc,X,Xc,some ⟨gM,0,none⟩,Mc,S,Sc,Q,Qc,LL⟩:Ra)) hs1 ((ai.toChg hB3).only O3_0 rfl) (bw.same hs1.f rfl rfl rfl rfl rfl rfl) P3_0;exact ⟨rfl,h2,_,hs2⟩)
    |(have e9:dE s=({ s with mtch:=eM s.mtch s.id (bH s) }:Rf):=by unfold dE;simp only;rw [if_neg (fun e=>by first | exact absurd e.2 (by assumption) | exact absurd e.1 hgt)]
      rw [e9];exact ⟨rfl,h1.from_ (((ai.rfl_ (a:=w19)).next E27).next D70),_,hs1.from_ (((ai.rfl_ (a:=w19)).next E27).next D70)⟩)
end Go.Proofs.YtkpooenofjdpmaaGreat
namespace Go.Proofs.YtkpooenofjdpmaaGreat
open Go.Proofs.Tryz (prog)
open Go.RowKit
abbrev XT (X:Type):=List (Nat×Nat×(X→Value))
abbrev mj {X:Type} (T:XT X) (x:X):List (Nat×Nat×Value):=T.map fun p=>(p.1,p.2.1,p.2.2 x)
theorem p9 {X:Type}:∀ {T:XT X} {x:X},mQ (T.map fun p=>(p.1,p.2.1))→iA (mj T x)
 |[],_,_=>trivial
 |p::r,x,h=>⟨fun q hq=>by
   obtain ⟨y,hy,rfl⟩:=List.mem_map.1 hq;exact h.1 (y.1,y.2.1) (List.mem_map.2 ⟨y,hy,rfl⟩),p9 h.2⟩
def yB {X:Type} (S:Nat→Bool) (x x':X):XT X→Prop
 |[]=>True
 |p::r=>(S p.1=true→p.2.2 x'=p.2.2 x)∧yB S x x' r
theorem tS {X:Type} {S:Nat→Bool} {x x':X}:∀ {T:XT X},yB S x x' T→∀ p∈T,S p.1=true→p.2.2 x'=p.2.2 x
 |_::_,⟨h1,h2⟩,p,hp=>by
  rcases List.mem_cons.1 hp with rfl | hp
  ·exact h1
  ·exact tS h2 p hp
theorem c8 {X:Type} {S:Nat→Bool} {x:X}:∀ {T:XT X},yB S x x T
 |[]=>trivial
 |_::_=>⟨fun _=>rfl,c8⟩
section
variable {X:Type} {P:Program} {Q:Exit→Act→World→Prop} {n:Fr} {L L' M:List (Nat×Value)} {w w' w'':World} {l:List Oper} {T:XT X} {I:X→(Nat→Bool)→World→Prop} {S:Nat→Bool} {op:Op} {ty:TypeId} {pos:String} {after:Array Edge} {i d:Nat} {f:X→Value} {x:X}
theorem InvX.get (h:iB L (mj T x) S L') (hp:(i,d,f)∈T) (hs:S i=true):bF L' d=f x:=h.get (i:=i) (d:=d) (List.mem_map.2 ⟨_,hp,rfl⟩) hs
theorem InvX.out {t:Nat} (h:iB L (mj T x) S L') (ht:(T.map fun p=>p.2.1).elem t=false):bF L' t=bF L t:=h.1 t fun p hp e=>by
 obtain ⟨y,hy,rfl⟩:=List.mem_map.1 hp;have:t∈T.map fun p=>p.2.1:=List.mem_map.2 ⟨y,hy,e⟩
 rw [List.elem_eq_mem,decide_eq_false_iff_not] at ht;exact ht this
theorem y8 {i:Nat} (h:(T.map fun p=>p.1).elem i=false):∀ p∈T,p.1≠i:=fun p hp e=>by
 rw [List.elem_eq_mem,decide_eq_false_iff_not] at h;exact h (List.mem_map.2 ⟨p,hp,e⟩)
theorem InvX.chg {x':X} (h:iB L (mj T x) S L') (hc:∀ p∈T,S p.1=true→p.2.2 x'=p.2.2 x):iB L (mj T x') S L':=by
 refine ⟨fun t ht=>h.1 t fun p hp=>?_,fun p hp hs=>?_,fun p hp hs=>?_⟩
 ·obtain ⟨y,hy,rfl⟩:=List.mem_map.1 hp;exact ht (y.1,y.2.1,y.2.2 x') (List.mem_map.2 ⟨y,hy,rfl⟩)
 ·obtain ⟨y,hy,rfl⟩:=List.mem_map.1 hp;have:=h.2.1 (y.1,y.2.1,y.2.2 x) (List.mem_map.2 ⟨y,hy,rfl⟩) hs;rw [this];exact (hc y hy hs).symm
 ·obtain ⟨y,hy,rfl⟩:=List.mem_map.1 hp;exact h.2.2 (y.1,y.2.1,y.2.2 x) (List.mem_map.2 ⟨y,hy,rfl⟩) hs
abbrev uc (P:Program) (n:Fr) (L:List (Nat×Value)) (T:XT X) (I:X→(Nat→Bool)→World→Prop) (S:Nat→Bool) (i:Nat) (o:Oper) (L':List (Nat×Value)) (w':World):Prop:=gD P n o (fun L2 w2=>∃ x,iB L (mj T x) (dL S i) L2∧I x (dL S i) w2) L' w'
theorem cS (M:List (Nat×Value)) (x':X) (hU:mQ (T.map fun p=>(p.1,p.2.1))) (hI:iB L (mj T x) S L') (hp:(i,d,f)∈T)
 (hs:dQ op=false) (hk:(((⟨some d,op,ty,pos,after,none⟩:Oper).looksAt #[]).all fun t=>(M.map Prod.fst).elem t)=true) (hag:qL L' M) (hr:RO P (ev n M) op w' (f x') w'') (hc:yB S x x' T) (hM:I x' (dL S i) w''):uc P n L T I S i ⟨some d,op,ty,pos,after,none⟩ L' w':=
 .inl ⟨d,f x',w'',rfl,by rw [jS hs hk hag];exact hr _ _ _ _ _,x',(InvX.chg hI (tS hc)).put (p9 hU) (List.mem_map.2 ⟨_,hp,rfl⟩),hM⟩
theorem nQ (M:List (Nat×Value)) (hI:iB L (mj T x) S L') (hi:∀ p∈T,p.1≠i)
 (hs:dQ op=false) (hk:(((⟨none,op,ty,pos,after,none⟩:Oper).looksAt #[]).all fun t=>(M.map Prod.fst).elem t)=true) (hag:qL L' M) (hr:RS P (ev n M) op w' w'') (hM:I x (dL S i) w''):uc P n L T I S i ⟨none,op,ty,pos,after,none⟩ L' w':=
 .inr (.inl ⟨w'',rfl,by rw [jS hs hk hag];exact hr _ _ _ _ _,x,hI.skip (fun p hp=>by
  obtain ⟨y,hy,rfl⟩:=List.mem_map.1 hp;exact hi y hy),hM⟩)
def s_ (P:Program) (n:Fr) (L:List (Nat×Value)) (T:XT X) (Mu:List Nat) (I:X→(Nat→Bool)→World→Prop) (l:List Oper):Nat→List Oper→Prop
 |_,[]=>True
 |i,o::r=>(∀ S L' w' x,mQ (T.map fun p=>(p.1,p.2.1))→(∀ x S i w1 w2,Mu.elem i=false→ai w1 w2→I x S w1→I x (dL S i) w2)→iB L (mj T x) S L'→I x S w'→ig l S→S i=false→iM S o.after.toList→uc P n L T I S i o L' w')∧s_ P n L T Mu I l (i+1) r
theorem pj {Mu:List Nat} {L0:List (Nat×Value)} {l0:List Oper}:∀ {r:List Oper} {k:Nat},s_ P n L0 T Mu I l0 k r→mQ (T.map fun p=>(p.1,p.2.1))→(∀ x S i w1 w2,Mu.elem i=false→ai w1 w2→I x S w1→I x (dL S i) w2)→∀ (i:Nat) (o:Oper),r[i]? =some o→∀ S L' w' x,iB L0 (mj T x) S L'→I x S w'→ig l0 S→S (k+i)=false→iM S o.after.toList→uc P n L0 T I S (k+i) o L' w'
 |[],_,_,_,_,i,o,h=>by simp at h
 |y::r,k,⟨h1,h2⟩,a,b,0,o,h=>by
  simp only [List.getElem?_cons_zero,Option.some.injEq] at h;subst h;exact fun S L' w' x=>h1 S L' w' x a b
 |y::r,k,⟨h1,h2⟩,a,b,i+1,o,h=>by
  have:=pj h2 a b i o (by simpa using h)
  rwa [show k+1+i=k+(i+1) by omega] at this
theorem wT {id:Nat} (T:XT X) (Mu:List Nat) (I:X→(Nat→Bool)→World→Prop) (hm:P.follows .mixedOrders=true) (hwf:oG l=true) (hlt:(T.all fun p=>Nat.blt p.1 l.length)=true) (hU:uj (T.map fun p=>(p.1,p.2.1))=true) (hme:∀ x S i w1 w2,Mu.elem i=false→ai w1 w2→I x S w1→I x (dL S i) w2) (h0:∃ x,I x (fun _=>false) { w with drawn:=w.drawn+1 })
 (hstep:s_ P n L T Mu I l 0 l) (hend:∀ x w',I x (fun i=>decide (i<l.length)) w'→Q .normal (mkA n ((mj T x).map (fun p=>(p.2.1,p.2.2))++L)) w'):Cd P (.region id l.toArray true) Q n L w:=
 s3 (fun S L' w'=>(∃ x,iB L (mj T x) S L'∧I x S w')∧ig l S) hm hwf ⟨let ⟨x,hx⟩:=h0;⟨x,⟨fun _ _=>rfl,fun _ _ h=>(by cases h),fun _ _ _=>rfl⟩,hx⟩,fun _ _ _ h=>by cases h⟩ (fun i o S L' w' ho ⟨⟨x,hI,hM⟩,hC⟩ hS hE=>by
  have:=pj hstep (lO hU) hme i o ho S L' w' x hI hM hC (by rw [Nat.zero_add];exact hS) (kI fun e he=>hE e (by simpa using he));rw [Nat.zero_add] at this;exact gD.mono (fun L2 w2 h=>⟨h,kK hC ho hE⟩) this) fun L' w' ⟨⟨x,hI,hM⟩,_⟩=>by
  have h:=hend x w' hM
  have hlt':∀ p∈mj T x,decide (p.1<l.length)=true:=fun p hp=>by
   obtain ⟨y,hy,rfl⟩:=List.mem_map.1 hp;exact decide_eq_true (Nat.le_of_ble_eq_true (List.all_eq_true.1 hlt y hy))
  rw [x7 (p9 (lO hU)) hlt' hI];exact h
end
end Go.Proofs.YtkpooenofjdpmaaGreat
