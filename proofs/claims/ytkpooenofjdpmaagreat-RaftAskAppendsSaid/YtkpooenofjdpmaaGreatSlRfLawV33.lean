/- texts that the claim stands on. -/
import Derived.Test.YtkpooenofjdpmaaGreatSlRfLawV32
import Derived.RangeFuncBox
import Derived.RangeFuncLeaves
import Derived.Shelf.Abstract
import Derived.OwnWalkIn
import Derived.TacticsInMore
import Derived.LoopNIn
import Derived.LoopIn
import Derived.Maps.AppendAt
import Derived.Shelf.Small.Bits
import Derived.Shelf.Small.Wraps
import Derived.Shelf.Strconv.Itoa0
import Derived.Shelf.Sort.Plain
import Derived.Shelf.Slices.Turned
import Derived.Shelf.Slices.Reverse
import Derived.Ground.Names2Prog
import Derived.Shelf.Slices.Clone
import Derived.Shelf.Slices.SearchI
import Derived.Shelf.Slices.Cells
import Derived.Shelf.Slices.In.SortNone
import Derived.Shelf.Slices.Empties
import Derived.Sort.OwnSortedInts
set_option maxRecDepth 100000
set_option maxHeartbeats 4000000
namespace Go.Proofs.YtkpooenofjdpmaaGreat
open Go.Proofs.Tryz (prog)
open Go.RowKit Go.Shelf
attribute [local go_sem] Oper.semAt_some
theorem xR:(prog.info? 3).map (fun i=>(i.zero,i.size,i.bytes))=some (some (.int .i64 0),1,8):=by kernel_rfl
def nth (L:List Int) (k:Nat):Int:=L[k]?.getD 0
theorem rQ {L:List Int} {k:Nat} (h:k<L.length):L.take (k+1)=L.take k++[nth L k]:=by
 unfold nth;rw [List.take_add_one,List.getElem?_eq_getElem h];rfl
theorem zr (n l Bs n₀ b off cap:Nat) (L:List Int) (hn:1≤n) (hL:L.length*8≤140737488351232) (hb:b<n₀) (J Jx:List Int→World→Prop)
 (hY:∀ pre x W,J pre W→pre.length<L.length→YieldAt Fence.wide (n-1) prog l #[.int .i64 x] W fun e W'=>(e=.returned (.bool true)∧J (pre++[x]) W'∧Below n₀ W W')∨(e=.returned (.bool false)∧Jx (pre++[x]) W'))
 (W:World) (hBs:W.cell? ⟨Bs,0,none⟩=some (.slice (some ⟨b,off,none⟩) L.length cap)) (hc:∀ j,j<L.length→W.cell? ⟨b,off+j,none⟩=some (.int .i64 (nth L j))) (h0:J [] W) :
 CallsIn Fence.wide n prog 170 #[.func (.yield l) #[] #[],.pointer (some ⟨Bs,0,none⟩)] W fun e W'=>(∃ v,e=.returned v)∧((∃ ys,ys=L∧J ys W')∨(∃ pre,pre <+: L∧Jx pre W')):=by
 refine callsIn_of_wp Tryz.func170 rfl trivial ?_ rfl;simp only [Tryz.ntmps170,List.size_toArray,List.length_cons,List.length_nil,Nat.reduceAdd,Nat.reduceSub,Array.replicate_succ,Array.replicate_zero,List.push_toArray,List.append_toArray,List.nil_append,List.cons_append]
 gi_wp2
 gi_loopw [7] (fun i wr=>∃ k:Nat,k≤L.length∧i=.int .i64 k∧J (L.take k) wr∧Below n₀ W wr) (fun i _=>L.length-(intOf i).toNat)
 case atStart=>exact ⟨0,Nat.zero_le _,rfl,by simpa using h0,Below.refl _ _⟩
 case round=>
  obtain ⟨k,hk,rfl,hJ,hB⟩:=hrel;by_cases hlt:k<L.length
  ·obtain ⟨fn,tmps,assign,body,hy,hR⟩:=hY _ (nth L k) wr hJ (by rw [List.length_take];omega);have hck:wr.cell? ⟨b,off+k,none⟩=some (.int .i64 (nth L k)):=(hB.cell (p:=⟨b,off+k,none⟩) hb).trans (hc k hlt)
   gi_wp2
   refine hR.mono ?_;rintro e W3 (⟨rfl,hJ3,hk3⟩ | ⟨rfl,hJx3⟩)
   ·gi_wp2
    go_roundw
    case rel=>exact ⟨k+1,by omega,by simp,by rw [rQ hlt];exact hJ3,hB.trans hk3⟩
    case measure=>simp [intOf];omega
   ·gi_wp2
    refine bodyPost_ret (results_none rfl _ _ _) rfl ?_;exact ⟨⟨_,rfl⟩,.inr ⟨_,by rw [←rQ hlt];exact List.take_prefix _ _,hJx3⟩⟩
  ·obtain rfl:k=L.length:=by omega
   gi_wp2
   go_end0
   exact ⟨⟨_,rfl⟩,.inl ⟨_,rfl,by rw [List.take_length] at hJ;exact hJ⟩⟩
theorem tU (n Bs n₀ b off cap:Nat) (L:List Int) (hn:1≤n) (hL:L.length*8≤140737488351232) (hb:b<n₀) (w:World) (hBs:Bs<w.heap.size) (hn₀:n₀≤w.heap.size)
 (hs:w.cell? ⟨Bs,0,none⟩=some (.slice (some ⟨b,off,none⟩) L.length cap)) (hc:∀ j,j<L.length→w.cell? ⟨b,off+j,none⟩=some (.int .i64 (nth L j))) :
 SeqStopsK Fence.wide n prog 170 #[.pointer (some ⟨Bs,0,none⟩)] (fun x:Int=>#[Value.int .i64 x]) (Below n₀) (fun ys=>ys=L) (fun pre=>pre <+: L) L.length w:=fun l J Jx W hW _ _ hY h0=>
 zr n l Bs n₀ b off cap L hn hL hb J Jx hY W ((hW.cell (p:=⟨Bs,0,none⟩) hBs).trans hs) (fun j hj=>(hW.cell (p:=⟨b,off+j,none⟩) (show b<_ by omega)).trans (hc j hj)) h0
theorem rp (n Bs b off cap:Nat) (L:List Int) (hn:3≤n) (hL:L.length*8≤140737488351232) (w:World) (hb:b<w.heap.size) (hBs:Bs<w.heap.size)
 (hs:w.cell? ⟨Bs,0,none⟩=some (.slice (some ⟨b,off,none⟩) L.length cap)) (hc:∀ j,j<L.length→w.cell? ⟨b,off+j,none⟩=some (.int .i64 (nth L j))) :
 CallsIn Fence.wide n prog 179 #[.slice none 0 0,.func (.func 170) #[] #[.pointer (some ⟨Bs,0,none⟩)]] w fun e W'=>
  ∃ v,e=.returned v∧W'.ownsRow w.heap.size 3 1 v L.length (L.map (Value.int .i64))∧Below w.heap.size w W':=by
 have h1:1≤n:=by omega
 obtain ⟨i0,hi,hz0,hz1,hz2⟩:=info_parts xR;refine callsIn_of_wp_marks Tryz.func179 rfl trivial ?_ rfl;simp only [Tryz.ntmps179,List.size_toArray,List.length_cons,List.length_nil,Nat.reduceAdd,Nat.reduceSub,Array.replicate_succ,Array.replicate_zero,List.push_toArray,List.append_toArray,List.nil_append,List.cons_append]
 gi_wp2
 have bO:=Boxed.new w 26 (.slice none 0 0);have hB0:Below w.heap.size w (w.alloc (.cells #[.slice none 0 0] 26)):=(Below.refl _ w).alloc (Nat.le_refl _) _
 refine wpIn_rangeFunc_ownG rfl h1 (gf:=170) (lb:=#[.pointer (some ⟨Bs,0,none⟩)]) rfl trivial (enters_of Tryz.func170 (by kernel_rfl) rfl)
  (tU (n-1) Bs w.heap.size b off cap L (by omega) hL hb _ (by simp;omega) (by simp) ((hB0.cell (p:=⟨Bs,0,none⟩) hBs).trans hs) (fun j hj=>(hB0.cell (p:=⟨b,off+j,none⟩) hb).trans (hc j hj))) belowK_t (belowK_b (by simp)) (Below.refl _ _) (fun _=>rfl)
  (fun pre W=>(∃ v,Boxed W w.heap.size 26 v∧W.ownsRow w.heap.size 3 1 v pre.length (pre.map (Value.int .i64))∧True)∧Below w.heap.size w W)
  (fun _ _ _=>False)
  (OwnFrom.and (Own.from (holdsRow_own w.heap.size w.heap.size 26 3 1 (fun pre:List Int=>pre.length) (fun pre=>pre.map (Value.int .i64)) (fun _ _=>True)) _) (ownFrom_below (Nat.le_refl _) (by simp)))
  (fun _ _ _ _ _ hs _ _=>hs)
  ⟨⟨_,bO,World.ownsRow_nil _ _ _ _,trivial⟩,hB0⟩
  (fun x=>{ tmps:=#[.slice none 0 0,.func (.func 170) #[] #[.pointer (some ⟨Bs,0,none⟩)],.pointer (some ⟨w.heap.size,0,none⟩),undef,.slice none 0 0,.int .i64 x,.func (.func 170) #[] #[.pointer (some ⟨Bs,0,none⟩)],.int .i64 x,undef,undef,undef,undef,undef],defers:=[] }) ?assign ?body ?done ?stop
 case assign=>
  intro l x W K hK
  gi_wp2
  exact hK
 case body=>
  rintro l pre x W ⟨⟨v,hv,hrow,_⟩,hB⟩ hlt;have hc:=hv.cell
  gi_wp2_with (gi_at_builtin;refine wpListIn_append_own _ rfl _ _ 26 rfl w.heap.size 3 i0 (.int .i64 0) 1 8 Tryz.underlying26 hi hz0 hz1 hz2 rfl (by decide) _ _ _ rfl (hrow.alloc _) ⟨W.heap.size,0,none⟩ 1 1 [.int .i64 x] rfl rfl (cell_one_new _ _ _) (by simp [Value.oneCell']) (by unfold maxLen;omega) (by omega) (by have:=hB.size;simp;omega) ?_;intro v' w1 hown' hgrow _;obtain ⟨g',cap',rfl⟩:=ownsRow_succ hown';obtain ⟨hv1,hv2,hr2,hk2,hb2⟩:=hv.appended (by decide) hrow hB.size (Nat.le_refl _) hown' hgrow;have hc1:=hv1.cell;have hf1:=hv1.frozen)
  exact ⟨hk2.from _,hb2,⟨_,hv2,by simpa using hr2,trivial⟩,hB.trans hb2⟩
 case done=>
  rintro D ys W hD rfl ⟨⟨v,hv,hrow,_⟩,hB⟩ hK;have hc:=hv.cell
  gi_wp2
  refine ⟨by simp,.inl ⟨_,_,rfl,run_takeDeferred hK,?_⟩⟩;exact ⟨_,results_tmp rfl _ _ _,v,rfl,ownsRow_putObj hrow _ hK rfl,hB.trans (belowK_b (w:=w) (Nat.le_refl _) W D _ _ (by simp at hD;omega) hK rfl rfl)⟩
 case stop=>
  rintro D c pre W _ _ h _;exact h.elim
theorem rm (Bs b off cap:Nat) (L:List Int) (w:World) (hL:L.length≤1000000) (hb:b<w.heap.size) (hBs:Bs<w.heap.size)
 (hs:w.cell? ⟨Bs,0,none⟩=some (.slice (some ⟨b,off,none⟩) L.length cap)) (hc:∀ j (h:j<L.length),w.cell? ⟨b,off+j,none⟩=some (.int .i64 L[j])) :
 Rt prog 179 [.slice none 0 0,.func (.func 170) #[] #[.pointer (some ⟨Bs,0,none⟩)]] w fun v w'=>
  (∃ A c,v=.slice A L.length c∧w'.ownsRow w.heap.size 3 1 (.slice A L.length c) L.length (L.map iV))∧ah w w':=by
 refine Calls.mono (callsIn_wide.1 (rp 3 Bs b off cap L (Nat.le_refl _) (by omega) w hb hBs hs (fun j hj=>by unfold nth;rw [List.getElem?_eq_getElem hj];exact hc j hj))) fun e w' ⟨v,he,ho,hB⟩=>?_
 obtain ⟨A,c,rfl⟩:=fk ho;exact ⟨_,he,⟨A,c,rfl,ho⟩,hB⟩
end Go.Proofs.YtkpooenofjdpmaaGreat
namespace Go.Proofs
open Go.Shelf
def Tryz.lays128_ren:Go.Shelf.Ren:=⟨fun | 128=>192 | n=>n,fun | 51=>197 | 3=>3 | 4=>4 | 46=>108 | 5=>5 | 9=>9 | n=>n,fun | n=>n⟩
def Tryz.lays125_ren:Go.Shelf.Ren:=⟨fun | 125=>181 | 128=>192 | 129=>193 | n=>n,fun | 46=>108 | 3=>3 | 51=>197 | 53=>25 | 4=>4 | 5=>5 | 9=>9 | n=>n,fun | n=>n⟩
def Tryz.lays215_ren:Go.Shelf.Ren:=⟨fun | 215=>182 | n=>n,fun | 3=>3 | 4=>4 | n=>n,fun | n=>n⟩
def Tryz.lays129_ren:Go.Shelf.Ren:=⟨fun | 129=>193 | n=>n,fun | 53=>25 | 3=>3 | 4=>4 | 46=>108 | 5=>5 | 9=>9 | n=>n,fun | n=>n⟩
def Tryz.lays189_ren:Go.Shelf.Ren:=⟨fun | 189=>169 | 125=>181 | 257=>180 | 128=>192 | 129=>193 | 294=>184 | 295=>185 | 296=>186 | 297=>187 | 298=>188 | 299=>189 | 216=>174 | 300=>190 | 301=>191 | 328=>195 | 329=>196 | 330=>197 | 331=>198 | 332=>199 | 215=>182 | 343=>200 | n=>n,fun | 28=>26 | 3=>3 | 46=>108 | 0=>0 | 51=>197 | 53=>25 | 4=>4 | 183=>191 | 182=>190 | 131=>119 | 5=>5 | 9=>9 | 218=>199 | 222=>156 | 228=>204 | 229=>105 | n=>n,fun | n=>n⟩
theorem Tryz.lays189:Go.Proofs.Lays.n189 prog Tryz.lays189_ren:={
 mixed:=by kernel_rfl
 f125:=Tryz.func181.trans (congrArg some (by kernel_rfl))
 f128:=Tryz.func192.trans (congrArg some (by kernel_rfl))
 f129:=Tryz.func193.trans (congrArg some (by kernel_rfl))
 f189:=Tryz.func169.trans (congrArg some (by kernel_rfl))
 f215:=Tryz.func182.trans (congrArg some (by kernel_rfl))
 f216:=Tryz.func174.trans (congrArg some (by kernel_rfl))
 f257:=Tryz.func180.trans (congrArg some (by kernel_rfl))
 f294:=Tryz.func184.trans (congrArg some (by kernel_rfl))
 f295:=Tryz.func185.trans (congrArg some (by kernel_rfl))
 f296:=Tryz.func186.trans (congrArg some (by kernel_rfl))
 f297:=Tryz.func187.trans (congrArg some (by kernel_rfl))
 f298:=Tryz.func188.trans (congrArg some (by kernel_rfl))
 f299:=Tryz.func189.trans (congrArg some (by kernel_rfl))
 f300:=Tryz.func190.trans (congrArg some (by kernel_rfl))
 f301:=Tryz.func191.trans (congrArg some (by kernel_rfl))
 f328:=Tryz.func195.trans (congrArg some (by kernel_rfl))
 f329:=Tryz.func196.trans (congrArg some (by kernel_rfl))
 f330:=Tryz.func197.trans (congrArg some (by kernel_rfl))
 f331:=Tryz.func198.trans (congrArg some (by kernel_rfl))
 f332:=Tryz.func199.trans (congrArg some (by kernel_rfl))
 f343:=Tryz.func200.trans (congrArg some (by kernel_rfl))
 t0:=Tryz.underlying0
 a0:=Tryz.isAgg0
 z0:=Tryz.sizeOf0
 v0:=Tryz.zeroValue0
 t3:=Tryz.underlying3
 a3:=Tryz.isAgg3
 z3:=Tryz.sizeOf3
 v3:=Tryz.zeroValue3
 t4:=Tryz.underlying4
 a4:=Tryz.isAgg4
 z4:=Tryz.sizeOf4
 v4:=Tryz.zeroValue4
 t5:=Tryz.underlying5
 a5:=Tryz.isAgg5
 z5:=Tryz.sizeOf5
 v5:=Tryz.zeroValue5
 t9:=Tryz.underlying9
 a9:=Tryz.isAgg9
 z9:=Tryz.sizeOf9
 v9:=Tryz.zeroValue9
 t28:=Tryz.underlying26
 a28:=Tryz.isAgg26
 z28:=Tryz.sizeOf26
 v28:=Tryz.zeroValue26
 t46:=Tryz.underlying108
 a46:=Tryz.isAgg108
 z46:=Tryz.sizeOf108
 v46:=Tryz.zeroValue108
 t51:=Tryz.underlying197
 a51:=Tryz.isAgg197
 z51:=Tryz.sizeOf197
 v51:=Tryz.zeroValue197
 t53:=Tryz.underlying25
 a53:=Tryz.isAgg25
 z53:=Tryz.sizeOf25
 v53:=Tryz.zeroValue25
 t131:=Tryz.underlying119
 a131:=Tryz.isAgg119
 z131:=Tryz.sizeOf119
 v131:=Tryz.zeroValue119
 t182:=Tryz.underlying190
 a182:=Tryz.isAgg190
 z182:=Tryz.sizeOf190
 v182:=Tryz.zeroValue190
 t183:=Tryz.underlying191
 a183:=Tryz.isAgg191
 z183:=Tryz.sizeOf191
 v183:=Tryz.zeroValue191
 t218:=Tryz.underlying199
 a218:=Tryz.isAgg199
 z218:=Tryz.sizeOf199
 v218:=Tryz.zeroValue199
 t222:=Tryz.underlying156
 a222:=Tryz.isAgg156
 z222:=Tryz.sizeOf156
 v222:=Tryz.zeroValue156
 t228:=Tryz.underlying204
 a228:=Tryz.isAgg204
 z228:=Tryz.sizeOf204
 v228:=Tryz.zeroValue204
 t229:=Tryz.underlying105
 a229:=Tryz.isAgg105
 z229:=Tryz.sizeOf105
 v229:=Tryz.zeroValue105 }
open Go.Sort Go.RowKit in
theorem Tryz.slices_Sort_int (blk off cap:Nat) (zs:List Int) (w:World) (hH:Holds (Value.int .i64) w blk off zs.toArray) (hblk:blk<w.heap.size) (hsz:zs.length<4611686018427387904) :
 Calls prog 169 #[.slice (some ⟨blk,off,none⟩) zs.length cap] w fun e w'=>
  e=.returned (.tuple #[])∧∃ n os,w'=grow (putRow (Value.int .i64) (Sort.ahead w n) blk off (zs.mergeSort fun x y=>decide (x≤y)).toArray) os:=Any.slices_Sort_int Tryz.lays189 blk off cap zs w hH hblk hsz
def Tryz.lays114_ren:Go.Shelf.Ren:=⟨fun | 114=>155 | n=>n,fun | 28=>26 | 3=>3 | 4=>4 | 9=>9 | 20=>20 | 0=>0 | n=>n,fun | n=>n⟩
def Tryz.lays112_ren:Go.Shelf.Ren:=⟨fun | 112=>194 | n=>n,fun | 28=>26 | 3=>3 | 4=>4 | 0=>0 | n=>n,fun | n=>n⟩
def Tryz.laysNm215_ren:Go.Shelf.Ren:=⟨fun | 15=>136 | n=>n,fun | 22=>26 | 3=>3 | 4=>4 | n=>n,fun | n=>n⟩
def Tryz.laysNm237_ren:Go.Shelf.Ren:=⟨fun | 37=>182 | n=>n,fun | 3=>3 | 4=>4 | n=>n,fun | n=>n⟩
def Tryz.laysNm232_ren:Go.Shelf.Ren:=⟨fun | 32=>175 | n=>n,fun | 3=>3 | 4=>4 | n=>n,fun | n=>n⟩
def Tryz.laysNm231_ren:Go.Shelf.Ren:=⟨fun | 31=>174 | 37=>182 | n=>n,fun | 3=>3 | 4=>4 | n=>n,fun | n=>n⟩
def Tryz.laysNm225_ren:Go.Shelf.Ren:=⟨fun | 25=>163 | 31=>174 | 32=>175 | 37=>182 | n=>n,fun | 22=>26 | 3=>3 | 4=>4 | 40=>108 | 0=>0 | n=>n,fun | n=>n⟩
end Go.Proofs
namespace Go.Proofs.YtkpooenofjdpmaaGreat
open Go.Proofs.Tryz (prog)
open Go.RowKit
open Go.ChangeShapes Go.WideShapes Go.ChangeAt
theorem cp:(ib prog 26).isSome=true:=by kernel_rfl
theorem c6:ib prog 26=some (3,1):=by kernel_rfl
theorem tb:aN prog 179=true:=by kernel_rfl
theorem td:aN prog 168=true:=by kernel_rfl
theorem tc:aN prog 169=true:=by kernel_rfl
theorem tj:aN prog 155=true:=by kernel_rfl
theorem tf:aN prog 157=true:=by kernel_rfl
theorem th:aN prog 156=true:=by kernel_rfl
theorem An (A:Option Addr) (c:Nat) (L:List Int) (w:World) (hr:ey iV w A L) (hn:1≤L.length) (hl:L.length≤1000000) :
 Rt prog 155 [.slice A L.length c] w (fun v w'=>(∃ m,v=.int .i64 m∧m∈L∧∀ x∈L,m≤x)∧w=w'):=by
 obtain ⟨ba,oa,rfl,hca⟩:=hr (by omega);refine enter (n:=25) Tryz.func155 rfl rfl rfl (ak (af (asi rfl (ai (ag (ak (ak (af (mvs rfl (aa (bF cp rfl) (aa (c8 (cg rfl rfl) (decide_eq_false (by omega))) (ai (ag (bA rfl ?_))))))))))))));refine aM (ag (ak (af (mvs rfl (aa (dd (i:=0) c6 rfl rfl (by omega)) (aa (ar ao rfl (by exact hca 0 (by omega))) ?_))))));refine asi rfl (ai (ag (ak (ak (af (asi rfl (ai (ag (a_ (cY (G:=Int×Nat) [12,13,14,15,16,17,18,19,20,21,22,23] (fun (m,k)=>[(3,.int .i64 m),(4,.int .i64 (k:Nat))]) (fun (m,k) w'=>1≤k∧k≤L.length∧m∈L∧(∀ i (h:i<L.length),i<k→m≤L[i])∧w=w') (fun (_,k)=>L.length-k) ((L[0],1)) ⟨rfl,rfl,trivial⟩ ?_ ?_))))))))))
 ·exact ⟨Nat.le_refl _,hn,List.getElem_mem _,fun i h h0=>by (obtain rfl:i=0:=by omega);exact Int.le_refl _,rfl⟩
 rintro ⟨m,k⟩ ρ1 w1 ⟨hk1,hk,hm,hle,rfl⟩;refine ak (ak (af (mvi rfl (mvs rfl (aa (bF cp rfl) (aa (cg rfl rfl) (ai (ag (Bn rfl (fun Q2=>?_) (fun Q2=>?_))))))))))
 ·refine aM (ag (ak (a_ (af (mvi rfl (mvs rfl (mvi rfl (aa (dd c6 rfl rfl (by omega)) (aa (ar ao rfl (by exact hca k (by omega))) ?_)))))))));refine aa (gA rfl rfl) (asi rfl (ai (bN (ag (af (mvi rfl (aa (dD (b:=1) rfl rfl (by omega)) (asi rfl (ai ?_)))))))));refine bT ((min m L[k],k+1)) ⟨(by first | rfl | (refine bM ?_;omega)),(by first | rfl | (refine bM ?_;omega)),trivial⟩ (by (iterate 28 refine bf rfl ?_);exact bB) ⟨?_,?_⟩
  ·refine ⟨by omega,by omega,?_,fun i h h0=>?_,rfl⟩
   ·rcases Int.le_total m L[k] with a | a
    ·rw [Int.min_eq_left a];exact hm
    ·rw [Int.min_eq_right a];exact List.getElem_mem _
   ·rcases Nat.lt_or_ge i k with a | a
    ·have:=hle i h a;omega
    ·obtain rfl:i=k:=by omega
     omega
  ·show _-_<_-_;omega
 refine cq (bg (bg (b_ (ag (ak (af (mvi rfl (asi rfl (ai (ag (aC (bw (v:=.int _ _) rfl rfl ?_))))))))))));obtain rfl:k=L.length:=by omega
 exact ⟨⟨m,rfl,hm,fun x hx=>by obtain ⟨i,hi,rfl⟩:=List.getElem_of_mem hx;exact hle i hi hi⟩,rfl⟩
theorem vb (A:Option Addr) (n c:Nat) (w:World) :
 Rt prog 157 [.slice A n c] w (fun v w'=>(∃ Bs,v=.func (.func 170) #[] #[.pointer (some ⟨Bs,0,none⟩)]∧w'.cell? ⟨Bs,0,none⟩=some (.slice A n c)∧Bs<w'.heap.size)∧ah w w'):=by
 refine enter (n:=4) Tryz.func157 rfl rfl rfl (ak (af (bZ (v:=.slice _ _ _) rfl ?_)));intro b1 w1 E1 hb1 hk1;refine aa (dt (v:=.nilFunc) rfl) (ai (ag (ak (af (aa (rZ (l1:=[]) (l2:=[.tmp 1])) (aa (dt (v:=.func _ _ _) rfl) (ai (ag (aC (bw (v:=.func _ _ _) rfl rfl (⟨⟨b1,rfl,(hk1.from_ ah.rfl_).rd 0 rfl,(hk1.from_ ah.rfl_).lt⟩,(ah.rfl_.next E1)⟩)))))))))))
theorem tW (Bs b off cap:Nat) (L:List Int) (w:World) (hL:L.length≤1000000) (hb:b<w.heap.size) (hBs:Bs<w.heap.size) (hs:w.cell? ⟨Bs,0,none⟩=some (.slice (some ⟨b,off,none⟩) L.length cap)) (hc:∀ j (h:j<L.length),w.cell? ⟨b,off+j,none⟩=some (.int .i64 L[j])) :
 Rt prog 168 [.func (.func 170) #[] #[.pointer (some ⟨Bs,0,none⟩)]] w (fun v w'=>(∃ A c,v=.slice A L.length c∧w'.ownsRow w.heap.size 3 1 (.slice A L.length c) L.length (L.map iV))∧ah w w'):=by
 refine enter (n:=5) Tryz.func168 rfl rfl rfl (ak (af (ass rfl (ai (ag (ak (af (aa (aK (v:=.func _ _ _) rfl) (az tb (rm Bs b off cap L _ hL hb hBs hs hc) ?_)))))))));rintro v4 w1 ⟨⟨A4,c4,rfl,ho4⟩,E4⟩;refine ass rfl (ai (ag (aC (bw (v:=.slice _ _ _) rfl rfl (⟨⟨A4,c4,rfl,ho4⟩,(ah.rfl_.next E4)⟩)))))
theorem wH (base c:Nat) (A:Option Addr) (L:List Int) (w:World) (ho:w.ownsRow base 3 1 (.slice A L.length c) L.length (L.map iV)) (hn:1≤L.length) (hl:L.length≤1000000) :
 Rt prog 169 [.slice A L.length c] w fun _ w'=>w'.ownsRow base 3 1 (.slice A L.length c) L.length ((srt L).map iV)∧w.grownBy w' (A.map (·.block)):=by
 rcases ho.2 with ⟨_,hz⟩ | ⟨g,cap,cur,hv,hbase,hb,h1,h2,h3,h4⟩
 ·omega
 ·simp only [Value.slice.injEq] at hv;obtain ⟨rfl,_,rfl⟩:=hv;refine Calls.mono (Tryz.slices_Sort_int g 0 c L w (holds_of_blockI hb (by simpa using h4)) (Array.getElem?_eq_some_iff.1 hb).1 (by omega)) fun e w' ⟨he,n,os,hw⟩=>⟨_,he,?_,?_⟩
  ·rw [hw];exact ownsRow_sortedI (qP L) hbase hb h1 h2 h3
  ·rw [hw];exact grownBy_sortedI _
theorem vi (Bs b off cap:Nat) (L:List Int) (w:World) (hL:L.length≤1000000) (hb:b<w.heap.size) (hBs:Bs<w.heap.size) (hs:w.cell? ⟨Bs,0,none⟩=some (.slice (some ⟨b,off,none⟩) L.length cap)) (hc:∀ j (h:j<L.length),w.cell? ⟨b,off+j,none⟩=some (.int .i64 L[j])) (hn:1≤L.length) :
 Rt prog 156 [.func (.func 170) #[] #[.pointer (some ⟨Bs,0,none⟩)]] w (fun v w'=>(∃ A c,v=.slice A L.length c∧w'.ownsRow w.heap.size 3 1 (.slice A L.length c) L.length ((srt L).map iV))∧ah w w'):=by
 refine enter (n:=9) Tryz.func156 rfl rfl rfl (ak (af (ass rfl (ai (ag (ak (af (aa (aK (v:=.func _ _ _) rfl) (az td (tW Bs b off cap L _ hL hb hBs hs hc) ?_)))))))));rintro v5 w1 ⟨⟨A5,c5,rfl,ho5⟩,E5⟩;refine ass rfl (ai (ag (ak (af (mvs rfl (az tc (wH _ c5 A5 L _ ho5 hn hL) ?_))))));rintro v7 w2 ⟨ho7,hg7⟩;refine ai (ag (ak (af (mvs rfl (ass rfl (ai (ag (aC (bw (v:=.slice _ _ _) rfl rfl (⟨⟨A5,c5,rfl,ho7⟩,((ah.rfl_.next E5).grew hg7 (fun k hk=>(eN ho5 k hk).1))⟩))))))))))
def AL (L:List Int) (v:Value):Prop:=(Fit L∧v=.tuple #[.int .i64 (med L),.int .i64 0])∨(¬ Fit L∧v=.tuple #[.int .i64 0,.int .i64 1])
theorem xS (A:Option Addr) (c:Nat) (L:List Int) (w:World) (hr:ey iV w A L) :
 Rt prog 115 [.slice A L.length c] w (fun v w'=>AL L v∧ah w w'):=by
 refine enter (n:=28) Tryz.func115 rfl rfl rfl (ak (af (asi rfl (asi rfl (ai (ag (ak (ak (af (mvs rfl (aa (bF cp rfl) (aa (cg rfl rfl) (mvb rfl ?_)))))))))))));refine AP (t:=8) rfl (fun Q1=>?_) (fun Q1=>?_)
 ·refine an rfl rfl (an rfl rfl (an rfl rfl (aa (aG (v:=.bool _) rfl rfl) (mvb rfl (an rfl rfl (an rfl rfl (an rfl rfl (aa (aG (v:=.bool _) rfl rfl) ?_))))))));refine ai (ag (aR rfl (ak (af (asi rfl (asi rfl (ai (ag (aC (aE (o6 (v:=.int _ _) (v':=.int _ _) rfl rfl rfl (⟨.inr ⟨fun hf=>?_,rfl⟩,ah.rfl_⟩))))))))))));obtain ⟨f1,f2,f3⟩:=hf
  first
   |omega
   |(have:=f3 _ hm15;omega)
 refine ae rfl (mvs rfl (ae rfl (aa (bF cp rfl) (ae rfl (aa (ch rfl rfl) (aa (av (v:=.bool _) rfl rfl) (mvb rfl (AP (t:=13) rfl (fun Q2=>?_) (fun Q2=>?_)))))))))
 ·refine an rfl rfl (an rfl rfl (an rfl rfl (aa (aG (v:=.bool _) rfl rfl) (ai (ag (aR rfl (ak (af (asi rfl (asi rfl ?_))))))))));refine ai (ag (aC (aE (o6 (v:=.int _ _) (v':=.int _ _) rfl rfl rfl (⟨.inr ⟨fun hf=>?_,rfl⟩,ah.rfl_⟩)))));obtain ⟨f1,f2,f3⟩:=hf
  first
   |omega
   |(have:=f3 _ hm15;omega)
 refine ae rfl (mvs rfl (ae rfl (az tj (An A c L _ (hr.from_ ah.rfl_) (by omega) (by omega)) ?_)));rintro v15 w3 ⟨⟨m15,rfl,hm15,hle15⟩,rfl⟩;refine ae rfl (aa (cg rfl rfl) (aa (av (v:=.bool _) rfl rfl) (ai (ag (Bn rfl (fun Q4=>?_) (fun Q4=>?_))))))
 ·refine ak (af (asi rfl (asi rfl (ai (ag (aC (aE (o6 (v:=.int _ _) (v':=.int _ _) rfl rfl rfl (⟨.inr ⟨fun hf=>?_,rfl⟩,ah.rfl_⟩)))))))));obtain ⟨f1,f2,f3⟩:=hf
  first
   |omega
   |(have:=f3 _ hm15;omega)
 refine aM (ag (ak (af (mvs rfl ?_))));have hfit:Fit L:=⟨by omega,by omega,fun x hx=>by have:=hle15 x hx;omega⟩;obtain ⟨ba,oa,rfl,hca⟩:=hr (by omega);refine az tf (vb _ L.length c _) ?_;rintro v19 w5 ⟨⟨Bs,rfl,hs19,hl19⟩,E19⟩;refine az th (vi Bs ba oa c L _ (by omega) (by have:=World.block_lt_of_cell? _ _ (hca 0 (by omega));have:=E19.size;exact Nat.lt_of_lt_of_le ‹_› ‹_›) hl19 hs19 (fun j h=>fC (ah.rfl_.next E19) (hca j h)) (by omega)) ?_;rintro v20 w6 ⟨⟨A20,c20,rfl,ho20⟩,E20⟩;obtain ⟨g20,rfl⟩:=ft ho20 (by omega);refine ass rfl (ai (ag (ak (af (mvs rfl (mvs rfl (aa (bF cp rfl) (aa (yN (b:=1) rfl rfl (by omega)) (aa (yO (b:=2) rfl rfl (by omega)) (aa (eA c6 rfl rfl (by omega)) ?_))))))))));refine aa (ar ao rfl (by have h27:=j5 (l:=srt L) ho20 ((L.length-1)/2) (by rw [qP];omega);exact h27)) ?_;refine asi rfl (asi rfl (ai (ag (aC (o6 (v:=.int _ _) (v':=.int _ _) rfl rfl rfl ?_)))));obtain ⟨h2,e⟩:=xI hfit.1;exact ⟨.inl ⟨hfit,by rw [e]⟩,((ah.rfl_.next E19).next E20)⟩
theorem uz:kB prog 166=some (.agg #[.bool false,.bool false,.bool false,.bool false,.bool false,.bool false,.bool false,.bool false]):=by kernel_rfl
theorem pQ:zE prog 166=some (8,1):=by kernel_rfl
theorem gm:jG prog 4=some false:=by kernel_rfl
theorem yu:ef prog 4=some 1:=by kernel_rfl
theorem zP {α:Type} {a b:List α} {k:Nat} (hl:a.length=b.length) (hk:¬ k<a.length) (h:a.take k=b.take k):a=b:=by
 rw [List.take_of_length_le (by omega),List.take_of_length_le (by omega)] at h;exact h
theorem uC {α:Type} {a b:List α} {k:Nat} (ha:k<a.length) (hb:k<b.length) (h:a.take k=b.take k) (he:a[k]=b[k]):a.take (k+1)=b.take (k+1):=by
 rw [List.take_succ_eq_append_getElem ha,List.take_succ_eq_append_getElem hb,h,he]
theorem AC (n:Nat):cv [] n=0:=by
 unfold cv;rw [List.countP_eq_zero];simp
def okV (n:Int) (L:List Int):Bool:=decide (1≤n∧n≤7)&&decide (n<2*(cv L n.toNat:Nat))
def eV (n:Int):Int:=if 1≤n∧n≤7 then 0 else 1
theorem Ak {N:Nat} (h:1≤(N:Int)∧(N:Int)≤7) (L:List Int):okV N L=decide ((N:Int)<2*(cv L N:Nat)):=by
 unfold okV;rw [decide_eq_true h,Bool.true_and,Int.toNat_natCast]
theorem uN {n:Int} (h:¬ (1≤n∧n≤7)) (L:List Int):okV n L=false:=by
 unfold okV;rw [decide_eq_false h,Bool.false_and]
theorem Bh {n:Int} (h:1≤n∧n≤7):eV n=0:=if_pos h
theorem x7 {n:Int} (h:¬ (1≤n∧n≤7)):eV n=1:=if_neg h
theorem AR {a b:Bool} {x:Value} (h:a=b):Value.tuple #[.bool a,x]=.tuple #[.bool b,x]:=by rw [h]
theorem vP (A:Option Addr) (c:Nat) (n:Int) (L:List Int) (w:World) (hr:ey iV w A L) (hl:L.length≤1000000) :
 Rt prog 123 [.int .i64 n,.slice A L.length c] w (fun v w'=>v=.tuple #[.bool (okV n L),.int .i64 (eV n)]∧ah w w'):=by
 refine enter (n:=43) Tryz.func123 rfl rfl rfl (ak (af (asb rfl (asi rfl (ai (ag (ak (ak (af (mvi rfl (aa (cg rfl rfl) (mvb rfl (AP (t:=12) rfl (fun Q1=>?_) (fun Q1=>?_))))))))))))))
 ·refine an rfl rfl (an rfl rfl (aa (aG (v:=.bool _) rfl rfl) (ai (ag (aR rfl (ak (af (asb rfl (asi rfl (ai (ag (aC (aE ?_)))))))))))));refine o6 (v:=.bool _) (v':=.int _ _) rfl rfl rfl (⟨?_,ah.rfl_⟩);rw [uN (by omega),x7 (by omega)]
 refine ae rfl (mvi rfl (ae rfl (aa (ch rfl rfl) (aa (av (v:=.bool _) rfl rfl) (ai (ag (Bn rfl (fun Q2=>?_) (fun Q2=>?_))))))))
 ·refine ak (af (asb rfl (asi rfl (ai (ag (aC (aE (o6 (v:=.bool _) (v':=.int _ _) rfl rfl rfl (⟨?_,ah.rfl_⟩)))))))));rw [uN (by omega),x7 (by omega)]
 refine aM (ag (ak (af ?_)));obtain ⟨N,rfl⟩:∃ N:Nat,n=N:=⟨n.toNat,by omega⟩;have hB6:ah w w:=ah.rfl_;refine bQ uz ?_;intro b6 w3 E6 hb6 hk6;have hg6:w.heap.size≤b6:=by have:=hB6.size;omega
 refine ai (ag (ak (af (asi rfl (ai (ag (ak (ak (af (mvs rfl (aa (bF cp rfl) (mvi rfl (ai (ag (a_ (cY (G:=Nat) [9,19,20,21,22,23,24,25,26,27,28,29,30,31,32,33,34,35,36,37,38] (fun k=>[(7,.int .i64 (cv (L.take k) N:Nat)),(18,.int .i64 (k:Nat))]) (fun k w'=>k≤L.length∧Blk w' b6 166 (mj (L.take k) N).toArray∧ah w w') (fun k=>L.length-k) (0) ⟨(bM (by rw [List.take_zero,AC];rfl)),rfl,trivial⟩ ?_ ?_))))))))))))))))
 ·exact ⟨Nat.zero_le _,by rw [List.take_zero,wq];exact hk6.from_ ah.rfl_,(ah.rfl_.next E6)⟩
 rintro k ρ4 w4 ⟨hk,hP,hB⟩;have hcl:=Bi (L.take k) N;refine ak (af (aa (cg rfl rfl) (ai (ag (ak (Bn rfl (fun Q5=>?_) (fun Q5=>?_)))))))
 ·obtain ⟨ba,oa,rfl,hca⟩:=hr (by omega);refine aM (ag (ak (a_ (ak (af (aa (dd c6 rfl rfl (by omega)) (aa (ar ao rfl (by exact fC hB (hca k (by omega)))) ?_)))))));refine asi rfl (ai (ag (ak (ak (af (mvi rfl (aa (cg rfl rfl) (mvb rfl (AP (t:=24) rfl (fun Q6=>?_) (fun Q6=>?_))))))))))
  ·have hsk:¬ (1≤L[k]∧L[k]≤N)∨L[k]∈L.take k:=.inl (by omega);have hV:=hP;rw [←mU (by omega) hsk] at hV;have hC:=oH (n:=N) (by omega) hsk;refine an rfl rfl (an rfl rfl (an rfl rfl (aa (aG (v:=.bool _) rfl rfl) (mvb rfl (an rfl rfl (an rfl rfl (an rfl rfl (aa (aG (v:=.bool _) rfl rfl) ?_))))))));refine ai (ag (aR rfl (cq (bg (b_ (ag (af (aa (dD (b:=1) rfl rfl (by omega)) (mvi rfl (ai ?_))))))))));refine bT (k+1) ⟨(by first | rfl | (refine bM ?_;omega)),(by first | rfl | (refine bM ?_;omega)),trivial⟩ (by (iterate 42 refine bf rfl ?_);exact bB) ⟨?_,?_⟩
   ·exact ⟨by omega,hV,hB⟩
   ·omega
  refine ae rfl (mvi rfl (ae rfl (mvi rfl (ae rfl (aa (ch rfl rfl) (aa (av (v:=.bool _) rfl rfl) (mvb rfl (AP (t:=29) rfl (fun Q7=>?_) (fun Q7=>?_)))))))))
  ·have hsk:¬ (1≤L[k]∧L[k]≤N)∨L[k]∈L.take k:=.inl (by omega);have hV:=hP;rw [←mU (by omega) hsk] at hV;have hC:=oH (n:=N) (by omega) hsk;refine an rfl rfl (an rfl rfl (an rfl rfl (aa (aG (v:=.bool _) rfl rfl) (ai (ag (aR rfl (cq (bg (b_ (ag (af (aa (dD (b:=1) rfl rfl (by omega)) ?_))))))))))));refine mvi rfl (ai ?_);refine bT (k+1) ⟨(by first | rfl | (refine bM ?_;omega)),(by first | rfl | (refine bM ?_;omega)),trivial⟩ (by (iterate 43 refine bf rfl ?_);exact bB) ⟨?_,?_⟩
   ·exact ⟨by omega,hV,hB⟩
   ·omega
  refine ae rfl (mvi rfl (ae rfl (aa (lJ pQ rfl rfl (by omega)) (ae rfl (aa (ar gm rfl (by exact hP.rd _ (rN _ N _ (by omega)))) ?_)))));refine aa (av (v:=.bool _) rfl rfl) (ai (ag (Bn rfl (fun Q8=>?_) (fun Q8=>?_))))
  ·have h9:=Q8;have hsk:¬ (1≤L[k]∧L[k]≤N)∨L[k]∈L.take k:=.inr (by have h8:=h9.2.2;rwa [Int.toNat_of_nonneg (by omega)] at h8);have hV:=hP;rw [←mU (by omega) hsk] at hV;have hC:=oH (n:=N) (by omega) hsk;refine cq (bg (b_ (ag (af (aa (dD (b:=1) rfl rfl (by omega)) (mvi rfl (ai ?_)))))));refine bT (k+1) ⟨(by first | rfl | (refine bM ?_;omega)),(by first | rfl | (refine bM ?_;omega)),trivial⟩ (by (iterate 43 refine bf rfl ?_);exact bB) ⟨?_,?_⟩
   ·exact ⟨by omega,hV,hB⟩
   ·omega
  have h9:=Q8;have hnew:L[k] ∉ L.take k:=fun hm=>h9 ⟨by omega,by omega,by rw [Int.toNat_of_nonneg (by omega)];exact hm⟩
  have hC:=x8 (by omega) hnew N (by omega) (by omega);refine aM (ag (ak (af (mvi rfl (aa (lJ pQ rfl rfl (by omega)) (eE (v:=.bool _) yu rfl rfl rfl (hP) (by simp [mj];omega) ?_))))));intro w9 O9 P9;have hV:=P9;rw [wt (by omega) (by omega) (by omega) (by omega)] at hV;refine ai (ag (af (mvi rfl (aa (dD (b:=1) rfl rfl (by omega)) (asi rfl (ai (bN (ag (af (aa (dD (b:=1) rfl rfl (by omega)) (mvi rfl (ai ?_))))))))))));refine bT (k+1) ⟨(by first | rfl | (refine bM ?_;omega)),(by first | rfl | (refine bM ?_;omega)),trivial⟩ (by (iterate 48 refine bf rfl ?_);exact bB) ⟨?_,?_⟩
  ·exact ⟨by omega,hV,(hB.only O9 (hg6))⟩
  ·omega
 refine cq (bg (bg (b_ (ag (ak (af (mvi rfl (aa (yP (a:=2) rfl rfl (by omega)) (mvi rfl (aa (ch rfl rfl) (asb rfl (asi rfl (ai (ag (aC ?_)))))))))))))));refine o6 (v:=.bool _) (v':=.int _ _) rfl rfl rfl ?_;obtain rfl:k=L.length:=by omega
 refine ⟨?_,hB⟩;rw [Ak (by omega),Bh (by omega),List.take_length];exact AR (decide_eq_decide.2 (by omega))
theorem aB:cD prog 91 0=some 0:=by kernel_rfl
theorem bj:cD prog 29 6=some 6:=by kernel_rfl
theorem mP:aN prog 152=true:=by kernel_rfl
theorem rz:aN prog 121=true:=by kernel_rfl
theorem gx:aN prog 111=true:=by kernel_rfl
theorem cf:cD prog 29 1=some 1:=by kernel_rfl
theorem ry:aN prog 123=true:=by kernel_rfl
theorem gU:cD prog 29 11=some 13:=by kernel_rfl
theorem ll:jG prog 25=some false:=by kernel_rfl
theorem sZ:aN prog 94=true:=by kernel_rfl
theorem sY:ef prog 25=some 1:=by kernel_rfl
theorem fp:cD prog 29 10=some 12:=by kernel_rfl
theorem bd:ef prog 3=some 1:=by kernel_rfl
theorem dq:cD prog 29 9=some 11:=by kernel_rfl
theorem cw:cD prog 29 0=some 0:=by kernel_rfl
theorem zA (s:Int) (w:World):Rt prog 94 [.int .u64 s,.int .i64 10] w fun v w'=>v=.tuple #[.int .u64 (nx s),.int .i64 (bl s 10)]∧ah w w':=Rt.of (below s 10 w (by decide))
theorem zp (A:Option Addr) (c:Nat) (n:Int) (L:List Int) (w:World) (hr:ey iV w A L) (hl:L.length≤1000000) (hn:1≤n∧n≤7):Rt prog 123 [.int .i64 n,.slice A L.length c] w fun v w'=>v=.tuple #[.bool (fv n L),.int .i64 0]∧ah w w':=
 (vP A c n L w hr hl).mono fun v w' h=>⟨by
  rw [h.1];unfold okV eV fv;rw [if_pos hn,decide_eq_true hn,Bool.true_and,show decide (n<2*((cv L n.toNat:Nat):Int))=decide (n.toNat<2*cv L n.toNat) from decide_eq_decide.2 (by omega)],h.2⟩
theorem uM (id:Int) (k:Nat):(j6 id k).length≤k:=by
 unfold j6;refine Nat.le_trans (List.length_filter_le _ _) ?_;simp
theorem xr {id:Int} {k:Nat} (h:((k:Int)+1)≠id):j6 id (k+1)=j6 id k++[(k:Int)+1]:=by
 rw [qs,if_neg (by omega)];rfl
theorem y3 {id:Int} {k:Nat} (h:((k:Int)+1)=id):j6 id (k+1)=j6 id k:=by rw [qs,if_pos (by omega)]
theorem j9 (T g:Nat) (s:Rf) (a:Ra) (R:List Value) (w:World) (hb:Blk w g T (rfV s a++R).toArray) (he:bX w (.slice a.E s.es.length a.Ec) s.es) (hm:bR s.b s.t s.es=true) :
 Rt prog 111 [.pointer (some ⟨g,0,none⟩)] w (fun v w'=>v=.tuple #[.int .i64 (bn s),.int .i64 (di s.t s.es)]∧ah w w'):=by
 refine enter (n:=16) Tryz.func111 rfl rfl rfl (ak (af (asi rfl (asi rfl (ai (ag (ak (af (mvp rfl (aa (aw rfl) (aa (ab aB rfl) (aa (ab bj rfl) ?_))))))))))));refine aa (aD (cs:=[.int .i64 s.b,.int .i64 s.t,.slice a.E s.es.length a.Ec]) aY aL rfl (iM (hb.from_ ah.rfl_))) (az mP (zc s.b s.t a.E s.es.length a.Ec s.es _ (he.from_ ah.rfl_) hm) ?_);rintro v10 w1 ⟨rfl,E10⟩;refine mvt rfl (aa (aO rfl rfl) (aa (aO rfl rfl) (aa (aO rfl rfl) (asi rfl (asi rfl (ai (ag (ak (af (mvi rfl (mvi rfl ?_)))))))))));refine asi rfl (asi rfl (ai (ag (aC (o6 (v:=.int _ _) (v':=.int _ _) rfl rfl rfl (⟨rfl,(ah.rfl_.next E10)⟩))))))
theorem rP (T g:Nat) (s:Rf) (a:Ra) (R:List Value) (w:World) (hb:Blk w g T (rfV s a++R).toArray) (he:bX w (.slice a.E s.es.length a.Ec) s.es) (hm:bR s.b s.t s.es=true) (i:Int) (hi:s.b≤i∧i≤bn s) :
 Rt prog 83 [.pointer (some ⟨g,0,none⟩),.int .i64 i] w (fun v w'=>v=.int .i64 (dw s.b s.t s.es i)∧ah w w'):=by
 refine enter (n:=18) Tryz.func83 rfl rfl rfl (ak (af (asi rfl (ai (ag (ak (af (mvp rfl (aa (aw rfl) (aa (ab aB rfl) (aa (ab bj rfl) (aa (aD (cs:=[.int .i64 s.b,.int .i64 s.t,.slice a.E s.es.length a.Ec]) aY aL rfl (iM (hb.from_ ah.rfl_))) ?_))))))))))));refine mvi rfl (az rz (yH s.b s.t i a.E s.es.length a.Ec s.es _ (he.from_ ah.rfl_) hm hi) ?_);rintro v14 w1 ⟨rfl,E14⟩;refine mvt rfl (aa (aO rfl rfl) (aa (aO rfl rfl) (asi rfl (asi rfl (ai (ag (ak (af (mvi rfl (asi rfl (ai (ag (aC ?_)))))))))))));refine bw (v:=.int _ _) rfl rfl (⟨rfl,(ah.rfl_.next E14)⟩)
theorem zg (T g:Nat) (s:Rf) (a:Ra) (R:List Value) (w:World) (hb:Blk w g T (rfV s a++R).toArray) (he:bX w (.slice a.E s.es.length a.Ec) s.es) (hm:bR s.b s.t s.es=true) :
 Rt prog 75 [.pointer (some ⟨g,0,none⟩)] w (fun v w'=>v=.bool (ia s)∧ah w w'):=by
 refine enter (n:=22) Tryz.func75 rfl rfl rfl (ak (af (asb rfl (ai (ag (ak (af (mvp rfl (az gx (j9 T g s a R _ (hb.from_ ah.rfl_) (he.from_ ah.rfl_) hm) ?_)))))))));rintro v7 w1 ⟨rfl,E7⟩;refine mvt rfl (aa (aO rfl rfl) (aa (aO rfl rfl) (asi rfl (asi rfl (ai (ag (ak (af (mvp rfl (aa (aw rfl) (aa (ab aB rfl) ?_)))))))))));refine aa (ab bj rfl) (aa (ab cX rfl) (aa (ar bk rfl (by exact dK (hb.from_ (ah.rfl_.next E7)) 8 rfl)) ?_));refine aa (bF bC rfl) (aa (bt rfl rfl) (mvb rfl (AO (t:=18) rfl (fun Q2=>?_) (fun Q2=>?_))))
 ·refine an rfl rfl (an rfl rfl (aa (aG (v:=.bool _) rfl rfl) (asb rfl (ai (ag (aC (bw (v:=.bool _) rfl rfl (⟨congrArg Value.bool ?_,(ah.rfl_.next E7)⟩))))))));unfold ia
  first
   |(rw [Bool.eq_iff_iff];simp only [Bool.or_eq_true,decide_eq_true_eq];omega)
   |(rw [eq_comm,Bool.or_eq_true];left;rw [decide_eq_true_eq];omega)
 refine ae rfl (mvi rfl (ae rfl (aa (bt rfl rfl) (aa (av (v:=.bool _) rfl rfl) (asb rfl (ai (ag (aC (bw (v:=.bool _) rfl rfl (⟨congrArg Value.bool ?_,(ah.rfl_.next E7)⟩))))))))));unfold ia
 first
  |(rw [Bool.eq_iff_iff];simp only [Bool.or_eq_true,decide_eq_true_eq,beq_iff_eq];omega)
  |(rw [eq_comm,Bool.or_eq_true];left;rw [decide_eq_true_eq];omega)
theorem tS (T g:Nat) (s:Rf) (a:Ra) (R:List Value) (w:World) (hb:Blk w g T (rfV s a++R).toArray) (A:Option Addr) (c:Nat) (l:List Int) (hr:ey iV w A l) (hl:l.length≤1000000) (hn:1≤s.nodes∧s.nodes≤7) :
 Rt prog 86 [.pointer (some ⟨g,0,none⟩),.slice A l.length c] w (fun v w'=>v=.bool (fv s.nodes l)∧ah w w'):=by
 refine enter (n:=22) Tryz.func86 rfl rfl rfl (ak (af (asb rfl (ai (ag (ak (af (mvp rfl (aa (aw rfl) (aa (ab aB rfl) (aa (ab cf rfl) (aa (ar ao rfl (by exact dK (hb.from_ ah.rfl_) 1 rfl)) ?_))))))))))));refine mvs rfl (az ry (zp A c s.nodes l _ (hr.from_ ah.rfl_) hl hn) ?_);rintro v14 w1 ⟨rfl,E14⟩;refine mvt rfl (aa (aO rfl rfl) (aa (aO rfl rfl) (asb rfl (asi rfl (ai (ag (ak (af (mvb rfl (mvb rfl (AP (t:=18) rfl (fun Q2=>?_) (fun Q2=>?_))))))))))))
 ·refine ae rfl (mvi rfl (ae rfl (aa (dh (bt rfl rfl) rfl) (aa (aG (v:=.bool _) rfl rfl) (asb rfl (ai (ag (aC (bw (v:=.bool _) rfl rfl (⟨congrArg Value.bool ?_,(ah.rfl_.next E14)⟩))))))))));unfold fv
  first
   |exact (decide_eq_true (by omega)).symm
   |exact (decide_eq_false (by omega)).symm
 refine an rfl rfl (an rfl rfl (aa (av (v:=.bool _) rfl rfl) (asb rfl (ai (ag (aC (bw (v:=.bool _) rfl rfl (⟨congrArg Value.bool ?_,(ah.rfl_.next E14)⟩))))))));unfold fv
 first
  |exact (decide_eq_true (by omega)).symm
  |exact (decide_eq_false (by omega)).symm
theorem rf (T g:Nat) (s:Rf) (a:Ra) (R:List Value) (w:World) (hb:Blk w g T (rfV s a++R).toArray) :
 Rt prog 54 [.pointer (some ⟨g,0,none⟩)] w (fun v w'=>v=.tuple #[]∧Blk w' g T (rfV (iN s) a++R).toArray∧Chg (fun k=>k=g) w w'):=by
 have hbl:=t_ s.seed;refine enter (n:=28) Tryz.func54 rfl rfl rfl (ak (af (mvp rfl (aa (aw rfl) (aa (ab aB rfl) (aa (ab gU rfl) (aa (ar ll rfl (by exact dK (hb.from_ ah.rfl_) 13 rfl)) ?_)))))));refine az sZ (zA s.seed _) ?_;rintro v10 w1 ⟨rfl,E10⟩;refine mvt rfl (aa (aO rfl rfl) (aa (aO rfl rfl) (asi rfl (asi rfl (ai (ag (af (mvp rfl (mvp rfl (mvp rfl ?_))))))))));refine mvi rfl (mvi rfl (aa (bW rfl rfl (by omega)) (aa (aw rfl) (aa (ab aB rfl) (aa (ab gU rfl) (cK (s':={ s with seed:=nx s.seed }) (a':=a) (v:=.int _ _) sY rfl rfl rfl ((hb.from_ (ah.rfl_.next E10))) (by exact ⟨by decide,rfl⟩) ?_))))));intro w2 O1a P1a;have hC1:Chg (fun k=>k=g) w w2:=(ah.toChg E10).only O1a rfl;refine aa (aw rfl) (aa (ab aB rfl) (aa (ab fp rfl) (cK (s':={ s with seed:=nx s.seed,timeout:=10+bl s.seed 10 }) (a':=a) (v:=.int _ _) bd rfl rfl rfl (P1a) (by exact ⟨by decide,rfl⟩) ?_)));intro w3 O1b P1b;replace hC1:=hC1.only O1b rfl;refine aa (aw rfl) (aa (ab aB rfl) (aa (ab dq rfl) (cK (s':=iN s) (a':=a) (v:=.int _ _) bd rfl rfl rfl (P1b) (by exact ⟨by decide,rfl⟩) ?_)));intro w4 O1c P1c;replace hC1:=hC1.only O1c rfl;refine ai (du (eB rfl (⟨rfl,P1c,hC1⟩)))
theorem qq (T g:Nat) (s:Rf) (a:Ra) (R:List Value) (w:World) (hb:Blk w g T (rfV s a++R).toArray) (hn:0≤s.nodes∧s.nodes≤1000000) :
 Rt prog 77 [.pointer (some ⟨g,0,none⟩)] w (fun v w'=>(∃ A c,v=.slice A (dE s).length c∧w'.ownsRow w.heap.size 3 1 (.slice A (dE s).length c) (dE s).length ((dE s).map iV))∧ah w w'):=by
 refine enter (n:=26) Tryz.func77 rfl rfl rfl (ak (af (ass rfl (ai (ag (ak (af (ass rfl (ai (ag (ak (ak (af (asi rfl (ai (ag (a_ (cY (G:=Nat×Option Addr×Nat) [5,6,7,8,9,10,11,12,13,14,15,16,17,18,19,20,21,22,23,24] (fun (k,A3,c3)=>[(3,.slice A3 (j6 s.id k).length c3),(4,.int .i64 ((k:Int)+1))]) (fun (k,A3,c3) w'=>(k:Int)≤s.nodes∧w'.ownsRow w.heap.size 3 1 (.slice A3 (j6 s.id k).length c3) (j6 s.id k).length ((j6 s.id k).map iV)∧ah w w') (fun (k,_,_)=>s.nodes.toNat-k) ((0,none,0)) ⟨rfl,rfl,trivial⟩ ?_ ?_))))))))))))))))))
 ·exact ⟨by omega,World.ownsRow_nil _ _ _ _,ah.rfl_⟩
 rintro ⟨k,A3,c3⟩ ρ1 w1 ⟨hk,ho3,hB⟩;refine ak (ak (af (mvi rfl (mvp rfl (aa (aw rfl) (aa (ab aB rfl) (aa (ab cf rfl) (aa (ar ao rfl (by exact dK (hb.from_ hB) 1 rfl)) ?_))))))));refine aa (gH rfl rfl) (ai (ag (Bn rfl (fun Q2=>?_) (fun Q2=>?_))))
 ·have hle:=uM s.id k;refine aM (ag (ak (a_ (ak (af (mvi rfl (mvp rfl (aa (aw rfl) (aa (ab aB rfl) (aa (ab cw rfl) (aa (ar ao rfl (by exact dK (hb.from_ hB) 0 rfl)) ?_)))))))))));refine aa (dp rfl rfl) (ai (ag (aQ rfl (fun Q3=>?_) (fun Q3=>?_))))
  ·replace Q3:=dF Q3;replace Q3:=en Q3;have hoy:=xr (id:=s.id) (k:=k) (by omega);have hol:(j6 s.id (k+1)).length=(j6 s.id k).length+1:=by rw [hoy,List.length_append];rfl
   refine af (mvs rfl (mvi rfl (fq (v:=.int _ _) cj rfl rfl rfl ?_)));intro b23 w4 E23 hb23 hk23;refine rV (a0:=w) cj rfl rfl (ho3.kept_from E23) (hB.next E23) rfl hk23 rfl (by omega) (by omega) ?_;intro A24 c24 w5 ho24 B24 hg24;refine ass rfl (ai (bN (ag (af (mvi rfl (aa (bW rfl rfl (by omega)) (asi rfl (ai ?_))))))));refine bT ((k+1,A24,c24)) ⟨by first | exact congrArg (fun q=>Value.slice A24 q c24) hol.symm | exact (congrArg (fun q=>Value.slice A24 q c24) hol).symm,bM (by omega),trivial⟩ (by (iterate 44 refine bf rfl ?_);exact bB) ⟨?_,?_⟩
   ·exact ⟨by omega,by first | (rw [hoy,List.map_append,List.length_append];exact ho24) | (rw [hoy];exact ho24),B24⟩
   ·show s.nodes.toNat-(k+1)<s.nodes.toNat-k;omega
  replace Q3:=dG Q3;replace Q3:=ek Q3;obtain ⟨A24,rfl⟩:∃ x,x=A3:=⟨_,rfl⟩;obtain ⟨c24,rfl⟩:∃ x,x=c3:=⟨_,rfl⟩;have hoy:=y3 (id:=s.id) (k:=k) (by omega);have hol:(j6 s.id (k+1)).length=(j6 s.id k).length:=by rw [hoy]
  have ho24:=ho3;refine aM (bN (ag (af (mvi rfl (aa (bW rfl rfl (by omega)) (asi rfl (ai ?_)))))));refine bT ((k+1,A24,c24)) ⟨by first | exact congrArg (fun q=>Value.slice A24 q c24) hol.symm | exact (congrArg (fun q=>Value.slice A24 q c24) hol).symm,bM (by omega),trivial⟩ (by (iterate 39 refine bf rfl ?_);exact bB) ⟨?_,?_⟩
  ·exact ⟨by omega,by first | (rw [hoy,List.map_append,List.length_append];exact ho24) | (rw [hoy];exact ho24),hB⟩
  ·show s.nodes.toNat-(k+1)<s.nodes.toNat-k;omega
 refine cq (bg (bg (b_ (ag (ak (af (mvs rfl (ass rfl (ai (ag (aC (bw (v:=.slice _ _ _) rfl rfl ?_))))))))))));have hkn:k=s.nodes.toNat:=by omega
 subst hkn;exact ⟨⟨A3,c3,rfl,ho3⟩,hB⟩
end Go.Proofs.YtkpooenofjdpmaaGreat
namespace Go.Proofs.YtkpooenofjdpmaaGreat
open Go.Proofs.Tryz (prog)
open Go.RowKit
def oV (B T:Int) (xs:List Ent) (i n:Int):Int:=if bR B T xs=true then (if B+1≤i∧i≤dy B xs+1 then (if n<0 then 1 else 0) else 3) else 1
def Br (w w':World) (ys:List Ent) (c:Int) (v:Value):Prop:=(c≠0→v=.slice none 0 0)∧(c=0→w'.ownsRow w.heap.size 99 3 v ys.length (cN ys))
def AT (A:Option Addr) (cap k:Nat):Option Addr:=if cap=k then A else Option.map (fun x=>x.add (k*3)) A
theorem vj (B T i n:Int) (v:Value) (xs:List Ent) (w:World) (h:bX w v xs) (hn9:n≤9223372036854775807) :
 Calls prog 114 #[.agg #[.int .i64 B,.int .i64 T,v],.int .i64 i,.int .i64 n] w fun e w'=>∃ L,e=.returned (.tuple #[L,.int .i64 (oV B T xs i n)])∧Br w w' ((xs.drop (i-B-1).toNat).take n.toNat) (oV B T xs i n) L∧ah w w':=by
 obtain ⟨f0,f1,f2,hbb,hwb⟩:=fP (w:=w) (B:=B) (T:=T) (v:=v) (t:=24);have hch:=fun w' (hw:ah w w')=>ja B T v xs w' (h.from_ hw)
 have hlo:=fun w' (hw:ah w w')=>js B T v xs w' (h.from_ hw)
 have hwi:=jf;have HW:=Lib.hid hwi;unfold chk at hch;have HE:=Lib.hid h;have hdef:oV B T xs i n=oV B T xs i n:=rfl
 conv at hdef=>rhs;unfold oV
 obtain ⟨A,cap,rfl,hc1,hc2,hc3,hrow⟩:=h;clear hc3 hrow hwi;by_cases hm:bR B T xs=true
 ·rw [if_pos hm] at hch hdef;obtain ⟨hl,hB0,hB1,hx⟩:=np hm;rw [hl] at hlo hdef;have HC:=Lib.hid hch;have HL:=Lib.hid hlo;clear hch hlo hm hl;by_cases hin:B+1≤i∧i≤B+xs.length+1
  ·rw [if_pos hin] at hdef;have hib:=eu hin;by_cases hneg:n<0
   ·rw [if_pos hneg] at hdef;rw [hdef];have e1:decide (n<0)=true:=decide_eq_true hneg;clear hdef hin hneg
    go_enter Tryz.func114,Tryz.ntmps114
    go_wp2_with (first
     |(go_at_call 116;(with_reducible refine (HC.out _ hwb).mono ?_);rintro e w1 ⟨rfl,hb1⟩;have hw1:=ah.next (a:=w) hwb hb1;have hbw1:=ah.next (a:=_) hbb hb1)
     |(go_at_call 117;(with_reducible refine (HL.out _ hw1).mono ?_);rintro e w2 ⟨rfl,hb3⟩;have hw2:=ah.next (a:=w) hw1 hb3;have hbw2:=ah.next (a:=_) hbw1 hb3)
     |(go_at_call 118;(with_reducible refine (HW.out _ _ _ _).mono ?_);rintro e w3 ⟨rfl,hb4⟩;have hw3:=ah.next (a:=w) hw2 hb4))
    go_ret2
    exact ⟨_,rfl,⟨fun _=>rfl,fun h=>absurd h (by decide)⟩,hw3⟩
   ·rw [if_neg hneg] at hdef;rw [hdef];obtain ⟨k,hk⟩:∃ k:Nat,i=B+k+1:=⟨(i-B-1).toNat,by omega⟩;obtain ⟨m,hmn⟩:∃ m:Nat,n=m:=⟨n.toNat,by omega⟩;subst hmn;have e1:decide ((m:Int)<0)=false:=decide_eq_false hneg;have hkn:(i-B-1).toNat=k:=by omega
    have hmt:(m:Int).toNat=m:=by omega
    rw [hkn,hmt];have hkl:k≤xs.length:=by omega
    have hrest:=HE.out.rest hkl;have hdl:(xs.drop k).length=xs.length-k:=List.length_drop;obtain ⟨q,hq⟩:∃ q:Nat,q=min m (xs.length-k):=⟨_,rfl⟩;have hql:q≤xs.length-k:=by omega
    have hcut:=hrest.cut (k:=q) (by omega)
    have htk:(xs.drop k).take m=(xs.drop k).take q:=by
     rw [hq];by_cases hle:m≤xs.length-k
     ·rw [Nat.min_eq_left hle]
     ·rw [Nat.min_eq_right (by omega),List.take_of_length_le (by omega),List.take_of_length_le (by omega)]
    rw [htk];have hcl:=fun w' (hw:ah w w')=>qC _ _ w' (hcut.from_ hw) (by rw [List.length_take];omega)
    have HCL:=Lib.hid hcl;have hra:(if cap=k then A else Option.map (fun x=>x.add (k*3)) A)=AT A cap k:=rfl;rw [hra] at HCL;have j0:i-B-1=(k:Int):=by omega
    have j1:(0:Int)≤(k:Int):=by omega
    have j2:(k:Int)≤(xs.length:Int):=by omega
    have j3:(k:Int)≤(cap:Int):=by omega
    have q1:(0:Int)≤(q:Int):=by omega
    have q2:(q:Int)≤((xs.length-k:Nat):Int):=by omega
    have q3:(q:Int)≤((cap-k:Nat):Int):=by omega
    have hHQ:=Lib.hid hq;have HI:=Lib.hid hin;have hii:B+1≤i∧i≤B+600:=by omega
    clear hdef hkn hmt hrest hcut htk hcl hin hneg hq;by_cases hle:m≤xs.length-k
    ·have hqm:q=m:=by have:=hHQ.out;omega
     subst hqm;have e5:min (q:Int) ((xs.length-k:Nat):Int)=(q:Int):=by omega
     have e6:(q:Int)≤((xs.length-k:Nat):Int):=by omega
     clear hk
     go_enter Tryz.func114,Tryz.ntmps114
     go_wp2_with (first
      |(go_at_call 116;(with_reducible refine (HC.out _ hwb).mono ?_);rintro e w1 ⟨rfl,hb1⟩;have hw1:=ah.next (a:=w) hwb hb1;have hbw1:=ah.next (a:=_) hbb hb1)
      |(go_at_call 117;(with_reducible refine (HL.out _ hw1).mono ?_);rintro e w2 ⟨rfl,hb3⟩;have hw2:=ah.next (a:=w) hw1 hb3;have hbw2:=ah.next (a:=_) hbw1 hb3)
      |(go_at_call 118;(with_reducible refine (HW.out _ _ _ _).mono ?_);rintro e w3 ⟨rfl,hb4⟩;have hw3:=ah.next (a:=w) hw2 hb4;have hbw3:=ah.next (a:=_) hbw2 hb4)
      |(go_at_call 120;(with_reducible refine (HCL.out _ hw3).mono ?_);rintro e w4 ⟨v4,rfl,hown4,hb5⟩;have hw4:=ah.next (a:=w) hw3 hb5;have HO:=Lib.hid (And.intro hown4 hw3.size);clear hown4))
     go_ret2
     exact ⟨_,rfl,⟨fun h=>absurd rfl h,fun _=>fj HO.out.1 HO.out.2⟩,hw4⟩
    ·have hqm:q=xs.length-k:=by have:=hHQ.out;omega
     subst hqm;have e5:min (m:Int) ((xs.length-k:Nat):Int)=((xs.length-k:Nat):Int):=by omega
     have e6:¬ (m:Int)≤((xs.length-k:Nat):Int):=by omega
     clear hk
     go_enter Tryz.func114,Tryz.ntmps114
     go_wp2_with (first
      |(go_at_call 116;(with_reducible refine (HC.out _ hwb).mono ?_);rintro e w1 ⟨rfl,hb1⟩;have hw1:=ah.next (a:=w) hwb hb1;have hbw1:=ah.next (a:=_) hbb hb1)
      |(go_at_call 117;(with_reducible refine (HL.out _ hw1).mono ?_);rintro e w2 ⟨rfl,hb3⟩;have hw2:=ah.next (a:=w) hw1 hb3;have hbw2:=ah.next (a:=_) hbw1 hb3)
      |(go_at_call 118;(with_reducible refine (HW.out _ _ _ _).mono ?_);rintro e w3 ⟨rfl,hb4⟩;have hw3:=ah.next (a:=w) hw2 hb4;have hbw3:=ah.next (a:=_) hbw2 hb4)
      |(go_at_call 120;(with_reducible refine (HCL.out _ hw3).mono ?_);rintro e w4 ⟨v4,rfl,hown4,hb5⟩;have hw4:=ah.next (a:=w) hw3 hb5;have HO:=Lib.hid (And.intro hown4 hw3.size);clear hown4))
     go_ret2
     exact ⟨_,rfl,⟨fun h=>absurd rfl h,fun _=>fj HO.out.1 HO.out.2⟩,hw4⟩
  ·rw [if_neg hin] at hdef;rw [hdef];have hib:=q_ hin;clear hdef hin
   go_enter Tryz.func114,Tryz.ntmps114
   go_wp2_with (first
    |(go_at_call 116;(with_reducible refine (HC.out _ hwb).mono ?_);rintro e w1 ⟨rfl,hb1⟩;have hw1:=ah.next (a:=w) hwb hb1;have hbw1:=ah.next (a:=_) hbb hb1)
    |(go_at_call 117;(with_reducible refine (HL.out _ hw1).mono ?_);rintro e w2 ⟨rfl,hb3⟩;have hw2:=ah.next (a:=w) hw1 hb3;have hbw2:=ah.next (a:=_) hbw1 hb3)
    |(go_at_call 118;(with_reducible refine (HW.out _ _ _ _).mono ?_);rintro e w3 ⟨rfl,hb4⟩;have hw3:=ah.next (a:=w) hw2 hb4))
   go_ret2
   exact ⟨_,rfl,⟨fun _=>rfl,fun h=>absurd h (by decide)⟩,hw3⟩
 ·rw [if_neg hm] at hch hdef;rw [hdef];have HC:=Lib.hid hch;clear hch hlo hm hdef
  go_enter Tryz.func114,Tryz.ntmps114
  go_wp2_with (first
   |(go_at_call 116;(with_reducible refine (HC.out _ hwb).mono ?_);rintro e w1 ⟨rfl,hb1⟩;have hw1:=ah.next (a:=w) hwb hb1))
  go_ret2
  exact ⟨_,rfl,⟨fun _=>rfl,fun h=>absurd h (by decide)⟩,hw1⟩
def tT (l:List Oper):Bool:=(List.range l.length).all fun i=>match l[i]? with
 |none=>false
 |some o=>o.after.toList.all fun e=> !Region.binds .any e||decide (e.on<i)
section
variable {P:Program} {Q:Exit→Act→World→Prop} {n:Fr} {L:List (Nat×Value)} {w:World} {l:List Oper}
theorem xQ {Inv:(Nat→Bool)→List (Nat×Value)→World→Prop} (hwf:tT l=true)
 (hstep:∀ (i:Nat) (o:Oper) (S:Nat→Bool) (L':List (Nat×Value)) (w':World),l[i]? =some o→Inv S L' w'→S i=false→(∀ e∈o.after,Region.binds .any e=true→S e.on=true)→Region.wanted o (yielded l.toArray (mkT n.n L'))=true∧gL P n o (Inv (dJ S i)) L' w')
 (hend:∀ L' w',Inv (fun i=>decide (i<l.length)) L' w'→Q .normal (mkA n L') w') :
 ∀ (m:Nat) (listed:Array Bool) (L':List (Nat×Value)) (w':World),listed.toList.count false=m→listed.size=l.length→Inv (fun i=>listed.getD i false) L' w'→wpAny P .any l.toArray Q m listed (mkA n L') w':=by
 have hck:=List.all_eq_true.1 hwf;intro m
 induction m with
 |zero=>
  intro listed L' w' hcount hs hI
  have hall:∀ i,i<l.length→listed.getD i false=true:=fun i hi=>by
   have hm:listed[i]'(by omega)∈listed.toList:=by simp
   cases hb:listed[i]'(by omega) with
   |true=>simp [Array.getD,show i<listed.size by omega,hb]
   |false=>rw [hb] at hm;exact absurd hcount (Nat.pos_iff_ne_zero.1 (List.count_pos_iff.2 hm))
  have e:(fun i=>listed.getD i false)=fun i=>decide (i<l.length):=by
   funext i
   by_cases hi:i<l.length
   ·rw [hall i hi,decide_eq_true hi]
   ·rw [decide_eq_false hi];simp [Array.getD,show ¬ i<listed.size by omega]
  rw [e] at hI;refine ⟨?_,hend L' w' hI⟩;cases hr:Region.ready .any l.toArray listed with
  |nil=>rfl
  |cons i r=>
   exfalso;obtain ⟨h0,o,ho,_⟩:=mem_ready.1 (show i∈Region.ready .any l.toArray listed by rw [hr];simp);rw [List.getElem?_toArray] at ho;have hil:i<l.length:=(List.getElem?_eq_some_iff.1 ho).1;have:=hall i hil;rw [←bP (by omega),h0] at this;cases this
 |succ m ih=>
  intro listed L' w' hcount hs hI
  have hn0:∃ i,i<l.length∧listed.getD i true=false:=by
   have hpos:0<listed.toList.count false:=by omega
   obtain ⟨i,hi,hb⟩:=List.getElem_of_mem (List.count_pos_iff.1 hpos);rw [Array.length_toList] at hi;refine ⟨i,by omega,?_⟩;rw [Array.getElem_toList] at hb;simp [Array.getD,hi,hb]
  obtain ⟨i0,hi0,hmin⟩:=exists_least (p:=fun i=>i<l.length∧listed.getD i true=false) hn0
  have hready:i0∈Region.ready .any l.toArray listed:=by
   refine mem_ready.2 ⟨hi0.2,l[i0]'hi0.1,by rw [List.getElem?_toArray,List.getElem?_eq_getElem hi0.1],fun e he hb=>?_⟩;have hx:=hck i0 (List.mem_range.2 hi0.1);rw [List.getElem?_eq_getElem hi0.1] at hx;have he2:=List.all_eq_true.1 hx e (by simpa using he);rw [hb] at he2;simp at he2;have:=hi0.1;rw [←bP (by omega)];cases hb2:listed.getD e.on true with
   |true=>rfl
   |false=>exact absurd (hmin e.on ⟨by omega,hb2⟩) (by omega)
  refine ⟨fun h0=>(by rw [h0] at hready;cases hready),fun i hi=>?_⟩;obtain ⟨h0,o,ho,hall⟩:=mem_ready.1 hi;rw [List.getElem?_toArray] at ho;have hil:i<l.length:=(List.getElem?_eq_some_iff.1 ho).1;have hx:=hck i (List.mem_range.2 hil);rw [ho] at hx;have h0f:listed.getD i false=false:=by rw [←bP (by omega)];exact h0
  have hset:(fun j=>(listed.setIfInBounds i true).getD j false)=dJ (fun j=>listed.getD j false) i:=by
   funext j
   unfold dJ;by_cases e:j=i
   ·subst e;simp [Array.getD,show j<listed.size by omega]
   ·rw [if_neg e,getD_set_ne false (Ne.symm e)]
  have hcnt:(listed.setIfInBounds i true).toList.count false=m:=by
   have hil':i<listed.size:=by omega
   have hfalse:listed.toList[i]? =some false:=by
    rw [Array.getElem?_toList,Array.getElem?_eq_getElem hil'];simp [Array.getD,hil'] at h0;rw [h0]
   rw [Array.toList_setIfInBounds];have:=fm (l:=listed.toList) (i:=i) hfalse;omega
  have next:∀ L2 w2,Inv (dJ (fun j=>listed.getD j false) i) L2 w2→wpAny P .any l.toArray Q m (listed.setIfInBounds i true) (mkA n L2) w2:=fun L2 w2 h=>
   ih _ L2 w2 hcnt (by simpa using hs) (by rw [hset];exact h)
  unfold wpOp;rw [List.getElem?_toArray,ho];show if Region.wanted o (yielded l.toArray (mkT n.n L'))=true then _ else _
  rw [if_pos (hstep i o _ L' w' ho hI h0f hall).1];refine .inl ?_;unfold Oper.wp;rw [dA];rcases (hstep i o _ L' w' ho hI h0f hall).2 with ⟨d,v,w'',hd,hr,hI2⟩ | ⟨w'',hd,hr,hI2⟩ | ⟨d,f,args,hd,hr,hc⟩
  ·rw [hr,Oper.upon_value,hd,fN];exact next _ _ hI2
  ·rw [hr,Oper.upon_skip,hd];exact next _ _ hI2
  ·rw [hr,Oper.upon_enter,hd];refine Calls.mono hc fun e w'' ⟨v,he,hI2⟩=>?_
   subst he;show wpAny P .any l.toArray Q m (listed.setIfInBounds i true) ((mkA n L').put (some d) v) w'';rw [fN];exact next _ _ hI2
theorem zv {id:Nat} (Inv:(Nat→Bool)→List (Nat×Value)→World→Prop) (hm:P.follows .mixedOrders=true) (hwf:tT l=true) (h0:Inv (fun _=>false) L { w with drawn:=w.drawn+1 })
 (hstep:∀ (i:Nat) (o:Oper) (S:Nat→Bool) (L':List (Nat×Value)) (w':World),l[i]? =some o→Inv S L' w'→S i=false→(∀ e∈o.after,Region.binds .any e=true→S e.on=true)→Region.wanted o (yielded l.toArray (mkT n.n L'))=true∧gL P n o (Inv (dJ S i)) L' w')
 (hend:∀ L' w',Inv (fun i=>decide (i<l.length)) L' w'→Q .normal (mkA n L') w'):Cd P (.region id l.toArray true) Q n L w:=by
 refine ⟨wp_region_any hm ?_⟩
 have:=xQ (Q:=Q) hwf hstep hend l.length (Array.replicate l.length false) L { w with drawn:=w.drawn+1 } (by simp) (by simp) (by
  have e:(fun i=>(Array.replicate l.length false).getD i false)=fun _=>false:=by
   funext i
   by_cases hi:i<l.length <;> simp [Array.getD,hi]
  rw [e];exact h0)
 simpa using this
def yE (o:Oper):Oper:={ o with guard:=none }
theorem vL (ρ:Operand→Value) (o:Oper):execOp ρ (yE o)=execOp ρ o:=by
 obtain ⟨dst,op,ty,pos,after,g⟩:=o;cases op <;> rfl
theorem vf {o:Oper} {Inv:List (Nat×Value)→World→Prop} {L':List (Nat×Value)} {w':World} (h:gL P n (yE o) Inv L' w'):gL P n o Inv L' w':=by
 unfold gL at h ⊢;simp only [vL] at h;exact h
def gdB (n:Fr) (T:List (Nat×Nat×Value)) (l:List Oper) (o:Oper):Bool:=match o.guard with
 |none=>true
 |some (j,b)=>o.after.toList.any (fun e=>e.on==j&&Region.binds .any e)&&match T.find? fun p=>p.1==j with
  |some (_,t,.bool x)=>(x==b)&&(match kp l j with | some t'=>t'==t&&Nat.blt t n.n | none=>false)
  |_=>false
end
end Go.Proofs.YtkpooenofjdpmaaGreat
namespace Go.Proofs.YtkpooenofjdpmaaGreat
open Go.Proofs.Tryz (prog)
open Go.RowKit
abbrev PT:=List (Nat×Nat×((Nat→Bool)→Value→World→Prop))
def kJ (L:List (Nat×Value)) (T:PT) (S:Nat→Bool) (L':List (Nat×Value)) (w:World):Prop:=
 (∀ t,(∀ p∈T,p.2.1≠t)→bI L' t=bI L t)∧(∀ p∈T,S p.1=true→p.2.2 S (bI L' p.2.1) w)∧∀ p∈T,S p.1=false→bI L' p.2.1=bI L p.2.1
def ny:List (Nat×Nat)→Prop
 |[]=>True
 |p::r=>(∀ q∈r,q.1≠p.1∧q.2≠p.2)∧ny r
def vc:List (Nat×Nat)→Bool
 |[]=>true
 |p::r=>(r.all fun q=> !(Nat.beq q.1 p.1)&&!(Nat.beq q.2 p.2))&&vc r
theorem xz {a b:Nat}:Nat.beq a b=false↔a≠b:=by
 refine ⟨fun h e=>?_,fun h=>?_⟩
 ·subst e;rw [Nat.beq_refl] at h;cases h
 ·rcases hb:Nat.beq a b with _ | _
  ·rfl
  ·exact absurd (Nat.eq_of_beq_eq_true hb) h
theorem ml:∀ {l:List (Nat×Nat)},vc l=true→ny l
 |[],_=>trivial
 |p::r,h=>by
  simp only [vc,Bool.and_eq_true,List.all_eq_true,Bool.not_eq_true',xz] at h;exact ⟨fun q hq=>h.1 q hq,ml h.2⟩
theorem oz:∀ {T:PT},ny (T.map fun p=>(p.1,p.2.1))→∀ {p q:Nat×Nat×((Nat→Bool)→Value→World→Prop)},p∈T→q∈T→p.1=q.1∨p.2.1=q.2.1→p=q
 |_::_,⟨h1,h2⟩,p,q,hp,hq,he=>by
  rcases List.mem_cons.1 hp with rfl | hp' <;> rcases List.mem_cons.1 hq with rfl | hq'
  ·rfl
  ·rcases he with e | e
   ·exact absurd e.symm (h1 _ (List.mem_map_of_mem (f:=fun p=>(p.1,p.2.1)) hq')).1
   ·exact absurd e.symm (h1 _ (List.mem_map_of_mem (f:=fun p=>(p.1,p.2.1)) hq')).2
  ·rcases he with e | e
   ·exact absurd e (h1 _ (List.mem_map_of_mem (f:=fun p=>(p.1,p.2.1)) hp')).1
   ·exact absurd e (h1 _ (List.mem_map_of_mem (f:=fun p=>(p.1,p.2.1)) hp')).2
  ·exact oz h2 hp' hq' he
theorem kJ.get {L:List (Nat×Value)} {T:PT} {S:Nat→Bool} {L':List (Nat×Value)} {w:World} {i d:Nat} {R:(Nat→Bool)→Value→World→Prop} (h:kJ L T S L' w) (hp:(i,d,R)∈T) (hs:S i=true):∃ v,bI L' d=v∧R S v w:=⟨_,rfl,h.2.1 _ hp hs⟩
theorem oo {S:Nat→Bool} {i k:Nat} (h:dJ S i k=false):S k=false:=by
 unfold dJ at h;split at h
 ·cases h
 ·exact h
theorem oW {S:Nat→Bool} {i k:Nat} (hk:k≠i) (h:dJ S i k=true):S k=true:=by
 unfold dJ at h
 rwa [if_neg hk] at h
theorem mr (S:Nat→Bool) (i:Nat):dJ S i i=true:=by unfold dJ;rw [if_pos rfl]
theorem fM {S:Nat→Bool} {i k:Nat} (hk:k≠i):dJ S i k=S k:=by unfold dJ;rw [if_neg hk]
def mR (Mu:List Nat):PT→Prop
 |[]=>True
 |p::r=>(∀ S i v w1 w2,Mu.elem i=false→ah w1 w2→p.2.2 S v w1→p.2.2 (dJ S i) v w2)∧mR Mu r
def ChP (i:Nat) (S:Nat→Bool) (w1 w2:World):PT→Prop
 |[]=>True
 |p::r=>(Nat.beq p.1 i=false→S p.1=true→∀ v,p.2.2 S v w1→p.2.2 (dJ S i) v w2)∧ChP i S w1 w2 r
theorem si {Mu:List Nat}:∀ {T:PT},mR Mu T→∀ p∈T,∀ S i v w1 w2,Mu.elem i=false→ah w1 w2→p.2.2 S v w1→p.2.2 (dJ S i) v w2
 |_::_,⟨h1,h2⟩,p,hp=>by
  rcases List.mem_cons.1 hp with rfl | hp
  ·exact h1
  ·exact si h2 p hp
theorem tX {i:Nat} {S:Nat→Bool} {w1 w2:World}:∀ {T:PT},ChP i S w1 w2 T→∀ p∈T,p.1≠i→S p.1=true→∀ v,p.2.2 S v w1→p.2.2 (dJ S i) v w2
 |_::_,⟨h1,h2⟩,p,hp=>by
  rcases List.mem_cons.1 hp with rfl | hp
  ·exact fun hne=>h1 (by rw [xz];exact hne)
  ·exact tX h2 p hp
theorem kJ.next {L:List (Nat×Value)} {T:PT} {S:Nat→Bool} {L':List (Nat×Value)} {w w':World} {i d:Nat} {v:Value} {R:(Nat→Bool)→Value→World→Prop} (h:kJ L T S L' w) (hU:ny (T.map fun p=>(p.1,p.2.1))) (hp:(i,d,R)∈T) (hR:R (dJ S i) v w')
 (hst:∀ p∈T,p.1≠i→S p.1=true→∀ v,p.2.2 S v w→p.2.2 (dJ S i) v w'):kJ L T (dJ S i) ((d,v)::L') w':=by
 refine ⟨fun t ht=>?_,fun p hq hs=>?_,fun p hq hs=>?_⟩
 ·rw [cJ,if_neg (fun e=>ht _ hp e.symm)];exact h.1 t ht
 ·rw [cJ];by_cases e:p.2.1=d
  ·rw [if_pos e,oz hU hq hp (.inr e)];exact hR
  ·rw [if_neg e];have e2:p.1≠i:=fun e2=>e (congrArg (·.2.1) (oz hU hq hp (.inl e2)))
   have hs':=oW e2 hs;exact hst p hq e2 hs' _ (h.2.1 p hq hs')
 ·have hs':=oo hs;have e2:p.1≠i:=fun e2=>by rw [e2,mr] at hs;cases hs
  rw [cJ,if_neg (fun e=>e2 (congrArg (·.1) (oz hU hq hp (.inr e))))];exact h.2.2 p hq hs'
theorem kJ.same {L:List (Nat×Value)} {T:PT} {S:Nat→Bool} {L':List (Nat×Value)} {w w':World} {i:Nat} (h:kJ L T S L' w) (hi:∀ p∈T,p.1≠i)
 (hst:∀ p∈T,p.1≠i→S p.1=true→∀ v,p.2.2 S v w→p.2.2 (dJ S i) v w'):kJ L T (dJ S i) L' w':=by
 refine ⟨h.1,fun p hq hs=>?_,fun p hq hs=>h.2.2 p hq (oo hs)⟩;have hs':=oW (hi p hq) hs;exact hst p hq (hi p hq) hs' _ (h.2.1 p hq hs')
def rJ (L':List (Nat×Value)):List (Nat×Value)→Prop
 |[]=>True
 |(t,v)::r=>bI L' t=v∧rJ L' r
theorem qF {L':List (Nat×Value)}:∀ {M:List (Nat×Value)},rJ L' M→∀ t,(M.map Prod.fst).elem t=true→bI M t=bI L' t
 |(k,v)::r,⟨h1,h2⟩,t,ht=>by
  rw [cJ];by_cases e:t=k
  ·rw [if_pos e,e,h1]
  ·rw [if_neg e];refine qF h2 t ?_;simpa [e] using ht
section
variable {P:Program} {Q:Exit→Act→World→Prop} {n:Fr} {L L' M:List (Nat×Value)} {w w' w'':World} {l:List Oper} {T:PT} {Mem:(Nat→Bool)→World→Prop} {Mu:List Nat} {S:Nat→Bool} {op:Op} {ty:TypeId} {pos:String} {after:Array Edge} {i d:Nat} {v:Value} {R:(Nat→Bool)→Value→World→Prop}
theorem ke {dst:Option Nat} (hs:dN op=false) (hk:(((⟨dst,op,ty,pos,after,none⟩:Oper).looksAt #[]).all fun t=>(M.map Prod.fst).elem t)=true) (hag:rJ L' M):execOp (ev n L') ⟨dst,op,ty,pos,after,none⟩=execOp (ev n M) ⟨dst,op,ty,pos,after,none⟩:=by
 have h:∀ t,((⟨dst,op,ty,pos,after,none⟩:Oper).looksAt #[]).elem t=true→bI M t=bI L' t:=fun t ht=>
  qF hag t (List.all_eq_true.1 hk t (List.elem_iff.1 ht))
 exact (fV (n:=n) (ops:=#[]) (o:=⟨dst,op,ty,pos,after,none⟩) hs h).1.symm
abbrev qG (P:Program) (n:Fr) (L:List (Nat×Value)) (T:PT) (Mem:(Nat→Bool)→World→Prop) (S:Nat→Bool) (i:Nat) (o:Oper) (L':List (Nat×Value)) (w':World):Prop:=gL P n o (fun L2 w2=>kJ L T (dJ S i) L2 w2∧Mem (dJ S i) w2) L' w'
theorem xg (hmo:mR Mu T) (hq:Mu.elem i=false) (hF:ah w' w''):∀ p∈T,p.1≠i→S p.1=true→∀ v,p.2.2 S v w'→p.2.2 (dJ S i) v w'':=fun p hp _ _ v h=>si hmo p hp S i v w' w'' hq hF h
theorem aS (M:List (Nat×Value)) (hU:ny (T.map fun p=>(p.1,p.2.1))) (hmo:mR Mu T) (hme:∀ S i w1 w2,Mu.elem i=false→ah w1 w2→Mem S w1→Mem (dJ S i) w2) (hI:kJ L T S L' w') (hM:Mem S w') (hp:(i,d,R)∈T) (hq:Mu.elem i=false)
 (hs:dN op=false) (hk:(((⟨some d,op,ty,pos,after,none⟩:Oper).looksAt #[]).all fun t=>(M.map Prod.fst).elem t)=true) (hag:rJ L' M) (hr:RO P (ev n M) op w' v w'') (hF:ah w' w'') (hR:R (dJ S i) v w''):qG P n L T Mem S i ⟨some d,op,ty,pos,after,none⟩ L' w':=
 .inl ⟨d,v,w'',rfl,by rw [ke hs hk hag];exact hr _ _ _ _ _,hI.next hU hp hR (xg hmo hq hF),hme S i _ _ hq hF hM⟩
theorem ki (M:List (Nat×Value)) {f:FuncId} {al:List Operand} {ats:Array TypeId} (hU:ny (T.map fun p=>(p.1,p.2.1))) (hmo:mR Mu T) (hme:∀ S i w1 w2,Mu.elem i=false→ah w1 w2→Mem S w1→Mem (dJ S i) w2) (hI:kJ L T S L' w') (hM:Mem S w') (hp:(i,d,R)∈T) (hq:Mu.elem i=false)
 (hk:(((⟨some d,.call { callee:=.value (.func f),args:=al.toArray,argTypes:=ats },ty,pos,after,none⟩:Oper).looksAt #[]).all fun t=>(M.map Prod.fst).elem t)=true) (hag:rJ L' M) (hf:aN P f=true) (hc:Rt P f (al.map (ev n M)) w' fun v w''=>ah w' w''∧R (dJ S i) v w'') :
 qG P n L T Mem S i ⟨some d,.call { callee:=.value (.func f),args:=al.toArray,argTypes:=ats },ty,pos,after,none⟩ L' w':=
 .inr (.inr ⟨d,f,al.map (ev n M),rfl,by rw [ke rfl hk hag,ka (fun _=>rfl),kR hf],Calls.mono hc fun e w2 ⟨v,he,hF,hR⟩=>⟨v,he,hI.next hU hp hR (xg hmo hq hF),hme S i _ _ hq hF hM⟩⟩)
theorem jg (M:List (Nat×Value)) {f:FuncId} {al:List Operand} {ats:Array TypeId} (hU:ny (T.map fun p=>(p.1,p.2.1))) (hI:kJ L T S L' w') (hp:(i,d,R)∈T)
 (hk:(((⟨some d,.call { callee:=.value (.func f),args:=al.toArray,argTypes:=ats },ty,pos,after,none⟩:Oper).looksAt #[]).all fun t=>(M.map Prod.fst).elem t)=true) (hag:rJ L' M) (hf:aN P f=true) (hc:Rt P f (al.map (ev n M)) w' fun v w''=>Mem (dJ S i) w''∧R (dJ S i) v w''∧ChP i S w' w'' T) :
 qG P n L T Mem S i ⟨some d,.call { callee:=.value (.func f),args:=al.toArray,argTypes:=ats },ty,pos,after,none⟩ L' w':=
 .inr (.inr ⟨d,f,al.map (ev n M),rfl,by rw [ke rfl hk hag,ka (fun _=>rfl),kR hf],Calls.mono hc fun e w2 ⟨v,he,hM,hR,hC⟩=>⟨v,he,hI.next hU hp hR (tX hC),hM⟩⟩)
theorem oQ (M:List (Nat×Value)) (hI:kJ L T S L' w') (hi:∀ p∈T,p.1≠i)
 (hs:dN op=false) (hk:(((⟨none,op,ty,pos,after,none⟩:Oper).looksAt #[]).all fun t=>(M.map Prod.fst).elem t)=true) (hag:rJ L' M) (hr:RS P (ev n M) op w' w'') (hM:Mem (dJ S i) w'') (hC:ChP i S w' w'' T):qG P n L T Mem S i ⟨none,op,ty,pos,after,none⟩ L' w':=
 .inr (.inl ⟨w'',rfl,by rw [ke hs hk hag];exact hr _ _ _ _ _,hI.same hi (tX hC),hM⟩)
def yy (S:Nat→Bool) (w:World):PT→(List (Nat×Value)→Prop)→Prop
 |[],K=>K []
 |p::r,K=>∀ v,p.2.2 S v w→yy S w r fun M=>K ((p.2.1,v)::M)
theorem iD {S:Nat→Bool} {w:World} {K:List (Nat×Value)→Prop} (h:K []):yy S w [] K:=h
theorem rq {S:Nat→Bool} {w:World} (ρ:Nat→Value):∀ (l:PT) {K:List (Nat×Value)→Prop},(∀ p∈l,p.2.2 S (ρ p.2.1) w)→yy S w l K→K (l.map fun p=>(p.2.1,ρ p.2.1))
 |[],_,_,h=>h
 |p::r,_,hr,h=>rq ρ r (fun e he=>hr e (List.mem_cons_of_mem _ he)) (h (ρ p.2.1) (hr p (List.mem_cons_self ..)))
theorem qv (ρ:Nat→Value) (T:PT) (L:List (Nat×Value)) (t:Nat):((∃ p∈T,p.2.1=t)∧bI (T.map (fun p=>(p.2.1,ρ p.2.1))++L) t=ρ t)∨((∀ p∈T,p.2.1≠t)∧bI (T.map (fun p=>(p.2.1,ρ p.2.1))++L) t=bI L t):=by
 induction T with
 |nil=>exact .inr ⟨fun p hp=>by simp at hp,rfl⟩
 |cons q r ih=>
  rw [List.map_cons,List.cons_append,cJ];by_cases e:t=q.2.1
  ·rw [if_pos e,←e];exact .inl ⟨⟨q,.head _,e.symm⟩,rfl⟩
  ·rw [if_neg e];rcases ih with ⟨⟨p,hp,h1⟩,h2⟩ | ⟨h1,h2⟩
   ·exact .inl ⟨⟨p,.tail _ hp,h1⟩,h2⟩
   ·refine .inr ⟨fun p hp=>?_,h2⟩;rcases List.mem_cons.1 hp with rfl | hp2
    ·exact fun e2=>e e2.symm
    ·exact h1 p hp2
theorem fH {T:PT} {t:Nat} (h:(T.map fun p=>p.2.1).elem t=false):∀ p∈T,p.2.1≠t:=fun p hp e=>by
 have:t∈T.map fun p=>p.2.1:=List.mem_map.2 ⟨p,hp,e⟩
 rw [List.elem_eq_mem,decide_eq_false_iff_not] at h;exact h this
theorem Av {T:PT} {i:Nat} (h:(T.map fun p=>p.1).elem i=false):∀ p∈T,p.1≠i:=fun p hp e=>by
 have:i∈T.map fun p=>p.1:=List.mem_map.2 ⟨p,hp,e⟩
 rw [List.elem_eq_mem,decide_eq_false_iff_not] at h;exact h this
theorem gL.mono {o:Oper} {I1 I2:List (Nat×Value)→World→Prop} (hi:∀ L2 w2,I1 L2 w2→I2 L2 w2) (h:gL P n o I1 L' w'):gL P n o I2 L' w':=by
 rcases h with ⟨d,v,w2,h1,h2,h3⟩ | ⟨w2,h1,h2,h3⟩ | ⟨d,f,args,h1,h2,h3⟩
 ·exact .inl ⟨d,v,w2,h1,h2,hi _ _ h3⟩
 ·exact .inr (.inl ⟨w2,h1,h2,hi _ _ h3⟩)
 ·exact .inr (.inr ⟨d,f,args,h1,h2,Calls.mono h3 fun e w2 ⟨v,he,h⟩=>⟨v,he,hi _ _ h⟩⟩)
def iy (l:List Oper) (S:Nat→Bool):Prop:=∀ j o,l[j]? =some o→S j=true→∀ e∈o.after,Region.binds .any e=true→S e.on=true
theorem aq {j i:Nat} {o:Oper} (hC:iy l S) (ho:l[j]? =some o) (he:(o.after.toList.any fun e=>Region.binds .any e&&Nat.beq e.on i)=true) (hS:S i=false):S j=false:=by
 rcases hj:S j with _ | _
 ·rfl
 ·obtain ⟨e,h1,h2⟩:=List.any_eq_true.1 he;rw [Bool.and_eq_true] at h2;have:=hC j o ho hj e (by simpa using h1) h2.1;rw [Nat.eq_of_beq_eq_true h2.2,hS] at this;cases this
theorem kZ {i:Nat} {o:Oper} (hC:iy l S) (ho:l[i]? =some o) (hE:∀ e∈o.after,Region.binds .any e=true→S e.on=true):iy l (dJ S i):=fun j o' hj hs e he hb=>by
 have up:∀ k,S k=true→dJ S i k=true:=fun k hk=>by
  unfold dJ;split
  ·rfl
  ·exact hk
 by_cases hji:j=i
 ·subst hji;rw [ho] at hj;cases hj;exact up _ (hE e he hb)
 ·exact up _ (hC j o' hj (oW hji hs) e he hb)
def rr (P:Program) (n:Fr) (L:List (Nat×Value)) (T:PT) (Mu:List Nat) (Mem:(Nat→Bool)→World→Prop) (l:List Oper):Nat→List Oper→Prop
 |_,[]=>True
 |i,o::r=>(∀ S L' w',ny (T.map fun p=>(p.1,p.2.1))→mR Mu T→(∀ S i w1 w2,Mu.elem i=false→ah w1 w2→Mem S w1→Mem (dJ S i) w2)→kJ L T S L' w'→Mem S w'→iy l S→S i=false→iY S o.after.toList→qG P n L T Mem S i o L' w')∧rr P n L T Mu Mem l (i+1) r
theorem mX {L0:List (Nat×Value)} {l0:List Oper}:∀ {r:List Oper} {k:Nat},rr P n L0 T Mu Mem l0 k r→ny (T.map fun p=>(p.1,p.2.1))→mR Mu T→(∀ S i w1 w2,Mu.elem i=false→ah w1 w2→Mem S w1→Mem (dJ S i) w2)→∀ (i:Nat) (o:Oper),r[i]? =some o→∀ S L' w',kJ L0 T S L' w'→Mem S w'→iy l0 S→S (k+i)=false→iY S o.after.toList→qG P n L0 T Mem S (k+i) o L' w'
 |[],_,_,_,_,_,i,o,h=>by simp at h
 |x::r,k,⟨h1,h2⟩,a,b,c,0,o,h=>by
  simp only [List.getElem?_cons_zero,Option.some.injEq] at h;subst h;exact fun S L' w'=>h1 S L' w' a b c
 |x::r,k,⟨h1,h2⟩,a,b,c,i+1,o,h=>by
  have:=mX h2 a b c i o (by simpa using h)
  rwa [show k+1+i=k+(i+1) by omega] at this
theorem mM {id:Nat} (T:PT) (Mu:List Nat) (Mem:(Nat→Bool)→World→Prop) (hm:P.follows .mixedOrders=true) (hwf:py l=true) (hlt:(T.all fun p=>Nat.blt p.1 l.length)=true) (hU:vc (T.map fun p=>(p.1,p.2.1))=true) (hmo:mR Mu T) (hme:∀ S i w1 w2,Mu.elem i=false→ah w1 w2→Mem S w1→Mem (dJ S i) w2) (h0:Mem (fun _=>false) { w with drawn:=w.drawn+1 })
 (hstep:rr P n L T Mu Mem l 0 l) (hend:∀ w',Mem (fun i=>decide (i<l.length)) w'→yy (fun i=>decide (i<l.length)) w' T fun M=>Q .normal (mkA n (M++L)) w'):Cd P (.region id l.toArray true) Q n L w:=
 tY (fun S L' w'=>kJ L T S L' w'∧Mem S w'∧iy l S) hm hwf ⟨⟨fun _ _=>rfl,fun _ _ h=>(by cases h),fun _ _ _=>rfl⟩,h0,fun _ _ _ h=>by cases h⟩ (fun i o S L' w' ho ⟨hI,hM,hC⟩ hS hE=>by
  have:=mX hstep (ml hU) hmo hme i o ho S L' w' hI hM hC (by rw [Nat.zero_add];exact hS) (kX fun e he=>hE e (by simpa using he));rw [Nat.zero_add] at this;exact gL.mono (fun L2 w2 h=>⟨h.1,h.2,kZ hC ho hE⟩) this) fun L' w' ⟨hI,hM,_⟩=>by
  have hlt':∀ p∈T,p.1<l.length:=fun p hp=>by
   have:=List.all_eq_true.1 hlt p hp;exact Nat.le_of_ble_eq_true this
  have h:=rq (bI L') T (fun p hp=>hI.2.1 p hp (decide_eq_true (hlt' p hp))) (hend w' hM)
  have e:mkA n L'=mkA n (T.map (fun p=>(p.2.1,bI L' p.2.1))++L):=by
   unfold mkA;rw [j7 fun t _=>?_];rcases qv (bI L') T L t with ⟨_,h2⟩ | ⟨h1,h2⟩
   ·exact h2.symm
   ·rw [h2];exact hI.1 t h1
  rw [e];exact h
end
end Go.Proofs.YtkpooenofjdpmaaGreat
namespace Go.Proofs.YtkpooenofjdpmaaGreat
open Go.Proofs.Tryz (prog)
open Go.RowKit
def GdP (n:Fr) (T:PT) (l0:List Oper):List Oper→Prop
 |[]=>True
 |o::r=>(match o.guard with
  |none=>True
  |some (j,b)=>o.after.toList.any (fun e=>e.on==j&&Region.binds .any e)=true∧∃ t R,(j,t,R)∈T∧kp l0 j=some t∧Nat.blt t n.n=true∧∀ S v w,R S v w→v=.bool b)∧GdP n T l0 r
section
variable {P:Program} {Q:Exit→Act→World→Prop} {n:Fr} {L:List (Nat×Value)} {w:World} {l:List Oper}
theorem Aw {T:PT}:∀ (r:List Oper),GdP n T l r→∀ o∈r,∀ j b,o.guard=some (j,b)→o.after.toList.any (fun e=>e.on==j&&Region.binds .any e)=true∧∃ t R,(j,t,R)∈T∧kp l j=some t∧Nat.blt t n.n=true∧∀ S v w,R S v w→v=.bool b:=by
 intro r
 induction r with
 |nil=>intro _ o ho;cases ho
 |cons x r ih=>
  intro h o ho j b hg;rcases List.mem_cons.1 ho with e | ho'
  ·subst e;have h1:=h.1;rw [hg] at h1;exact h1
  ·exact ih h.2 o ho' j b hg
theorem tl {T:PT} {S:Nat→Bool} {L':List (Nat×Value)} {w':World} (hI:kJ L T S L' w') {r:List Oper} (hG:GdP n T l r) {o:Oper} (ho:o∈r) (hE:∀ e∈o.after,Region.binds .any e=true→S e.on=true):Region.wanted o (yielded l.toArray (mkT n.n L'))=true:=by
 have hg:=Aw r hG o ho;obtain ⟨dst,op,ty,pos,after,g⟩:=o;cases g with
 |none=>rfl
 |some jb=>
  obtain ⟨j,b⟩:=jb;obtain ⟨ha,t,R,hp,hn,hlt,hR⟩:=hg j b rfl;obtain ⟨e,he,he2⟩:=List.any_eq_true.1 ha;simp only [Bool.and_eq_true] at he2;have hej:e.on=j:=by simpa using he2.1
  have hS:S j=true:=by rw [←hej];exact hE e (by simpa using he) he2.2
  obtain ⟨v,hv,hRv⟩:=hI.get hp hS;have hvb:=hR _ _ _ hRv;subst hvb
  have hw:jJ l.toArray n L' j=.bool b:=by
   unfold jJ;rw [show l.toArray.toList=l from rfl,hn];show (bif Nat.blt t n.n then bI L' t else undef)=_;rw [hlt];exact hv
  show (yielded l.toArray (mkT n.n L') j==some b)=true;rw [gJ hw];simp
theorem pC {id:Nat} (T:PT) (Mu:List Nat) (Mem:(Nat→Bool)→World→Prop) (hm:P.follows .mixedOrders=true) (hwf:tT l=true) (hgd:GdP n T l l) (hlt:(T.all fun p=>Nat.blt p.1 l.length)=true) (hU:vc (T.map fun p=>(p.1,p.2.1))=true) (hmo:mR Mu T) (hme:∀ S i w1 w2,Mu.elem i=false→ah w1 w2→Mem S w1→Mem (dJ S i) w2) (h0:Mem (fun _=>false) { w with drawn:=w.drawn+1 })
 (hstep:rr P n L T Mu Mem l 0 (l.map yE)) (hend:∀ w',Mem (fun i=>decide (i<l.length)) w'→yy (fun i=>decide (i<l.length)) w' T fun M=>Q .normal (mkA n (M++L)) w'):Cd P (.region id l.toArray true) Q n L w:=
 zv (fun S L' w'=>kJ L T S L' w'∧Mem S w'∧iy l S) hm hwf ⟨⟨fun _ _=>rfl,fun _ _ h=>(by cases h),fun _ _ _=>rfl⟩,h0,fun _ _ _ h=>by cases h⟩ (fun i o S L' w' ho ⟨hI,hM,hC⟩ hS hE=>by
  refine ⟨tl hI hgd (List.mem_of_getElem? ho) hE,?_⟩;have:=mX hstep (ml hU) hmo hme i (yE o) (by rw [List.getElem?_map,ho];rfl) S L' w' hI hM hC (by rw [Nat.zero_add];exact hS) (kX fun e he=>hE e (by have he':e∈o.after.toList:=he;simpa using he'));rw [Nat.zero_add] at this;exact gL.mono (fun L2 w2 h=>⟨h.1,h.2,kZ hC ho hE⟩) (vf this)) fun L' w' ⟨hI,hM,_⟩=>by
  have hlt':∀ p∈T,p.1<l.length:=fun p hp=>by
   have:=List.all_eq_true.1 hlt p hp;exact Nat.le_of_ble_eq_true this
  have h:=rq (bI L') T (fun p hp=>hI.2.1 p hp (decide_eq_true (hlt' p hp))) (hend w' hM)
  have e:mkA n L'=mkA n (T.map (fun p=>(p.2.1,bI L' p.2.1))++L):=by
   unfold mkA;rw [j7 fun t _=>?_];rcases qv (bI L') T L t with ⟨_,h2⟩ | ⟨h1,h2⟩
   ·exact h2.symm
   ·rw [h2];exact hI.1 t h1
  rw [e];exact h
end
end Go.Proofs.YtkpooenofjdpmaaGreat
namespace Go.Proofs.YtkpooenofjdpmaaGreat
open Go.Proofs.Tryz (prog)
open Go.RowKit
open Go.ChangeShapes Go.WideShapes Go.ChangeAt
theorem bh:jG prog 39=some true:=by kernel_rfl
theorem aU:ef prog 39=some 13:=by kernel_rfl
theorem ir:kD prog 48=some (39,13,128,(.agg #[.int .i64 0,.int .i64 0,.int .i64 0,.int .i64 0,.int .i64 0,.int .i64 0,.int .i64 0,.int .i64 0,.bool false,.slice none 0 0,.int .i64 0,.string ⟨#[]⟩,.bool false]:Value)):=by kernel_rfl
theorem jA:jG prog 48=some false:=by kernel_rfl
theorem aH:cD prog 96 0=some 0:=by kernel_rfl
theorem bL:cD prog 29 3=some 3:=by kernel_rfl
theorem cu:cD prog 39 1=some 1:=by kernel_rfl
theorem eC:cD prog 39 2=some 2:=by kernel_rfl
theorem bJ:cD prog 39 3=some 3:=by kernel_rfl
theorem iU:cD prog 96 1=some 22:=by kernel_rfl
theorem pL:ef prog 48=some 1:=by kernel_rfl
theorem vY:prog.underlying 9=some .string:=by kernel_rfl
theorem iI:aN prog 113=true:=by kernel_rfl
theorem cS:cD prog 29 13=some 15:=by kernel_rfl
theorem bo:jG prog 26=some false:=by kernel_rfl
theorem df:cD prog 29 15=some 17:=by kernel_rfl
theorem dY:cD prog 29 7=some 9:=by kernel_rfl
theorem dc:jG prog 9=some false:=by kernel_rfl
theorem dW:cD prog 29 16=some 18:=by kernel_rfl
theorem gC:∀ (a0:Int) (a1:Int) (a2:Int) (a3:Int) (a4:ByteArray) (a5:Bool),prog.built 39 [(0,.int .i64 5),(4,.int .i64 a0),(5,.int .i64 a1),(10,.int .i64 a3),(11,.string a4),(12,.bool a5),(7,.int .i64 a2)]=some #[.int .i64 5,.int .i64 0,.int .i64 0,.int .i64 0,.int .i64 a0,.int .i64 a1,.int .i64 0,.int .i64 a2,.bool false,.slice none 0 0,.int .i64 a3,.string a4,.bool a5]:=by intros;kernel_rfl
theorem sS:aN prog 114=true:=by kernel_rfl
theorem pM:aN prog 83=true:=by kernel_rfl
theorem cQ:cD prog 29 8=some 10:=by kernel_rfl
theorem iu:∀ (a0:Int) (a1:Int) (a2:Int) (a3:Int) (a4:Option Addr) (a5 a6:Nat),prog.built 39 [(0,.int .i64 3),(4,.int .i64 a0),(5,.int .i64 a1),(6,.int .i64 a2),(9,.slice a4 a5 a6),(7,.int .i64 a3)]=some #[.int .i64 3,.int .i64 0,.int .i64 0,.int .i64 0,.int .i64 a0,.int .i64 a1,.int .i64 a2,.int .i64 a3,.bool false,.slice a4 a5 a6,.int .i64 0,.string ⟨#[]⟩,.bool false]:=by intros;kernel_rfl
theorem o8 (w0:World) (Z:Nat→Prop) (T g:Nat) (p:Sp) (w:World) (h:aZ w0 Z w T g p) (tag:Nat→Nat) (a:Ra) (O:Option Addr) (oc:Nat) (L:List Msg) (hs:gZ w Z T g tag p a O oc L) (hl:L.length≤1000) (m:Msg) (to:Int) (hE:w.ownsRow 0 99 3 (.slice m.E m.es.length m.c) m.es.length (cN m.es)∧Col tag (1000+2*L.length) m.E) :
 Rt prog 113 [.pointer (some ⟨g,0,none⟩),.int .i64 to,.agg (bH m).toArray] w (fun v w'=>v=.tuple #[]∧aZ w0 Z w' T g (p.tell (pl { m with t:=to }))):=by
 refine enter (n:=32) Tryz.func113 rfl rfl rfl (ak (af (bZ (v:=.agg _) rfl ?_)));intro b5 w1 E5 hb5 hk5;have hgb:=hs.b.lt;have h5:g≠b5:=by omega
 have hg5:w.heap.size≤b5:=Nat.le_of_eq hb5.symm;have hb0:=hs.b.from_ (ah.rfl_.next E5);refine ai (ag (ak ?_));have hU2:k9 [(0,6,.pointer (some ⟨g,0,none⟩)),(1,7,.pointer (some ⟨g,0,none⟩)),(2,8,.pointer (some ⟨g,0+0,none⟩)),(3,9,.pointer (some ⟨g,0+0+0,none⟩)),(4,10,.pointer (some ⟨g,0+0+0+0,none⟩)),(5,11,.int .i64 p.s.id),(6,12,.int .i64 to),(7,13,.pointer (some ⟨g,0,none⟩)),(8,14,.pointer (some ⟨g,0,none⟩)),(9,15,.pointer (some ⟨g,0+0,none⟩)),(10,16,.pointer (some ⟨g,0+0+0,none⟩)),(11,17,.pointer (some ⟨g,0+0+0+3,none⟩)),(12,18,.int .i64 p.s.term),(13,19,.pointer (some ⟨b5,0+1,none⟩)),(15,20,.pointer (some ⟨b5,0+2,none⟩)),(17,21,.pointer (some ⟨b5,0+3,none⟩))]:=by simp [k9]
 refine mL [(0,6,.pointer (some ⟨g,0,none⟩)),(1,7,.pointer (some ⟨g,0,none⟩)),(2,8,.pointer (some ⟨g,0+0,none⟩)),(3,9,.pointer (some ⟨g,0+0+0,none⟩)),(4,10,.pointer (some ⟨g,0+0+0+0,none⟩)),(5,11,.int .i64 p.s.id),(6,12,.int .i64 to),(7,13,.pointer (some ⟨g,0,none⟩)),(8,14,.pointer (some ⟨g,0,none⟩)),(9,15,.pointer (some ⟨g,0+0,none⟩)),(10,16,.pointer (some ⟨g,0+0+0,none⟩)),(11,17,.pointer (some ⟨g,0+0+0+3,none⟩)),(12,18,.int .i64 p.s.term),(13,19,.pointer (some ⟨b5,0+1,none⟩)),(15,20,.pointer (some ⟨b5,0+2,none⟩)),(17,21,.pointer (some ⟨b5,0+3,none⟩))] (fun S w'=>Blk w' g T (rfV p.s a++[Value.slice O L.length oc]).toArray∧Blk w' b5 39 #[.int .i64 m.k,.int .i64 (bif S 14 then p.s.id else m.f),.int .i64 (bif S 16 then to else m.t),.int .i64 (bif S 18 then p.s.term else m.tm),.int .i64 m.ix,.int .i64 m.lt,.int .i64 m.cm,.int .i64 m.rd,.bool m.ok,.slice m.E m.es.length m.c,.int .i64 m.a,.string m.d,.bool m.dn]∧ah w w') (by kernel_rfl) (by kernel_rfl) hU2 (by simp) (⟨hb0.from_ ((ah.rfl_).d1),hk5.from_ ((ah.rfl_).d1),((ah.rfl_.next E5)).d1⟩) ?_ ?_
 ·constructor
  ·rintro S L' wS hI hM hS0 ⟨-⟩;have e0:=hI.1 0 (by simp);have hM':=hM;obtain ⟨hgB,hX,hB⟩:=hM';exact b0 (aK e0) ⟨hI.put hU2 (.head _),hM⟩
  constructor
  ·rintro S L' wS hI hM hS0 ⟨d0,-⟩;have e6:bI L' 6=.pointer (some ⟨g,0,none⟩):=hI.get (i:=0) (.head _) d0;have hM':=hM;obtain ⟨hgB,hX,hB⟩:=hM';exact b0 (aw e6) ⟨hI.put hU2 (.tail _ (.head _)),hM⟩
  constructor
  ·rintro S L' wS hI hM hS0 ⟨d1,-⟩;have e7:bI L' 7=.pointer (some ⟨g,0,none⟩):=hI.get (i:=1) (.tail _ (.head _)) d1;have hM':=hM;obtain ⟨hgB,hX,hB⟩:=hM';exact b0 (ab aH e7) ⟨hI.put hU2 (gM 2 rfl),hM⟩
  constructor
  ·rintro S L' wS hI hM hS0 ⟨d2,-⟩;have e8:bI L' 8=.pointer (some ⟨g,0+0,none⟩):=hI.get (i:=2) (gM 2 rfl) d2;have hM':=hM;obtain ⟨hgB,hX,hB⟩:=hM';exact b0 (ab aB e8) ⟨hI.put hU2 (gM 3 rfl),hM⟩
  constructor
  ·rintro S L' wS hI hM hS0 ⟨d3,-⟩;have e9:bI L' 9=.pointer (some ⟨g,0+0+0,none⟩):=hI.get (i:=3) (gM 3 rfl) d3;have hM':=hM;obtain ⟨hgB,hX,hB⟩:=hM';exact b0 (ab cw e9) ⟨hI.put hU2 (gM 4 rfl),hM⟩
  constructor
  ·rintro S L' wS hI hM hS0 ⟨d4,-⟩;have e10:bI L' 10=.pointer (some ⟨g,0+0+0+0,none⟩):=hI.get (i:=4) (gM 4 rfl) d4;have hM':=hM;obtain ⟨hgB,hX,hB⟩:=hM';exact b0 (ar ao e10 (by exact dK hgB 0 rfl)) ⟨hI.put hU2 (gM 5 rfl),hM⟩
  constructor
  ·rintro S L' wS hI hM hS0 ⟨-,-⟩;have e1:=hI.1 1 (by simp);have hM':=hM;obtain ⟨hgB,hX,hB⟩:=hM';exact b0 (aK e1) ⟨hI.put hU2 (gM 6 rfl),hM⟩
  constructor
  ·rintro S L' wS hI hM hS0 ⟨-,-⟩;have e0:=hI.1 0 (by simp);have hM':=hM;obtain ⟨hgB,hX,hB⟩:=hM';exact b0 (aK e0) ⟨hI.put hU2 (gM 7 rfl),hM⟩
  constructor
  ·rintro S L' wS hI hM hS0 ⟨d7,-,-⟩;have e13:bI L' 13=.pointer (some ⟨g,0,none⟩):=hI.get (i:=7) (gM 7 rfl) d7;have hM':=hM;obtain ⟨hgB,hX,hB⟩:=hM';exact b0 (aw e13) ⟨hI.put hU2 (gM 8 rfl),hM⟩
  constructor
  ·rintro S L' wS hI hM hS0 ⟨d8,-,-⟩;have e14:bI L' 14=.pointer (some ⟨g,0,none⟩):=hI.get (i:=8) (gM 8 rfl) d8;have hM':=hM;obtain ⟨hgB,hX,hB⟩:=hM';exact b0 (ab aH e14) ⟨hI.put hU2 (gM 9 rfl),hM⟩
  constructor
  ·rintro S L' wS hI hM hS0 ⟨d9,-,-⟩;have e15:bI L' 15=.pointer (some ⟨g,0+0,none⟩):=hI.get (i:=9) (gM 9 rfl) d9;have hM':=hM;obtain ⟨hgB,hX,hB⟩:=hM';exact b0 (ab aB e15) ⟨hI.put hU2 (gM 10 rfl),hM⟩
  constructor
  ·rintro S L' wS hI hM hS0 ⟨d10,-,-⟩;have e16:bI L' 16=.pointer (some ⟨g,0+0+0,none⟩):=hI.get (i:=10) (gM 10 rfl) d10;have hM':=hM;obtain ⟨hgB,hX,hB⟩:=hM';exact b0 (ab bL e16) ⟨hI.put hU2 (gM 11 rfl),hM⟩
  constructor
  ·rintro S L' wS hI hM hS0 ⟨d11,-,-⟩;have e17:bI L' 17=.pointer (some ⟨g,0+0+0+3,none⟩):=hI.get (i:=11) (gM 11 rfl) d11;have hM':=hM;obtain ⟨hgB,hX,hB⟩:=hM';exact b0 (ar ao e17 (by exact dK hgB 3 rfl)) ⟨hI.put hU2 (gM 12 rfl),hM⟩
  constructor
  ·rintro S L' wS hI hM hS0 ⟨d0,d1,d2,d3,d4,d5,-,-,-,-,-,-,-,-⟩;have e5:=hI.1 5 (by simp);have hM':=hM;obtain ⟨hgB,hX,hB⟩:=hM';exact b0 (ab cu e5) ⟨hI.put hU2 (gM 13 rfl),hM⟩
  constructor
  ·rintro S L' wS hI hM hS0 ⟨d13,d5,d0,d1,d2,d3,d4,d5,-,-,-,-,-,-,-,-⟩;have e11:bI L' 11=.int .i64 p.s.id:=hI.get (i:=5) (gM 5 rfl) d5;have e19:bI L' 19=.pointer (some ⟨b5,0+1,none⟩):=hI.get (i:=13) (gM 13 rfl) d13;have hM':=hM;obtain ⟨hgB,hX,hB⟩:=hM';obtain ⟨w2,hR,hO,hb⟩:=ji (n:=32) (L:=L') (x:=.tmp 19) (y:=.tmp 11) bd e19 e11 rfl hX (by simp);exact gO hR ⟨hI.skip (by simp),hgB.only hO h5,hb,hB.only hO hg5⟩
  constructor
  ·rintro S L' wS hI hM hS0 ⟨d0,d1,d2,d3,d4,d5,d6,-,-,-,-,-,-,d13,d14,-⟩;have e5:=hI.1 5 (by simp);have hM':=hM;obtain ⟨hgB,hX,hB⟩:=hM';exact b0 (ab eC e5) ⟨hI.put hU2 (gM 14 rfl),hM⟩
  constructor
  ·rintro S L' wS hI hM hS0 ⟨d15,d6,d14,d0,d1,d2,d3,d4,d5,d6,-,-,-,-,-,-,d13,d14,-⟩;have e12:bI L' 12=.int .i64 to:=hI.get (i:=6) (gM 6 rfl) d6;have e20:bI L' 20=.pointer (some ⟨b5,0+2,none⟩):=hI.get (i:=15) (gM 14 rfl) d15;have hM':=hM;obtain ⟨hgB,hX,hB⟩:=hM';obtain ⟨w2,hR,hO,hb⟩:=ji (n:=32) (L:=L') (x:=.tmp 20) (y:=.tmp 12) bd e20 e12 rfl hX (by simp);exact gO hR ⟨hI.skip (by simp),hgB.only hO h5,hb,hB.only hO hg5⟩
  constructor
  ·rintro S L' wS hI hM hS0 ⟨d0,d1,d2,d3,d4,d5,d6,d7,d8,d9,d10,d11,d12,d13,d14,d15,d16,-⟩;have e5:=hI.1 5 (by simp);have hM':=hM;obtain ⟨hgB,hX,hB⟩:=hM';exact b0 (ab bJ e5) ⟨hI.put hU2 (gM 15 rfl),hM⟩
  constructor
  ·rintro S L' wS hI hM hS0 ⟨d17,d12,d16,d0,d1,d2,d3,d4,d5,d6,d7,d8,d9,d10,d11,d12,d13,d14,d15,d16,-⟩;have e18:bI L' 18=.int .i64 p.s.term:=hI.get (i:=12) (gM 12 rfl) d12;have e21:bI L' 21=.pointer (some ⟨b5,0+3,none⟩):=hI.get (i:=17) (gM 15 rfl) d17;have hM':=hM;obtain ⟨hgB,hX,hB⟩:=hM';obtain ⟨w2,hR,hO,hb⟩:=ji (n:=32) (L:=L') (x:=.tmp 21) (y:=.tmp 18) bd e21 e18 rfl hX (by simp);exact gO hR ⟨hI.skip (by simp),hgB.only hO h5,hb,hB.only hO hg5⟩
  exact trivial
 ·intro w3 hM;obtain ⟨hgB,hX,hB⟩:=hM;have hB1:=hB;replace hX:Blk w3 b5 39 (bH { m with f:=p.s.id,t:=to,tm:=p.s.term }).toArray:=hX;refine ag ?_;apply yc 8 7 [28] [(22,eqp _),(23,eqp _),(24,eqp _),(25,eqp _),(26,eqp (.slice O L.length oc)),(27,eqp (.agg (bH { m with f:=p.s.id,t:=to,tm:=p.s.term }).toArray)),(28,fun v w'=>∃ q,v=.slice (some ⟨q,0,none⟩) 1 1∧Blk w' q 39 (bH { m with f:=p.s.id,t:=to,tm:=p.s.term }).toArray),(29,fun v w'=>∃ A2 c2,v=.slice A2 (L.length+1) c2∧w'.ownsRow 0 39 13 (.slice A2 (L.length+1) c2) (L.length+1) (L.flatMap bH++bH { m with f:=p.s.id,t:=to,tm:=p.s.term })∧(∀ k,A2.map (·.block)=some k→O.map (·.block)=some k∨(w3).heap.size≤k))] (fun w'=>ah w3 w') (fun w'=>(w3).grownBy w' (O.map (·.block))) (by repeat first | exact cB | refine cz ?_ | refine ck ?_) (by kernel_rfl) (by kernel_rfl) (by kernel_rfl) ⟨aj _,aj _,aj _,aj _,aj _,aj _,(fun _ _ _ hF ⟨q,h1,h2⟩=>⟨q,h1,h2.from_ hF⟩),(fun _ _ _ hF ⟨A2,c2,h1,h2,h3⟩=>⟨A2,c2,h1,h2.kept_from hF,h3⟩),trivial⟩ (ah.rfl_.d1) (ah.rfl_.d1.grown _) (fun _ _ hF h=>h.next hF) (fun _ _ hF h=>eU h (hF.grown _))
  case hop=>
   constructor
   ·rintro-w5 hG5;exact au (aK (v:=.pointer _) rfl) rfl
   constructor
   ·rintro-w6 D6;exact au (aK (v:=.pointer _) rfl) rfl
   constructor
   ·rintro-w7 D7;rintro _ rfl;exact au (aw rfl) rfl
   constructor
   ·rintro-w8 D8;rintro _ rfl;exact au (ab iU rfl) rfl
   constructor
   ·rintro-w9 D9;rintro _ rfl;exact au (ar jA rfl (show _=some (Value.slice O L.length oc) from (hgB.from_ D9).rd 22 rfl)) rfl
   constructor
   ·rintro-w10 D10;exact au (aD (cs:=bH { m with f:=p.s.id,t:=to,tm:=p.s.term }) bh aU rfl ((hX.from_ D10).whole)) rfl
   constructor
   ·rintro-w11 D11;rintro v11_27 rfl;exact ko (qS (l:=[(0,.tmp 27)]) (cells:=(bH { m with f:=p.s.id,t:=to,tm:=p.s.term }).toArray) ir rfl rfl (by show Instr.fill _ _ [(0,Value.agg (bH { m with f:=p.s.id,t:=to,tm:=p.s.term }).toArray)]=_;kernel_rfl)) (ah.rfl_.new _) ⟨_,rfl,Blk.new _ _ _⟩
   constructor
   ·intro h;cases h
   exact trivial
  case hmu=>
   rintro w13 D13;rintro v13_26 rfl v13_28 ⟨q13,rfl,hq13⟩;show we ..;refine pe (news:=bH { m with f:=p.s.id,t:=to,tm:=p.s.term }) ir rfl (by decide) rfl ((hs.m.o.kept_from hB).kept_from D13) (Nat.zero_le _) rfl rfl ⟨_,_,rfl,hq13.whole⟩ (by simp [bH,Value.oneCell']) (by omega) (by omega) ?_;intro A3 c3 w3 ho3 hg3 hl3;exact ⟨eU (D13.grown _) hg3,⟨A3,c3,rfl,ho3,fun k hk=>(hl3 k hk).imp id fun e=>Nat.le_trans D13.size e⟩,fun t u ht h=>pf (by repeat first | exact trivial | refine ⟨.inl rfl,?_⟩ | refine ⟨.inr (fun _ h=>h),?_⟩) t u ht h⟩
  case hend=>
   rintro w14 hG14;rintro _ rfl _ rfl _ rfl _ rfl v26 rfl v27 rfl v28 _ v29 ⟨A29,c29,rfl,ho29,hL29⟩;show St ..;have hgD:=hG14;have hgC:=hgB.chg (Chg.of_grown (U:=fun k=>tag k=6) hgD (fun k hk=>hs.m.c k hk)) (fun e=>by rw [hs.gc] at e;cases e);refine aa (aw rfl) (aa (ab iU rfl) (eE (v:=.slice _ _ _) pL rfl rfl rfl (hgC) (by show _<23;decide) ?_));intro w15 O2 P2;refine ai (du (eB rfl (⟨rfl,h.push hs (x:={ m with f:=p.s.id,t:=to,tm:=p.s.term }) hE hB hgD ho29 rfl (fun k hk=>(hL29 k hk).imp id fun e=>Nat.le_trans hB.size e) O2 P2⟩)))
theorem zZ (B T i:Int) (A:Option Addr) (n c:Nat) (xs:List Ent) (w:World) (h:bX w (.slice A n c) xs) (hm:bR B T xs=true) (hi:B+1≤i∧i≤dy B xs+1) :
 Rt prog 114 [.agg #[.int .i64 B,.int .i64 T,.slice A n c],.int .i64 i,.int .i64 16] w fun v w'=>(∃ A' c',v=.tuple #[.slice A' ((xs.drop (i-B-1).toNat).take 16).length c',.int .i64 0]∧w'.ownsRow w.heap.size 99 3 (.slice A' ((xs.drop (i-B-1).toNat).take 16).length c') ((xs.drop (i-B-1).toNat).take 16).length (cN ((xs.drop (i-B-1).toNat).take 16)))∧ah w w':=
 (vj B T i 16 (.slice A n c) xs w h (by decide)).mono fun e w' ⟨L,he,hg,hF⟩=>by
  have h0:oV B T xs i 16=0:=by
   unfold oV;rw [if_pos hm,if_pos hi,if_neg (by decide)]
  rw [h0] at he hg;have ho:=hg.2 rfl;obtain ⟨A',c',rfl⟩:=fk ho;exact ⟨_,he,⟨A',c',rfl,ho⟩,hF⟩
theorem tu {P:Program} {ρ:Operand→Value} {w:World} {t:TypeId} {x y z:Operand} {k k':IntKind} {s r:ByteArray} {l h:Nat} (ht:P.underlying t=some .string) (hx:ρ x=.string s) (hy:ρ y=.int k (l:Int)) (hz:ρ z=.int k' (h:Int)) (h1:l≤h) (h2:h≤s.size) (hr:s.extract l h=r):RO P ρ (.slice t x (some y) (some z) none) w (.string r) w:=fun _ _ _ _ _=>by
 subst hr;simp only [execOp,hx,hy,hz,Option.map_none,Option.map_some,Sem.run_bind];rw [run_sliceAt_string w t _ _ _ _ ht,run_slice_string_if w t s k k' (l:Int) (h:Int) ht,if_pos (by omega),if_pos (by omega),Result.andThen_ok,Int.toNat_natCast,Int.toNat_natCast];rfl
theorem ts {s:Rf} {to:Int} (h:at1 s.next to≤s.b) {na:Nat} (ha:at1 s.sent to=(na:Int)):kQ s to={ zM with k:=5,t:=to,ix:=s.b,lt:=s.t,rd:=s.round,a:=(na:Int),d:=s.snap.extract na (min (na+1024) s.snap.size),dn:=decide (min (na+1024) s.snap.size=s.snap.size) }:=by
 unfold kQ;simp only;rw [if_pos h,ha,Int.toNat_natCast]
theorem vp {s:Rf} {to:Int} (h:¬ at1 s.next to≤s.b):kQ s to={ zM with k:=3,t:=to,ix:=at1 s.next to-1,lt:=dw s.b s.t s.es (at1 s.next to-1),cm:=s.commit,rd:=s.round,es:=(s.es.drop (at1 s.next to-s.b-1).toNat).take 16 }:=by
 unfold kQ;simp only;rw [if_neg h,show at1 s.next to-1-s.b=at1 s.next to-s.b-1 by omega]
theorem yg {l:List Int} {k:Nat} (h:k<l.length):at1 l ((k:Int)+1)=l[k]:=by
 unfold at1;rw [show ((k:Int)+1-1).toNat=k by omega,List.getD_eq_getElem?_getD,List.getElem?_eq_getElem h];rfl
theorem yL (w0:World) (Z:Nat→Prop) (T g:Nat) (p:Sp) (w:World) (h:aZ w0 Z w T g p) (hF:RfF p.s) (hr:p.s.role=2) (hl:p.out.length≤900) (to:Int) (hto:1≤to∧to≤p.s.nodes) :
 Rt prog 78 [.pointer (some ⟨g,0,none⟩),.int .i64 to] w (fun v w'=>v=.tuple #[]∧aZ w0 Z w' T g (p.send to)):=by
 obtain ⟨tag,a,O,oc,L,hs⟩:=h.ex;obtain ⟨E,Ec,V,Vc,X,Xc,M,Mc,S,Sc,Q,Qc,LL⟩:=a;have hb:=hs.b;have hll:L.length=p.out.length:=by rw [←hs.m.l,List.length_map]
 obtain ⟨k,rfl⟩:∃ k:Nat,to=(k:Int)+1:=⟨(to-1).toNat,by omega⟩;have hXl:p.s.next.length=p.s.nodes.toNat:=by rw [hF.nx.1,jN hr]
 have hSl:p.s.sent.length=p.s.nodes.toNat:=by rw [hF.se.1,jN hr]
 have hkX:k<p.s.next.length:=by omega
 have hkS:k<p.s.sent.length:=by omega
 have hnx:=hF.nx.2 _ (List.getElem_mem hkX);have hse:=hF.se.2 _ (List.getElem_mem hkS);obtain ⟨gX,rfl⟩:∃ q,X=some ⟨q,0,none⟩:=ft (hs.f.x (by decide)).1 (by omega);have hXo:w.ownsRow 0 3 1 (.slice (some ⟨gX,0,none⟩) p.s.next.length Xc) p.s.next.length (p.s.next.map iV):=(hs.f.x (by decide)).1;have hXc:=j5 (l:=p.s.next) hXo k hkX;obtain ⟨gS,rfl⟩:∃ q,S=some ⟨q,0,none⟩:=ft (hs.f.n (by decide)).1 (by omega);have hSo:w.ownsRow 0 3 1 (.slice (some ⟨gS,0,none⟩) p.s.sent.length Sc) p.s.sent.length (p.s.sent.map iV):=(hs.f.n (by decide)).1;have hSc:=j5 (l:=p.s.sent) hSo k hkS;obtain ⟨na,hna⟩:∃ na:Nat,p.s.sent[k]=(na:Int):=⟨p.s.sent[k].toNat,by omega⟩;have he:bX w (.slice E p.s.es.length Ec) p.s.es:=hs.f.rd.e;have hzw:=h.zw;have hnn:=hF.n;have hsn:=hF.sn;have hbl:=hF.last;have hlb:dy p.s.b p.s.es=bn p.s:=rfl;have hpn:=yg hkX;have hpx:=yg hkS;refine enter (n:=127) Tryz.func78 rfl rfl rfl (ak (af (mvp rfl (aa (aw rfl) (aa (ab aH rfl) (aa (ab aB rfl) (aa (ab cS rfl) (aa (ar bo rfl (by exact dK (hb.from_ ah.rfl_) 15 rfl)) ?_))))))));refine mvi rfl (aa (dM rfl rfl (by omega)) (dP (t:=16) (v:=.int _ _) (v':=.int .i64 (k:Nat)) rfl (by exact bM (by omega)) ?_));refine aa (eA c6 rfl rfl (by omega)) (aa (ar ao rfl (by exact fC ah.rfl_ hXc)) ?_);refine asi rfl (ai (ag (ak (ak (af (mvi rfl (mvp rfl (aa (aw rfl) (aa (ab aH rfl) (aa (ab aB rfl) (aa (ab bj rfl) (aa (ab ct rfl) ?_))))))))))));refine aa (ar ao rfl (by exact dK (hb.from_ ah.rfl_) 6 rfl)) ?_;refine aa (gH rfl rfl) (ai (ag (Bn rfl (fun Q1=>?_) (fun Q1=>?_))))
 ·refine ak (af (mvp rfl (aa (aw rfl) (aa (ab aH rfl) (aa (ab aB rfl) (aa (ab df rfl) (aa (ar bo rfl (by exact dK (hb.from_ ah.rfl_) 17 rfl)) ?_)))))));refine mvi rfl (aa (dM rfl rfl (by omega)) (dP (t:=35) (v:=.int _ _) (v':=.int .i64 (k:Nat)) rfl (by exact bM (by omega)) ?_));refine aa (eA c6 rfl rfl (by omega)) (aa (ar ao rfl (by exact fC ah.rfl_ hSc)) ?_);refine dP (t:=37) (v:=.int _ _) (v':=.int .i64 (na:Nat)) rfl (by exact congrArg (Value.int .i64) hna) ?_;refine asi rfl (ai (ag (ak (af (mvi rfl (aa (dD (b:=1024) rfl rfl (by omega)) (mvp rfl (aa (aw rfl) (aa (ab aH rfl) (aa (ab aB rfl) (aa (ab dY rfl) ?_)))))))))));refine aa (ar dc rfl (by exact dK (hb.from_ ah.rfl_) 9 rfl)) ?_;refine aa (f_ (by kernel_rfl) rfl) (aa (gA rfl rfl) (dP (t:=47) (v:=.int _ _) (v':=.int .i64 ((min (na+1024) p.s.snap.size:Nat):Int)) rfl (by exact bM (by omega)) ?_));refine asi rfl (ai (ag (ak ?_)));apply mM [(0,48,fun _ v _=>v=_),(1,49,fun _ v _=>v=_),(2,50,fun _ v _=>v=_),(3,51,fun _ v _=>v=_),(4,52,fun _ v _=>v=_),(5,53,fun _ v _=>v=_),(6,54,fun _ v _=>v=_),(7,55,fun _ v _=>v=_),(8,56,fun _ v _=>v=_),(9,57,fun _ v _=>v=_),(10,58,fun _ v _=>v=_),(11,59,fun _ v _=>v=_),(12,60,fun _ v _=>v=_),(13,61,fun _ v _=>v=_),(14,62,fun _ v _=>v=_),(15,63,fun _ v _=>v=_),(16,64,fun _ v _=>v=_),(17,65,fun _ v _=>v=_),(18,66,fun _ v _=>v=_),(19,67,fun _ v _=>v=_),(20,68,fun _ v _=>v=_),(21,69,fun _ v _=>v=_),(22,70,fun _ v _=>v=_),(23,71,fun _ v _=>v=_),(24,72,fun _ v _=>v=_),(25,73,fun _ v _=>v=_),(26,74,fun _ v _=>v=_),(27,75,fun _ v _=>v=_),(28,76,fun _ v _=>v=_),(29,77,fun _ v _=>v=_),(30,78,fun _ v _=>v=_),(31,79,fun _ v _=>v=_),(32,80,fun _ v _=>v=_),(33,81,fun _ v _=>v=_),(34,82,fun _ v _=>v=_),(35,83,fun _ v _=>v=_),(36,84,fun _ v _=>v=_),(37,85,fun _ v _=>v=_),(38,86,fun _ v _=>v=_),(39,87,fun _ v _=>v=_),(40,88,fun _ v _=>v=_),(41,89,fun _ v _=>v=_),(42,90,fun _ v _=>v=_)] [42] (fun S w'=>(S 42=false→ah w w')∧(S 42=true→aZ w0 Z w' T g (p.tell (pl { ({ zM with k:=5,ix:=p.s.b,lt:=p.s.t,rd:=p.s.round,a:=(na:Int),d:=p.s.snap.extract na (min (na+1024) p.s.snap.size),dn:=decide (min (na+1024) p.s.snap.size=p.s.snap.size) }:Msg) with t:=(k:Int)+1 })))) (by kernel_rfl) (by kernel_rfl) rfl rfl ⟨fun _ _ _ _ _ _ _ h=>h,fun _ _ _ _ _ _ _ h=>h,fun _ _ _ _ _ _ _ h=>h,fun _ _ _ _ _ _ _ h=>h,fun _ _ _ _ _ _ _ h=>h,fun _ _ _ _ _ _ _ h=>h,fun _ _ _ _ _ _ _ h=>h,fun _ _ _ _ _ _ _ h=>h,fun _ _ _ _ _ _ _ h=>h,fun _ _ _ _ _ _ _ h=>h,fun _ _ _ _ _ _ _ h=>h,fun _ _ _ _ _ _ _ h=>h,fun _ _ _ _ _ _ _ h=>h,fun _ _ _ _ _ _ _ h=>h,fun _ _ _ _ _ _ _ h=>h,fun _ _ _ _ _ _ _ h=>h,fun _ _ _ _ _ _ _ h=>h,fun _ _ _ _ _ _ _ h=>h,fun _ _ _ _ _ _ _ h=>h,fun _ _ _ _ _ _ _ h=>h,fun _ _ _ _ _ _ _ h=>h,fun _ _ _ _ _ _ _ h=>h,fun _ _ _ _ _ _ _ h=>h,fun _ _ _ _ _ _ _ h=>h,fun _ _ _ _ _ _ _ h=>h,fun _ _ _ _ _ _ _ h=>h,fun _ _ _ _ _ _ _ h=>h,fun _ _ _ _ _ _ _ h=>h,fun _ _ _ _ _ _ _ h=>h,fun _ _ _ _ _ _ _ h=>h,fun _ _ _ _ _ _ _ h=>h,fun _ _ _ _ _ _ _ h=>h,fun _ _ _ _ _ _ _ h=>h,fun _ _ _ _ _ _ _ h=>h,fun _ _ _ _ _ _ _ h=>h,fun _ _ _ _ _ _ _ h=>h,fun _ _ _ _ _ _ _ h=>h,fun _ _ _ _ _ _ _ h=>h,fun _ _ _ _ _ _ _ h=>h,fun _ _ _ _ _ _ _ h=>h,fun _ _ _ _ _ _ _ h=>h,fun _ _ _ _ _ _ _ h=>h,fun _ _ _ _ _ _ _ h=>h,trivial⟩ (fun S i w1 w2 hq hF h=>⟨fun h0=>(h.1 (oo h0)).next hF,fun h1=>(fun h=>h.from_ hF) (h.2 (oW (show 42≠i by rintro rfl;exact absurd hq (by decide)) h1))⟩) ⟨fun _=>ah.rfl_.d1,fun h=>by cases h⟩
  case hstep=>
   constructor
   ·rintro S L' w2 hU hmo hme hI hM hC hS ⟨-⟩;have hS0:S 42=false:=(aq hC (j:=42) rfl (by kernel_rfl) hS);have hM2:=hM.1 hS0;have e0:=hI.1 0 (fH rfl);exact aS [(0,_)] hU hmo hme hI hM (.head _) rfl rfl (by kernel_rfl) ⟨e0,trivial⟩ (aK (v:=.pointer _) rfl) ah.rfl_ (rfl)
   constructor
   ·rintro S L' w3 hU hmo hme hI hM hC hS ⟨-⟩;have hS0:S 42=false:=(aq hC (j:=42) rfl (by kernel_rfl) hS);have hM3:=hM.1 hS0;have e1:=hI.1 1 (fH rfl);exact aS [(1,_)] hU hmo hme hI hM (.tail _ (.head _)) rfl rfl (by kernel_rfl) ⟨e1,trivial⟩ (aK (v:=.int _ _) rfl) ah.rfl_ (rfl)
   constructor
   ·rintro S L' w4 hU hmo hme hI hM hC hS ⟨-⟩;have hS0:S 42=false:=(aq hC (j:=42) rfl (by kernel_rfl) (aq hC (j:=41) rfl (by kernel_rfl) (aq hC (j:=8) rfl (by kernel_rfl) (aq hC (j:=7) rfl (by kernel_rfl) (aq hC (j:=6) rfl (by kernel_rfl) (aq hC (j:=5) rfl (by kernel_rfl) (aq hC (j:=4) rfl (by kernel_rfl) (aq hC (j:=3) rfl (by kernel_rfl) hS))))))));have hM4:=hM.1 hS0;have e0:=hI.1 0 (fH rfl);exact aS [(0,_)] hU hmo hme hI hM (gM 2 rfl) rfl rfl (by kernel_rfl) ⟨e0,trivial⟩ (aK (v:=.pointer _) rfl) ah.rfl_ (rfl)
   constructor
   ·rintro S L' w5 hU hmo hme hI hM hC hS ⟨d2,-⟩;have hS0:S 42=false:=(aq hC (j:=42) rfl (by kernel_rfl) (aq hC (j:=41) rfl (by kernel_rfl) (aq hC (j:=8) rfl (by kernel_rfl) (aq hC (j:=7) rfl (by kernel_rfl) (aq hC (j:=6) rfl (by kernel_rfl) (aq hC (j:=5) rfl (by kernel_rfl) (aq hC (j:=4) rfl (by kernel_rfl) hS)))))));have hM5:=hM.1 hS0;obtain ⟨v5_50,e50,h50⟩:=hI.get (i:=2) (gM 2 rfl) d2;obtain rfl:=h50;exact aS [(50,_)] hU hmo hme hI hM (gM 3 rfl) rfl rfl (by kernel_rfl) ⟨e50,trivial⟩ (aw rfl) ah.rfl_ (rfl)
   constructor
   ·rintro S L' w6 hU hmo hme hI hM hC hS ⟨d3,-⟩;have hS0:S 42=false:=(aq hC (j:=42) rfl (by kernel_rfl) (aq hC (j:=41) rfl (by kernel_rfl) (aq hC (j:=8) rfl (by kernel_rfl) (aq hC (j:=7) rfl (by kernel_rfl) (aq hC (j:=6) rfl (by kernel_rfl) (aq hC (j:=5) rfl (by kernel_rfl) hS))))));have hM6:=hM.1 hS0;obtain ⟨v6_51,e51,h51⟩:=hI.get (i:=3) (gM 3 rfl) d3;obtain rfl:=h51;exact aS [(51,_)] hU hmo hme hI hM (gM 4 rfl) rfl rfl (by kernel_rfl) ⟨e51,trivial⟩ (ab aH rfl) ah.rfl_ (rfl)
   constructor
   ·rintro S L' w7 hU hmo hme hI hM hC hS ⟨d4,-⟩;have hS0:S 42=false:=(aq hC (j:=42) rfl (by kernel_rfl) (aq hC (j:=41) rfl (by kernel_rfl) (aq hC (j:=8) rfl (by kernel_rfl) (aq hC (j:=7) rfl (by kernel_rfl) (aq hC (j:=6) rfl (by kernel_rfl) hS)))));have hM7:=hM.1 hS0;obtain ⟨v7_52,e52,h52⟩:=hI.get (i:=4) (gM 4 rfl) d4;obtain rfl:=h52;exact aS [(52,_)] hU hmo hme hI hM (gM 5 rfl) rfl rfl (by kernel_rfl) ⟨e52,trivial⟩ (ab aB rfl) ah.rfl_ (rfl)
   constructor
   ·rintro S L' w8 hU hmo hme hI hM hC hS ⟨d5,-⟩;have hS0:S 42=false:=(aq hC (j:=42) rfl (by kernel_rfl) (aq hC (j:=41) rfl (by kernel_rfl) (aq hC (j:=8) rfl (by kernel_rfl) (aq hC (j:=7) rfl (by kernel_rfl) hS))));have hM8:=hM.1 hS0;obtain ⟨v8_53,e53,h53⟩:=hI.get (i:=5) (gM 5 rfl) d5;obtain rfl:=h53;exact aS [(53,_)] hU hmo hme hI hM (gM 6 rfl) rfl rfl (by kernel_rfl) ⟨e53,trivial⟩ (ab bj rfl) ah.rfl_ (rfl)
   constructor
   ·rintro S L' w9 hU hmo hme hI hM hC hS ⟨d6,-⟩;have hS0:S 42=false:=(aq hC (j:=42) rfl (by kernel_rfl) (aq hC (j:=41) rfl (by kernel_rfl) (aq hC (j:=8) rfl (by kernel_rfl) hS)));have hM9:=hM.1 hS0;obtain ⟨v9_54,e54,h54⟩:=hI.get (i:=6) (gM 6 rfl) d6;obtain rfl:=h54;exact aS [(54,_)] hU hmo hme hI hM (gM 7 rfl) rfl rfl (by kernel_rfl) ⟨e54,trivial⟩ (ab ct rfl) ah.rfl_ (rfl)
   constructor
   ·rintro S L' w10 hU hmo hme hI hM hC hS ⟨d7,-⟩;have hS0:S 42=false:=(aq hC (j:=42) rfl (by kernel_rfl) (aq hC (j:=41) rfl (by kernel_rfl) hS));have hM10:=hM.1 hS0;obtain ⟨v10_55,e55,h55⟩:=hI.get (i:=7) (gM 7 rfl) d7;obtain rfl:=h55;exact aS [(55,_)] hU hmo hme hI hM (gM 8 rfl) rfl rfl (by kernel_rfl) ⟨e55,trivial⟩ (ar ao rfl (by exact dK (hb.from_ (ah.rfl_.next hM10)) 6 rfl)) ah.rfl_ (rfl)
   constructor
   ·rintro S L' w11 hU hmo hme hI hM hC hS ⟨-⟩;have hS0:S 42=false:=(aq hC (j:=42) rfl (by kernel_rfl) (aq hC (j:=41) rfl (by kernel_rfl) (aq hC (j:=15) rfl (by kernel_rfl) (aq hC (j:=14) rfl (by kernel_rfl) (aq hC (j:=13) rfl (by kernel_rfl) (aq hC (j:=12) rfl (by kernel_rfl) (aq hC (j:=11) rfl (by kernel_rfl) (aq hC (j:=10) rfl (by kernel_rfl) hS))))))));have hM11:=hM.1 hS0;have e0:=hI.1 0 (fH rfl);exact aS [(0,_)] hU hmo hme hI hM (gM 9 rfl) rfl rfl (by kernel_rfl) ⟨e0,trivial⟩ (aK (v:=.pointer _) rfl) ah.rfl_ (rfl)
   constructor
   ·rintro S L' w12 hU hmo hme hI hM hC hS ⟨d9,-⟩;have hS0:S 42=false:=(aq hC (j:=42) rfl (by kernel_rfl) (aq hC (j:=41) rfl (by kernel_rfl) (aq hC (j:=15) rfl (by kernel_rfl) (aq hC (j:=14) rfl (by kernel_rfl) (aq hC (j:=13) rfl (by kernel_rfl) (aq hC (j:=12) rfl (by kernel_rfl) (aq hC (j:=11) rfl (by kernel_rfl) hS)))))));have hM12:=hM.1 hS0;obtain ⟨v12_57,e57,h57⟩:=hI.get (i:=9) (gM 9 rfl) d9;obtain rfl:=h57;exact aS [(57,_)] hU hmo hme hI hM (gM 10 rfl) rfl rfl (by kernel_rfl) ⟨e57,trivial⟩ (aw rfl) ah.rfl_ (rfl)
   constructor
   ·rintro S L' w13 hU hmo hme hI hM hC hS ⟨d10,-⟩;have hS0:S 42=false:=(aq hC (j:=42) rfl (by kernel_rfl) (aq hC (j:=41) rfl (by kernel_rfl) (aq hC (j:=15) rfl (by kernel_rfl) (aq hC (j:=14) rfl (by kernel_rfl) (aq hC (j:=13) rfl (by kernel_rfl) (aq hC (j:=12) rfl (by kernel_rfl) hS))))));have hM13:=hM.1 hS0;obtain ⟨v13_58,e58,h58⟩:=hI.get (i:=10) (gM 10 rfl) d10;obtain rfl:=h58;exact aS [(58,_)] hU hmo hme hI hM (gM 11 rfl) rfl rfl (by kernel_rfl) ⟨e58,trivial⟩ (ab aH rfl) ah.rfl_ (rfl)
   constructor
   ·rintro S L' w14 hU hmo hme hI hM hC hS ⟨d11,-⟩;have hS0:S 42=false:=(aq hC (j:=42) rfl (by kernel_rfl) (aq hC (j:=41) rfl (by kernel_rfl) (aq hC (j:=15) rfl (by kernel_rfl) (aq hC (j:=14) rfl (by kernel_rfl) (aq hC (j:=13) rfl (by kernel_rfl) hS)))));have hM14:=hM.1 hS0;obtain ⟨v14_59,e59,h59⟩:=hI.get (i:=11) (gM 11 rfl) d11;obtain rfl:=h59;exact aS [(59,_)] hU hmo hme hI hM (gM 12 rfl) rfl rfl (by kernel_rfl) ⟨e59,trivial⟩ (ab aB rfl) ah.rfl_ (rfl)
   constructor
   ·rintro S L' w15 hU hmo hme hI hM hC hS ⟨d12,-⟩;have hS0:S 42=false:=(aq hC (j:=42) rfl (by kernel_rfl) (aq hC (j:=41) rfl (by kernel_rfl) (aq hC (j:=15) rfl (by kernel_rfl) (aq hC (j:=14) rfl (by kernel_rfl) hS))));have hM15:=hM.1 hS0;obtain ⟨v15_60,e60,h60⟩:=hI.get (i:=12) (gM 12 rfl) d12;obtain rfl:=h60;exact aS [(60,_)] hU hmo hme hI hM (gM 13 rfl) rfl rfl (by kernel_rfl) ⟨e60,trivial⟩ (ab bj rfl) ah.rfl_ (rfl)
   constructor
   ·rintro S L' w16 hU hmo hme hI hM hC hS ⟨d13,-⟩;have hS0:S 42=false:=(aq hC (j:=42) rfl (by kernel_rfl) (aq hC (j:=41) rfl (by kernel_rfl) (aq hC (j:=15) rfl (by kernel_rfl) hS)));have hM16:=hM.1 hS0;obtain ⟨v16_61,e61,h61⟩:=hI.get (i:=13) (gM 13 rfl) d13;obtain rfl:=h61;exact aS [(61,_)] hU hmo hme hI hM (gM 14 rfl) rfl rfl (by kernel_rfl) ⟨e61,trivial⟩ (ab gY rfl) ah.rfl_ (rfl)
   constructor
   ·rintro S L' w17 hU hmo hme hI hM hC hS ⟨d14,-⟩;have hS0:S 42=false:=(aq hC (j:=42) rfl (by kernel_rfl) (aq hC (j:=41) rfl (by kernel_rfl) hS));have hM17:=hM.1 hS0;obtain ⟨v17_62,e62,h62⟩:=hI.get (i:=14) (gM 14 rfl) d14;obtain rfl:=h62;exact aS [(62,_)] hU hmo hme hI hM (gM 15 rfl) rfl rfl (by kernel_rfl) ⟨e62,trivial⟩ (ar ao rfl (by exact dK (hb.from_ (ah.rfl_.next hM17)) 7 rfl)) ah.rfl_ (rfl)
   constructor
   ·rintro S L' w18 hU hmo hme hI hM hC hS ⟨-⟩;have hS0:S 42=false:=(aq hC (j:=42) rfl (by kernel_rfl) (aq hC (j:=41) rfl (by kernel_rfl) hS));have hM18:=hM.1 hS0;have e5:=hI.1 5 (fH rfl);exact aS [(5,_)] hU hmo hme hI hM (gM 16 rfl) rfl rfl (by kernel_rfl) ⟨e5,trivial⟩ (aK (v:=.int _ _) rfl) ah.rfl_ (rfl)
   constructor
   ·rintro S L' w19 hU hmo hme hI hM hC hS ⟨-⟩;have hS0:S 42=false:=(aq hC (j:=42) rfl (by kernel_rfl) (aq hC (j:=41) rfl (by kernel_rfl) (aq hC (j:=25) rfl (by kernel_rfl) (aq hC (j:=22) rfl (by kernel_rfl) (aq hC (j:=21) rfl (by kernel_rfl) (aq hC (j:=20) rfl (by kernel_rfl) (aq hC (j:=19) rfl (by kernel_rfl) (aq hC (j:=18) rfl (by kernel_rfl) hS))))))));have hM19:=hM.1 hS0;have e0:=hI.1 0 (fH rfl);exact aS [(0,_)] hU hmo hme hI hM (gM 17 rfl) rfl rfl (by kernel_rfl) ⟨e0,trivial⟩ (aK (v:=.pointer _) rfl) ah.rfl_ (rfl)
   constructor
   ·rintro S L' w20 hU hmo hme hI hM hC hS ⟨d17,-⟩;have hS0:S 42=false:=(aq hC (j:=42) rfl (by kernel_rfl) (aq hC (j:=41) rfl (by kernel_rfl) (aq hC (j:=25) rfl (by kernel_rfl) (aq hC (j:=22) rfl (by kernel_rfl) (aq hC (j:=21) rfl (by kernel_rfl) (aq hC (j:=20) rfl (by kernel_rfl) (aq hC (j:=19) rfl (by kernel_rfl) hS)))))));have hM20:=hM.1 hS0;obtain ⟨v20_65,e65,h65⟩:=hI.get (i:=17) (gM 17 rfl) d17;obtain rfl:=h65;exact aS [(65,_)] hU hmo hme hI hM (gM 18 rfl) rfl rfl (by kernel_rfl) ⟨e65,trivial⟩ (aw rfl) ah.rfl_ (rfl)
   constructor
   ·rintro S L' w21 hU hmo hme hI hM hC hS ⟨d18,-⟩;have hS0:S 42=false:=(aq hC (j:=42) rfl (by kernel_rfl) (aq hC (j:=41) rfl (by kernel_rfl) (aq hC (j:=25) rfl (by kernel_rfl) (aq hC (j:=22) rfl (by kernel_rfl) (aq hC (j:=21) rfl (by kernel_rfl) (aq hC (j:=20) rfl (by kernel_rfl) hS))))));have hM21:=hM.1 hS0;obtain ⟨v21_66,e66,h66⟩:=hI.get (i:=18) (gM 18 rfl) d18;obtain rfl:=h66;exact aS [(66,_)] hU hmo hme hI hM (gM 19 rfl) rfl rfl (by kernel_rfl) ⟨e66,trivial⟩ (ab aH rfl) ah.rfl_ (rfl)
   constructor
   ·rintro S L' w22 hU hmo hme hI hM hC hS ⟨d19,-⟩;have hS0:S 42=false:=(aq hC (j:=42) rfl (by kernel_rfl) (aq hC (j:=41) rfl (by kernel_rfl) (aq hC (j:=25) rfl (by kernel_rfl) (aq hC (j:=22) rfl (by kernel_rfl) (aq hC (j:=21) rfl (by kernel_rfl) hS)))));have hM22:=hM.1 hS0;obtain ⟨v22_67,e67,h67⟩:=hI.get (i:=19) (gM 19 rfl) d19;obtain rfl:=h67;exact aS [(67,_)] hU hmo hme hI hM (gM 20 rfl) rfl rfl (by kernel_rfl) ⟨e67,trivial⟩ (ab aB rfl) ah.rfl_ (rfl)
   constructor
   ·rintro S L' w23 hU hmo hme hI hM hC hS ⟨d20,-⟩;have hS0:S 42=false:=(aq hC (j:=42) rfl (by kernel_rfl) (aq hC (j:=41) rfl (by kernel_rfl) (aq hC (j:=25) rfl (by kernel_rfl) (aq hC (j:=22) rfl (by kernel_rfl) hS))));have hM23:=hM.1 hS0;obtain ⟨v23_68,e68,h68⟩:=hI.get (i:=20) (gM 20 rfl) d20;obtain rfl:=h68;exact aS [(68,_)] hU hmo hme hI hM (gM 21 rfl) rfl rfl (by kernel_rfl) ⟨e68,trivial⟩ (ab dY rfl) ah.rfl_ (rfl)
   constructor
   ·rintro S L' w24 hU hmo hme hI hM hC hS ⟨d21,-⟩;have hS0:S 42=false:=(aq hC (j:=42) rfl (by kernel_rfl) (aq hC (j:=41) rfl (by kernel_rfl) (aq hC (j:=25) rfl (by kernel_rfl) hS)));have hM24:=hM.1 hS0;obtain ⟨v24_69,e69,h69⟩:=hI.get (i:=21) (gM 21 rfl) d21;obtain rfl:=h69;exact aS [(69,_)] hU hmo hme hI hM (gM 22 rfl) rfl rfl (by kernel_rfl) ⟨e69,trivial⟩ (ar dc rfl (by exact dK (hb.from_ (ah.rfl_.next hM24)) 9 rfl)) ah.rfl_ (rfl)
   constructor
   ·rintro S L' w25 hU hmo hme hI hM hC hS ⟨-⟩;have hS0:S 42=false:=(aq hC (j:=42) rfl (by kernel_rfl) (aq hC (j:=41) rfl (by kernel_rfl) (aq hC (j:=25) rfl (by kernel_rfl) hS)));have hM25:=hM.1 hS0;have e5:=hI.1 5 (fH rfl);exact aS [(5,_)] hU hmo hme hI hM (gM 23 rfl) rfl rfl (by kernel_rfl) ⟨e5,trivial⟩ (aK (v:=.int _ _) rfl) ah.rfl_ (rfl)
   constructor
   ·rintro S L' w26 hU hmo hme hI hM hC hS ⟨-⟩;have hS0:S 42=false:=(aq hC (j:=42) rfl (by kernel_rfl) (aq hC (j:=41) rfl (by kernel_rfl) (aq hC (j:=25) rfl (by kernel_rfl) hS)));have hM26:=hM.1 hS0;have e6:=hI.1 6 (fH rfl);exact aS [(6,_)] hU hmo hme hI hM (gM 24 rfl) rfl rfl (by kernel_rfl) ⟨e6,trivial⟩ (aK (v:=.int _ _) rfl) ah.rfl_ (rfl)
   constructor
   ·rintro S L' w27 hU hmo hme hI hM hC hS ⟨d22,d23,d24,-⟩;have hS0:S 42=false:=(aq hC (j:=42) rfl (by kernel_rfl) (aq hC (j:=41) rfl (by kernel_rfl) hS));have hM27:=hM.1 hS0;obtain ⟨v27_70,e70,h70⟩:=hI.get (i:=22) (gM 22 rfl) d22;obtain rfl:=h70;obtain ⟨v27_71,e71,h71⟩:=hI.get (i:=23) (gM 23 rfl) d23;obtain rfl:=h71;obtain ⟨v27_72,e72,h72⟩:=hI.get (i:=24) (gM 24 rfl) d24;obtain rfl:=h72;exact aS [(70,_),(71,_),(72,_)] hU hmo hme hI hM (gM 25 rfl) rfl rfl (by kernel_rfl) ⟨e70,e71,e72,trivial⟩ ((tu (l:=na) (h:=min (na+1024) p.s.snap.size) vY rfl rfl rfl (by omega) (by omega) rfl)) (ah.rfl_) (rfl)
   constructor
   ·rintro S L' w28 hU hmo hme hI hM hC hS ⟨-⟩;have hS0:S 42=false:=(aq hC (j:=42) rfl (by kernel_rfl) (aq hC (j:=41) rfl (by kernel_rfl) (aq hC (j:=34) rfl (by kernel_rfl) hS)));have hM28:=hM.1 hS0;have e6:=hI.1 6 (fH rfl);exact aS [(6,_)] hU hmo hme hI hM (gM 26 rfl) rfl rfl (by kernel_rfl) ⟨e6,trivial⟩ (aK (v:=.int _ _) rfl) ah.rfl_ (rfl)
   constructor
   ·rintro S L' w29 hU hmo hme hI hM hC hS ⟨-⟩;have hS0:S 42=false:=(aq hC (j:=42) rfl (by kernel_rfl) (aq hC (j:=41) rfl (by kernel_rfl) (aq hC (j:=34) rfl (by kernel_rfl) (aq hC (j:=33) rfl (by kernel_rfl) (aq hC (j:=32) rfl (by kernel_rfl) (aq hC (j:=31) rfl (by kernel_rfl) (aq hC (j:=30) rfl (by kernel_rfl) (aq hC (j:=29) rfl (by kernel_rfl) (aq hC (j:=28) rfl (by kernel_rfl) hS)))))))));have hM29:=hM.1 hS0;have e0:=hI.1 0 (fH rfl);exact aS [(0,_)] hU hmo hme hI hM (gM 27 rfl) rfl rfl (by kernel_rfl) ⟨e0,trivial⟩ (aK (v:=.pointer _) rfl) ah.rfl_ (rfl)
   constructor
   ·rintro S L' w30 hU hmo hme hI hM hC hS ⟨d27,-⟩;have hS0:S 42=false:=(aq hC (j:=42) rfl (by kernel_rfl) (aq hC (j:=41) rfl (by kernel_rfl) (aq hC (j:=34) rfl (by kernel_rfl) (aq hC (j:=33) rfl (by kernel_rfl) (aq hC (j:=32) rfl (by kernel_rfl) (aq hC (j:=31) rfl (by kernel_rfl) (aq hC (j:=30) rfl (by kernel_rfl) (aq hC (j:=29) rfl (by kernel_rfl) hS))))))));have hM30:=hM.1 hS0;obtain ⟨v30_75,e75,h75⟩:=hI.get (i:=27) (gM 27 rfl) d27;obtain rfl:=h75;exact aS [(75,_)] hU hmo hme hI hM (gM 28 rfl) rfl rfl (by kernel_rfl) ⟨e75,trivial⟩ (aw rfl) ah.rfl_ (rfl)
   constructor
   ·rintro S L' w31 hU hmo hme hI hM hC hS ⟨d28,-⟩;have hS0:S 42=false:=(aq hC (j:=42) rfl (by kernel_rfl) (aq hC (j:=41) rfl (by kernel_rfl) (aq hC (j:=34) rfl (by kernel_rfl) (aq hC (j:=33) rfl (by kernel_rfl) (aq hC (j:=32) rfl (by kernel_rfl) (aq hC (j:=31) rfl (by kernel_rfl) (aq hC (j:=30) rfl (by kernel_rfl) hS)))))));have hM31:=hM.1 hS0;obtain ⟨v31_76,e76,h76⟩:=hI.get (i:=28) (gM 28 rfl) d28;obtain rfl:=h76;exact aS [(76,_)] hU hmo hme hI hM (gM 29 rfl) rfl rfl (by kernel_rfl) ⟨e76,trivial⟩ (ab aH rfl) ah.rfl_ (rfl)
   constructor
   ·rintro S L' w32 hU hmo hme hI hM hC hS ⟨d29,-⟩;have hS0:S 42=false:=(aq hC (j:=42) rfl (by kernel_rfl) (aq hC (j:=41) rfl (by kernel_rfl) (aq hC (j:=34) rfl (by kernel_rfl) (aq hC (j:=33) rfl (by kernel_rfl) (aq hC (j:=32) rfl (by kernel_rfl) (aq hC (j:=31) rfl (by kernel_rfl) hS))))));have hM32:=hM.1 hS0;obtain ⟨v32_77,e77,h77⟩:=hI.get (i:=29) (gM 29 rfl) d29;obtain rfl:=h77;exact aS [(77,_)] hU hmo hme hI hM (gM 30 rfl) rfl rfl (by kernel_rfl) ⟨e77,trivial⟩ (ab aB rfl) ah.rfl_ (rfl)
   constructor
   ·rintro S L' w33 hU hmo hme hI hM hC hS ⟨d30,-⟩;have hS0:S 42=false:=(aq hC (j:=42) rfl (by kernel_rfl) (aq hC (j:=41) rfl (by kernel_rfl) (aq hC (j:=34) rfl (by kernel_rfl) (aq hC (j:=33) rfl (by kernel_rfl) (aq hC (j:=32) rfl (by kernel_rfl) hS)))));have hM33:=hM.1 hS0;obtain ⟨v33_78,e78,h78⟩:=hI.get (i:=30) (gM 30 rfl) d30;obtain rfl:=h78;exact aS [(78,_)] hU hmo hme hI hM (gM 31 rfl) rfl rfl (by kernel_rfl) ⟨e78,trivial⟩ (ab dY rfl) ah.rfl_ (rfl)
   constructor
   ·rintro S L' w34 hU hmo hme hI hM hC hS ⟨d31,-⟩;have hS0:S 42=false:=(aq hC (j:=42) rfl (by kernel_rfl) (aq hC (j:=41) rfl (by kernel_rfl) (aq hC (j:=34) rfl (by kernel_rfl) (aq hC (j:=33) rfl (by kernel_rfl) hS))));have hM34:=hM.1 hS0;obtain ⟨v34_79,e79,h79⟩:=hI.get (i:=31) (gM 31 rfl) d31;obtain rfl:=h79;exact aS [(79,_)] hU hmo hme hI hM (gM 32 rfl) rfl rfl (by kernel_rfl) ⟨e79,trivial⟩ (ar dc rfl (by exact dK (hb.from_ (ah.rfl_.next hM34)) 9 rfl)) ah.rfl_ (rfl)
   constructor
   ·rintro S L' w35 hU hmo hme hI hM hC hS ⟨d32,-⟩;have hS0:S 42=false:=(aq hC (j:=42) rfl (by kernel_rfl) (aq hC (j:=41) rfl (by kernel_rfl) (aq hC (j:=34) rfl (by kernel_rfl) hS)));have hM35:=hM.1 hS0;obtain ⟨v35_80,e80,h80⟩:=hI.get (i:=32) (gM 32 rfl) d32;obtain rfl:=h80;exact aS [(80,_)] hU hmo hme hI hM (gM 33 rfl) rfl rfl (by kernel_rfl) ⟨e80,trivial⟩ (f_ (by kernel_rfl) rfl) ah.rfl_ (rfl)
   constructor
   ·rintro S L' w36 hU hmo hme hI hM hC hS ⟨d26,d33,-⟩;have hS0:S 42=false:=(aq hC (j:=42) rfl (by kernel_rfl) (aq hC (j:=41) rfl (by kernel_rfl) hS));have hM36:=hM.1 hS0;obtain ⟨v36_74,e74,h74⟩:=hI.get (i:=26) (gM 26 rfl) d26;obtain rfl:=h74;obtain ⟨v36_81,e81,h81⟩:=hI.get (i:=33) (gM 33 rfl) d33;obtain rfl:=h81;exact aS [(74,_),(81,_)] hU hmo hme hI hM (gM 34 rfl) rfl rfl (by kernel_rfl) ⟨e74,e81,trivial⟩ ((jk (bt rfl rfl) (congrArg Value.bool (show (((min (na+1024) p.s.snap.size:Nat):Int)==((p.s.snap.size:Nat):Int))=decide (min (na+1024) p.s.snap.size=p.s.snap.size) by rw [Bool.eq_iff_iff,beq_iff_eq,decide_eq_true_eq];omega)))) (ah.rfl_) (rfl)
   constructor
   ·rintro S L' w37 hU hmo hme hI hM hC hS ⟨-⟩;have hS0:S 42=false:=(aq hC (j:=42) rfl (by kernel_rfl) (aq hC (j:=41) rfl (by kernel_rfl) (aq hC (j:=40) rfl (by kernel_rfl) (aq hC (j:=39) rfl (by kernel_rfl) (aq hC (j:=38) rfl (by kernel_rfl) (aq hC (j:=37) rfl (by kernel_rfl) (aq hC (j:=36) rfl (by kernel_rfl) hS)))))));have hM37:=hM.1 hS0;have e0:=hI.1 0 (fH rfl);exact aS [(0,_)] hU hmo hme hI hM (gM 35 rfl) rfl rfl (by kernel_rfl) ⟨e0,trivial⟩ (aK (v:=.pointer _) rfl) ah.rfl_ (rfl)
   constructor
   ·rintro S L' w38 hU hmo hme hI hM hC hS ⟨d35,-⟩;have hS0:S 42=false:=(aq hC (j:=42) rfl (by kernel_rfl) (aq hC (j:=41) rfl (by kernel_rfl) (aq hC (j:=40) rfl (by kernel_rfl) (aq hC (j:=39) rfl (by kernel_rfl) (aq hC (j:=38) rfl (by kernel_rfl) (aq hC (j:=37) rfl (by kernel_rfl) hS))))));have hM38:=hM.1 hS0;obtain ⟨v38_83,e83,h83⟩:=hI.get (i:=35) (gM 35 rfl) d35;obtain rfl:=h83;exact aS [(83,_)] hU hmo hme hI hM (gM 36 rfl) rfl rfl (by kernel_rfl) ⟨e83,trivial⟩ (aw rfl) ah.rfl_ (rfl)
   constructor
   ·rintro S L' w39 hU hmo hme hI hM hC hS ⟨d36,-⟩;have hS0:S 42=false:=(aq hC (j:=42) rfl (by kernel_rfl) (aq hC (j:=41) rfl (by kernel_rfl) (aq hC (j:=40) rfl (by kernel_rfl) (aq hC (j:=39) rfl (by kernel_rfl) (aq hC (j:=38) rfl (by kernel_rfl) hS)))));have hM39:=hM.1 hS0;obtain ⟨v39_84,e84,h84⟩:=hI.get (i:=36) (gM 36 rfl) d36;obtain rfl:=h84;exact aS [(84,_)] hU hmo hme hI hM (gM 37 rfl) rfl rfl (by kernel_rfl) ⟨e84,trivial⟩ (ab aH rfl) ah.rfl_ (rfl)
   constructor
   ·rintro S L' w40 hU hmo hme hI hM hC hS ⟨d37,-⟩;have hS0:S 42=false:=(aq hC (j:=42) rfl (by kernel_rfl) (aq hC (j:=41) rfl (by kernel_rfl) (aq hC (j:=40) rfl (by kernel_rfl) (aq hC (j:=39) rfl (by kernel_rfl) hS))));have hM40:=hM.1 hS0;obtain ⟨v40_85,e85,h85⟩:=hI.get (i:=37) (gM 37 rfl) d37;obtain rfl:=h85;exact aS [(85,_)] hU hmo hme hI hM (gM 38 rfl) rfl rfl (by kernel_rfl) ⟨e85,trivial⟩ (ab aB rfl) ah.rfl_ (rfl)
   constructor
   ·rintro S L' w41 hU hmo hme hI hM hC hS ⟨d38,-⟩;have hS0:S 42=false:=(aq hC (j:=42) rfl (by kernel_rfl) (aq hC (j:=41) rfl (by kernel_rfl) (aq hC (j:=40) rfl (by kernel_rfl) hS)));have hM41:=hM.1 hS0;obtain ⟨v41_86,e86,h86⟩:=hI.get (i:=38) (gM 38 rfl) d38;obtain rfl:=h86;exact aS [(86,_)] hU hmo hme hI hM (gM 39 rfl) rfl rfl (by kernel_rfl) ⟨e86,trivial⟩ (ab dW rfl) ah.rfl_ (rfl)
   constructor
   ·rintro S L' w42 hU hmo hme hI hM hC hS ⟨d39,-⟩;have hS0:S 42=false:=(aq hC (j:=42) rfl (by kernel_rfl) (aq hC (j:=41) rfl (by kernel_rfl) hS));have hM42:=hM.1 hS0;obtain ⟨v42_87,e87,h87⟩:=hI.get (i:=39) (gM 39 rfl) d39;obtain rfl:=h87;exact aS [(87,_)] hU hmo hme hI hM (gM 40 rfl) rfl rfl (by kernel_rfl) ⟨e87,trivial⟩ (ar ao rfl (by exact dK (hb.from_ (ah.rfl_.next hM42)) 18 rfl)) ah.rfl_ (rfl)
   constructor
   ·rintro S L' w43 hU hmo hme hI hM hC hS ⟨d8,d15,d16,d25,d34,d40,-⟩;have hS0:S 42=false:=(aq hC (j:=42) rfl (by kernel_rfl) hS);have hM43:=hM.1 hS0;obtain ⟨v43_56,e56,h56⟩:=hI.get (i:=8) (gM 8 rfl) d8;obtain rfl:=h56;obtain ⟨v43_63,e63,h63⟩:=hI.get (i:=15) (gM 15 rfl) d15;obtain rfl:=h63;obtain ⟨v43_64,e64,h64⟩:=hI.get (i:=16) (gM 16 rfl) d16;obtain rfl:=h64;obtain ⟨v43_73,e73,h73⟩:=hI.get (i:=25) (gM 25 rfl) d25;obtain rfl:=h73;obtain ⟨v43_82,e82,h82⟩:=hI.get (i:=34) (gM 34 rfl) d34;obtain rfl:=h82;obtain ⟨v43_88,e88,h88⟩:=hI.get (i:=40) (gM 40 rfl) d40;obtain rfl:=h88;exact aS [(56,_),(63,_),(64,_),(73,_),(82,_),(88,_)] hU hmo hme hI hM (gM 41 rfl) rfl rfl (by kernel_rfl) ⟨e56,e63,e64,e73,e82,e88,trivial⟩ (cy (l:=[(0,.const (.int .i64 5)),(4,.tmp 56),(5,.tmp 63),(10,.tmp 64),(11,.tmp 73),(12,.tmp 82),(7,.tmp 88)]) (gC _ _ _ _ _ _)) ah.rfl_ (rfl)
   constructor
   ·rintro S L' w44 hU hmo hme hI hM hC hS ⟨d0,d1,d41,-⟩;have hS0:S 42=false:=hS;have hM44:=hM.1 hS0;obtain ⟨v44_48,e48,h48⟩:=hI.get (i:=0) (.head _) d0;obtain rfl:=h48;obtain ⟨v44_49,e49,h49⟩:=hI.get (i:=1) (.tail _ (.head _)) d1;obtain rfl:=h49;obtain ⟨v44_89,e89,h89⟩:=hI.get (i:=41) (gM 41 rfl) d41;obtain rfl:=h89;refine jg (al:=[.tmp 48,.tmp 49,.tmp 89]) [(48,_),(49,_),(89,_)] hU hI (gM 42 rfl) (by kernel_rfl) ⟨e48,e49,e89,trivial⟩ iI ((o8 w0 Z T g p _ (h.from_ (ah.rfl_.next hM44)) tag _ O oc L (hs.from_ (ah.rfl_.next hM44)) (by omega) { zM with k:=5,ix:=p.s.b,lt:=p.s.t,rd:=p.s.round,a:=(na:Int),d:=p.s.snap.extract na (min (na+1024) p.s.snap.size),dn:=decide (min (na+1024) p.s.snap.size=p.s.snap.size) } ((k:Int)+1) ⟨dS,Col.none⟩).mono ?_);rintro v9 w2 ⟨rfl,hS2⟩;exact ⟨⟨fun h0=>(by rw [mr] at h0;cases h0),fun _=>hS2⟩,rfl,⟨fun _ _ _ h=>h,fun _ _ _ h=>h,fun _ _ _ h=>h,fun _ _ _ h=>h,fun _ _ _ h=>h,fun _ _ _ h=>h,fun _ _ _ h=>h,fun _ _ _ h=>h,fun _ _ _ h=>h,fun _ _ _ h=>h,fun _ _ _ h=>h,fun _ _ _ h=>h,fun _ _ _ h=>h,fun _ _ _ h=>h,fun _ _ _ h=>h,fun _ _ _ h=>h,fun _ _ _ h=>h,fun _ _ _ h=>h,fun _ _ _ h=>h,fun _ _ _ h=>h,fun _ _ _ h=>h,fun _ _ _ h=>h,fun _ _ _ h=>h,fun _ _ _ h=>h,fun _ _ _ h=>h,fun _ _ _ h=>h,fun _ _ _ h=>h,fun _ _ _ h=>h,fun _ _ _ h=>h,fun _ _ _ h=>h,fun _ _ _ h=>h,fun _ _ _ h=>h,fun _ _ _ h=>h,fun _ _ _ h=>h,fun _ _ _ h=>h,fun _ _ _ h=>h,fun _ _ _ h=>h,fun _ _ _ h=>h,fun _ _ _ h=>h,fun _ _ _ h=>h,fun _ _ _ h=>h,fun _ _ _ h=>h,fun _ _ _ h=>h,trivial⟩⟩
   exact trivial
  case hend=>
   intro w45 hM;obtain hS9:=hM.2 rfl;rintro v45_48 rfl v45_49 rfl v45_50 rfl v45_51 rfl v45_52 rfl v45_53 rfl v45_54 rfl v45_55 rfl v45_56 rfl v45_57 rfl v45_58 rfl v45_59 rfl v45_60 rfl v45_61 rfl v45_62 rfl v45_63 rfl v45_64 rfl v45_65 rfl v45_66 rfl v45_67 rfl v45_68 rfl v45_69 rfl v45_70 rfl v45_71 rfl v45_72 rfl v45_73 rfl v45_74 rfl v45_75 rfl v45_76 rfl v45_77 rfl v45_78 rfl v45_79 rfl v45_80 rfl v45_81 rfl v45_82 rfl v45_83 rfl v45_84 rfl v45_85 rfl v45_86 rfl v45_87 rfl v45_88 rfl v45_89 rfl v45_90 rfl;refine iD (ag (aC (aE (eB rfl ?_))))
   have e9:p.send ((k:Int)+1)=p.tell (pl { ({ zM with k:=5,ix:=p.s.b,lt:=p.s.t,rd:=p.s.round,a:=(na:Int),d:=p.s.snap.extract na (min (na+1024) p.s.snap.size),dn:=decide (min (na+1024) p.s.snap.size=p.s.snap.size) }:Msg) with t:=(k:Int)+1 }):=by
    unfold Sp.send;rw [ts (by rw [hpn];omega) (by rw [hpx,hna])];rfl
   rw [e9];exact ⟨rfl,hS9⟩
 refine aM (ag (ak (af (mvp rfl (aa (aw rfl) (aa (ab aH rfl) (aa (ab aB rfl) (aa (ab bj rfl) (aa (aD (cs:=[.int .i64 p.s.b,.int .i64 p.s.t,.slice E p.s.es.length Ec]) aY aL rfl (iM (hb.from_ ah.rfl_))) (mvi rfl ?_))))))))));have hB98:ah w w:=ah.rfl_;have hz98:=hB98.size;refine az sS (zZ p.s.b p.s.t p.s.next[k] E p.s.es.length Ec p.s.es _ (he.from_ ah.rfl_) hF.lg (by omega)) ?_;rintro v99 w46 ⟨⟨A99,c99,rfl,ho99⟩,E99⟩;have hs9:=hs.new hzw (ah.rfl_.next E99) (1000+2*L.length);have hc9:Col (fS w.heap.size (1000+2*L.length) tag) (1000+2*L.length) A99:=fun q hq=>dQ (by have:=(eN ho99 q hq).1;omega)
 have h9:=h.from_ (ah.rfl_.next E99);refine mvt rfl (aa (aO rfl rfl) (aa (aO rfl rfl) (ass rfl (asi rfl (ai (ag ?_))))));apply mM [(0,102,fun _ v _=>v=_),(1,103,fun _ v _=>v=_),(2,104,fun _ v _=>v=_),(3,105,fun _ v _=>v=_),(4,106,fun _ v _=>v=_),(5,107,fun _ v _=>v=_),(6,108,fun _ v _=>v=_),(7,109,fun _ v _=>v=_),(8,110,fun _ v _=>v=_),(9,111,fun _ v _=>v=_),(10,112,fun _ v _=>v=_),(11,113,fun _ v _=>v=_),(12,114,fun _ v _=>v=_),(13,115,fun _ v _=>v=_),(14,116,fun _ v _=>v=_),(15,117,fun _ v _=>v=_),(16,118,fun _ v _=>v=_),(17,119,fun _ v _=>v=_),(18,120,fun _ v _=>v=_),(19,121,fun _ v _=>v=_),(20,122,fun _ v _=>v=_),(21,123,fun _ v _=>v=_),(22,124,fun _ v _=>v=_),(23,125,fun _ v _=>v=_),(24,126,fun _ v _=>v=_)] [24] (fun S w'=>(S 24=false→ah w46 w')∧(S 24=true→aZ w0 Z w' T g (p.tell (pl { ({ zM with k:=3,ix:=p.s.next[k]-1,lt:=dw p.s.b p.s.t p.s.es (p.s.next[k]-1),cm:=p.s.commit,rd:=p.s.round,E:=A99,c:=c99,es:=(p.s.es.drop (p.s.next[k]-p.s.b-1).toNat).take 16 }:Msg) with t:=(k:Int)+1 })))) (by kernel_rfl) (by kernel_rfl) rfl rfl ⟨fun _ _ _ _ _ _ _ h=>h,fun _ _ _ _ _ _ _ h=>h,fun _ _ _ _ _ _ _ h=>h,fun _ _ _ _ _ _ _ h=>h,fun _ _ _ _ _ _ _ h=>h,fun _ _ _ _ _ _ _ h=>h,fun _ _ _ _ _ _ _ h=>h,fun _ _ _ _ _ _ _ h=>h,fun _ _ _ _ _ _ _ h=>h,fun _ _ _ _ _ _ _ h=>h,fun _ _ _ _ _ _ _ h=>h,fun _ _ _ _ _ _ _ h=>h,fun _ _ _ _ _ _ _ h=>h,fun _ _ _ _ _ _ _ h=>h,fun _ _ _ _ _ _ _ h=>h,fun _ _ _ _ _ _ _ h=>h,fun _ _ _ _ _ _ _ h=>h,fun _ _ _ _ _ _ _ h=>h,fun _ _ _ _ _ _ _ h=>h,fun _ _ _ _ _ _ _ h=>h,fun _ _ _ _ _ _ _ h=>h,fun _ _ _ _ _ _ _ h=>h,fun _ _ _ _ _ _ _ h=>h,fun _ _ _ _ _ _ _ h=>h,fun _ _ _ _ _ _ _ h=>h,trivial⟩ (fun S i w1 w2 hq hF h=>⟨fun h0=>(h.1 (oo h0)).next hF,fun h1=>(fun h=>h.from_ hF) (h.2 (oW (show 24≠i by rintro rfl;exact absurd hq (by decide)) h1))⟩) ⟨fun _=>ah.rfl_.d1,fun h=>by cases h⟩
 case hstep=>
  constructor
  ·rintro S L' w47 hU hmo hme hI hM hC hS ⟨-⟩;have hS0:S 24=false:=(aq hC (j:=24) rfl (by kernel_rfl) hS);have hM47:=hM.1 hS0;have e0:=hI.1 0 (fH rfl);exact aS [(0,_)] hU hmo hme hI hM (.head _) rfl rfl (by kernel_rfl) ⟨e0,trivial⟩ (aK (v:=.pointer _) rfl) ah.rfl_ (rfl)
  constructor
  ·rintro S L' w48 hU hmo hme hI hM hC hS ⟨-⟩;have hS0:S 24=false:=(aq hC (j:=24) rfl (by kernel_rfl) hS);have hM48:=hM.1 hS0;have e1:=hI.1 1 (fH rfl);exact aS [(1,_)] hU hmo hme hI hM (.tail _ (.head _)) rfl rfl (by kernel_rfl) ⟨e1,trivial⟩ (aK (v:=.int _ _) rfl) ah.rfl_ (rfl)
  constructor
  ·rintro S L' w49 hU hmo hme hI hM hC hS ⟨-⟩;have hS0:S 24=false:=(aq hC (j:=24) rfl (by kernel_rfl) (aq hC (j:=23) rfl (by kernel_rfl) (aq hC (j:=3) rfl (by kernel_rfl) hS)));have hM49:=hM.1 hS0;have e4:=hI.1 4 (fH rfl);exact aS [(4,_)] hU hmo hme hI hM (gM 2 rfl) rfl rfl (by kernel_rfl) ⟨e4,trivial⟩ (aK (v:=.int _ _) rfl) ah.rfl_ (rfl)
  constructor
  ·rintro S L' w50 hU hmo hme hI hM hC hS ⟨d2,-⟩;have hS0:S 24=false:=(aq hC (j:=24) rfl (by kernel_rfl) (aq hC (j:=23) rfl (by kernel_rfl) hS));have hM50:=hM.1 hS0;obtain ⟨v50_104,e104,h104⟩:=hI.get (i:=2) (gM 2 rfl) d2;obtain rfl:=h104;exact aS [(104,_)] hU hmo hme hI hM (gM 3 rfl) rfl rfl (by kernel_rfl) ⟨e104,trivial⟩ (dM rfl rfl (by omega)) ah.rfl_ (rfl)
  constructor
  ·rintro S L' w51 hU hmo hme hI hM hC hS ⟨-⟩;have hS0:S 24=false:=(aq hC (j:=24) rfl (by kernel_rfl) (aq hC (j:=23) rfl (by kernel_rfl) (aq hC (j:=9) rfl (by kernel_rfl) (aq hC (j:=6) rfl (by kernel_rfl) (aq hC (j:=5) rfl (by kernel_rfl) hS)))));have hM51:=hM.1 hS0;have e0:=hI.1 0 (fH rfl);exact aS [(0,_)] hU hmo hme hI hM (gM 4 rfl) rfl rfl (by kernel_rfl) ⟨e0,trivial⟩ (aK (v:=.pointer _) rfl) ah.rfl_ (rfl)
  constructor
  ·rintro S L' w52 hU hmo hme hI hM hC hS ⟨d4,-⟩;have hS0:S 24=false:=(aq hC (j:=24) rfl (by kernel_rfl) (aq hC (j:=23) rfl (by kernel_rfl) (aq hC (j:=9) rfl (by kernel_rfl) (aq hC (j:=6) rfl (by kernel_rfl) hS))));have hM52:=hM.1 hS0;obtain ⟨v52_106,e106,h106⟩:=hI.get (i:=4) (gM 4 rfl) d4;obtain rfl:=h106;exact aS [(106,_)] hU hmo hme hI hM (gM 5 rfl) rfl rfl (by kernel_rfl) ⟨e106,trivial⟩ (aw rfl) ah.rfl_ (rfl)
  constructor
  ·rintro S L' w53 hU hmo hme hI hM hC hS ⟨d5,-⟩;have hS0:S 24=false:=(aq hC (j:=24) rfl (by kernel_rfl) (aq hC (j:=23) rfl (by kernel_rfl) (aq hC (j:=9) rfl (by kernel_rfl) hS)));have hM53:=hM.1 hS0;obtain ⟨v53_107,e107,h107⟩:=hI.get (i:=5) (gM 5 rfl) d5;obtain rfl:=h107;exact aS [(107,_)] hU hmo hme hI hM (gM 6 rfl) rfl rfl (by kernel_rfl) ⟨e107,trivial⟩ (ab aH rfl) ah.rfl_ (rfl)
  constructor
  ·rintro S L' w54 hU hmo hme hI hM hC hS ⟨-⟩;have hS0:S 24=false:=(aq hC (j:=24) rfl (by kernel_rfl) (aq hC (j:=23) rfl (by kernel_rfl) (aq hC (j:=9) rfl (by kernel_rfl) (aq hC (j:=8) rfl (by kernel_rfl) hS))));have hM54:=hM.1 hS0;have e4:=hI.1 4 (fH rfl);exact aS [(4,_)] hU hmo hme hI hM (gM 7 rfl) rfl rfl (by kernel_rfl) ⟨e4,trivial⟩ (aK (v:=.int _ _) rfl) ah.rfl_ (rfl)
  constructor
  ·rintro S L' w55 hU hmo hme hI hM hC hS ⟨d7,-⟩;have hS0:S 24=false:=(aq hC (j:=24) rfl (by kernel_rfl) (aq hC (j:=23) rfl (by kernel_rfl) (aq hC (j:=9) rfl (by kernel_rfl) hS)));have hM55:=hM.1 hS0;obtain ⟨v55_109,e109,h109⟩:=hI.get (i:=7) (gM 7 rfl) d7;obtain rfl:=h109;exact aS [(109,_)] hU hmo hme hI hM (gM 8 rfl) rfl rfl (by kernel_rfl) ⟨e109,trivial⟩ (dM rfl rfl (by omega)) ah.rfl_ (rfl)
  constructor
  ·rintro S L' w56 hU hmo hme hI hM hC hS ⟨d6,d8,-⟩;have hS0:S 24=false:=(aq hC (j:=24) rfl (by kernel_rfl) hS);have hM56:=hM.1 hS0;obtain ⟨v56_108,e108,h108⟩:=hI.get (i:=6) (gM 6 rfl) d6;obtain rfl:=h108;obtain ⟨v56_110,e110,h110⟩:=hI.get (i:=8) (gM 8 rfl) d8;obtain rfl:=h110;refine ki (al:=[.tmp 108,.tmp 110]) [(108,_),(110,_)] hU hmo hme hI hM (gM 9 rfl) rfl (by kernel_rfl) ⟨e108,e110,trivial⟩ pM ((rP T g p.s _ _ _ (hb.from_ ((ah.rfl_.next E99).next hM56)) (he.from_ ((ah.rfl_.next E99).next hM56)) hF.lg (p.s.next[k]-1) (by omega)).mono ?_);rintro v w2 ⟨rfl,E56'⟩;exact ⟨E56',rfl⟩
  constructor
  ·rintro S L' w57 hU hmo hme hI hM hC hS ⟨-⟩;have hS0:S 24=false:=(aq hC (j:=24) rfl (by kernel_rfl) (aq hC (j:=23) rfl (by kernel_rfl) (aq hC (j:=15) rfl (by kernel_rfl) (aq hC (j:=14) rfl (by kernel_rfl) (aq hC (j:=13) rfl (by kernel_rfl) (aq hC (j:=12) rfl (by kernel_rfl) (aq hC (j:=11) rfl (by kernel_rfl) hS)))))));have hM57:=hM.1 hS0;have e0:=hI.1 0 (fH rfl);exact aS [(0,_)] hU hmo hme hI hM (gM 10 rfl) rfl rfl (by kernel_rfl) ⟨e0,trivial⟩ (aK (v:=.pointer _) rfl) ah.rfl_ (rfl)
  constructor
  ·rintro S L' w58 hU hmo hme hI hM hC hS ⟨d10,-⟩;have hS0:S 24=false:=(aq hC (j:=24) rfl (by kernel_rfl) (aq hC (j:=23) rfl (by kernel_rfl) (aq hC (j:=15) rfl (by kernel_rfl) (aq hC (j:=14) rfl (by kernel_rfl) (aq hC (j:=13) rfl (by kernel_rfl) (aq hC (j:=12) rfl (by kernel_rfl) hS))))));have hM58:=hM.1 hS0;obtain ⟨v58_112,e112,h112⟩:=hI.get (i:=10) (gM 10 rfl) d10;obtain rfl:=h112;exact aS [(112,_)] hU hmo hme hI hM (gM 11 rfl) rfl rfl (by kernel_rfl) ⟨e112,trivial⟩ (aw rfl) ah.rfl_ (rfl)
  constructor
  ·rintro S L' w59 hU hmo hme hI hM hC hS ⟨d11,-⟩;have hS0:S 24=false:=(aq hC (j:=24) rfl (by kernel_rfl) (aq hC (j:=23) rfl (by kernel_rfl) (aq hC (j:=15) rfl (by kernel_rfl) (aq hC (j:=14) rfl (by kernel_rfl) (aq hC (j:=13) rfl (by kernel_rfl) hS)))));have hM59:=hM.1 hS0;obtain ⟨v59_113,e113,h113⟩:=hI.get (i:=11) (gM 11 rfl) d11;obtain rfl:=h113;exact aS [(113,_)] hU hmo hme hI hM (gM 12 rfl) rfl rfl (by kernel_rfl) ⟨e113,trivial⟩ (ab aH rfl) ah.rfl_ (rfl)
  constructor
  ·rintro S L' w60 hU hmo hme hI hM hC hS ⟨d12,-⟩;have hS0:S 24=false:=(aq hC (j:=24) rfl (by kernel_rfl) (aq hC (j:=23) rfl (by kernel_rfl) (aq hC (j:=15) rfl (by kernel_rfl) (aq hC (j:=14) rfl (by kernel_rfl) hS))));have hM60:=hM.1 hS0;obtain ⟨v60_114,e114,h114⟩:=hI.get (i:=12) (gM 12 rfl) d12;obtain rfl:=h114;exact aS [(114,_)] hU hmo hme hI hM (gM 13 rfl) rfl rfl (by kernel_rfl) ⟨e114,trivial⟩ (ab aB rfl) ah.rfl_ (rfl)
  constructor
  ·rintro S L' w61 hU hmo hme hI hM hC hS ⟨d13,-⟩;have hS0:S 24=false:=(aq hC (j:=24) rfl (by kernel_rfl) (aq hC (j:=23) rfl (by kernel_rfl) (aq hC (j:=15) rfl (by kernel_rfl) hS)));have hM61:=hM.1 hS0;obtain ⟨v61_115,e115,h115⟩:=hI.get (i:=13) (gM 13 rfl) d13;obtain rfl:=h115;exact aS [(115,_)] hU hmo hme hI hM (gM 14 rfl) rfl rfl (by kernel_rfl) ⟨e115,trivial⟩ (ab cQ rfl) ah.rfl_ (rfl)
  constructor
  ·rintro S L' w62 hU hmo hme hI hM hC hS ⟨d14,-⟩;have hS0:S 24=false:=(aq hC (j:=24) rfl (by kernel_rfl) (aq hC (j:=23) rfl (by kernel_rfl) hS));have hM62:=hM.1 hS0;obtain ⟨v62_116,e116,h116⟩:=hI.get (i:=14) (gM 14 rfl) d14;obtain rfl:=h116;exact aS [(116,_)] hU hmo hme hI hM (gM 15 rfl) rfl rfl (by kernel_rfl) ⟨e116,trivial⟩ (ar ao rfl (by exact dK (hb.from_ ((ah.rfl_.next E99).next hM62)) 10 rfl)) ah.rfl_ (rfl)
  constructor
  ·rintro S L' w63 hU hmo hme hI hM hC hS ⟨-⟩;have hS0:S 24=false:=(aq hC (j:=24) rfl (by kernel_rfl) (aq hC (j:=23) rfl (by kernel_rfl) hS));have hM63:=hM.1 hS0;have e7:=hI.1 7 (fH rfl);exact aS [(7,_)] hU hmo hme hI hM (gM 16 rfl) rfl rfl (by kernel_rfl) ⟨e7,trivial⟩ (aK (v:=.slice _ _ _) rfl) ah.rfl_ (rfl)
  constructor
  ·rintro S L' w64 hU hmo hme hI hM hC hS ⟨-⟩;have hS0:S 24=false:=(aq hC (j:=24) rfl (by kernel_rfl) (aq hC (j:=23) rfl (by kernel_rfl) (aq hC (j:=22) rfl (by kernel_rfl) (aq hC (j:=21) rfl (by kernel_rfl) (aq hC (j:=20) rfl (by kernel_rfl) (aq hC (j:=19) rfl (by kernel_rfl) (aq hC (j:=18) rfl (by kernel_rfl) hS)))))));have hM64:=hM.1 hS0;have e0:=hI.1 0 (fH rfl);exact aS [(0,_)] hU hmo hme hI hM (gM 17 rfl) rfl rfl (by kernel_rfl) ⟨e0,trivial⟩ (aK (v:=.pointer _) rfl) ah.rfl_ (rfl)
  constructor
  ·rintro S L' w65 hU hmo hme hI hM hC hS ⟨d17,-⟩;have hS0:S 24=false:=(aq hC (j:=24) rfl (by kernel_rfl) (aq hC (j:=23) rfl (by kernel_rfl) (aq hC (j:=22) rfl (by kernel_rfl) (aq hC (j:=21) rfl (by kernel_rfl) (aq hC (j:=20) rfl (by kernel_rfl) (aq hC (j:=19) rfl (by kernel_rfl) hS))))));have hM65:=hM.1 hS0;obtain ⟨v65_119,e119,h119⟩:=hI.get (i:=17) (gM 17 rfl) d17;obtain rfl:=h119;exact aS [(119,_)] hU hmo hme hI hM (gM 18 rfl) rfl rfl (by kernel_rfl) ⟨e119,trivial⟩ (aw rfl) ah.rfl_ (rfl)
  constructor
  ·rintro S L' w66 hU hmo hme hI hM hC hS ⟨d18,-⟩;have hS0:S 24=false:=(aq hC (j:=24) rfl (by kernel_rfl) (aq hC (j:=23) rfl (by kernel_rfl) (aq hC (j:=22) rfl (by kernel_rfl) (aq hC (j:=21) rfl (by kernel_rfl) (aq hC (j:=20) rfl (by kernel_rfl) hS)))));have hM66:=hM.1 hS0;obtain ⟨v66_120,e120,h120⟩:=hI.get (i:=18) (gM 18 rfl) d18;obtain rfl:=h120;exact aS [(120,_)] hU hmo hme hI hM (gM 19 rfl) rfl rfl (by kernel_rfl) ⟨e120,trivial⟩ (ab aH rfl) ah.rfl_ (rfl)
  constructor
  ·rintro S L' w67 hU hmo hme hI hM hC hS ⟨d19,-⟩;have hS0:S 24=false:=(aq hC (j:=24) rfl (by kernel_rfl) (aq hC (j:=23) rfl (by kernel_rfl) (aq hC (j:=22) rfl (by kernel_rfl) (aq hC (j:=21) rfl (by kernel_rfl) hS))));have hM67:=hM.1 hS0;obtain ⟨v67_121,e121,h121⟩:=hI.get (i:=19) (gM 19 rfl) d19;obtain rfl:=h121;exact aS [(121,_)] hU hmo hme hI hM (gM 20 rfl) rfl rfl (by kernel_rfl) ⟨e121,trivial⟩ (ab aB rfl) ah.rfl_ (rfl)
  constructor
  ·rintro S L' w68 hU hmo hme hI hM hC hS ⟨d20,-⟩;have hS0:S 24=false:=(aq hC (j:=24) rfl (by kernel_rfl) (aq hC (j:=23) rfl (by kernel_rfl) (aq hC (j:=22) rfl (by kernel_rfl) hS)));have hM68:=hM.1 hS0;obtain ⟨v68_122,e122,h122⟩:=hI.get (i:=20) (gM 20 rfl) d20;obtain rfl:=h122;exact aS [(122,_)] hU hmo hme hI hM (gM 21 rfl) rfl rfl (by kernel_rfl) ⟨e122,trivial⟩ (ab dW rfl) ah.rfl_ (rfl)
  constructor
  ·rintro S L' w69 hU hmo hme hI hM hC hS ⟨d21,-⟩;have hS0:S 24=false:=(aq hC (j:=24) rfl (by kernel_rfl) (aq hC (j:=23) rfl (by kernel_rfl) hS));have hM69:=hM.1 hS0;obtain ⟨v69_123,e123,h123⟩:=hI.get (i:=21) (gM 21 rfl) d21;obtain rfl:=h123;exact aS [(123,_)] hU hmo hme hI hM (gM 22 rfl) rfl rfl (by kernel_rfl) ⟨e123,trivial⟩ (ar ao rfl (by exact dK (hb.from_ ((ah.rfl_.next E99).next hM69)) 18 rfl)) ah.rfl_ (rfl)
  constructor
  ·rintro S L' w70 hU hmo hme hI hM hC hS ⟨d3,d9,d15,d16,d22,-⟩;have hS0:S 24=false:=(aq hC (j:=24) rfl (by kernel_rfl) hS);have hM70:=hM.1 hS0;obtain ⟨v70_105,e105,h105⟩:=hI.get (i:=3) (gM 3 rfl) d3;obtain rfl:=h105;obtain ⟨v70_111,e111,h111⟩:=hI.get (i:=9) (gM 9 rfl) d9;obtain rfl:=h111;obtain ⟨v70_117,e117,h117⟩:=hI.get (i:=15) (gM 15 rfl) d15;obtain rfl:=h117;obtain ⟨v70_118,e118,h118⟩:=hI.get (i:=16) (gM 16 rfl) d16;obtain rfl:=h118;obtain ⟨v70_124,e124,h124⟩:=hI.get (i:=22) (gM 22 rfl) d22;obtain rfl:=h124;exact aS [(105,_),(111,_),(117,_),(118,_),(124,_)] hU hmo hme hI hM (gM 23 rfl) rfl rfl (by kernel_rfl) ⟨e105,e111,e117,e118,e124,trivial⟩ (cy (l:=[(0,.const (.int .i64 3)),(4,.tmp 105),(5,.tmp 111),(6,.tmp 117),(9,.tmp 118),(7,.tmp 124)]) (iu _ _ _ _ _ _ _)) ah.rfl_ (rfl)
  constructor
  ·rintro S L' w71 hU hmo hme hI hM hC hS ⟨d0,d1,d23,d9,-⟩;have hS0:S 24=false:=hS;have hM71:=hM.1 hS0;obtain ⟨v71_102,e102,h102⟩:=hI.get (i:=0) (.head _) d0;obtain rfl:=h102;obtain ⟨v71_103,e103,h103⟩:=hI.get (i:=1) (.tail _ (.head _)) d1;obtain rfl:=h103;obtain ⟨v71_125,e125,h125⟩:=hI.get (i:=23) (gM 23 rfl) d23;obtain rfl:=h125;refine jg (al:=[.tmp 102,.tmp 103,.tmp 125]) [(102,_),(103,_),(125,_)] hU hI (gM 24 rfl) (by kernel_rfl) ⟨e102,e103,e125,trivial⟩ iI ((o8 w0 Z T g p _ (h9.from_ (ah.rfl_.next hM71)) _ _ O oc L (hs9.from_ (ah.rfl_.next hM71)) (by omega) { zM with k:=3,ix:=p.s.next[k]-1,lt:=dw p.s.b p.s.t p.s.es (p.s.next[k]-1),cm:=p.s.commit,rd:=p.s.round,E:=A99,c:=c99,es:=(p.s.es.drop (p.s.next[k]-p.s.b-1).toNat).take 16 } ((k:Int)+1) ⟨ec (ho99.kept_from (ah.rfl_.next hM71)) (Nat.zero_le _),hc9⟩).mono ?_);rintro v9 w2 ⟨rfl,hS2⟩;exact ⟨⟨fun h0=>(by rw [mr] at h0;cases h0),fun _=>hS2⟩,rfl,⟨fun _ _ _ h=>h,fun _ _ _ h=>h,fun _ _ _ h=>h,fun _ _ _ h=>h,fun _ _ _ h=>h,fun _ _ _ h=>h,fun _ _ _ h=>h,fun _ _ _ h=>h,fun _ _ _ h=>h,fun _ _ _ h=>h,fun _ _ _ h=>h,fun _ _ _ h=>h,fun _ _ _ h=>h,fun _ _ _ h=>h,fun _ _ _ h=>h,fun _ _ _ h=>h,fun _ _ _ h=>h,fun _ _ _ h=>h,fun _ _ _ h=>h,fun _ _ _ h=>h,fun _ _ _ h=>h,fun _ _ _ h=>h,fun _ _ _ h=>h,fun _ _ _ h=>h,fun _ _ _ h=>h,trivial⟩⟩
  exact trivial
 case hend=>
  intro w72 hM;obtain hS9:=hM.2 rfl;rintro v72_102 rfl v72_103 rfl v72_104 rfl v72_105 rfl v72_106 rfl v72_107 rfl v72_108 rfl v72_109 rfl v72_110 rfl v72_111 rfl v72_112 rfl v72_113 rfl v72_114 rfl v72_115 rfl v72_116 rfl v72_117 rfl v72_118 rfl v72_119 rfl v72_120 rfl v72_121 rfl v72_122 rfl v72_123 rfl v72_124 rfl v72_125 rfl v72_126 rfl;refine iD (du (eB rfl ?_))
  have e9:p.send ((k:Int)+1)=p.tell (pl { ({ zM with k:=3,ix:=p.s.next[k]-1,lt:=dw p.s.b p.s.t p.s.es (p.s.next[k]-1),cm:=p.s.commit,rd:=p.s.round,E:=A99,c:=c99,es:=(p.s.es.drop (p.s.next[k]-p.s.b-1).toNat).take 16 }:Msg) with t:=(k:Int)+1 }):=by
   unfold Sp.send;rw [vp (by rw [hpn];omega),hpn];rfl
  rw [e9];exact ⟨rfl,hS9⟩
theorem pJ:aN prog 77=true:=by kernel_rfl
theorem uh:aN prog 78=true:=by kernel_rfl
theorem jz:kD prog 22=some (99,3,32,(.agg #[.int .i64 0,.int .i64 0,.string ⟨#[]⟩])):=by kernel_rfl
theorem nB:∀ (a0:Int) (a1:Int) (a2:ByteArray),prog.built 99 [(0,.int .i64 a0),(1,.int .i64 a1),(2,.string a2)]=some #[.int .i64 a0,.int .i64 a1,.string a2]:=by intros;kernel_rfl
theorem sN:aN prog 112=true:=by kernel_rfl
theorem cZ:cD prog 29 2=some 2:=by kernel_rfl
theorem dX:cD prog 29 5=some 5:=by kernel_rfl
theorem de:cD prog 29 12=some 14:=by kernel_rfl
theorem db:ef prog 26=some 1:=by kernel_rfl
theorem c_:cD prog 29 14=some 16:=by kernel_rfl
theorem cl:cD prog 29 17=some 19:=by kernel_rfl
theorem jy:ef prog 27=some 1:=by kernel_rfl
theorem fw:cD prog 29 4=some 4:=by kernel_rfl
theorem ee:cD prog 29 18=some 20:=by kernel_rfl
theorem nA:ef prog 9=some 1:=by kernel_rfl
theorem ed:cD prog 29 19=some 21:=by kernel_rfl
theorem sM:aN prog 115=true:=by kernel_rfl
theorem qQ (l:List Int) (p:Sp):(p.sends l).s=p.s:=by rw [kP]
theorem vn (l:List Int) (p:Sp):(p.sends l).out.length=p.out.length+l.length:=by rw [kP];simp
theorem vm {l:List Int} {i:Nat} (h:i<l.length) (p:Sp):p.sends (l.take (i+1))=(p.sends (l.take i)).send l[i]:=by
 rw [List.take_succ_eq_append_getElem h,qh];rfl
theorem lZ (s:Rf):(dE s).length≤s.nodes.toNat:=uM _ _
theorem tx {s:Rf} {x:Int} (h:x∈dE s) (hn:0≤s.nodes):1≤x∧x≤s.nodes∧x≠s.id:=by
 have:=xu h;omega
theorem oX (w0:World) (Z:Nat→Prop) (T g:Nat) (p:Sp) (w:World) (h:aZ w0 Z w T g p) (hF:RfF p.s) (hr:p.s.role=2) (hl:p.out.length≤800) :
 Rt prog 84 [.pointer (some ⟨g,0,none⟩)] w (fun v w'=>v=.tuple #[]∧aZ w0 Z w' T g p.all):=by
 obtain ⟨tag,a,O,oc,L,hs⟩:=h.ex;obtain ⟨E,Ec,V,Vc,X,Xc,M,Mc,S,Sc,Q,Qc,LL⟩:=a;have hb:=hs.b;have hll:L.length=p.out.length:=by rw [←hs.m.l,List.length_map]
 have hn0:=hF.n;refine enter (n:=17) Tryz.func84 rfl rfl rfl (ak (af (mvp rfl (aa (aw rfl) (aa (ab aH rfl) (az pJ (qq T g p.s _ _ _ (hb.from_ ah.rfl_) (by omega)) ?_))))));rintro v7 w1 ⟨⟨A7,c7,rfl,ho7a⟩,E7⟩
 have h7:=h.at_ (Z':=fun k=>Z k∨A7.map (·.block)=some k) (ah.rfl_.next E7) (fun k hk=>by
  have hz7:=((ah.rfl_.next E7)).size;rcases hk with e | e
  ·exact ⟨Nat.lt_of_lt_of_le (h.zw k e) hz7,.inl e⟩
  ·have:=eN ho7a k e;exact ⟨this.2,.inr (by omega)⟩)
 have hB7:ah w w1:=(ah.rfl_.next E7);have ho7:=ho7a;obtain ⟨Z7,hZ7⟩:∃ Z7,Z7=fun k=>Z k∨A7.map (·.block)=some k:=⟨_,rfl⟩
 rw [←hZ7] at h7;have hzi:∀ k,Z k→Z7 k:=fun k hk=>by rw [hZ7];exact .inl hk
 have hzr:∀ k,A7.map (·.block)=some k→Z7 k:=fun k hk=>by rw [hZ7];exact .inr hk
 have hol:=lZ p.s;have hnn:=hF.n;refine aa (bF cp rfl) (mvi rfl (ai (ag (a_ (cY (G:=Nat) [3,10,11,12,13,14,15,16] (fun i=>[(9,.int .i64 (i:Nat))]) (fun i w'=>i≤(dE p.s).length∧aZ w1 Z7 w' T g (p.sends ((dE p.s).take i))) (fun i=>(dE p.s).length-i) (0) ⟨rfl,trivial⟩ ?_ ?_)))))
 ·exact ⟨Nat.zero_le _,h7⟩
 rintro i ρ2 w2 ⟨hi,h15⟩;refine ak (af (aa (cg rfl rfl) (ai (ag (ak (Bn rfl (fun Q3=>?_) (fun Q3=>?_)))))))
 ·have hi9:i<(dE p.s).length:=by omega
  obtain ⟨g7,rfl⟩:=ft ho7 (by omega);have ho8:=eJ ho7 h15.fr (fun q hq e=>e (hzr q hq));have hc8:=j5 (l:=dE p.s) ho8 i hi9;refine aM (ag (ak (a_ (ak (af (aa (eA c6 rfl rfl (by omega)) (aa (ar ao rfl (by exact fC (ah.rfl_ (a:=w2)) hc8)) ?_)))))));refine asi rfl (ai (ag (af (mvp rfl (mvi rfl ?_)))));refine az uh (yL _ Z7 T g (p.sends ((dE p.s).take i)) _ (h15.from_ (ah.rfl_ (a:=w2))) (by rw [qQ];exact hF) (by rw [qQ];exact hr) (by rw [vn,List.length_take];omega) (dE p.s)[i] (by rw [qQ];have:=tx (List.getElem_mem hi9) (by omega);omega)) ?_;rintro v15 w4 ⟨rfl,h16⟩;refine ai (bN (ag (af (aa (dD (b:=1) rfl rfl (by omega)) (mvi rfl (ai ?_))))));refine bT (i+1) ⟨(by first | rfl | (refine bM ?_;omega)),trivial⟩ (by (iterate 18 refine bf rfl ?_);exact bB) ⟨?_,?_⟩
  ·exact ⟨by omega,by rw [vm hi9];exact h16.from_ (ah.rfl_ (a:=w4))⟩
  ·omega
 refine cq (bg (bg (b_ (du (eB rfl ?_)))));obtain rfl:i=(dE p.s).length:=by omega
 rw [List.take_length] at h15;exact ⟨rfl,h.back hB7 h15 hzi⟩
theorem zF (s:Rf) (E U:Option Addr) (c u:Nat) (d:ByteArray) (w:World) (hF:RfF s) (hf:ia s=false) (hd:d.size≤4096) (h:bX w (.slice E s.es.length c) s.es) (hu:bX w (.slice U 1 u) [⟨bn s+1,s.term,d⟩]) :
 Rt prog 112 [.agg #[.int .i64 s.b,.int .i64 s.t,.slice E s.es.length c],.slice U 1 u] w fun v w'=>(∃ A' c',v=.tuple #[.agg #[.int .i64 s.b,.int .i64 s.t,.slice A' (s.es.length+1) c'],.int .i64 0]∧w'.ownsRow w.heap.size 99 3 (.slice A' (s.es.length+1) c') (s.es.length+1) (cN (fI s d).es))∧ah w w':=
 (ua s.b s.t (.slice E s.es.length c) (.slice U 1 u) s.es [⟨bn s+1,s.term,d⟩] w h hu (by show 1≤_;omega)).mono fun e w' ⟨L,he,hg,hF'⟩=>by
  have h1:=(hF.add hf d hd).1;have hl:=hF.last
  have h0:pF s.b s.t s.es [⟨bn s+1,s.term,d⟩]=0:=by
   unfold pF;rw [if_pos hF.lg,if_pos ?_,if_pos ?_]
   ·have:=(hF.add hf d hd).2.2;have h2:=(dZ h1).2.2.2;rw [this] at h2;exact h2
   ·unfold ia at hf;simp only [Bool.or_eq_false_iff,decide_eq_false_iff_not] at hf;show (fL _ (dy s.b s.es) (di s.t s.es)&&true)=true;rw [Bool.and_true];unfold fL;have hte:=hF.te;have hlt:=hF.lt;simp only [Bool.and_eq_true,decide_eq_true_eq];exact ⟨⟨⟨rfl,eu ⟨by show 1≤bn s+1;omega,by show bn s+1≤_;omega⟩⟩,eu ⟨by show max (di s.t s.es) 0≤s.term;omega,hte.2⟩⟩,hd⟩
  rw [h0] at he hg;obtain ⟨v',hL,ho⟩:=hg.2 rfl;rw [List.length_append] at ho;obtain ⟨A',c',rfl⟩:=fk ho;subst hL;exact ⟨_,he,⟨A',c',rfl,ho⟩,hF'⟩
theorem AI (w0:World) (Z:Nat→Prop) (T g:Nat) (p:Sp) (w:World) (h:aZ w0 Z w T g p) (hF:RfF p.s) (hf:ia p.s=false) (d:ByteArray) (hd:d.size≤4096) :
 Rt prog 76 [.pointer (some ⟨g,0,none⟩),.string d] w (fun v w'=>v=.int .i64 (bn p.s+1)∧aZ w0 Z w' T g ⟨fI p.s d,p.out⟩):=by
 obtain ⟨tag,a,O,oc,L,hs⟩:=h.ex;obtain ⟨E,Ec,V,Vc,X,Xc,M,Mc,S,Sc,Q,Qc,LL⟩:=a;have hb:=hs.b;have hll:L.length=p.out.length:=by rw [←hs.m.l,List.length_map]
 have hbl:=hF.last;have hlb:dy p.s.b p.s.es=bn p.s:=rfl;have he:bX w (.slice E p.s.es.length Ec) p.s.es:=hs.f.rd.e;have hnn:=hF.n;have hzw:=h.zw;refine enter (n:=42) Tryz.func76 rfl rfl rfl (ak (af (asi rfl (ai (ag (ak (af (mvp rfl (az gx (j9 T g p.s _ _ _ (hb.from_ ah.rfl_) (he.from_ ah.rfl_) hF.lg) ?_)))))))));rintro v11 w1 ⟨rfl,E11⟩;refine mvt rfl (aa (aO rfl rfl) (aa (aO rfl rfl) (asi rfl (asi rfl (ai (ag (ak (af (mvi rfl (aa (bW rfl rfl (by omega)) (asi rfl ?_)))))))))));refine ai (ag (ak (ak ?_)));apply bY 19 [(17,eqp _),(18,eqp _),(19,eqp _),(20,eqp _),(21,eqp _),(22,eqp _),(23,eqp _),(24,eqp _),(25,eqp _),(26,eqp _),(27,eqp _),(28,eqp _),(29,eqp _),(30,fun v w'=>∃ b,v=.slice (some ⟨b,0,none⟩) 1 1∧bX w' (.slice (some ⟨b,0,none⟩) 1 1) [⟨bn p.s+1,p.s.term,d⟩]),(31,fun v w'=>∃ A' c',v=.tuple #[.agg #[.int .i64 p.s.b,.int .i64 p.s.t,.slice A' (p.s.es.length+1) c'],.int .i64 0]∧w'.ownsRow w.heap.size 99 3 (.slice A' (p.s.es.length+1) c') (p.s.es.length+1) (cN (fI p.s d).es)),(16,fun v w'=>∃ A' c',v=.tuple #[.agg #[.int .i64 p.s.b,.int .i64 p.s.t,.slice A' (p.s.es.length+1) c'],.int .i64 0]∧w'.ownsRow w.heap.size 99 3 (.slice A' (p.s.es.length+1) c') (p.s.es.length+1) (cN (fI p.s d).es)),(32,fun v w'=>∃ A' c',v=.agg #[.int .i64 p.s.b,.int .i64 p.s.t,.slice A' (p.s.es.length+1) c']∧w'.ownsRow w.heap.size 99 3 (.slice A' (p.s.es.length+1) c') (p.s.es.length+1) (cN (fI p.s d).es)),(33,eqp (.int .i64 0)),(7,fun v w'=>∃ b,v=.pointer (some ⟨b,0,none⟩)∧w.heap.size≤b∧Blk w' b 24 #[.int .i64 0,.int .i64 0,.slice none 0 0])] (by repeat first | exact cB | refine cz ?_ | refine ck ?_) (by kernel_rfl) (by kernel_rfl) ⟨aj _,aj _,aj _,aj _,aj _,aj _,aj _,aj _,aj _,aj _,aj _,aj _,aj _,(fun _ _ _ hF ⟨b,h1,h2⟩=>⟨b,h1,h2.from_ hF⟩),(fun _ _ _ hF ⟨a,b,h1,h2⟩=>⟨a,b,h1,h2.kept_from hF⟩),(fun _ _ _ hF ⟨a,b,h1,h2⟩=>⟨a,b,h1,h2.kept_from hF⟩),(fun _ _ _ hF ⟨a,b,h1,h2⟩=>⟨a,b,h1,h2.kept_from hF⟩),aj _,(fun _ _ _ hF ⟨b,h1,h2,h3⟩=>⟨b,h1,h2,h3.from_ hF⟩),trivial⟩
 case hop=>
  constructor
  ·rintro-w3 D3;exact au (aK (v:=.pointer _) rfl) rfl
  constructor
  ·rintro-w4 D4;rintro _ rfl;exact au (aw rfl) rfl
  constructor
  ·rintro-w5 D5;rintro _ rfl;exact au (ab aB rfl) rfl
  constructor
  ·rintro-w6 D6;rintro _ rfl;exact au (ab bj rfl) rfl
  constructor
  ·rintro-w7 D7;rintro _ rfl;exact au (aD (cs:=[.int .i64 p.s.b,.int .i64 p.s.t,.slice E p.s.es.length Ec]) aY aL rfl (iM (hb.from_ ((ah.rfl_.next E11).next D7)))) rfl
  constructor
  ·rintro-w8 D8;exact au (aK (v:=.int _ _) rfl) rfl
  constructor
  ·rintro-w9 D9;exact au (aK (v:=.pointer _) rfl) rfl
  constructor
  ·rintro-w10 D10;rintro _ rfl;exact au (aw rfl) rfl
  constructor
  ·rintro-w11 D11;rintro _ rfl;exact au (ab aB rfl) rfl
  constructor
  ·rintro-w12 D12;rintro _ rfl;exact au (ab bL rfl) rfl
  constructor
  ·rintro-w13 D13;rintro _ rfl;exact au (ar ao rfl (by exact dK (hb.from_ ((ah.rfl_.next E11).next D13)) 3 rfl)) rfl
  constructor
  ·rintro-w14 D14;exact au (aK (v:=.string _) rfl) rfl
  constructor
  ·rintro-w15 D15;rintro _ rfl _ rfl _ rfl;exact au (cy (l:=[(0,.tmp 22),(1,.tmp 27),(2,.tmp 28)]) (nB _ _ _)) rfl
  constructor
  ·rintro-w16 D16;rintro _ rfl;exact ko (qS (l:=[(0,.tmp 29)]) (cells:=#[.int .i64 (bn p.s+1),.int .i64 p.s.term,.string d]) jz rfl rfl (by show Instr.fill _ _ [(0,Value.agg #[.int .i64 (bn p.s+1),.int .i64 p.s.term,.string d])]=_;kernel_rfl)) (ah.rfl_.new _) ⟨_,rfl,xX (e:=⟨bn p.s+1,p.s.term,d⟩) (Blk.new _ _ _)⟩
  constructor
  ·rintro-w17 D17;rintro _ rfl v17_30 ⟨b30,rfl,hl30⟩;refine fD sN ((zF p.s E _ Ec 1 d _ hF hf hd (he.from_ ((ah.rfl_.next E11).next D17)) hl30).mono ?_);rintro v w9 ⟨⟨a,b,rfl,ho⟩,hF9⟩;exact ⟨hF9,a,b,rfl,ec ho (((ah.rfl_.next E11).next D17)).size⟩
  constructor
  ·rintro-w18 D18;rintro v18_31 ⟨A31,c31,rfl,ho31⟩;exact au (aK (v:=.tuple #[_,_]) rfl) ⟨_,_,rfl,ho31⟩
  constructor
  ·rintro-w19 D19;rintro v19_16 ⟨A16,c16,rfl,ho16⟩;exact au (aO rfl rfl) ⟨_,_,rfl,ho16⟩
  constructor
  ·rintro-w20 D20;rintro v20_16 ⟨A16,c16,rfl,ho16⟩;exact au (aO rfl rfl) rfl
  constructor
  ·rintro-w21 D21;exact ko (jY eD) (ah.rfl_.new _) ⟨_,rfl,(((ah.rfl_.next E11).next D21)).size,Blk.new _ _ _⟩
  exact trivial
 case hend=>
  intro w22 D22;rintro _ rfl _ rfl _ rfl _ rfl _ rfl _ rfl _ rfl _ rfl _ rfl _ rfl _ rfl _ rfl _ rfl v30 ⟨b30,rfl,hl30⟩ v31 ⟨A31,c31,rfl,ho31⟩ v16 ⟨A16,c16,rfl,ho16⟩ v32 ⟨A32,c32,rfl,ho32⟩ v33 rfl v7 ⟨b7,rfl,hg7,hk7⟩;show St ..;refine bK (vs:=[_,_,_]) aL rfl rfl (by simp [Value.oneCell']) (hk7) rfl ?_;intro w23 O3 P3;have ho9:=eY ho32 O3 (eS ho32 hk7 (by decide));refine asi rfl (ai (ag (ak (af (mvi rfl (aa (dh (bt rfl rfl) rfl) (ai (ag (aR rfl (af (mvp rfl (aa (aD (cs:=[.int .i64 p.s.b,.int .i64 p.s.t,.slice A32 (p.s.es.length+1) c32]) aY aL rfl ((P3.from_ ah.rfl_).whole)) ?_))))))))))));refine aa (aw rfl) (aa (ab aB rfl) (aa (ab bj rfl) ?_));have hB5:ah w w23:=(((ah.rfl_.next E11).next D22).only O3 (hg7));have ho5:=ho9.kept_from ah.rfl_;refine m_ (es:=(fI p.s d).es) (by show _=(p.s.es++[_]).length;rw [List.length_append];rfl) aL rfl rfl (hb.from_ (((ah.rfl_.next E11).next D22).only O3 (hg7))) ?_;intro w24 O5 P5;refine ai (ag (ak (af (mvi rfl (asi rfl (ai (ag (aC (bw (v:=.int _ _) rfl rfl ?_)))))))));have hf5:=(hs.f.but (c:=0) (ah.toChg hB5)).log p.s.b p.s.t (l:=(fI p.s d).es) (by show _=(p.s.es++[_]).length;rw [List.length_append];rfl) (ec ho5 (Nat.zero_le _)) (fun q hq=>dQ (eN ho32 q hq).1);exact ⟨rfl,((h.put hs (ah.toChg hB5) (.inl (by decide)) hf5 (O5.toChg rfl) P5).2).from_ (ah.rfl_ (a:=w24))⟩
theorem ns (w0:World) (Z:Nat→Prop) (T g:Nat) (p:Sp) (w:World) (h:aZ w0 Z w T g p) (tm:Int) :
 Rt prog 99 [.pointer (some ⟨g,0,none⟩),.int .i64 tm] w (fun v w'=>v=.tuple #[]∧aZ w0 Z w' T g ⟨cH p.s tm,p.out⟩):=by
 obtain ⟨s,out⟩:=p;obtain ⟨tag,a,O,oc,L,hs⟩:=h.ex;obtain ⟨E,Ec,V,Vc,X,Xc,M,Mc,S,Sc,Q,Qc,LL⟩:=a;have hb:Blk w g T (rfV s (⟨E,Ec,V,Vc,X,Xc,M,Mc,S,Sc,Q,Qc,LL⟩:Ra)++[Value.slice O L.length oc]).toArray:=hs.b
 have hll:L.length=out.length:=by
  have h9:=congrArg List.length hs.m.l;rw [List.length_map] at h9;exact h9
 have hB0:ah w w:=ah.rfl_;refine enter (n:=56) Tryz.func99 rfl rfl rfl (ak (af (mvp rfl (mvp rfl (aa (aw rfl) (aa (ab aB rfl) (aa (ab cZ rfl) (cK (s':=({ s with role:=0 }:Rf)) (a':=(⟨E,Ec,V,Vc,X,Xc,M,Mc,S,Sc,Q,Qc,LL⟩:Ra)) (v:=.int _ _) bd rfl rfl rfl ((hb.from_ ah.rfl_)) (by exact ⟨by decide,rfl⟩) ?_))))))));intro w1 O0_0 P0_0;have hC1:Chg (fun k=>k=g) w w1:=(ah.toChg hB0).only O0_0 rfl;refine aa (aw rfl) (aa (ab aB rfl) (aa (ab dX rfl) (cK (s':=({ s with role:=0,leader:=0 }:Rf)) (a':=(⟨E,Ec,V,Vc,X,Xc,M,Mc,S,Sc,Q,Qc,LL⟩:Ra)) (v:=.int _ _) bd rfl rfl rfl (P0_0) (by exact ⟨by decide,rfl⟩) ?_)));intro w2 O0_1 P0_1;replace hC1:=hC1.only O0_1 rfl;refine ai (ag (ak (af (mvp rfl (mvp rfl (mvp rfl (mvp rfl (mvp rfl (aa (aw rfl) (aa (ab aB rfl) (aa (ab de rfl) ?_)))))))))));have hM0:ah _ w2:=ah.rfl_;refine cK (s':=({ s with role:=0,leader:=0,votes:=[] }:Rf)) (a':=(⟨E,Ec,none,0,X,Xc,M,Mc,S,Sc,Q,Qc,LL⟩:Ra)) (v:=.slice _ _ _) db rfl rfl rfl ((P0_1.from_ ah.rfl_)) (by exact ⟨by decide,rfl⟩) ?_;intro w3 O1_0 P1_0;replace hC1:=(hC1.next (ah.toChg hM0)).only O1_0 rfl;refine aa (aw rfl) (aa (ab aB rfl) (aa (ab cS rfl) (cK (s':=({ s with role:=0,leader:=0,votes:=[],next:=[] }:Rf)) (a':=(⟨E,Ec,none,0,none,0,M,Mc,S,Sc,Q,Qc,LL⟩:Ra)) (v:=.slice _ _ _) db rfl rfl rfl (P1_0) (by exact ⟨by decide,rfl⟩) ?_)));intro w4 O1_1 P1_1;replace hC1:=hC1.only O1_1 rfl;refine aa (aw rfl) (aa (ab aB rfl) (aa (ab c_ rfl) (cK (s':=({ s with role:=0,leader:=0,votes:=[],next:=[],mtch:=[] }:Rf)) (a':=(⟨E,Ec,none,0,none,0,none,0,S,Sc,Q,Qc,LL⟩:Ra)) (v:=.slice _ _ _) db rfl rfl rfl (P1_1) (by exact ⟨by decide,rfl⟩) ?_)));intro w5 O1_2 P1_2;replace hC1:=hC1.only O1_2 rfl;refine aa (aw rfl) (aa (ab aB rfl) (aa (ab df rfl) (cK (s':=({ s with role:=0,leader:=0,votes:=[],next:=[],mtch:=[],sent:=[] }:Rf)) (a':=(⟨E,Ec,none,0,none,0,none,0,none,0,Q,Qc,LL⟩:Ra)) (v:=.slice _ _ _) db rfl rfl rfl (P1_2) (by exact ⟨by decide,rfl⟩) ?_)));intro w6 O1_3 P1_3;replace hC1:=hC1.only O1_3 rfl;refine aa (aw rfl) (aa (ab aB rfl) (aa (ab cl rfl) (cK (s':=({ s with role:=0,leader:=0,votes:=[],next:=[],mtch:=[],sent:=[],reads:=[] }:Rf)) (a':=(⟨E,Ec,none,0,none,0,none,0,none,0,none,0,[]⟩:Ra)) (v:=.slice _ _ _) jy rfl rfl rfl (P1_3) (by exact ⟨by decide,rfl⟩) ?_)));intro w7 O1_4 P1_4;replace hC1:=hC1.only O1_4 rfl;refine ai (ag (ak (af (mvi rfl (mvp rfl (aa (aw rfl) (aa (ab aB rfl) (aa (ab bL rfl) (aa (ar ao rfl (by exact (show _=some (Value.int .i64 s.term) from dK (P1_4.from_ ah.rfl_) 3 rfl))) ?_)))))))));refine aa (ch rfl rfl) (ai (ag (Bn rfl (fun Q8=>?_) (fun Q8=>?_))))
 ·refine af (mvp rfl (mvp rfl (mvp rfl (mvp rfl (mvi rfl (aa (aw rfl) (aa (ab aB rfl) (aa (ab bL rfl) ?_))))))));have hM0:ah _ w7:=ah.rfl_;refine cK (s':=({ s with role:=0,leader:=0,votes:=[],next:=[],mtch:=[],sent:=[],reads:=[],term:=tm }:Rf)) (a':=(⟨E,Ec,none,0,none,0,none,0,none,0,none,0,[]⟩:Ra)) (v:=.int _ _) bd rfl rfl rfl ((P1_4.from_ ah.rfl_)) (by exact ⟨by decide,rfl⟩) ?_;intro w9 O3_0 P3_0;replace hC1:=(hC1.next (ah.toChg hM0)).only O3_0 rfl;refine aa (aw rfl) (aa (ab aB rfl) (aa (ab fw rfl) (cK (s':=({ s with role:=0,leader:=0,votes:=[],next:=[],mtch:=[],sent:=[],reads:=[],term:=tm,vote:=0 }:Rf)) (a':=(⟨E,Ec,none,0,none,0,none,0,none,0,none,0,[]⟩:Ra)) (v:=.int _ _) bd rfl rfl rfl (P3_0) (by exact ⟨by decide,rfl⟩) ?_)));intro w10 O3_1 P3_1;replace hC1:=hC1.only O3_1 rfl;refine aa (aw rfl) (aa (ab aB rfl) (aa (ab ee rfl) (cK (s':=({ s with role:=0,leader:=0,votes:=[],next:=[],mtch:=[],sent:=[],reads:=[],term:=tm,vote:=0,part:=⟨#[]⟩ }:Rf)) (a':=(⟨E,Ec,none,0,none,0,none,0,none,0,none,0,[]⟩:Ra)) (v:=.string _) nA rfl rfl rfl (P3_1) (by exact ⟨by decide,rfl⟩) ?_)));intro w11 O3_2 P3_2;replace hC1:=hC1.only O3_2 rfl;refine aa (aw rfl) (aa (ab aB rfl) (aa (ab ed rfl) (cK (s':=({ s with role:=0,leader:=0,votes:=[],next:=[],mtch:=[],sent:=[],reads:=[],term:=tm,vote:=0,part:=⟨#[]⟩,partOf:=0 }:Rf)) (a':=(⟨E,Ec,none,0,none,0,none,0,none,0,none,0,[]⟩:Ra)) (v:=.int _ _) bd rfl rfl rfl (P3_2) (by exact ⟨by decide,rfl⟩) ?_)));intro w12 O3_3 P3_3;replace hC1:=hC1.only O3_3 rfl;refine ai (du (eB rfl (⟨rfl,?_⟩)));have hf1:=hs.f.alone;unfold cH;simp only
  first
   |(rw [if_pos (show s.term<tm by omega)];exact (h.set (s':=({ s with role:=0,leader:=0,votes:=[],next:=[],mtch:=[],sent:=[],reads:=[],term:=tm,vote:=0,part:=⟨#[]⟩,partOf:=0 }:Rf)) (a':=(⟨E,Ec,none,0,none,0,none,0,none,0,none,0,[]⟩:Ra)) hs hC1 (bm.same hf1 rfl rfl rfl rfl rfl rfl) P3_3).2)
   |(rw [if_neg (show ¬ s.term<tm by omega)];exact (h.set (s':=({ s with role:=0,leader:=0,votes:=[],next:=[],mtch:=[],sent:=[],reads:=[] }:Rf)) (a':=(⟨E,Ec,none,0,none,0,none,0,none,0,none,0,[]⟩:Ra)) hs (hC1.next (ah.toChg ah.rfl_)) (bm.same hf1 rfl rfl rfl rfl rfl rfl) (P1_4.from_ ah.rfl_)).2)
 refine aM (du (eB rfl (⟨rfl,?_⟩)));have hf1:=hs.f.alone;unfold cH;simp only
 first
  |(rw [if_pos (show s.term<tm by omega)];exact (h.set (s':=({ s with role:=0,leader:=0,votes:=[],next:=[],mtch:=[],sent:=[],reads:=[],term:=tm,vote:=0,part:=⟨#[]⟩,partOf:=0 }:Rf)) (a':=(⟨E,Ec,none,0,none,0,none,0,none,0,none,0,[]⟩:Ra)) hs hC1 (bm.same hf1 rfl rfl rfl rfl rfl rfl) P3_3).2)
  |(rw [if_neg (show ¬ s.term<tm by omega)];exact (h.set (s':=({ s with role:=0,leader:=0,votes:=[],next:=[],mtch:=[],sent:=[],reads:=[] }:Rf)) (a':=(⟨E,Ec,none,0,none,0,none,0,none,0,none,0,[]⟩:Ra)) hs (hC1.next (ah.toChg ah.rfl_)) (bm.same hf1 rfl rfl rfl rfl rfl rfl) (P1_4.from_ ah.rfl_)).2)
theorem BD (A:Option Addr) (c:Nat) (L:List Int) (w:World) (hr:ey iV w A L) (hf:Fit L):Rt prog 115 [.slice A L.length c] w fun v w'=>v=.tuple #[.int .i64 (med L),.int .i64 0]∧ah w w':=
 (xS A c L w hr).mono fun _ _ h=>⟨h.1.elim (fun e=>e.2) (fun e=>absurd hf e.1),h.2⟩
theorem wM (l:List Int) (k:Nat) (v:Int):(l.map iV).set k (iV v)=(l.set k v).map iV:=by rw [List.map_set]
theorem vk (w0:World) (Z:Nat→Prop) (T g:Nat) (s:Rf) (out:List Msg) (w:World) (h:aZ w0 Z w T g ⟨s,out⟩) (tag:Nat→Nat) (a:Ra) (O:Option Addr) (oc:Nat) (L:List Msg) (hs:gZ w Z T g tag ⟨s,out⟩ a O oc L) (hF:RfF s) (hr:s.role=2) :
 Rt prog 79 [.pointer (some ⟨g,0,none⟩)] w (fun v w'=>v=.tuple #[]∧aZ w0 Z w' T g ⟨dB s,out⟩∧∃ tag',gZ w' Z T g tag' ⟨dB s,out⟩ a O oc L):=by
 obtain ⟨E,Ec,V,Vc,X,Xc,M,Mc,S,Sc,Q,Qc,LL⟩:=a;have hb:Blk w g T (rfV s (⟨E,Ec,V,Vc,X,Xc,M,Mc,S,Sc,Q,Qc,LL⟩:Ra)++[Value.slice O L.length oc]).toArray:=hs.b
 have hll:L.length=out.length:=by
  have h9:=congrArg List.length hs.m.l;rw [List.length_map] at h9;exact h9
 have hbl:=hF.last;have hlb:dy s.b s.es=bn s:=rfl;have he:bX w (.slice E s.es.length Ec) s.es:=hs.f.rd.e;have hnn:=hF.n;have hid:=hF.i;have hzw:=h.zw;obtain ⟨k,hk⟩:∃ k:Nat,s.id=(k:Int)+1:=⟨(s.id-1).toNat,by omega⟩;have hMl:s.mtch.length=s.nodes.toNat:=by rw [hF.ma.1,jN hr]
 have hkM:k<s.mtch.length:=by omega
 obtain ⟨gM,rfl⟩:∃ q,M=some ⟨q,0,none⟩:=ft (n:=s.mtch.length) (hs.f.m (by decide)).1 (by omega);have hMo:w.ownsRow 0 3 1 (.slice (some ⟨gM,0,none⟩) s.mtch.length Mc) s.mtch.length (s.mtch.map iV):=(hs.f.m (by decide)).1;have hMc:=j5 (l:=s.mtch) hMo k hkM;have hFs:=hF.settle hr;have hp1:eP s.mtch s.id (bn s)=s.mtch.set k (bn s):=by unfold eP;rw [show (s.id-1).toNat=k by omega]
 have hfit:Fit (eP s.mtch s.id (bn s)):=⟨by rw [fT];omega,by rw [fT];omega,fun x hx=>(hFs.ma.2 x hx).1⟩;have hmed:0≤med (eP s.mtch s.id (bn s))∧med (eP s.mtch s.id (bn s))≤bn s:=hFs.ma.2 _ (uO hfit.1);have hco:=hF.co;refine enter (n:=57) Tryz.func79 rfl rfl rfl (ak ?_);apply bY 16 [(5,eqp _),(6,eqp _),(7,eqp _),(8,eqp _),(9,eqp _),(10,eqp _),(11,eqp _),(12,eqp _),(13,eqp _),(14,eqp _),(15,eqp (.int .i64 (k:Nat))),(16,eqp _),(17,eqp _),(4,eqp _),(18,eqp _),(19,eqp _)] (by repeat first | exact cB | refine cz ?_ | refine ck ?_) (by kernel_rfl) (by kernel_rfl) ⟨aj _,aj _,aj _,aj _,aj _,aj _,aj _,aj _,aj _,aj _,aj _,aj _,aj _,aj _,aj _,aj _,trivial⟩
 case hop=>
  constructor
  ·rintro-w2 D2;exact au (aK (v:=.pointer _) rfl) rfl
  constructor
  ·rintro-w3 D3;rintro _ rfl;exact au (aw rfl) rfl
  constructor
  ·rintro-w4 D4;rintro _ rfl;exact au (ab aB rfl) rfl
  constructor
  ·rintro-w5 D5;rintro _ rfl;exact au (ab c_ rfl) rfl
  constructor
  ·rintro-w6 D6;rintro _ rfl;exact au (ar bo rfl (by exact dK (hb.from_ (ah.rfl_.next D6)) 16 rfl)) rfl
  constructor
  ·rintro-w7 D7;exact au (aK (v:=.pointer _) rfl) rfl
  constructor
  ·rintro-w8 D8;rintro _ rfl;exact au (aw rfl) rfl
  constructor
  ·rintro-w9 D9;rintro _ rfl;exact au (ab aB rfl) rfl
  constructor
  ·rintro-w10 D10;rintro _ rfl;exact au (ab cw rfl) rfl
  constructor
  ·rintro-w11 D11;rintro _ rfl;exact au (ar ao rfl (by exact dK (hb.from_ (ah.rfl_.next D11)) 0 rfl)) rfl
  constructor
  ·rintro-w12 D12;rintro _ rfl;exact au (jk (dM rfl rfl (by omega)) (bM (by omega))) rfl
  constructor
  ·rintro-w13 D13;exact au (aK (v:=.pointer _) rfl) rfl
  constructor
  ·rintro-w14 D14;rintro _ rfl;refine fD gx ((j9 T g s _ _ _ (hb.from_ (ah.rfl_.next D14)) (he.from_ (ah.rfl_.next D14)) hF.lg).mono ?_);rintro v _ ⟨rfl,E14'⟩;exact ⟨E14',rfl⟩
  constructor
  ·rintro-w15 D15;rintro _ rfl;exact au (aK (v:=.tuple _) rfl) rfl
  constructor
  ·rintro-w16 D16;rintro _ rfl;exact au (aO rfl rfl) rfl
  constructor
  ·rintro-w17 D17;rintro _ rfl;exact au (aO rfl rfl) rfl
  exact trivial
 case hend=>
  intro w18 D18;rintro _ rfl _ rfl _ rfl _ rfl _ rfl _ rfl _ rfl _ rfl _ rfl _ rfl v15 rfl _ rfl _ rfl _ rfl _ rfl _ rfl;show St ..;refine aa (eA c6 rfl rfl (by omega)) ?_;have hB0:ah w w18:=(ah.rfl_.next D18);refine mY (xs:=s.mtch.map iV) bd rfl rfl rfl (hMo.kept_from (ah.rfl_.next D18)) (by omega) ?_;intro w19 O0 P0
  have hMo1:(w19).ownsRow 0 3 1 (.slice (some ⟨gM,0,none⟩) (eP s.mtch s.id (bn s)).length Mc) (eP s.mtch s.id (bn s)).length ((eP s.mtch s.id (bn s)).map iV):=by
   rw [fT,hp1,←wM];exact P0
  have hgM7:tag gM=3:=(hs.f.m (by decide)).2 gM rfl;have hC1:Chg (fun k=>tag k=3) w w19:=(ah.toChg hB0).only O0 hgM7
  have hb1:Blk w19 g T (rfV ({ s with mtch:=eP s.mtch s.id (bn s) }:Rf) (⟨E,Ec,V,Vc,X,Xc,some ⟨gM,0,none⟩,Mc,S,Sc,Q,Qc,LL⟩:Ra)++[Value.slice O L.length oc]).toArray:=by
   have h9:=(hb.from_ hB0).only O0 (fun e=>by have:=hs.gc;rw [e,hgM7] at this;cases this)
   have e9:rfV ({ s with mtch:=eP s.mtch s.id (bn s) }:Rf) (⟨E,Ec,V,Vc,X,Xc,some ⟨gM,0,none⟩,Mc,S,Sc,Q,Qc,LL⟩:Ra)=rfV s (⟨E,Ec,V,Vc,X,Xc,some ⟨gM,0,none⟩,Mc,S,Sc,Q,Qc,LL⟩:Ra):=by
    unfold rfV;simp only [fT]
   rw [e9];exact h9
  have hf1:=(hs.f.but hC1).mtch (l:=eP s.mtch s.id (bn s)) rfl hMo1 (fun q hq=>by cases hq;rw [cW (ej hMo _ rfl)];exact hgM7);obtain ⟨hs1,h1⟩:=h.put hs hC1 (.inl (by decide)) hf1 (Chg.rfl_ (U:=fun k=>k=g)) hb1;have he1:bX w19 (.slice E s.es.length Ec) s.es:=hs1.f.rd.e;refine ai (ag (ak (af (mvp rfl (aa (aw rfl) (aa (ab aB rfl) (aa (ab c_ rfl) (aa (ar bo rfl (by exact dK (hb1.from_ (ah.rfl_ (a:=w19))) 16 rfl)) ?_))))))));refine az sM (BD (some ⟨gM,0,none⟩) Mc (eP s.mtch s.id (bn s)) _ ((ey.own hMo1).2.from_ (ah.rfl_ (a:=w19))) hfit) ?_;rintro v27 w20 ⟨rfl,E27⟩;refine mvt rfl (aa (aO rfl rfl) (aa (aO rfl rfl) (asi rfl (asi rfl (ai (ag (ak ?_)))))));by_cases hgt:s.commit<med (eP s.mtch s.id (bn s))
  ·apply bY 22 [(30,eqp _),(31,eqp _),(32,eqp _),(33,eqp _),(34,eqp _),(35,eqp _),(36,eqp _),(37,eqp _),(38,eqp _),(39,eqp _),(40,eqp _),(41,eqp _),(42,eqp _),(43,eqp _),(44,eqp _),(45,eqp _),(46,eqp _),(47,eqp _),(48,eqp _),(49,eqp _),(50,eqp _),(51,eqp _)] (by repeat first | exact cB | refine cz ?_ | refine ck ?_) (by kernel_rfl) (by kernel_rfl) ⟨aj _,aj _,aj _,aj _,aj _,aj _,aj _,aj _,aj _,aj _,aj _,aj _,aj _,aj _,aj _,aj _,aj _,aj _,aj _,aj _,aj _,aj _,trivial⟩
   case hop=>
    constructor
    ·rintro-w22 D22;exact au (aK (v:=.int _ _) rfl) rfl
    constructor
    ·rintro-w23 D23;rintro _ rfl;exact au (dh (bt rfl rfl) rfl) rfl
    constructor
    ·rintro-w24 D24;rintro _ rfl;exact au (aK (v:=.bool _) rfl) rfl
    constructor
    ·rintro-w25 D25;rintro _ rfl;exact bc rfl (aK (v:=.int _ _) rfl) rfl
    constructor
    ·rintro-w26 D26;rintro _ rfl;exact bc rfl (aK (v:=.pointer _) rfl) rfl
    constructor
    ·rintro-w27 D27;rintro _ rfl _ rfl;exact bc rfl (aw rfl) rfl
    constructor
    ·rintro-w28 D28;rintro _ rfl _ rfl;exact bc rfl (ab aB rfl) rfl
    constructor
    ·rintro-w29 D29;rintro _ rfl _ rfl;exact bc rfl (ab cQ rfl) rfl
    constructor
    ·rintro-w30 D30;rintro _ rfl _ rfl;exact bc rfl (ar ao rfl (by exact (show _=some (Value.int .i64 s.commit) from dK (hb1.from_ (((ah.rfl_ (a:=w19)).next E27).next D30)) 10 rfl))) rfl
    constructor
    ·rintro-w31 D31;rintro _ rfl _ rfl _ rfl;exact bc rfl (dh (ch rfl rfl) (decide_eq_true hgt)) rfl
    constructor
    ·rintro-w32 D32;rintro _ rfl _ rfl;exact au (aG (v:=.bool _) rfl rfl) rfl
    constructor
    ·rintro-w33 D33;rintro _ rfl;exact au (aK (v:=.bool _) rfl) rfl
    constructor
    ·rintro-w34 D34;rintro _ rfl;exact bc rfl (aK (v:=.pointer _) rfl) rfl
    constructor
    ·rintro-w35 D35;rintro _ rfl;exact bc rfl (aK (v:=.int _ _) rfl) rfl
    constructor
    ·rintro-w36 D36;rintro _ rfl _ rfl _ rfl;refine sg rfl pM ((rP T g ({ s with mtch:=eP s.mtch s.id (bn s) }:Rf) _ _ _ (hb1.from_ (((ah.rfl_ (a:=w19)).next E27).next D36)) (he1.from_ (((ah.rfl_ (a:=w19)).next E27).next D36)) hF.lg (med (eP s.mtch s.id (bn s))) (by show s.b≤_∧_≤bn s;omega)).mono ?_);rintro v _ ⟨rfl,E36'⟩;exact ⟨E36',rfl⟩
    constructor
    ·rintro-w37 D37;rintro _ rfl;exact bc rfl (aK (v:=.pointer _) rfl) rfl
    constructor
    ·rintro-w38 D38;rintro _ rfl _ rfl;exact bc rfl (aw rfl) rfl
    constructor
    ·rintro-w39 D39;rintro _ rfl _ rfl;exact bc rfl (ab aB rfl) rfl
    constructor
    ·rintro-w40 D40;rintro _ rfl _ rfl;exact bc rfl (ab bL rfl) rfl
    constructor
    ·rintro-w41 D41;rintro _ rfl _ rfl;exact bc rfl (ar ao rfl (by exact (show _=some (Value.int .i64 s.term) from dK (hb1.from_ (((ah.rfl_ (a:=w19)).next E27).next D41)) 3 rfl))) rfl
    constructor
    ·rintro-w42 D42;rintro _ rfl _ rfl _ rfl;exact bc rfl (bt rfl rfl) rfl
    constructor
    ·rintro-w43 D43;rintro _ rfl _ rfl;exact au (aG (v:=.bool _) rfl rfl) rfl
    exact trivial
   case hend=>
    intro w44 D44;rintro _ rfl _ rfl _ rfl _ rfl _ rfl _ rfl _ rfl _ rfl _ rfl _ rfl _ rfl _ rfl _ rfl _ rfl _ rfl _ rfl _ rfl _ rfl _ rfl _ rfl _ rfl _ rfl;show St ..;refine ai (ag (Bn rfl (fun Q45=>?_) (fun Q45=>?_)))
    ·refine af (mvp rfl (mvi rfl (aa (aw rfl) (aa (ab aB rfl) (aa (ab cQ rfl) ?_)))));have hB3:ah _ w44:=(((ah.rfl_ (a:=w19)).next E27).next D44);refine cK (s':=({ s with mtch:=eP s.mtch s.id (bn s),commit:=med (eP s.mtch s.id (bn s)) }:Rf)) (a':=(⟨E,Ec,V,Vc,X,Xc,some ⟨gM,0,none⟩,Mc,S,Sc,Q,Qc,LL⟩:Ra)) (v:=.int _ _) bd rfl rfl rfl ((hb1.from_ (((ah.rfl_ (a:=w19)).next E27).next D44))) (by exact ⟨by decide,rfl⟩) ?_;intro w46 O3_0 P3_0;refine ai (du (eB rfl ?_))
     first
      |(have e9:dB s=({ s with mtch:=eP s.mtch s.id (bn s),commit:=med (eP s.mtch s.id (bn s)) }:Rf):=by unfold dB;simp only;rw [if_pos ⟨hgt,by assumption⟩]
        rw [e9];obtain ⟨hs2,h2⟩:=h1.set (s':=({ s with mtch:=eP s.mtch s.id (bn s),commit:=med (eP s.mtch s.id (bn s)) }:Rf)) (a':=(⟨E,Ec,V,Vc,X,Xc,some ⟨gM,0,none⟩,Mc,S,Sc,Q,Qc,LL⟩:Ra)) hs1 ((ah.toChg hB3).only O3_0 rfl) (bm.same hs1.f rfl rfl rfl rfl rfl rfl) P3_0;exact ⟨rfl,h2,_,hs2⟩)
      |(have e9:dB s=({ s with mtch:=eP s.mtch s.id (bn s) }:Rf):=by unfold dB;simp only;rw [if_neg (fun e=>by first | exact absurd e.2 (by assumption) | exact absurd e.1 hgt)]
        rw [e9];exact ⟨rfl,h1.from_ (ah.rfl_ (a:=w46)),_,hs1.from_ (ah.rfl_ (a:=w46))⟩)
    refine aM (du (eB rfl ?_))
    first
     |(have e9:dB s=({ s with mtch:=eP s.mtch s.id (bn s),commit:=med (eP s.mtch s.id (bn s)) }:Rf):=by unfold dB;simp only;rw [if_pos ⟨hgt,by assumption⟩]
       rw [e9];obtain ⟨hs2,h2⟩:=h1.set (s':=({ s with mtch:=eP s.mtch s.id (bn s),commit:=med (eP s.mtch s.id (bn s)) }:Rf)) (a':=(⟨E,Ec,V,Vc,X,Xc,some ⟨gM,0,none⟩,Mc,S,Sc,Q,Qc,LL⟩:Ra)) hs1 ((ah.toChg hB3).only O3_0 rfl) (bm.same hs1.f rfl rfl rfl rfl rfl rfl) P3_0;exact ⟨rfl,h2,_,hs2⟩)
     |(have e9:dB s=({ s with mtch:=eP s.mtch s.id (bn s) }:Rf):=by unfold dB;simp only;rw [if_neg (fun e=>by first | exact absurd e.2 (by assumption) | exact absurd e.1 hgt)]
       rw [e9];exact ⟨rfl,h1.from_ (((ah.rfl_ (a:=w19)).next E27).next D44),_,hs1.from_ (((ah.rfl_ (a:=w19)).next E27).next D44)⟩)
  apply bY 22 [(30,eqp _),(31,eqp _),(32,eqp _),(33,eqp _),(34,eqp _),(35,eqp _),(36,eqp _),(37,eqp _),(38,eqp _),(39,eqp _),(40,eqp _),(41,eqp _),(42,eqp _),(43,eqp _),(44,eqp _),(45,eqp _),(46,eqp _),(47,eqp _),(48,eqp _),(49,eqp _),(50,eqp _),(51,eqp _)] (by repeat first | exact cB | refine cz ?_ | refine ck ?_) (by kernel_rfl) (by kernel_rfl) ⟨aj _,aj _,aj _,aj _,aj _,aj _,aj _,aj _,aj _,aj _,aj _,aj _,aj _,aj _,aj _,aj _,aj _,aj _,aj _,aj _,aj _,aj _,trivial⟩
  case hop=>
   constructor
   ·rintro-w48 D48;exact au (aK (v:=.int _ _) rfl) rfl
   constructor
   ·rintro-w49 D49;rintro _ rfl;exact au (dh (bt rfl rfl) rfl) rfl
   constructor
   ·rintro-w50 D50;rintro _ rfl;exact au (aK (v:=.bool _) rfl) rfl
   constructor
   ·rintro-w51 D51;rintro _ rfl;exact bc rfl (aK (v:=.int _ _) rfl) rfl
   constructor
   ·rintro-w52 D52;rintro _ rfl;exact bc rfl (aK (v:=.pointer _) rfl) rfl
   constructor
   ·rintro-w53 D53;rintro _ rfl _ rfl;exact bc rfl (aw rfl) rfl
   constructor
   ·rintro-w54 D54;rintro _ rfl _ rfl;exact bc rfl (ab aB rfl) rfl
   constructor
   ·rintro-w55 D55;rintro _ rfl _ rfl;exact bc rfl (ab cQ rfl) rfl
   constructor
   ·rintro-w56 D56;rintro _ rfl _ rfl;exact bc rfl (ar ao rfl (by exact (show _=some (Value.int .i64 s.commit) from dK (hb1.from_ (((ah.rfl_ (a:=w19)).next E27).next D56)) 10 rfl))) rfl
   constructor
   ·rintro-w57 D57;rintro _ rfl _ rfl _ rfl;exact bc rfl (c8 (ch rfl rfl) (decide_eq_false hgt)) rfl
   constructor
   ·rintro-w58 D58;rintro _ rfl _ rfl;exact au (aG (v:=.bool _) rfl rfl) rfl
   constructor
   ·rintro-w59 D59;rintro _ rfl;exact au (aK (v:=.bool _) rfl) rfl
   constructor
   ·rintro-w60 D60;rintro _ rfl;exact cG rfl rfl rfl
   constructor
   ·rintro-w61 D61;rintro _ rfl;exact cG rfl rfl rfl
   constructor
   ·rintro-w62 D62;rintro _ rfl _ rfl _ rfl;exact cG rfl rfl rfl
   constructor
   ·rintro-w63 D63;rintro _ rfl;exact cG rfl rfl rfl
   constructor
   ·rintro-w64 D64;rintro _ rfl _ rfl;exact cG rfl rfl rfl
   constructor
   ·rintro-w65 D65;rintro _ rfl _ rfl;exact cG rfl rfl rfl
   constructor
   ·rintro-w66 D66;rintro _ rfl _ rfl;exact cG rfl rfl rfl
   constructor
   ·rintro-w67 D67;rintro _ rfl _ rfl;exact cG rfl rfl rfl
   constructor
   ·rintro-w68 D68;rintro _ rfl _ rfl _ rfl;exact cG rfl rfl rfl
   constructor
   ·rintro-w69 D69;rintro _ rfl _ rfl;exact au (av (v:=.bool _) rfl rfl) rfl
   exact trivial
  case hend=>
   intro w70 D70;rintro _ rfl _ rfl _ rfl _ rfl _ rfl _ rfl _ rfl _ rfl _ rfl _ rfl _ rfl _ rfl _ rfl _ rfl _ rfl _ rfl _ rfl _ rfl _ rfl _ rfl _ rfl _ rfl;show St ..;refine ai (ag (bA rfl (aM (du (eB rfl ?_)))))
   first
    |(have e9:dB s=({ s with mtch:=eP s.mtch s.id (bn s),commit:=med (eP s.mtch s.id (bn s)) }:Rf):=by unfold dB;simp only;rw [if_pos ⟨hgt,by assumption⟩]
      rw [e9];obtain ⟨hs2,h2⟩:=h1.set (s':=({ s with mtch:=eP s.mtch s.id (bn s),commit:=med (eP s.mtch s.id (bn s)) }:Rf)) (a':=(⟨E,Ec,V,Vc,X,Xc,some ⟨gM,0,none⟩,Mc,S,Sc,Q,Qc,LL⟩:Ra)) hs1 ((ah.toChg hB3).only O3_0 rfl) (bm.same hs1.f rfl rfl rfl rfl rfl rfl) P3_0;exact ⟨rfl,h2,_,hs2⟩)
    |(have e9:dB s=({ s with mtch:=eP s.mtch s.id (bn s) }:Rf):=by unfold dB;simp only;rw [if_neg (fun e=>by first | exact absurd e.2 (by assumption) | exact absurd e.1 hgt)]
      rw [e9];exact ⟨rfl,h1.from_ (((ah.rfl_ (a:=w19)).next E27).next D70),_,hs1.from_ (((ah.rfl_ (a:=w19)).next E27).next D70)⟩)
end Go.Proofs.YtkpooenofjdpmaaGreat
namespace Go.Proofs.YtkpooenofjdpmaaGreat
open Go.Proofs.Tryz (prog)
open Go.RowKit
abbrev XT (X:Type):=List (Nat×Nat×(X→Value))
abbrev mW {X:Type} (T:XT X) (x:X):List (Nat×Nat×Value):=T.map fun p=>(p.1,p.2.1,p.2.2 x)
theorem qN {X:Type}:∀ {T:XT X} {x:X},ny (T.map fun p=>(p.1,p.2.1))→k9 (mW T x)
 |[],_,_=>trivial
 |p::r,x,h=>⟨fun q hq=>by
   obtain ⟨y,hy,rfl⟩:=List.mem_map.1 hq;exact h.1 (y.1,y.2.1) (List.mem_map.2 ⟨y,hy,rfl⟩),qN h.2⟩
def zK {X:Type} (S:Nat→Bool) (x x':X):XT X→Prop
 |[]=>True
 |p::r=>(S p.1=true→p.2.2 x'=p.2.2 x)∧zK S x x' r
theorem uR {X:Type} {S:Nat→Bool} {x x':X}:∀ {T:XT X},zK S x x' T→∀ p∈T,S p.1=true→p.2.2 x'=p.2.2 x
 |_::_,⟨h1,h2⟩,p,hp=>by
  rcases List.mem_cons.1 hp with rfl | hp
  ·exact h1
  ·exact uR h2 p hp
theorem cP {X:Type} {S:Nat→Bool} {x:X}:∀ {T:XT X},zK S x x T
 |[]=>trivial
 |_::_=>⟨fun _=>rfl,cP⟩
section
variable {X:Type} {P:Program} {Q:Exit→Act→World→Prop} {n:Fr} {L L' M:List (Nat×Value)} {w w' w'':World} {l:List Oper} {T:XT X} {I:X→(Nat→Bool)→World→Prop} {S:Nat→Bool} {op:Op} {ty:TypeId} {pos:String} {after:Array Edge} {i d:Nat} {f:X→Value} {x:X}
theorem InvX.get (h:iO L (mW T x) S L') (hp:(i,d,f)∈T) (hs:S i=true):bI L' d=f x:=h.get (i:=i) (d:=d) (List.mem_map.2 ⟨_,hp,rfl⟩) hs
theorem InvX.out {t:Nat} (h:iO L (mW T x) S L') (ht:(T.map fun p=>p.2.1).elem t=false):bI L' t=bI L t:=h.1 t fun p hp e=>by
 obtain ⟨y,hy,rfl⟩:=List.mem_map.1 hp;have:t∈T.map fun p=>p.2.1:=List.mem_map.2 ⟨y,hy,e⟩
 rw [List.elem_eq_mem,decide_eq_false_iff_not] at ht;exact ht this
theorem Au {i:Nat} (h:(T.map fun p=>p.1).elem i=false):∀ p∈T,p.1≠i:=fun p hp e=>by
 rw [List.elem_eq_mem,decide_eq_false_iff_not] at h;exact h (List.mem_map.2 ⟨p,hp,e⟩)
theorem InvX.chg {x':X} (h:iO L (mW T x) S L') (hc:∀ p∈T,S p.1=true→p.2.2 x'=p.2.2 x):iO L (mW T x') S L':=by
 refine ⟨fun t ht=>h.1 t fun p hp=>?_,fun p hp hs=>?_,fun p hp hs=>?_⟩
 ·obtain ⟨y,hy,rfl⟩:=List.mem_map.1 hp;exact ht (y.1,y.2.1,y.2.2 x') (List.mem_map.2 ⟨y,hy,rfl⟩)
 ·obtain ⟨y,hy,rfl⟩:=List.mem_map.1 hp;have:=h.2.1 (y.1,y.2.1,y.2.2 x) (List.mem_map.2 ⟨y,hy,rfl⟩) hs;rw [this];exact (hc y hy hs).symm
 ·obtain ⟨y,hy,rfl⟩:=List.mem_map.1 hp;exact h.2.2 (y.1,y.2.1,y.2.2 x) (List.mem_map.2 ⟨y,hy,rfl⟩) hs
abbrev u5 (P:Program) (n:Fr) (L:List (Nat×Value)) (T:XT X) (I:X→(Nat→Bool)→World→Prop) (S:Nat→Bool) (i:Nat) (o:Oper) (L':List (Nat×Value)) (w':World):Prop:=gL P n o (fun L2 w2=>∃ x,iO L (mW T x) (dJ S i) L2∧I x (dJ S i) w2) L' w'
theorem cI (M:List (Nat×Value)) (x':X) (hU:ny (T.map fun p=>(p.1,p.2.1))) (hI:iO L (mW T x) S L') (hp:(i,d,f)∈T)
 (hs:dN op=false) (hk:(((⟨some d,op,ty,pos,after,none⟩:Oper).looksAt #[]).all fun t=>(M.map Prod.fst).elem t)=true) (hag:rJ L' M) (hr:RO P (ev n M) op w' (f x') w'') (hc:zK S x x' T) (hM:I x' (dJ S i) w''):u5 P n L T I S i ⟨some d,op,ty,pos,after,none⟩ L' w':=
 .inl ⟨d,f x',w'',rfl,by rw [ke hs hk hag];exact hr _ _ _ _ _,x',(InvX.chg hI (uR hc)).put (qN hU) (List.mem_map.2 ⟨_,hp,rfl⟩),hM⟩
theorem oP (M:List (Nat×Value)) (hI:iO L (mW T x) S L') (hi:∀ p∈T,p.1≠i)
 (hs:dN op=false) (hk:(((⟨none,op,ty,pos,after,none⟩:Oper).looksAt #[]).all fun t=>(M.map Prod.fst).elem t)=true) (hag:rJ L' M) (hr:RS P (ev n M) op w' w'') (hM:I x (dJ S i) w''):u5 P n L T I S i ⟨none,op,ty,pos,after,none⟩ L' w':=
 .inr (.inl ⟨w'',rfl,by rw [ke hs hk hag];exact hr _ _ _ _ _,x,hI.skip (fun p hp=>by
  obtain ⟨y,hy,rfl⟩:=List.mem_map.1 hp;exact hi y hy),hM⟩)
def ue (P:Program) (n:Fr) (L:List (Nat×Value)) (T:XT X) (Mu:List Nat) (I:X→(Nat→Bool)→World→Prop) (l:List Oper):Nat→List Oper→Prop
 |_,[]=>True
 |i,o::r=>(∀ S L' w' x,ny (T.map fun p=>(p.1,p.2.1))→(∀ x S i w1 w2,Mu.elem i=false→ah w1 w2→I x S w1→I x (dJ S i) w2)→iO L (mW T x) S L'→I x S w'→iy l S→S i=false→iY S o.after.toList→u5 P n L T I S i o L' w')∧ue P n L T Mu I l (i+1) r
theorem qe {Mu:List Nat} {L0:List (Nat×Value)} {l0:List Oper}:∀ {r:List Oper} {k:Nat},ue P n L0 T Mu I l0 k r→ny (T.map fun p=>(p.1,p.2.1))→(∀ x S i w1 w2,Mu.elem i=false→ah w1 w2→I x S w1→I x (dJ S i) w2)→∀ (i:Nat) (o:Oper),r[i]? =some o→∀ S L' w' x,iO L0 (mW T x) S L'→I x S w'→iy l0 S→S (k+i)=false→iY S o.after.toList→u5 P n L0 T I S (k+i) o L' w'
 |[],_,_,_,_,i,o,h=>by simp at h
 |y::r,k,⟨h1,h2⟩,a,b,0,o,h=>by
  simp only [List.getElem?_cons_zero,Option.some.injEq] at h;subst h;exact fun S L' w' x=>h1 S L' w' x a b
 |y::r,k,⟨h1,h2⟩,a,b,i+1,o,h=>by
  have:=qe h2 a b i o (by simpa using h)
  rwa [show k+1+i=k+(i+1) by omega] at this
theorem yd {id:Nat} (T:XT X) (Mu:List Nat) (I:X→(Nat→Bool)→World→Prop) (hm:P.follows .mixedOrders=true) (hwf:py l=true) (hlt:(T.all fun p=>Nat.blt p.1 l.length)=true) (hU:vc (T.map fun p=>(p.1,p.2.1))=true) (hme:∀ x S i w1 w2,Mu.elem i=false→ah w1 w2→I x S w1→I x (dJ S i) w2) (h0:∃ x,I x (fun _=>false) { w with drawn:=w.drawn+1 })
 (hstep:ue P n L T Mu I l 0 l) (hend:∀ x w',I x (fun i=>decide (i<l.length)) w'→Q .normal (mkA n ((mW T x).map (fun p=>(p.2.1,p.2.2))++L)) w'):Cd P (.region id l.toArray true) Q n L w:=
 tY (fun S L' w'=>(∃ x,iO L (mW T x) S L'∧I x S w')∧iy l S) hm hwf ⟨let ⟨x,hx⟩:=h0;⟨x,⟨fun _ _=>rfl,fun _ _ h=>(by cases h),fun _ _ _=>rfl⟩,hx⟩,fun _ _ _ h=>by cases h⟩ (fun i o S L' w' ho ⟨⟨x,hI,hM⟩,hC⟩ hS hE=>by
  have:=qe hstep (ml hU) hme i o ho S L' w' x hI hM hC (by rw [Nat.zero_add];exact hS) (kX fun e he=>hE e (by simpa using he));rw [Nat.zero_add] at this;exact gL.mono (fun L2 w2 h=>⟨h,kZ hC ho hE⟩) this) fun L' w' ⟨⟨x,hI,hM⟩,_⟩=>by
  have h:=hend x w' hM
  have hlt':∀ p∈mW T x,decide (p.1<l.length)=true:=fun p hp=>by
   obtain ⟨y,hy,rfl⟩:=List.mem_map.1 hp;exact decide_eq_true (Nat.le_of_ble_eq_true (List.all_eq_true.1 hlt y hy))
  rw [zd (qN (ml hU)) hlt' hI];exact h
end
end Go.Proofs.YtkpooenofjdpmaaGreat
