/-
  TogS Shelf SortK WayToS WayToI
-/
import Derived.Test.YtgdgkgmjpnbbcaaGreatOn8
import Derived.Test.YtgdgkgmjpnbbcaaGreatOn9
import Derived.Deep.RegionHeld3
import Derived.Shelf.Small.Bits
import Derived.Shelf.Strconv.Itoa0
import Derived.Shelf.Sort.Plain
import Derived.Ground.Names2Prog
import Derived.Shelf.Slices.CompactI
import Derived.Shelf.Slices.SearchI
import Derived.Shelf.Slices.Cells
import Derived.Shelf.Slices.In.SortNone
import Derived.Test.YtgdgkgmjpnbbcaaGreatProg
import Derived.Test.YtgdgkgmjpnbbcaaGreatOn1
import Derived.Lib.OwnBridge
import Derived.Sort.OwnSortedInts
namespace Go.Proofs.YtgdgkgmjpnbbcaaGreat
open Go.RowKit
set_option linter.unusedSimpArgs false
set_option linter.unusedVariables false
set_option maxRecDepth 100000
set_option maxHeartbeats 8000000
def togD (x y:WayD):WayD:=if Zbi x y then x else if Zbi y x then y else ⟨x.to,x.cost,addL x.hops y.hops⟩
theorem Zf2 (a b:List Int):(addL a b).length<=6:=ZhH a b 6
theorem Zm6 {x y:WayD}{n:Nat}(hx:x.hops.length<=n)(hy:y.hops.length<=n)(h6:6<=n):(togD x y).hops.length<=n:=by
 unfold togD
 split
 ·exact hx
 ·split
  ·exact hy
  ·exact Nat.le_trans (Zf2 _ _) h6
theorem cellW3 {W:World}{g b j:Nat}{x0 x1 x2:Value}(h:b≠g):(((W.setCell ⟨g,0,none⟩ x0).setCell ⟨g,1,none⟩ x1).setCell ⟨g,2,none⟩ x2).cell? ⟨b,j,none⟩=W.cell? ⟨b,j,none⟩:=by
 refine World.cell?_of_block ?_
 show (((W.setCell ⟨g,0,none⟩ x0).setCell ⟨g,1,none⟩ x1).setCell ⟨g,2,none⟩ x2).heap[b]? = W.heap[b]?
 rw [heap_setCell_other _ ⟨g,2,none⟩ b _ h,heap_setCell_other _ ⟨g,1,none⟩ b _ h,heap_setCell_other _ ⟨g,0,none⟩ b _ h]
theorem ZkL (x y:WayD)(u1 u2:Value)(b1 b2:Nat)(w:World)(h1:w.ownsRow b1 3 1 u1 x.hops.length (flat intE x.hops))(h2:w.ownsRow b2 3 1 u2 y.hops.length (flat intE y.hops))(hx:x.hops.length<=1048576)(hy:y.hops.length<=1048576):
  Calls Tryz.prog 82 #[.agg (wayC x u1),.agg (wayC y u2)] w fun e w'=>∃ v',e=.returned (.agg (wayC (togD x y) v'))/\w'.ownsRow w.heap.size 3 1 v' (togD x y).hops.length (flat intE (togD x y).hops)/\Below w.heap.size w w':=by
 obtain⟨a1,c1,rfl⟩:=Zac h1;obtain⟨a2,c2,rfl⟩:=Zac h2;have HC1:=hide (fun W (hb:Below w.heap.size w W)=>Zgn x (.slice a1 x.hops.length c1) b1 W (Zaf h1 hb (Nat.le_refl _)) hx)
 have HC2:=hide (fun W (hb:Below w.heap.size w W)=>Zgn y (.slice a2 y.hops.length c2) b2 W (Zaf h2 hb (Nat.le_refl _)) hy)
 have HB1:=hide (fun W=>ZgO (.slice a1 x.hops.length c1) (.slice a2 y.hops.length c2) x y W)
 have HB2:=hide (fun W=>ZgO (.slice a2 y.hops.length c2) (.slice a1 x.hops.length c1) y x W)
 have HAD:=hide (fun W (hb:Below w.heap.size w W)=>ZbL (.slice a1 x.hops.length c1) (.slice a2 y.hops.length c2) x.hops y.hops W hx hy ((ZaR.later (Zar h1) hb (Nat.le_refl _)).more hb.size) ((ZaR.later (Zar h2) hb (Nat.le_refl _)).more hb.size))
 obtain⟨P,hP⟩:∃ P,P=Zbi x y:=⟨_,rfl⟩;obtain⟨Q,hQ⟩:∃ Q,Q=Zbi y x:=⟨_,rfl⟩;obtain⟨D,hD⟩:∃ D,D=togD x y:=⟨_,rfl⟩;rw [<-hP] at HB1;rw [<-hQ] at HB2;rw [<-hD];have HD:=hide hD;unfold togD at HD;rw [<-hP, <-hQ] at HD;have BW:=Zgh (w:=w) (.cells #[.int .i64 x.to,.int .i64 x.cost,.slice a1 x.hops.length c1] 48) (.cells #[.int .i64 y.to,.int .i64 y.cost,.slice a2 y.hops.length c2] 48) (.cells #[.int .i64 0,.int .i64 0,.slice none 0 0] 48);have q0:=Zmb w (.cells #[.int .i64 x.to,.int .i64 x.cost,.slice a1 x.hops.length c1] 48) (.cells #[.int .i64 y.to,.int .i64 y.cost,.slice a2 y.hops.length c2] 48) (.cells #[.int .i64 0,.int .i64 0,.slice none 0 0] 48);have q1:=Zmc w (.cells #[.int .i64 x.to,.int .i64 x.cost,.slice a1 x.hops.length c1] 48) (.cells #[.int .i64 y.to,.int .i64 y.cost,.slice a2 y.hops.length c2] 48) (.cells #[.int .i64 0,.int .i64 0,.slice none 0 0] 48);have q2:=Zmd w (.cells #[.int .i64 x.to,.int .i64 x.cost,.slice a1 x.hops.length c1] 48) (.cells #[.int .i64 y.to,.int .i64 y.cost,.slice a2 y.hops.length c2] 48) (.cells #[.int .i64 0,.int .i64 0,.slice none 0 0] 48);obtain⟨w0,hw0⟩:∃ W,W=((w.alloc (.cells #[.int .i64 x.to,.int .i64 x.cost,.slice a1 x.hops.length c1] 48)).alloc (.cells #[.int .i64 y.to,.int .i64 y.cost,.slice a2 y.hops.length c2] 48)).alloc (.cells #[.int .i64 0,.int .i64 0,.slice none 0 0] 48):=⟨_,rfl⟩;rw [<-hw0] at BW q0 q1 q2;clear h1 h2 hP hQ hD;unfold wayC at *;have fin:∀ (X:WayD) (na:Option Addr) (nc lo:Nat) (W:World),W.heap[w.heap.size+1+1]? = some (.cells #[.int .i64 0,.int .i64 0,.slice none 0 0] 48)->W.ownsRow lo 3 1 (.slice na X.hops.length nc) X.hops.length (flat intE X.hops)->w.heap.size+1+1<lo->Below w.heap.size w W->(Za7 W (w.heap.size+1+1) X (.slice na X.hops.length nc)).heap[w.heap.size+1+1]? = some (.cells (wayC X (.slice na X.hops.length nc)) 48)/\(Za7 W (w.heap.size+1+1) X (.slice na X.hops.length nc)).ownsRow w.heap.size 3 1 (.slice na X.hops.length nc) X.hops.length (flat intE X.hops)/\Below w.heap.size w (Za7 W (w.heap.size+1+1) X (.slice na X.hops.length nc)):=by
  intro X na nc lo W hz ho hlo hb;have G:=Za1 W (w.heap.size+1+1) X (.slice na X.hops.length nc);refine⟨Zdc X _ hz,Zah (Zao ho (fun k hk=>G.block k (ho.lt k hk).2 (fun e=>by have:=(ho.lt k hk).1;simp at e;omega))) (by omega),hb.grown G hb.size (fun k hk=>by simp at hk;omega)⟩
 have FIN:=hide fin;clear fin;have r0:=Zaa q0 0;have r1:=Zaa q0 1;have r2:=Zaa q0 2;have s0:=Zaa q1 0;have s1:=Zaa q1 1;have s2:=Zaa q1 2;simp at r0 r1 r2 s0 s1 s2
 have z0:=Zab q0;have z1:=Zab q1;have z2:=Zab q2
 go_enter Tryz.func82,Tryz.ntmps82
 go_wp2_with fail
 rw [<-hw0];clear hw0;refine (HB1.out _).mono ?_
 rintro e w1 ⟨rfl,e1⟩;have e1s:=e1.size;have B1:Below w.heap.size w w1:=BW.trans (e1.mono BW.size);have p0:=(e1.block _ z0).trans q0;have p1:=(e1.block _ z1).trans q1;have p2:=(e1.block _ z2).trans q2;clear r0 r1 r2 s0 s1 s2 q0 q1 q2 e1;have r0:=Zaa p0 0;have r1:=Zaa p0 1;have r2:=Zaa p0 2;have s0:=Zaa p1 0;have s1:=Zaa p1 1;have s2:=Zaa p1 2;simp at r0 r1 r2 s0 s1 s2
 cases P
 ·go_wp2_with fail
  refine (HB2.out _).mono ?_
  rintro e w2 ⟨rfl,e2⟩;have e2s:=e2.size;have B2:Below w.heap.size w w2:=B1.trans (e2.mono B1.size);have k0:=(e2.block _ (Zab p0)).trans p0;have k1:=(e2.block _ (Zab p1)).trans p1;have k2:=(e2.block _ (Zab p2)).trans p2;clear r0 r1 r2 s0 s1 s2 p0 p1 p2 e2;have r0:=Zaa k0 0;have r1:=Zaa k0 1;have r2:=Zaa k0 2;have s0:=Zaa k1 0;have s1:=Zaa k1 1;have s2:=Zaa k1 2;simp at r0 r1 r2 s0 s1 s2
  cases Q
  ·have hDe:D=⟨x.to,x.cost,addL x.hops y.hops⟩:=HD.out
   have zz0:w.heap.size<w2.heap.size:=by omega
   have zz1:w.heap.size+1<w2.heap.size:=by omega
   have B2D:Below w.heap.size w w2.drew:=B2.drew;have HAL:=hide (Zf2 x.hops y.hops);have K2:=hide k2;clear k0 k1 k2
   go_wp2
   go_region_held3 (fun W=>W.cell? ⟨w.heap.size,0,none⟩=some (.int .i64 x.to)/\W.cell? ⟨w.heap.size,1,none⟩=some (.int .i64 x.cost)/\W.cell? ⟨w.heap.size,2,none⟩=some (.slice a1 x.hops.length c1)/\W.cell? ⟨w.heap.size+1,2,none⟩=some (.slice a2 y.hops.length c2)) (first | (refine ⟨?_,?_,?_,?_⟩ <;> (rw [b3.cell (by assumption)];assumption)) | (refine ⟨?_,?_,?_,?_⟩ <;> (rw [cellW3 (by omega),b3.cell (by assumption)];assumption)) | go_keep) (first | (go_at_call 37;refine (HAD.out _ B2D).mono ?_;rintro e w3 ⟨v3,rfl,o3,b3⟩;obtain⟨na,nc,rfl⟩:=Zac o3;have k3:=(b3.block _ (show w.heap.size+1+1<w2.drew.heap.size from Zab K2.out)).trans K2.out;have t0:=Zaa k3 0;have t1:=Zaa k3 1;have t2:=Zaa k3 2;simp at t0 t1 t2;have ft:=Zae k3))
   have F:=FIN.out ⟨x.to,x.cost,addL x.hops y.hops⟩ na nc _ w3 k3 o3 (Zab K2.out) (B2D.trans (b3.mono B2D.size));subst hDe;clear k3 t0 t1 t2 ft;have FF:=hide F.1;have O5:=hide F.2.1;have B5:=hide F.2.2;clear F
   go_wp2_with fail
   (try simp only [Exit.inBlock,Exit.then])
   refine bodyPost_ret (results_cell_row rfl _ _ (w.heap.size+1+1) 48 (wayC _ _) (0,0) _ rfl FF.out Tryz.underlying48 rfl (by kernel_rfl)) rfl ?_
   exact⟨_,rfl,O5.out,B5.out⟩
  ·have hDe:D=y:=HD.out
   subst hDe
   go_wp2_with fail
   refine (HC2.out _ B2).mono ?_
   rintro e w3 ⟨v3,rfl,o3,b3⟩;obtain⟨na,nc,rfl⟩:=Zac o3;have k3:=(b3.block _ (Zab k2)).trans k2;have t0:=Zaa k3 0;have t1:=Zaa k3 1;have t2:=Zaa k3 2;simp at t0 t1 t2
   have ft:=Zae k3;have F:=FIN.out D na nc _ w3 k3 o3 (Zab k2) (B2.trans (b3.mono B2.size));clear k0 k1 k2 k3 o3 r0 r1 r2 s0 s1 s2;have FF:=hide F.1;have O5:=hide F.2.1;have B5:=hide F.2.2;clear F
   go_wp2_with fail
   (try simp only [Exit.inBlock,Exit.then])
   refine bodyPost_ret (results_cell_row rfl _ _ (w.heap.size+1+1) 48 (wayC _ _) (0,0) _ rfl FF.out Tryz.underlying48 rfl (by kernel_rfl)) rfl ?_
   exact⟨_,rfl,O5.out,B5.out⟩
 ·have hDe:D=x:=HD.out
  subst hDe
  go_wp2_with fail
  refine (HC1.out _ B1).mono ?_
  rintro e w3 ⟨v3,rfl,o3,b3⟩;obtain⟨na,nc,rfl⟩:=Zac o3;have k3:=(b3.block _ (Zab p2)).trans p2;have t0:=Zaa k3 0;have t1:=Zaa k3 1;have t2:=Zaa k3 2;simp at t0 t1 t2
  have ft:=Zae k3;have F:=FIN.out D na nc _ w3 k3 o3 (Zab p2) (B1.trans (b3.mono B1.size));clear p0 p1 p2 k3 o3 r0 r1 r2 s0 s1 s2;have FF:=hide F.1;have O5:=hide F.2.1;have B5:=hide F.2.2;clear F
  go_wp2_with fail
  (try simp only [Exit.inBlock,Exit.then])
  refine bodyPost_ret (results_cell_row rfl _ _ (w.heap.size+1+1) 48 (wayC _ _) (0,0) _ rfl FF.out Tryz.underlying48 rfl (by kernel_rfl)) rfl ?_
  exact⟨_,rfl,O5.out,B5.out⟩
end Go.Proofs.YtgdgkgmjpnbbcaaGreat
namespace Go.Proofs
open Go.Shelf
def Tryz.lays189_ren:Go.Shelf.Ren:=⟨fun | 189=>122 | 125=>120 | 257=>138 | 128=>136 | 129=>137 | 294=>147 | 295=>148 | 296=>149 | 297=>150 | 298=>151 | 299=>152 | 216=>153 | 300=>154 | 301=>155 | 328=>157 | 329=>143 | 330=>144 | 331=>158 | 332=>159 | 215=>124 | 343=>160 | n=>n,fun | 28=>37 | 3=>3 | 46=>142 | 0=>0 | 51=>190 | 53=>192 | 4=>4 | 183=>184 | 182=>183 | 131=>100 | 5=>5 | 9=>9 | 218=>197 | 222=>201 | 228=>208 | 229=>209 | n=>n,fun | n=>n⟩
theorem Tryz.lays189:Go.Proofs.Lays.n189 Tryz.prog Tryz.lays189_ren := {
 mixed:=by kernel_rfl
 f125:=Tryz.func120.trans (congrArg some (by kernel_rfl))
 f128:=Tryz.func136.trans (congrArg some (by kernel_rfl))
 f129:=Tryz.func137.trans (congrArg some (by kernel_rfl))
 f189:=Tryz.func122.trans (congrArg some (by kernel_rfl))
 f215:=Tryz.func124.trans (congrArg some (by kernel_rfl))
 f216:=Tryz.func153.trans (congrArg some (by kernel_rfl))
 f257:=Tryz.func138.trans (congrArg some (by kernel_rfl))
 f294:=Tryz.func147.trans (congrArg some (by kernel_rfl))
 f295:=Tryz.func148.trans (congrArg some (by kernel_rfl))
 f296:=Tryz.func149.trans (congrArg some (by kernel_rfl))
 f297:=Tryz.func150.trans (congrArg some (by kernel_rfl))
 f298:=Tryz.func151.trans (congrArg some (by kernel_rfl))
 f299:=Tryz.func152.trans (congrArg some (by kernel_rfl))
 f300:=Tryz.func154.trans (congrArg some (by kernel_rfl))
 f301:=Tryz.func155.trans (congrArg some (by kernel_rfl))
 f328:=Tryz.func157.trans (congrArg some (by kernel_rfl))
 f329:=Tryz.func143.trans (congrArg some (by kernel_rfl))
 f330:=Tryz.func144.trans (congrArg some (by kernel_rfl))
 f331:=Tryz.func158.trans (congrArg some (by kernel_rfl))
 f332:=Tryz.func159.trans (congrArg some (by kernel_rfl))
 f343:=Tryz.func160.trans (congrArg some (by kernel_rfl))
 t0:=Tryz.underlying0
 a0:=Tryz.isAgg0
 z0:=Tryz.sizeOf0
 v0:=Tryz.zeroValue0
 t3:=Tryz.underlying3
 a3:=Tryz.isAgg3
 z3:=Tryz.sizeOf3
 v3:=Tryz.zeroValue3
 t4:=Tryz.underlying4
 a4:=Tryz.isAgg4
 z4:=Tryz.sizeOf4
 v4:=Tryz.zeroValue4
 t5:=Tryz.underlying5
 a5:=Tryz.isAgg5
 z5:=Tryz.sizeOf5
 v5:=Tryz.zeroValue5
 t9:=Tryz.underlying9
 a9:=Tryz.isAgg9
 z9:=Tryz.sizeOf9
 v9:=Tryz.zeroValue9
 t28:=Tryz.underlying37
 a28:=Tryz.isAgg37
 z28:=Tryz.sizeOf37
 v28:=Tryz.zeroValue37
 t46:=Tryz.underlying142
 a46:=Tryz.isAgg142
 z46:=Tryz.sizeOf142
 v46:=Tryz.zeroValue142
 t51:=Tryz.underlying190
 a51:=Tryz.isAgg190
 z51:=Tryz.sizeOf190
 v51:=Tryz.zeroValue190
 t53:=Tryz.underlying192
 a53:=Tryz.isAgg192
 z53:=Tryz.sizeOf192
 v53:=Tryz.zeroValue192
 t131:=Tryz.underlying100
 a131:=Tryz.isAgg100
 z131:=Tryz.sizeOf100
 v131:=Tryz.zeroValue100
 t182:=Tryz.underlying183
 a182:=Tryz.isAgg183
 z182:=Tryz.sizeOf183
 v182:=Tryz.zeroValue183
 t183:=Tryz.underlying184
 a183:=Tryz.isAgg184
 z183:=Tryz.sizeOf184
 v183:=Tryz.zeroValue184
 t218:=Tryz.underlying197
 a218:=Tryz.isAgg197
 z218:=Tryz.sizeOf197
 v218:=Tryz.zeroValue197
 t222:=Tryz.underlying201
 a222:=Tryz.isAgg201
 z222:=Tryz.sizeOf201
 v222:=Tryz.zeroValue201
 t228:=Tryz.underlying208
 a228:=Tryz.isAgg208
 z228:=Tryz.sizeOf208
 v228:=Tryz.zeroValue208
 t229:=Tryz.underlying209
 a229:=Tryz.isAgg209
 z229:=Tryz.sizeOf209
 v229:=Tryz.zeroValue209 }
open Go.Sort Go.RowKit in
theorem Tryz.slices_Sort_int (blk off cap:Nat)(zs:List Int)(w:World)(hH:Holds (Value.int .i64) w blk off zs.toArray)(hblk:blk<w.heap.size)(hsz:zs.length<4611686018427387904):
  Calls Tryz.prog 122 #[.slice (some ⟨blk,off,none⟩) zs.length cap] w fun e w'=>
   e=.returned (.tuple #[])/\∃ n os,w'=grow (putRow (Value.int .i64) (Sort.ahead w n) blk off (zs.mergeSort fun x y=>decide (x<=y)).toArray) os:=Any.slices_Sort_int Tryz.lays189 blk off cap zs w hH hblk hsz
open Go.RowKit Go.Sort in
theorem Tryz.slices_Sort_int_none (p:Option Addr)(cap:Nat)(w:World):
  Calls Tryz.prog 122 #[.slice p 0 cap] w fun e w'=>e=.returned (.tuple #[])/\w'=w:=Any.slices_Sort_int_none Tryz.lays189 p cap w
def Tryz.laysNm220_ren:Go.Shelf.Ren:=⟨fun | 20=>123 | n=>n,fun | 22=>37 | 3=>3 | 4=>4 | 0=>0 | n=>n,fun | n=>n⟩
theorem Tryz.laysNm220:Go.Proofs.Lays2.n20 Tryz.prog Tryz.laysNm220_ren := {
 mixed:=by kernel_rfl
 f20:=Tryz.func123.trans (congrArg some (by kernel_rfl))
 t0:=Tryz.underlying0
 a0:=Tryz.isAgg0
 z0:=Tryz.sizeOf0
 v0:=Tryz.zeroValue0
 t3:=Tryz.underlying3
 a3:=Tryz.isAgg3
 z3:=Tryz.sizeOf3
 v3:=Tryz.zeroValue3
 t4:=Tryz.underlying4
 a4:=Tryz.isAgg4
 z4:=Tryz.sizeOf4
 v4:=Tryz.zeroValue4
 t22:=Tryz.underlying37
 a22:=Tryz.isAgg37
 z22:=Tryz.sizeOf37
 v22:=Tryz.zeroValue37
 i3:=by kernel_rfl }
open Go.RowKit Go.Lib Go.Sort in
theorem Tryz.slices_Compact_int (blk off cap:Nat)(zs:List Int)(w:World)(hH:Holds (Value.int .i64) w blk off zs.toArray)(hsz:zs.length<=9223372036854775807)(hcap:zs.length<=cap):
  Calls Tryz.prog 123 #[.slice (some ⟨blk,off,none⟩) zs.length cap] w fun e w'=>e=.returned (.slice (some ⟨blk,off,none⟩) (Lib.compact zs).length cap)/\∃ q,w'=putRow (Value.int .i64) (Sort.ahead w q) blk off (Lib.compact zs++List.replicate (zs.length-(Lib.compact zs).length) 0).toArray:=Any.slices_Compact_int Tryz.laysNm220 blk off cap zs w hH hsz hcap
open Go.RowKit Go.Lib Go.Sort in
theorem Tryz.slices_Compact_int_empty (a:Option Addr)(cap:Nat)(w:World):
  Calls Tryz.prog 123 #[.slice a 0 cap] w fun e w'=>e=.returned (.slice a 0 cap)/\w'=w:=Any.slices_Compact_int_empty Tryz.laysNm220 a cap w
end Go.Proofs
namespace Go.Proofs.YtgdgkgmjpnbbcaaGreat
open Go.RowKit

open Go.Sort Go.Lib in
theorem Zor (base:Nat)(u:Value)(zs:List Int)(w:World)(hown:w.ownsRow base 3 1 u zs.length (ZbH zs))(hz:zs.length<=1000000000):
  Calls Tryz.prog 122 #[u] w fun e w'=>e=.returned (.tuple #[])/\w'.ownsRow base 3 1 u (zs.mergeSort fun x y=>decide (x<=y)).length (ZbH (zs.mergeSort fun x y=>decide (x<=y)))/\(∀ B w0,B<=base->Below B w0 w->Below B w0 w'):=by
 by_cases h0:zs=[]
 ·subst h0
  obtain⟨a,cap,rfl⟩:=Zf9 hown;refine (Tryz.slices_Sort_int_none a cap w).mono ?_
  rintro e w' ⟨rfl,rfl⟩;exact⟨rfl,by simpa using hown,fun _ _ _ h=>h⟩
 ·have hne:0<zs.length:=List.length_pos_iff.2 h0
  obtain⟨g,cap,hv,hg,hlt,hnc,hcm,_,hH⟩:=holds_of_ownsRow (enc:=Value.int .i64) hown (fun e=>by
   obtain⟨g,cp,e2,_⟩:=ZfD hown hne;rw [e2] at e;cases e)
  subst hv;have hh:=hown.2
  rcases hh with ⟨e0,_⟩ | ⟨g',cap',cur,e0,_,hc,_,_,hs,_⟩
  ·cases e0
  ·cases e0
   refine (Tryz.slices_Sort_int g 0 cap zs w hH hlt (by omega)).mono ?_
   rintro e w' ⟨rfl,n,os,rfl⟩;have hl:(zs.mergeSort fun x y=>decide (x<=y)).length=zs.length:=List.length_mergeSort _
   refine⟨rfl,?_,fun B w0 hB h=>h.grown (grownBy_sortedI _) (by omega) (fun k hk=>by simp at hk;omega)⟩
   rw [hl];exact ownsRow_sortedI hl hg hc hnc hcm hs

open Go.Sort Go.Lib in
theorem Zjy (base:Nat)(u:Value)(zs:List Int)(w:World)(hown:w.ownsRow base 3 1 u zs.length (ZbH zs))(hz:zs.length<=1000000000):
  Calls Tryz.prog 123 #[u] w fun e w'=>∃ x,e=.returned x/\w'.ownsRow base 3 1 x (Lib.compact zs).length (ZbH (Lib.compact zs))/\(∀ B w0,B<=base->Below B w0 w->Below B w0 w'):=by
 by_cases h0:zs=[]
 ·subst h0
  obtain⟨a,cap,rfl⟩:=Zf9 hown;refine (Tryz.slices_Compact_int_empty a cap w).mono ?_
  rintro e w' ⟨rfl,rfl⟩;exact⟨_,rfl,by simpa [Lib.compact,Lib.compactUpTo] using hown,fun _ _ _ h=>h⟩
 ·have hne:0<zs.length:=List.length_pos_iff.2 h0
  obtain⟨g,cap,hv,hg,hlt,hnc,hcm,_,hH⟩:=holds_of_ownsRow (enc:=Value.int .i64) hown (fun e=>by
   obtain⟨g,cp,e2,_⟩:=ZfD hown hne;rw [e2] at e;cases e)
  subst hv;refine (Tryz.slices_Compact_int g 0 cap zs w hH (by omega) hnc).mono ?_
  rintro e w' ⟨rfl,q,rfl⟩;have hle:=Lib.compact_length_le zs;have ho:=ownsRow_putRow (q:=q) (k:=(Lib.compact zs).length) (ys:=Lib.compact zs++List.replicate (zs.length-(Lib.compact zs).length) 0) hown (by simp;omega) hle
  rw [List.take_append_of_le_length (Nat.le_refl _),List.take_length] at ho;exact⟨_,rfl,ho,fun B w0 hB h=>below_putRow h (by omega)⟩

theorem Zik (d:Array Int):∀ (m j:Nat),j<m->d[j]! ∈ Lib.compactUpTo d m
 | 0,j,h=>by omega
 | m+1,j,h=>by
  rw [Lib.compactUpTo_succ];by_cases hj:j<m
  ·exact List.mem_append_left _ (Zik d m j hj)
  ·obtain rfl:j=m:=by omega
   by_cases hk:Lib.keeps d j=true
   ·rw [if_pos hk];simp
   ·have hk2:¬(j=0\/d[j]! ≠ d[j-1]!):=by simpa [Lib.keeps] using hk
    have h0:0<j:=by omega
    have he:d[j]! = d[j-1]! := by
     by_cases e:d[j]! = d[j-1]!
     ·exact e
     ·exact absurd (Or.inr e) hk2
    rw [he];exact List.mem_append_left _ (Zik d j (j-1) (by omega))

theorem ZjS {zs:List Int}{x:Int}:x∈Lib.compact zs↔x∈zs:=by
 constructor
 ·intro h
  simp only [Lib.compact,Lib.compactUpTo,List.mem_map,List.mem_filter,List.mem_range] at h
  obtain⟨j,⟨hj,_⟩,rfl⟩:=h;have:zs.toArray[j]! = zs[j]:=by simp [hj]
  rw [this];exact List.getElem_mem hj
 ·intro h
  obtain⟨j,hj,rfl⟩:=List.mem_iff_getElem.1 h;have e:zs[j]=zs.toArray[j]! := by simp [hj]
  rw [e];exact Zik _ _ j hj

theorem ZkQ (d:Array Int)(n:Nat)(hs:∀ i j,i<=j->j<n->d[i]! <= d[j]!):∀ m,m<=n->(Lib.compactUpTo d m).Pairwise (· < ·)
 | 0,_=>by simp [Lib.compactUpTo]
 | m+1,h=>by
  rw [Lib.compactUpTo_succ,List.pairwise_append];refine⟨ZkQ d n hs m (by omega),by split <;> simp,fun x hx y hy=>?_⟩
  simp only [Lib.compactUpTo,List.mem_map,List.mem_filter,List.mem_range] at hx
  obtain⟨j,⟨hj,_⟩,rfl⟩:=hx
  split at hy
  ·rename_i hk
   have e:y=d[m]! := by simpa using hy
   subst e;have hk2:m=0\/d[m]! ≠ d[m-1]! := by simpa [Lib.keeps] using hk
   have h1:=hs j (m-1) (by omega) (by omega)
   have h2:=hs (m-1) m (by omega) (by omega)
   rcases hk2 with h3 | h3
   ·omega
   ·omega
  ·cases hy

theorem Zly {zs:List Int}(hp:zs.Pairwise (fun a b=>decide (a<=b)=true)):∀ i j,i<=j->j<zs.length->zs.toArray[i]! <= zs.toArray[j]! := by
 intro i j hij hj;have hi:i<zs.length:=by omega
 have e1:zs.toArray[i]! = zs[i]:=by simp [hi]
 have e2:zs.toArray[j]! = zs[j]:=by simp [hj]
 rw [e1,e2];by_cases e:i=j
 ·subst e;exact Int.le_refl _
 ·have:=List.pairwise_iff_getElem.1 hp i j hi hj (by omega)
  simpa using this

def Zck (a b:List Int):List Int:=Lib.compact ((a++b).mergeSort fun x y=>decide (x<=y))

theorem Ze0 {a b:List Int}{x:Int}:x∈Zck a b↔x∈a\/x∈b:=by
 unfold Zck;rw [ZjS,List.mem_mergeSort,List.mem_append]

theorem Zgu (a b:List Int):(Zck a b).Pairwise (· < ·):=by
 unfold Zck Lib.compact;refine ZkQ _ _ ?_ _ (Nat.le_refl _)
 have hp:=List.pairwise_mergeSort (le:=fun x y:Int=>decide (x<=y)) (fun a b c h1 h2=>by simp at h1 h2 |-;omega) (fun a b=>by simp;omega) (a++b)
 exact Zly hp

end Go.Proofs.YtgdgkgmjpnbbcaaGreat
namespace Go.Proofs.YtgdgkgmjpnbbcaaGreat
open Go.RowKit
set_option linter.unusedSimpArgs false
set_option linter.unusedVariables false
set_option maxRecDepth 100000
set_option maxHeartbeats 8000000
theorem Zax {P:Program}{fn:Func}{p u:Tmp}{ty:TypeId}(h:fn.results=#[.cell p ty,.tmp u])(tmps:Array Value)(w:World)(g:Nat)(t:TypeId)(cs:Array Value)(fr:Nat × Nat)(d:TypeDesc)
  (hp:tmps.getD p undef=.pointer (some ⟨g,0,none⟩)) (hg:w.heap[g]? = some (.cells cs t fr))
  (hu:P.underlying ty=some d) (hd:(match d with | .struct _ | .array _ _=>true | _=>false)=true) (hi:(P.info? ty).map (·.size)=some cs.size):
  (results fn tmps).run P w=.ok (.tuple #[.agg cs,tmps.getD u undef]) w:=by
 have hp':tmps[p]?.getD undef=.pointer (some ⟨g,0,none⟩):=by simpa using hp
 rw [results_cell_tmp h];simp [hp',asAddr,run_loadVar_row w g t ty cs fr d hg hu hd hi]
def ZaY (xs:List WayD)(z:Int):WayD:=(xs.find? (fun x=>x.to==z)).getD Zbg
def Za3 (xs:List WayD)(z:Int):Bool:=(xs.find? (fun x=>x.to==z)).isSome
theorem Zjm {ps:List WP}{k:Nat}{p:WP}{z:Int}(h:ps[k]? = some p)(hno:∀ q∈ps.take k,q.1.to≠z)(hz:p.1.to=z):ZaY (Zag ps) z=p.1/\Za3 (Zag ps) z=true:=by
 have e:(Zag ps).find? (fun x=>x.to==z)=some p.1:=by
  have h1:=ZcH h;obtain⟨hk,e1⟩:=List.getElem?_eq_some_iff.1 h1;rw [List.find?_eq_some_iff_append];refine⟨by simpa using hz,(Zag ps).take k,(Zag ps).drop (k+1),?_,?_⟩
  ·rw [<-e1, <-List.drop_eq_getElem_cons hk,List.take_append_drop]
  ·intro x hx
   have e2:(Zag ps).take k=Zag (ps.take k):=by simp [Zag]
   rw [e2] at hx;simp only [Zag,List.mem_map] at hx
   obtain⟨q,hq,rfl⟩:=hx
   simpa using hno q hq
 unfold ZaY Za3;rw [e];exact⟨rfl,rfl⟩
theorem ZhD {ps:List WP}{z:Int}(hno:∀ q∈ps,q.1.to≠z):ZaY (Zag ps) z=Zbg/\Za3 (Zag ps) z=false:=by
 have e:(Zag ps).find? (fun x=>x.to==z)=none:=by
  rw [List.find?_eq_none];intro x hx;simp only [Zag,List.mem_map] at hx
  obtain⟨q,hq,rfl⟩:=hx
  simpa using hno q hq
 unfold ZaY Za3;rw [e];exact⟨rfl,rfl⟩
theorem ZkM {ps:List WP}{k:Nat}{p:WP}{z:Int}(h:ps[k]? = some p)(hno:∀ q∈ps.take k,q.1.to≠z)(hz:p.1.to≠z):∀ q∈ps.take (k+1),q.1.to≠z:=by
 obtain⟨hk,e⟩:=List.getElem?_eq_some_iff.1 h;rw [List.take_succ_eq_append_getElem hk,e];intro q hq
 rcases List.mem_append.1 hq with h1 | h1
 ·exact hno q h1
 ·have:q=p:=by simpa using h1
  subst this;exact hz
theorem ZbT (v:Value)(ps:List WP)(lo hi:Nat)(z:Int)(w:World)(hv:WaysOwn w lo hi v ps)(hhi:hi<=w.heap.size)(hn:totW ps<=1048576):
  Calls Tryz.prog 11 #[v,.int .i64 z] w fun e w'=>∃ u,e=.returned (.tuple #[.agg (wayC (ZaY (Zag ps) z) u),.bool (Za3 (Zag ps) z)])/\w'.ownsRow w.heap.size 3 1 u (ZaY (Zag ps) z).hops.length (flat intE (ZaY (Zag ps) z).hops)/\Below w.heap.size w w':=by
 have hnl:=Zei ps;obtain⟨D,hD⟩:∃ D,D=ZaY (Zag ps) z:=⟨_,rfl⟩;obtain⟨F,hF⟩:∃ F,F=Za3 (Zag ps) z:=⟨_,rfl⟩;rw [<-hD, <-hF];have HD:=hide hD;have HF:=hide hF;clear hD hF;obtain⟨a1,c1,rfl⟩:=Zac hv.row;have HV:=hide hv;clear hv;have BX:Below w.heap.size w (w.alloc (.cells #[.int .i64 0,.int .i64 0,.slice none 0 0] 48)):=(Below.refl _ _).alloc (Nat.le_refl _) _;have hq:=heap_alloc_new w (.cells #[.int .i64 0,.int .i64 0,.slice none 0 0] 48);obtain⟨w0,hw0⟩:∃ W,W=w.alloc (.cells #[.int .i64 0,.int .i64 0,.slice none 0 0] 48):=⟨_,rfl⟩;rw [<-hw0] at BX hq;have hs0:=Zab hq;have HQ:=hide hq;clear hq;unfold wayC
 go_enter Tryz.func11,Tryz.ntmps11
 go_wp2
 rw [<-hw0];clear hw0
 go_loopw [6] (fun i wr=>∃ k:Nat,k<=ps.length/\i=.int .i64 k/\Hid (∀ q∈ps.take k,q.1.to≠z)/\Below w0.heap.size w0 wr) (fun i _=>ps.length-(intOf i).toNat)
 case atStart=>exact ⟨0,by omega,rfl,hide (by simp),Below.refl _ _⟩
 case round=>
  obtain⟨k,hk,rfl,HNO,hnx⟩:=hrel;have hsz:=hnx.size;have BWR:Below w.heap.size w wr:=BX.trans (hnx.mono (by omega))
  have hz1:=(hnx.block _ hs0).trans HQ.out;by_cases hlt:k<ps.length
  ·obtain ⟨p,hp⟩:∃ p,ps[k]? = some p:=⟨ps[k],List.getElem?_eq_getElem hlt⟩
   obtain⟨b,off,cp,hve,hbb,c0,c1,c2,_⟩:=HV.out.at.cells k p hp;cases hve
   have hbw:b<w.heap.size:=by omega
   have hno:=HV.out.nears p (List.mem_of_getElem? hp);obtain⟨pa,pc,hpn⟩:=Zac hno.1;have HCP:=hide (fun W (hb:Below w.heap.size w W)=>Zgn p.1 p.2 lo W (Zaf hno.1 hb (Nat.le_refl _)) (by have:=ZkP (List.mem_of_getElem? hp);omega))
   unfold wayC at HCP;rw [hpn] at c2 HCP;rw [<-BWR.cell (p:=⟨b,off+k*3,none⟩) hbw] at c0;rw [<-BWR.cell (p:=⟨b,off+k*3+1,none⟩) hbw] at c1;rw [<-BWR.cell (p:=⟨b,off+k*3+2,none⟩) hbw] at c2;have hki:(0:Int)<=(k:Int):=by omega
   have hkj:(k:Int)<(ps.length:Int):=by omega
   by_cases hzz:p.1.to=z
   ·have hh:=Zjm hp HNO.out hzz
    have hDe:D=p.1:=HD.out.trans hh.1;have hFe:F=true:=HF.out.trans hh.2;subst hDe hFe;subst hzz;clear hp hno hpn hh
    go_wp2_with fail
    refine (HCP.out _ BWR).mono ?_
    rintro e w2 ⟨v1,rfl,hn2,b2⟩;obtain⟨na,nc,rfl⟩:=Zac hn2;have b2s:=b2.size;have hz2:=(b2.block _ (Zab hz1)).trans hz1;have u0:=Zaa hz2 0;have u1:=Zaa hz2 1;have u2:=Zaa hz2 2;simp at u0 u1 u2
    have fu:=Zae hz2;have FF:=hide (Zdc p.1 (.slice na p.1.hops.length nc) hz2);have G8:=Za1 w2 w.heap.size p.1 (.slice na p.1.hops.length nc);have O3:=hide (Zah (b0:=w.heap.size) (hn2.kept G8 (by
     cases hv:(Value.slice na p.1.hops.length nc).ownBlock with
     | none=>exact .inl rfl
     | some g=>exact .inr (fun e=>by have:=(hn2.lt g hv).1;simp at e;omega))) (by omega))
    have B2:Below w.heap.size w w2:=BWR.trans (b2.mono (by omega))
    have BF:=hide (B2.grown G8 B2.size (fun k hk=>by simp at hk;omega))
    clear hz2 hn2 b2 G8 hz1
    go_wp2_with fail
    (try simp only [Exit.inBlock,Exit.then])
    refine bodyPost_ret (Zax rfl _ _ w.heap.size 48 (wayC p.1 (.slice na p.1.hops.length nc)) (0,0) _ rfl FF.out Tryz.underlying48 rfl (by kernel_rfl)) rfl ?_
    exact⟨_,rfl,O3.out,BF.out⟩
   ·have HN:=hide (ZkM hp HNO.out hzz)
    have hd:(p.1.to==z)=false:=by simpa using hzz
    clear hp hno hpn hz1
    go_wp2
    go_roundw
    case rel=>exact ⟨k+1,by omega,by go_num,HN,hnx⟩
    case measure=>simp [intOf];omega
  ·have hh:=ZhD (ps:=ps) (z:=z) (by have h:=HNO.out;rw [List.take_of_length_le (by omega)] at h;exact h)
   have hDe:D=Zbg:=HD.out.trans hh.1;have hFe:F=false:=HF.out.trans hh.2;subst hDe hFe;have u0:=Zaa hz1 0;have u1:=Zaa hz1 1;have u2:=Zaa hz1 2;simp at u0 u1 u2
   have fu:=Zae hz1;have FF:=hide (Zdc Zbg (.slice none 0 0) hz1);have G8:=hide (Za1 wr w.heap.size Zbg (.slice none 0 0));clear hz1 hh
   go_wp2_with fail
   (try simp only [Exit.inBlock,Exit.then])
   refine bodyPost_ret (Zax rfl _ _ w.heap.size 48 (wayC Zbg (.slice none 0 0)) (0,0) _ rfl FF.out Tryz.underlying48 rfl (by kernel_rfl)) rfl ?_
   exact⟨.slice none 0 0,rfl,World.ownsRow_nil _ _ _ _,BWR.grown G8.out BWR.size (fun k hk=>by simp at hk;omega)⟩
theorem ZeC (l:List Int)(v:Value)(base:Nat)(w:World)(ho:w.ownsRow base 3 1 v l.length (flat intE l))(hn:l.length<=1048576):
  Calls Tryz.prog 94 #[v] w fun e w'=>∃ v',e=.returned v'/\w'.ownsRow w.heap.size 3 1 v' l.length (flat intE l)/\Below w.heap.size w w':=by
 obtain⟨va,vc,rfl⟩:=Zac ho;have OW:=hide ho;clear ho
 go_enter Tryz.func94,Tryz.ntmps94
 go_wp2_with (first
  | (at_builtin;refine Zch Zdm (by omega) Zcr (by omega) _ rfl _ _ 37 rfl w.heap.size 3 Tryz.underlying37 (.int .i64 0) rfl Tryz.info3 _ [] rfl (World.ownsRow_nil _ _ _ _) base _ l rfl OW.out (by simp;omega) (by simp) ?_))
 intro v' w4 hown' hgrow;obtain⟨na,nc,rfl⟩:=Zac hown';simp only [Value.ownBlock] at hgrow
 have hb4:=hide (show Below w.heap.size w w4 from (Below.refl w.heap.size w).grown hgrow (Nat.le_refl _) (fun k hk=>by simp at hk))
 have H1:=hide hown';clear hown' hgrow
 go_wp2
 go_ret
 exact⟨_,rfl,by simpa using H1.out,hb4.out⟩
theorem ZfC (x:WayD)(v:Value)(base:Nat)(w:World)(ho:w.ownsRow base 3 1 v x.hops.length (flat intE x.hops))(hn:x.hops.length<=1048576):
  Calls Tryz.prog 61 #[.agg (wayC x v)] w fun e w'=>∃ v',e=.returned (.agg (wayC x v'))/\w'.ownsRow w.heap.size 3 1 v' x.hops.length (flat intE x.hops)/\Below w.heap.size w w':=by
 obtain⟨va,vc,rfl⟩:=Zac ho;have HC:=hide (fun W (hb:Below w.heap.size w W)=>ZeC x.hops (.slice va x.hops.length vc) base W (Zaf ho hb (Nat.le_refl _)) hn)
 clear ho
 go_enter Tryz.func61,Tryz.ntmps61
 unfold wayC
 go_wp2_with fail
 have hb0:Below w.heap.size w ((w.alloc (.cells #[.int .i64 x.to,.int .i64 x.cost,.slice va x.hops.length vc] 48)).alloc (.cells #[.int .i64 0,.int .i64 0,.slice none 0 0] 48)):=((Below.refl w.heap.size w).alloc (by simp) _).alloc (by simp) _
 have q0:((w.alloc (.cells #[.int .i64 x.to,.int .i64 x.cost,.slice va x.hops.length vc] 48)).alloc (.cells #[.int .i64 0,.int .i64 0,.slice none 0 0] 48)).heap[w.heap.size]? = some (.cells #[.int .i64 x.to,.int .i64 x.cost,.slice va x.hops.length vc] 48):=by
  rw [Below.heap_alloc _ _ _ (by simp),heap_alloc_new]
 have q1:((w.alloc (.cells #[.int .i64 x.to,.int .i64 x.cost,.slice va x.hops.length vc] 48)).alloc (.cells #[.int .i64 0,.int .i64 0,.slice none 0 0] 48)).heap[w.heap.size+1]? = some (.cells #[.int .i64 0,.int .i64 0,.slice none 0 0] 48):=by
  have e:=heap_alloc_new (w.alloc (.cells #[.int .i64 x.to,.int .i64 x.cost,.slice va x.hops.length vc] 48)) (.cells #[.int .i64 0,.int .i64 0,.slice none 0 0] 48);rw [show (w.alloc (.cells #[.int .i64 x.to,.int .i64 x.cost,.slice va x.hops.length vc] 48)).heap.size=w.heap.size+1 by simp] at e
  exact e
 generalize ((w.alloc (.cells #[.int .i64 x.to,.int .i64 x.cost,.slice va x.hops.length vc] 48)).alloc (.cells #[.int .i64 0,.int .i64 0,.slice none 0 0] 48))=w3 at *;refine (HC.out _ hb0).mono ?_
 rintro e w4 ⟨v',rfl,hown',hb4'⟩;obtain⟨na,nc,rfl⟩:=Zac hown';have hs1:=Zab q1;have hb4:Below w.heap.size w w4:=hb0.trans (hb4'.mono (by omega))
 have q0:=(hb4'.block _ (by omega)).trans q0
 have q1:=(hb4'.block _ hs1).trans q1;have r2:=Zaa q0 2;have f0:=Zae q0;simp at r2
 have q2:=heap_setCell_same w4 w.heap.size 2 _ _ (.slice na x.hops.length nc) q0;simp only [List.setIfInBounds_toArray,List.set_cons_zero,List.set_cons_succ] at q2
 have q3:(w4.setCell ⟨w.heap.size,2,none⟩ (.slice na x.hops.length nc)).heap[w.heap.size+1]? = some (.cells #[.int .i64 0,.int .i64 0,.slice none 0 0] 48):=by
  rw [heap_setCell_other w4 ⟨w.heap.size,2,none⟩ _ _ (by show w.heap.size+1≠w.heap.size;omega)];exact q1
 have y0:=Zaa q2 0;have y1:=Zaa q2 1;have y2:=Zaa q2 2;simp at y0 y1 y2
 have u0:=Zaa q3 0;have u1:=Zaa q3 1;have u2:=Zaa q3 2;simp at u0 u1 u2
 have fu:=Zae q3;have F:=Zdc x (.slice na x.hops.length nc) q3;have hown2:=ZaH (j:=2) (u:=.slice na x.hops.length nc) hown' (show w.heap.size<w3.heap.size by omega)
 have G8:=Za1 (w4.setCell ⟨w.heap.size,2,none⟩ (.slice na x.hops.length nc)) (w.heap.size+1) x (.slice na x.hops.length nc);have hown3:=Zah (b0:=w.heap.size) (hown2.kept G8 (by
  cases hv:(Value.slice na x.hops.length nc).ownBlock with
  | none=>exact .inl rfl
  | some g=>exact .inr (fun e=>by have:=(hown2.lt g hv).1;simp at e;omega))) (by omega)
 have hb5:Below w.heap.size w (Za7 (w4.setCell ⟨w.heap.size,2,none⟩ (.slice na x.hops.length nc)) (w.heap.size+1) x (.slice na x.hops.length nc)):=(hb4.setCell (p:=⟨w.heap.size,2,none⟩) (Nat.le_refl _) _).grown G8 (by have:=Zab q3;omega) (fun k hk=>by simp at hk;omega)
 have FF:=hide F;have H3:=hide hown3;have H5:=hide hb5;clear F hown3 hb5 hown2 G8 hb4 hown' hb4' q0 q1 q2 q3 hb0 HC
 go_wp2_with fail
 (try simp only [Exit.inBlock,Exit.then])
 refine bodyPost_ret (results_cell_row rfl _ _ (w.heap.size+1) 48 (wayC _ _) (0,0) _ rfl FF.out Tryz.underlying48 rfl (by kernel_rfl)) rfl ?_
 exact⟨_,rfl,H3.out,H5.out⟩
theorem Zeb (v:Value)(ps:List WP)(lo hi:Nat)(z:Int)(w:World)(hv:WaysOwn w lo hi v ps)(hhi:hi<=w.heap.size)(hn:totW ps<=1048576):
  Calls Tryz.prog 25 #[v,.int .i64 z] w fun e w'=>∃ u,e=.returned (.tuple #[.agg (wayC (ZaY (Zag ps) z) u),.bool (Za3 (Zag ps) z)])/\w'.ownsRow w.heap.size 3 1 u (ZaY (Zag ps) z).hops.length (flat intE (ZaY (Zag ps) z).hops)/\Below w.heap.size w w':=by
 have hnl:=Zei ps;obtain⟨D,hD⟩:∃ D,D=ZaY (Zag ps) z:=⟨_,rfl⟩;obtain⟨F,hF⟩:∃ F,F=Za3 (Zag ps) z:=⟨_,rfl⟩;rw [<-hD, <-hF];have HD:=hide hD;have HF:=hide hF;clear hD hF;obtain⟨a1,c1,rfl⟩:=Zac hv.row;have HV:=hide hv;clear hv;have BX:Below w.heap.size w (w.alloc (.cells #[.int .i64 0,.int .i64 0,.slice none 0 0] 48)):=(Below.refl _ _).alloc (Nat.le_refl _) _;have hq:=heap_alloc_new w (.cells #[.int .i64 0,.int .i64 0,.slice none 0 0] 48);obtain⟨w0,hw0⟩:∃ W,W=w.alloc (.cells #[.int .i64 0,.int .i64 0,.slice none 0 0] 48):=⟨_,rfl⟩;rw [<-hw0] at BX hq;have hs0:=Zab hq;have HQ:=hide hq;clear hq;unfold wayC
 go_enter Tryz.func25,Tryz.ntmps25
 go_wp2
 rw [<-hw0];clear hw0
 go_loopw [10] (fun i wr=>∃ k:Nat,k<=ps.length/\i=.int .i64 k/\Hid (∀ q∈ps.take k,q.1.to≠z)/\Below w0.heap.size w0 wr) (fun i _=>ps.length-(intOf i).toNat)
 case atStart=>exact ⟨0,by omega,rfl,hide (by simp),Below.refl _ _⟩
 case round=>
  obtain⟨k,hk,rfl,HNO,hnx⟩:=hrel;have hsz:=hnx.size;have BWR:Below w.heap.size w wr:=BX.trans (hnx.mono (by omega))
  have hz1:=(hnx.block _ hs0).trans HQ.out;by_cases hlt:k<ps.length
  ·obtain ⟨p,hp⟩:∃ p,ps[k]? = some p:=⟨ps[k],List.getElem?_eq_getElem hlt⟩
   obtain⟨b,off,cp,hve,hbb,c0,c1,c2,_⟩:=HV.out.at.cells k p hp;cases hve
   have hbw:b<w.heap.size:=by omega
   have hno:=HV.out.nears p (List.mem_of_getElem? hp);obtain⟨pa,pc,hpn⟩:=Zac hno.1;have HCP:=hide (fun W (hb:Below w.heap.size w W)=>ZfC p.1 p.2 lo W (Zaf hno.1 hb (Nat.le_refl _)) (by have:=ZkP (List.mem_of_getElem? hp);omega))
   unfold wayC at HCP;rw [hpn] at c2 HCP;rw [<-BWR.cell (p:=⟨b,off+k*3,none⟩) hbw] at c0;rw [<-BWR.cell (p:=⟨b,off+k*3+1,none⟩) hbw] at c1;rw [<-BWR.cell (p:=⟨b,off+k*3+2,none⟩) hbw] at c2;have hki:(0:Int)<=(k:Int):=by omega
   have hkj:(k:Int)<(ps.length:Int):=by omega
   by_cases hzz:p.1.to=z
   ·have hh:=Zjm hp HNO.out hzz
    have hDe:D=p.1:=HD.out.trans hh.1;have hFe:F=true:=HF.out.trans hh.2;subst hDe hFe;subst hzz;clear hp hno hpn hh
    go_wp2_with fail
    refine (HCP.out _ (BWR.alloc (by omega) _)).mono ?_
    rintro e w2 ⟨v1,rfl,hn2',b2'⟩;obtain⟨na,nc,rfl⟩:=Zac hn2';have hn2:=Zah (b0:=wr.heap.size) hn2' (by simp)
    have b2:Below wr.heap.size wr w2:=((Below.refl _ _).alloc (Nat.le_refl _) _).trans (b2'.mono (by simp))
    clear hn2' b2';have b2s:=b2.size;have hz2:=(b2.block _ (Zab hz1)).trans hz1;have u0:=Zaa hz2 0;have u1:=Zaa hz2 1;have u2:=Zaa hz2 2;simp at u0 u1 u2
    have fu:=Zae hz2;have FF:=hide (Zdc p.1 (.slice na p.1.hops.length nc) hz2);have G8:=Za1 w2 w.heap.size p.1 (.slice na p.1.hops.length nc);have O3:=hide (Zah (b0:=w.heap.size) (hn2.kept G8 (by
     cases hv:(Value.slice na p.1.hops.length nc).ownBlock with
     | none=>exact .inl rfl
     | some g=>exact .inr (fun e=>by have:=(hn2.lt g hv).1;simp at e;omega))) (by omega))
    have B2:Below w.heap.size w w2:=BWR.trans (b2.mono (by omega))
    have BF:=hide (B2.grown G8 B2.size (fun k hk=>by simp at hk;omega))
    clear hz2 hn2 b2 G8 hz1
    go_wp2_with fail
    (try simp only [Exit.inBlock,Exit.then])
    refine bodyPost_ret (Zax rfl _ _ w.heap.size 48 (wayC p.1 (.slice na p.1.hops.length nc)) (0,0) _ rfl FF.out Tryz.underlying48 rfl (by kernel_rfl)) rfl ?_
    exact⟨_,rfl,O3.out,BF.out⟩
   ·have HN:=hide (ZkM hp HNO.out hzz)
    have hd:(p.1.to==z)=false:=by simpa using hzz
    clear hp hno hpn hz1
    go_wp2
    go_roundw
    case rel=>exact ⟨k+1,by omega,by go_num,HN,hnx.alloc (by omega) _⟩
    case measure=>simp [intOf];omega
  ·have hh:=ZhD (ps:=ps) (z:=z) (by have h:=HNO.out;rw [List.take_of_length_le (by omega)] at h;exact h)
   have hDe:D=Zbg:=HD.out.trans hh.1;have hFe:F=false:=HF.out.trans hh.2;subst hDe hFe;have u0:=Zaa hz1 0;have u1:=Zaa hz1 1;have u2:=Zaa hz1 2;simp at u0 u1 u2
   have fu:=Zae hz1;have FF:=hide (Zdc Zbg (.slice none 0 0) hz1);have G8:=hide (Za1 wr w.heap.size Zbg (.slice none 0 0));clear hz1 hh
   go_wp2_with fail
   (try simp only [Exit.inBlock,Exit.then])
   refine bodyPost_ret (Zax rfl _ _ w.heap.size 48 (wayC Zbg (.slice none 0 0)) (0,0) _ rfl FF.out Tryz.underlying48 rfl (by kernel_rfl)) rfl ?_
   exact⟨.slice none 0 0,rfl,World.ownsRow_nil _ _ _ _,BWR.grown G8.out BWR.size (fun k hk=>by simp at hk;omega)⟩
end Go.Proofs.YtgdgkgmjpnbbcaaGreat
