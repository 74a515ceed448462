/-
  Parts.
-/
import Derived.Shelf.Small.Bits
import Derived.Shelf.Sort.Plain
import Derived.Shelf.Slices.SearchI
import Derived.Shelf.Slices.Cells
import Derived.Shelf.Slices.In.SortNone
import Derived.Test.YtikloccefmofdaaGreatRows
import Derived.WalkSpells
import Derived.WalkLawsBesides
import Derived.Deep.RegionHeld3
import Derived.Handy
namespace Go.Proofs.YtikloccefmofdaaGreat
open Go.RowKit
set_option linter.unusedSimpArgs false
set_option linter.unusedVariables false
set_option maxRecDepth 100000
set_option maxHeartbeats 8000000
theorem hide {p:Prop}(h:p):Hid p:=h
def bs (l:List UInt8):ByteArray:=⟨l.toArray⟩
def cellsOf (l:List UInt8):List Value:=l.map fun b=>Value.int .u8 (b.toNat:Int)
theorem add_zero' (b o:Nat):(⟨b,o,none⟩:Addr).add 0=⟨b,o,none⟩:=rfl
theorem ZaH (x:Int)(h0 : -1000000000000000000<=x)(h1:x<=1000000000000000000):IntKind.i64.wrap x=x:=by
 simp only [IntKind.wrap,IntKind.signed,IntKind.bits];simp;omega
theorem Zff {k:IntKind}{a b:Int}(h:a=b):Ending.returned (.int k a)=.returned (.int k b):=by rw [h]
end Go.Proofs.YtikloccefmofdaaGreat
namespace Go.Proofs
open Go.Shelf
def Tryz.lays189_ren:Go.Shelf.Ren:=⟨fun | 189=>156 | 125=>155 | 257=>177 | 128=>175 | 129=>176 | 294=>185 | 295=>186 | 296=>187 | 297=>188 | 298=>189 | 299=>190 | 216=>191 | 300=>192 | 301=>193 | 328=>197 | 329=>181 | 330=>182 | 331=>198 | 332=>199 | 215=>134 | 343=>200 | n=>n,fun | 28=>40 | 3=>3 | 46=>144 | 0=>0 | 51=>221 | 53=>223 | 4=>4 | 183=>215 | 182=>214 | 131=>117 | 5=>5 | 9=>9 | 218=>231 | 222=>235 | 228=>244 | 229=>92 | n=>n,fun | n=>n⟩
theorem Tryz.lays189:Go.Proofs.Lays.n189 Tryz.prog Tryz.lays189_ren := {
 mixed:=by kernel_rfl
 f125:=Tryz.func155.trans (congrArg some (by kernel_rfl))
 f128:=Tryz.func175.trans (congrArg some (by kernel_rfl))
 f129:=Tryz.func176.trans (congrArg some (by kernel_rfl))
 f189:=Tryz.func156.trans (congrArg some (by kernel_rfl))
 f215:=Tryz.func134.trans (congrArg some (by kernel_rfl))
 f216:=Tryz.func191.trans (congrArg some (by kernel_rfl))
 f257:=Tryz.func177.trans (congrArg some (by kernel_rfl))
 f294:=Tryz.func185.trans (congrArg some (by kernel_rfl))
 f295:=Tryz.func186.trans (congrArg some (by kernel_rfl))
 f296:=Tryz.func187.trans (congrArg some (by kernel_rfl))
 f297:=Tryz.func188.trans (congrArg some (by kernel_rfl))
 f298:=Tryz.func189.trans (congrArg some (by kernel_rfl))
 f299:=Tryz.func190.trans (congrArg some (by kernel_rfl))
 f300:=Tryz.func192.trans (congrArg some (by kernel_rfl))
 f301:=Tryz.func193.trans (congrArg some (by kernel_rfl))
 f328:=Tryz.func197.trans (congrArg some (by kernel_rfl))
 f329:=Tryz.func181.trans (congrArg some (by kernel_rfl))
 f330:=Tryz.func182.trans (congrArg some (by kernel_rfl))
 f331:=Tryz.func198.trans (congrArg some (by kernel_rfl))
 f332:=Tryz.func199.trans (congrArg some (by kernel_rfl))
 f343:=Tryz.func200.trans (congrArg some (by kernel_rfl))
 t0:=Tryz.underlying0
 a0:=Tryz.isAgg0
 z0:=Tryz.sizeOf0
 v0:=Tryz.zeroValue0
 t3:=Tryz.underlying3
 a3:=Tryz.isAgg3
 z3:=Tryz.sizeOf3
 v3:=Tryz.zeroValue3
 t4:=Tryz.underlying4
 a4:=Tryz.isAgg4
 z4:=Tryz.sizeOf4
 v4:=Tryz.zeroValue4
 t5:=Tryz.underlying5
 a5:=Tryz.isAgg5
 z5:=Tryz.sizeOf5
 v5:=Tryz.zeroValue5
 t9:=Tryz.underlying9
 a9:=Tryz.isAgg9
 z9:=Tryz.sizeOf9
 v9:=Tryz.zeroValue9
 t28:=Tryz.underlying40
 a28:=Tryz.isAgg40
 z28:=Tryz.sizeOf40
 v28:=Tryz.zeroValue40
 t46:=Tryz.underlying144
 a46:=Tryz.isAgg144
 z46:=Tryz.sizeOf144
 v46:=Tryz.zeroValue144
 t51:=Tryz.underlying221
 a51:=Tryz.isAgg221
 z51:=Tryz.sizeOf221
 v51:=Tryz.zeroValue221
 t53:=Tryz.underlying223
 a53:=Tryz.isAgg223
 z53:=Tryz.sizeOf223
 v53:=Tryz.zeroValue223
 t131:=Tryz.underlying117
 a131:=Tryz.isAgg117
 z131:=Tryz.sizeOf117
 v131:=Tryz.zeroValue117
 t182:=Tryz.underlying214
 a182:=Tryz.isAgg214
 z182:=Tryz.sizeOf214
 v182:=Tryz.zeroValue214
 t183:=Tryz.underlying215
 a183:=Tryz.isAgg215
 z183:=Tryz.sizeOf215
 v183:=Tryz.zeroValue215
 t218:=Tryz.underlying231
 a218:=Tryz.isAgg231
 z218:=Tryz.sizeOf231
 v218:=Tryz.zeroValue231
 t222:=Tryz.underlying235
 a222:=Tryz.isAgg235
 z222:=Tryz.sizeOf235
 v222:=Tryz.zeroValue235
 t228:=Tryz.underlying244
 a228:=Tryz.isAgg244
 z228:=Tryz.sizeOf244
 v228:=Tryz.zeroValue244
 t229:=Tryz.underlying92
 a229:=Tryz.isAgg92
 z229:=Tryz.sizeOf92
 v229:=Tryz.zeroValue92 }
open Go.Sort Go.RowKit in
theorem Tryz.slices_Sort_int (blk off cap:Nat)(zs:List Int)(w:World)(hH:Holds (Value.int .i64) w blk off zs.toArray)(hblk:blk<w.heap.size)(hsz:zs.length<4611686018427387904):
  Calls Tryz.prog 156 #[.slice (some ⟨blk,off,none⟩) zs.length cap] w fun e w'=>
   e=.returned (.tuple #[])/\∃ n os,w'=grow (putRow (Value.int .i64) (Sort.ahead w n) blk off (zs.mergeSort fun x y=>decide (x<=y)).toArray) os:=Any.slices_Sort_int Tryz.lays189 blk off cap zs w hH hblk hsz
open Go.RowKit Go.Sort in
theorem Tryz.slices_Sort_int_none (p:Option Addr)(cap:Nat)(w:World):
  Calls Tryz.prog 156 #[.slice p 0 cap] w fun e w'=>e=.returned (.tuple #[])/\w'=w:=Any.slices_Sort_int_none Tryz.lays189 p cap w
def Tryz.laysNm220_ren:Go.Shelf.Ren:=⟨fun | 20=>157 | n=>n,fun | 22=>40 | 3=>3 | 4=>4 | 0=>0 | n=>n,fun | n=>n⟩
theorem Tryz.laysNm220:Go.Proofs.Lays2.n20 Tryz.prog Tryz.laysNm220_ren := {
 mixed:=by kernel_rfl
 f20:=Tryz.func157.trans (congrArg some (by kernel_rfl))
 t0:=Tryz.underlying0
 a0:=Tryz.isAgg0
 z0:=Tryz.sizeOf0
 v0:=Tryz.zeroValue0
 t3:=Tryz.underlying3
 a3:=Tryz.isAgg3
 z3:=Tryz.sizeOf3
 v3:=Tryz.zeroValue3
 t4:=Tryz.underlying4
 a4:=Tryz.isAgg4
 z4:=Tryz.sizeOf4
 v4:=Tryz.zeroValue4
 t22:=Tryz.underlying40
 a22:=Tryz.isAgg40
 z22:=Tryz.sizeOf40
 v22:=Tryz.zeroValue40
 i3:=by kernel_rfl }
open Go.RowKit Go.Lib Go.Sort in
theorem Tryz.slices_Compact_int (blk off cap:Nat)(zs:List Int)(w:World)(hH:Holds (Value.int .i64) w blk off zs.toArray)(hsz:zs.length<=9223372036854775807)(hcap:zs.length<=cap):
  Calls Tryz.prog 157 #[.slice (some ⟨blk,off,none⟩) zs.length cap] w fun e w'=>e=.returned (.slice (some ⟨blk,off,none⟩) (Lib.compact zs).length cap)/\∃ q,w'=putRow (Value.int .i64) (Sort.ahead w q) blk off (Lib.compact zs++List.replicate (zs.length-(Lib.compact zs).length) 0).toArray:=Any.slices_Compact_int Tryz.laysNm220 blk off cap zs w hH hsz hcap
open Go.RowKit Go.Lib Go.Sort in
theorem Tryz.slices_Compact_int_empty (a:Option Addr)(cap:Nat)(w:World):
  Calls Tryz.prog 157 #[.slice a 0 cap] w fun e w'=>e=.returned (.slice a 0 cap)/\w'=w:=Any.slices_Compact_int_empty Tryz.laysNm220 a cap w
end Go.Proofs
namespace Go.Proofs.YtikloccefmofdaaGreat

def Zca (v:Nat):Prop:=1<=v/\v<=6

structure Links (L:Nat->Nat->Int) (K:Int):Prop where
 pos:∀ u v,0<=L u v
 le:∀ u v,L u v<=K
 node:∀ u v,0<L u v->Zca u/\Zca v

def Zdq (src:Nat)(h:Nat->List Int)(u v:Nat)(x:Int):Prop:=(u=src/\x=(v:Int))\/(u≠src/\x∈h u)

structure Inv (L:Nat->Nat->Int) (src:Nat) (F:Nat->Bool) (c:Nat->Int) (h:Nat->List Int):Prop where
 fnode:∀ v,F v=true->Zca v/\0<=c v
 cnode:∀ v,0<=c v->Zca v
 start:c src=0
 start0:h src=[]
 closed:∀ u v,F u=true->0<L u v->0<=c v/\c v<=c u+L u v
 pred:∀ v,v≠src->0<=c v->∃ u,F u=true/\0<L u v/\c v=c u+L u v
 mono:∀ u v,F u=true->F v=false->0<=c v->c u<=c v
 hop:∀ v,v≠src->∀ x,x∈h v↔0<=c v/\∃ u,F u=true/\0<L u v/\c v=c u+L u v/\Zdq src h u v x
 asc:∀ v,(h v).Pairwise (· < ·)
 rng:∀ v x,x∈h v->1<=x/\x<=6

def Zaz (L:Nat->Nat->Int)(c:Nat->Int)(u v:Nat):Int:=
 if 0<L u v/\(c v<0\/c u+L u v<c v) then c u+L u v else c v

theorem Zkw {L:Nat->Nat->Int}{c:Nat->Int}{u v:Nat}(h:0<=c v):Zaz L c u v<=c v:=by
 unfold Zaz;split <;> omega

theorem Zpp {L:Nat->Nat->Int}{c:Nat->Int}{u v:Nat}(hu:0<=c u)(h:0<=c v):0<=Zaz L c u v:=by
 unfold Zaz;split <;> omega

theorem ZdT {L:Nat->Nat->Int}{c:Nat->Int}{u v:Nat}(h0:0<=c v)(h:c v<=c u):Zaz L c u v=c v:=by
 unfold Zaz;split <;> omega

structure RelaxH (L:Nat->Nat->Int) (src:Nat) (c:Nat->Int) (h:Nat->List Int) (u v:Nat) (h':List Int):Prop where
 asc:h'.Pairwise (· < ·)
 mem:∀ x,x∈h'↔((x∈h v/\Zaz L c u v=c v)\/(0<L u v/\Zaz L c u v=c u+L u v/\Zdq src h u v x))

theorem Inv.step {L:Nat->Nat->Int}{K:Int}{src:Nat}{F:Nat->Bool}{c:Nat->Int}{h:Nat->List Int}(I:Inv L src F c h)(hL:Links L K)
  {u:Nat} (hu:F u=false) (hcu:0<=c u) (hmin:∀ v,F v=false->0<=c v->c u<=c v) {h':Nat->List Int} (hh:∀ v,RelaxH L src c h u v (h' v)):
  Inv L src (fun v=>F v||v==u) (fun v=>Zaz L c u v) h':=by
 have hup:∀ v,F v=true->c v<=c u:=fun v hv=>I.mono v u hv hu hcu;have keep:∀ v,F v=true->Zaz L c u v=c v:=fun v hv=>ZdT (I.fnode v hv).2 (hup v hv);have keepu:Zaz L c u u=c u:=ZdT hcu (Int.le_refl _);have hsrc:Zaz L c u src=0:=by
  have:=I.start;unfold Zaz;split <;> omega
 have hFn:∀ v,F v=true->v≠u:=fun v hv e=>by rw [e,hu] at hv;cases hv
 -- hops of done nodes and of u stay
 have hsame:∀ v,0<=c v->c v<=c u->∀ x,x∈h' v↔x∈h v:=by
  intro v h0 hv x;rw [(hh v).mem x];have e:=ZdT (L:=L) h0 hv;constructor
  ·rintro (⟨h1,_⟩ | ⟨h1,h2,_⟩)
   ·exact h1
   ·omega
  ·intro h1;exact .inl ⟨h1,e⟩
 have hover:∀ w,(F w=true\/w=u)->∀ v x,Zdq src h' w v x↔Zdq src h w v x:=by
  intro w hw v x;have:∀ x,x∈h' w↔x∈h w:=by
   rcases hw with hw | rfl
   ·exact hsame w (I.fnode w hw).2 (hup w hw)
   ·exact hsame _ hcu (Int.le_refl _)
  unfold Zdq;rw [this x]
 have hFu:∀ v,(F v||v==u)=true↔(F v=true\/v=u):=by
  intro v;simp
 refine⟨?_,?_,hsrc,?_,?_,?_,?_,?_,fun v=>(hh v).asc,?_⟩
 ·intro v hv;rcases (hFu v).1 hv with h1 | rfl
  ·refine ⟨(I.fnode v h1).1,?_⟩;show 0<=Zaz L c u v;rw [keep v h1];exact (I.fnode v h1).2
  ·refine ⟨I.cnode _ hcu,?_⟩;show 0<=Zaz L c _ _;rw [keepu];exact hcu
 ·intro v hv;have hv':0<=Zaz L c u v:=hv;unfold Zaz at hv'
  split at hv'
  ·rename_i h1;exact (hL.node u v h1.1).2
  ·exact I.cnode v hv'
 ·have:∀ x,x ∉ h' src:=by
   intro x hx;rw [(hh src).mem x,I.start0] at hx;rcases hx with ⟨h1,_⟩ | ⟨h1,h2,_⟩
   ·cases h1
   ·rw [hsrc] at h2;omega
  exact List.eq_nil_iff_forall_not_mem.2 this
 ·intro w v hw hl;show 0<=Zaz L c u v/\Zaz L c u v<=Zaz L c u w+L w v;rcases (hFu w).1 hw with h1 | rfl
  ·rw [keep w h1];have:=I.closed w v h1 hl;have h2:=Zkw (L:=L) (u:=u) this.1;have h3:=Zpp (L:=L) hcu this.1;omega
  ·rw [keepu];unfold Zaz
   split <;> omega
 ·intro v hv h0;have h0':0<=Zaz L c u v:=h0;show ∃ w,(F w||w==u)=true/\0<L w v/\Zaz L c u v=Zaz L c u w+L w v;by_cases h1:0<L u v/\(c v<0\/c u+L u v<c v)
  ·refine ⟨u,by simp,h1.1,?_⟩;rw [keepu];unfold Zaz;rw [if_pos h1]
  ·have e:Zaz L c u v=c v:=by unfold Zaz;rw [if_neg h1]
   rw [e] at h0' |-;obtain⟨w,hw,hl,hc⟩:=I.pred v hv h0';exact⟨w,by simp [hw],hl,by rw [keep w hw];exact hc⟩
 ·intro w v hw hv h0;have h0':0<=Zaz L c u v:=h0;have hv1:F v=false:=by cases hfv:F v <;> simp [hfv] at hv |-
  show Zaz L c u w<=Zaz L c u v;have hwc:Zaz L c u w<=c u:=by
   rcases (hFu w).1 hw with h1 | rfl
   ·rw [keep w h1];exact hup w h1
   ·rw [keepu];omega
  have huv:c u<=Zaz L c u v:=by
   by_cases h1:0<L u v/\(c v<0\/c u+L u v<c v)
   ·unfold Zaz;rw [if_pos h1];omega
   ·have e:Zaz L c u v=c v:=by unfold Zaz;rw [if_neg h1]
    rw [e] at h0' |-;exact hmin v hv1 h0'
  omega
 ·intro v hv x;show x∈h' v↔0<=Zaz L c u v/\∃ w,(F w||w==u)=true/\0<L w v/\Zaz L c u v=Zaz L c u w+L w v/\Zdq src h' w v x;rw [(hh v).mem x];constructor
  ·rintro (⟨h1,h2⟩ | ⟨h1,h2,h3⟩)
   ·obtain ⟨h0,w,hw,hl,hc,ho⟩:=(I.hop v hv x).1 h1;rw [h2];exact⟨h0,w,by simp [hw],hl,by rw [keep w hw];exact hc,(hover w (.inl hw) v x).2 ho⟩
   ·refine ⟨by omega,u,by simp,h1,by rw [keepu];exact h2,(hover u (.inr rfl) v x).2 h3⟩
  ·rintro ⟨h0,w,hw,hl,hc,ho⟩;rcases (hFu w).1 hw with h1 | rfl
   ·rw [keep w h1] at hc;have hcl:=I.closed w v h1 hl;have h3:=Zkw (L:=L) (u:=u) hcl.1;have e:Zaz L c u v=c v:=by omega
    refine .inl ⟨(I.hop v hv x).2 ⟨hcl.1,w,h1,hl,by omega,(hover w (.inl h1) v x).1 ho⟩,e⟩
   ·rw [keepu] at hc;exact .inr ⟨hl,hc,(hover _ (.inr rfl) v x).1 ho⟩
 ·intro v x hx;rw [(hh v).mem x] at hx;rcases hx with ⟨h1,_⟩ | ⟨h1,_,h3⟩
  ·exact I.rng v x h1
  ·rcases h3 with ⟨_,rfl⟩ | ⟨_,h4⟩
   ·have:=(hL.node u v h1).2;unfold Zca at this;omega
   ·exact I.rng u x h4

theorem ZiH:∀ {a b:List Int},a.Pairwise (· < ·)->b.Pairwise (· < ·)->(∀ x,x∈a↔x∈b)->a=b
 | [],[],_,_,_=>rfl
 | [],y::ys,_,_,h=>by have:=(h y).2 (by simp);cases this
 | x::xs,[],_,_,h=>by have:=(h x).1 (by simp);cases this
 | x::xs,y::ys,ha,hb,h=>by
  have ha':=List.pairwise_cons.1 ha;have hb':=List.pairwise_cons.1 hb;have hxy:x=y:=by
   have h1:=(h x).1 (by simp);have h2:=(h y).2 (by simp);rcases List.mem_cons.1 h1 with e | e
   ·exact e
   ·rcases List.mem_cons.1 h2 with e2 | e2
    ·exact e2.symm
    ·have:=ha'.1 y e2;have:=hb'.1 x e;omega
  subst hxy;have:xs=ys:=by
   refine ZiH ha'.2 hb'.2 (fun z=>?_);have hz:=h z;constructor
   ·intro hm;have h1:=hz.1 (List.mem_cons_of_mem _ hm);rcases List.mem_cons.1 h1 with e | e
    ·have:=ha'.1 z hm;omega
    ·exact e
   ·intro hm;have h1:=hz.2 (List.mem_cons_of_mem _ hm);rcases List.mem_cons.1 h1 with e | e
    ·have:=hb'.1 z hm;omega
    ·exact e
  rw [this]

def Fix (L:Nat->Nat->Int)(src:Nat)(c:Nat->Int)(h:Nat->List Int):Prop:=∃ F,Inv L src F c h/\∀ v,0<=c v->F v=true

theorem Fix.cost_le {L:Nat->Nat->Int}{src:Nat}{c d:Nat->Int}{h g:Nat->List Int}(A:Fix L src c h)(B:Fix L src d g):
  ∀ (n:Nat) (v:Nat),0<=c v->(c v).toNat<=n->0<=d v/\d v<=c v:=by
 obtain⟨F,I,hF⟩:=A;obtain⟨G,J,hG⟩:=B;intro n
 induction n with
 | zero=>
  intro v h0 hn;by_cases hv:v=src
  ·subst hv;rw [J.start];omega
  ·obtain ⟨u,hu,hl,hc⟩:=I.pred v hv h0;have:=(I.fnode u hu).2;omega
 | succ n ih=>
  intro v h0 hn;by_cases hv:v=src
  ·subst hv;rw [J.start,I.start];omega
  ·obtain ⟨u,hu,hl,hc⟩:=I.pred v hv h0;have h1:=(I.fnode u hu).2;have h2:=ih u h1 (by omega);have h3:=J.closed u v (hG u h2.1) hl;omega

theorem Fix.cost {L:Nat->Nat->Int}{src:Nat}{c d:Nat->Int}{h g:Nat->List Int}(A:Fix L src c h)(B:Fix L src d g)(v:Nat)(h0:0<=c v):d v=c v:=by
 have h1:=A.cost_le B _ v h0 (Nat.le_refl _);have h2:=B.cost_le A _ v h1.1 (Nat.le_refl _);omega

theorem Fix.hops_sub {L:Nat->Nat->Int}{src:Nat}{c d:Nat->Int}{h g:Nat->List Int}(A:Fix L src c h)(B:Fix L src d g):
  ∀ (n:Nat) (v:Nat),0<=c v->(c v).toNat<=n->∀ x,x∈h v->x∈g v:=by
 have hcost:=A.cost B;obtain⟨F,I,hF⟩:=A;obtain⟨G,J,hG⟩:=B;intro n
 induction n with
 | zero=>
  intro v h0 hn x hx;by_cases hv:v=src
  ·subst hv;rw [I.start0] at hx;cases hx
  ·obtain ⟨u,hu,hl,hc⟩:=I.pred v hv h0;have:=(I.fnode u hu).2;omega
 | succ n ih=>
  intro v h0 hn x hx;by_cases hv:v=src
  ·subst hv;rw [I.start0] at hx;cases hx
  ·obtain ⟨_,u,hu,hl,hc,ho⟩:=(I.hop v hv x).1 hx;have h1:=(I.fnode u hu).2;have eu:=hcost u h1;have ev:=hcost v h0;refine (J.hop v hv x).2 ⟨by omega,u,hG u (by omega),hl,by omega,?_⟩;rcases ho with h3 | ⟨h3,h4⟩
   ·exact .inl h3
   ·exact .inr ⟨h3,ih u h1 (by omega) x h4⟩

theorem Fix.hops {L:Nat->Nat->Int}{src:Nat}{c d:Nat->Int}{h g:Nat->List Int}(A:Fix L src c h)(B:Fix L src d g)(v:Nat)(h0:0<=c v):g v=h v:=by
 have e:=A.cost B v h0;have sub1:=A.hops_sub B _ v h0 (Nat.le_refl _);have sub2:=B.hops_sub A _ v (by omega:0<=d v) (Nat.le_refl _);obtain⟨F,I,_⟩:=A;obtain⟨G,J,_⟩:=B;exact ZiH (J.asc v) (I.asc v) (fun x=>⟨sub2 x,sub1 x⟩)

theorem Inv.init {L:Nat->Nat->Int}{src:Nat}(hs:Zca src):Inv L src (fun _=>false) (fun v=>if v=src then 0 else -1) (fun _=>[]):=by
 refine⟨by simp,?_,by simp,rfl,by simp,?_,by simp,?_,by simp,by simp⟩
 ·intro v hv;have hv':(0:Int)<=if v=src then 0 else -1:=hv
  split at hv'
  ·rename_i e;rw [e];exact hs
  ·omega
 ·intro v hv h0;have h0':(0:Int)<=if v=src then 0 else -1:=h0
  rw [if_neg hv] at h0';omega
 ·intro v hv x;simp [hv]
end Go.Proofs.YtikloccefmofdaaGreat
namespace Go.Proofs.YtikloccefmofdaaGreat
open Go.RowKit
set_option linter.unusedSimpArgs false
set_option linter.unusedVariables false
set_option maxRecDepth 100000
set_option maxHeartbeats 8000000
theorem YA:∀ (n:Nat),n<=n:=@Nat.le_refl
theorem YAA:∀ {α:Type}{l:List α}{i:Nat}(h:i<l.length),l[i]? = some l[i]:=@List.getElem?_eq_getElem
theorem YAB:∀ {n m k:Nat},n<m->m<=k->n<k:=@Nat.lt_of_lt_of_le
theorem YAC:∀ (B:Nat)(w:World),Below B w w:=@Below.refl
theorem YAD:∀ {α:Type}{i:Nat}{a:α}{l:List α},l[i]? = some a↔∃ (h:i<l.length),l[i]=a:=@List.getElem?_eq_some_iff
theorem YAE:∀ (w:World)(o:Obj),(w.alloc o).heap[w.heap.size]? = some o:=@heap_alloc_new
theorem YAF:∀ {α:Type}{a:α}{s t:List α},a∈s++t↔a∈s\/a∈t:=@List.mem_append
theorem YAG:∀ {α:Type}{l:List α}{i:Nat}{a:α},l[i]? = some a->a∈l:=@List.mem_of_getElem?
theorem YAH:∀ (w:World)(o:Obj)(k:Nat),k<w.heap.size->(w.alloc o).heap[k]? = w.heap[k]? := @Below.heap_alloc
theorem YAI:∀ {α:Type}{i:Nat}{l:List α}(h:i<l.length),List.take (i+1) l=List.take i l++[l[i]]:=@List.take_succ_eq_append_getElem
theorem YAJ:∀ (a b:Bool),((a&&b)=true)=(a=true/\b=true):=@Bool.and_eq_true
theorem YAK:∀ {n m k:Nat},n<=m->m<=k->n<=k:=@Nat.le_trans
theorem YAL:∀ {α:Type}{i:Nat}{l:List α},l.length<=i->List.take i l=l:=@List.take_of_length_le
theorem YAM:∀ {α:Type}{R:α->α->Prop}{l₁ l₂:List α},List.Pairwise R (l₁++l₂)↔List.Pairwise R l₁/\List.Pairwise R l₂/\∀ (a:α),a∈l₁->∀ (b:α),b∈l₂->R a b:=@List.pairwise_append
theorem YAN:∀ {α:Type}{«as» bs:List α},(«as» ++ bs).length=«as».length+bs.length:=@List.length_append
theorem YAO:∀ (w:World)(a:Addr)(k:Nat)(v:Value),k≠a.block->(w.setCell a v).heap[k]? = w.heap[k]? := @heap_setCell_other
theorem YAP:∀ {α:Type}{p:α->Bool}{«as» : List α}{x:α},x∈List.filter p «as» ↔ x∈«as» /\ p x=true:=@List.mem_filter
theorem YAQ:∀ {a b:Nat},a<=b->min a b=a:=@Nat.min_eq_left
theorem YAR:∀ {α:Type}{β:Type}{b:β}{f:α->β}{l:List α},b∈List.map f l↔∃ (a:α),a∈l/\f a=b:=@List.mem_map
theorem YAS:∀ {p:Prop} [inst:Decidable p],(decide p=true)=p:=@decide_eq_true_eq
theorem YAT:∀ {p:Prop} [inst:Decidable p],p->decide p=true:=@decide_eq_true
theorem YAU:∀ (w:World)(g i:Nat)(cs:Array Value)(t:TypeId)(v:Value),w.heap[g]? = some (Obj.cells cs t)->(w.setCell { block:=g,off:=i } v).heap[g]? = some (Obj.cells (cs.setIfInBounds i v) t):=@heap_setCell_same
theorem YAV:∀ {α:Type}{i:Nat}{l:List α},(List.take i l).length=min i l.length:=@List.length_take
theorem YAW:∀ {α:Type}{a:α}{l:List α},(a::l)[0]? = some a:=@List.getElem?_cons_zero
theorem YAX:∀ {α:Type}{a:α}{i:Nat}{l:List α},(a::l)[i+1]? = l[i]? := @List.getElem?_cons_succ
theorem YAY:∀ {α:Type}(«as» bs cs:List α),«as» ++ bs++cs=«as» ++ (bs++cs):=@List.append_assoc
theorem YAZ:∀ (w:World)(base:Nat)(e:TypeId)(size:Nat),w.ownsRow base e size (Value.slice none 0 0) 0 []:=@World.ownsRow_nil
theorem YAa:∀ {α:Type}{R:α->α->Prop}{l:List α},List.Pairwise R l↔∀ (i j:Nat) (_hi:i<l.length) (_hj:j<l.length),i<j->R l[i] l[j]:=@List.pairwise_iff_getElem
theorem YAb:∀ {α:Type}{b:α}{l:List α}{a:α},a∈b::l↔a=b\/a∈l:=@List.mem_cons
theorem YAc:∀ {α:Type}(i:Nat)(l:List α),List.take i l++List.drop i l=l:=@List.take_append_drop
theorem YAd:∀ {α:Type}{xs:List α}{i:Nat},xs.toArray[i]? = xs[i]? := @List.getElem?_toArray
theorem YAe:∀ {p:Prop} [inst:Decidable p],¬p->decide p=false:=@decide_eq_false
theorem YAf:∀ {α:Type}{β:Type}{f:α->β}{l₁ l₂:List α},List.map f (l₁++l₂)=List.map f l₁++List.map f l₂:=@List.map_append
theorem YAg:∀ {α:Type}(y:α){a:α}{l:List α},a∈l->a∈y::l:=@List.mem_cons_of_mem
theorem YAh:∀ {α:Type}{l:List α},List.take l.length l=l:=@List.take_length
theorem YAi:∀ {α:Type}{i:Nat}{l:List α},(List.drop i l).length=l.length-i:=@List.length_drop
theorem YAj:∀ {α:Type}{i:Nat}{a:α}{l:List α},a∈List.take i l->a∈l:=@List.mem_of_mem_take
theorem YAk:∀ {α:Type}{a:α}{«as» : List α},(a::«as»).length=«as».length+1:=@List.length_cons
theorem YAl:∀ {α:Type}{i:Nat}{l:List α}(h:i<l.length),List.drop i l=l[i]::List.drop (i+1) l:=@List.drop_eq_getElem_cons
theorem YAm:∀ {α:Type}{α_1:Type}{f:α->α_1}{R:α_1->α_1->Prop}{l:List α},List.Pairwise R (List.map f l)↔List.Pairwise (fun (a b:α) ↦ R (f a) (f b)) l:=@List.pairwise_map
theorem YAn:∀ {α:Type}{l:List α}{i j:Nat},i<j->(List.take j l)[i]? = l[i]? := @List.getElem?_take_of_lt
theorem YAo:∀ {α:Type}{R:α->α->Prop}{a:α}{l:List α},List.Pairwise R (a::l)↔(∀ (a':α),a'∈l->R a a')/\List.Pairwise R l:=@List.pairwise_cons
theorem YAp:∀ {α:Type}{β:Type}{f:α->List β}{b:β}{l:List α},b∈List.flatMap f l↔∃ (a:α),a∈l/\b∈f a:=@List.mem_flatMap
theorem YAq:∀ {α:Type}(l:List α)(i:Nat)(a:α),l.toArray.setIfInBounds i a=(l.set i a).toArray:=@List.setIfInBounds_toArray
theorem YAr:∀ {α:Type}{l:List α},l.length=0->l=[]:=@List.eq_nil_of_length_eq_zero
theorem YAs:∀ {α:Type}{x:α}{xs:List α}{a:α},(x::xs).set 0 a=a::xs:=@List.set_cons_zero
theorem YAt:∀ {α:Type}{l:List α}{n:Nat}(h:n<l.length),l[n]∈l:=@List.getElem_mem
theorem YAu:∀ {α:Type}{x:α}{xs:List α}{i:Nat}{a:α},(x::xs).set (i+1) a=x::xs.set i a:=@List.set_cons_succ
theorem YAv:∀ (a b:Bool),((a||b)=true)=(a=true\/b=true):=@Bool.or_eq_true
theorem YAw:∀ {α:Type}{a b:α},a∈[b]↔a=b:=@List.mem_singleton
end Go.Proofs.YtikloccefmofdaaGreat
namespace Go.Proofs.YtikloccefmofdaaGreat

def par (i:Nat):Nat:=(i-1) / 2

def Zcn (q:Nat->Nat)(i j x:Nat):Nat:=if x=i then q j else if x=j then q i else q x

def ZcV (c:Nat->Int)(q:Nat->Nat)(n:Nat):Prop:=∀ i,0<i->i<n->c (q (par i))<=c (q i)

structure UpInv (c:Nat->Int) (q:Nat->Nat) (n j:Nat):Prop where
 all:∀ i,0<i->i<n->i≠j->c (q (par i))<=c (q i)
 kids:∀ i,0<i->i<n->par i=j->0<j->c (q (par j))<=c (q i)

structure DownInv (c:Nat->Int) (q:Nat->Nat) (n i:Nat):Prop where
 all:∀ k,0<k->k<n->par k≠i->c (q (par k))<=c (q k)
 kids:∀ k,0<k->k<n->par k=i->0<i->c (q (par i))<=c (q k)

theorem ZdF {i:Nat}(h:0<i):par i<i:=by unfold par;omega

theorem ZpP {c:Nat->Int}{q:Nat->Nat}{n j:Nat}(h:UpInv c q n j)(hs:j=0\/¬c (q j)<c (q (par j))):ZcV c q n:=by
 intro i h0 hn;by_cases e:i=j
 ·subst e;rcases hs with hs | hs
  ·omega
  ·omega
 ·exact h.all i h0 hn e

theorem Zso {c:Nat->Int}{q:Nat->Nat}{n j:Nat}(h:UpInv c q n j)(hj:0<j)(hn:j<n)(hlt:c (q j)<c (q (par j))):UpInv c (Zcn q (par j) j) n (par j):=by
 have hp:=ZdF hj;obtain⟨p,hpe⟩:∃ p,p=par j:=⟨_,rfl⟩;rw [<-hpe] at hlt hp |-
 constructor
 ·intro i h0 hi hne;have hpi:=ZdF h0;unfold Zcn;by_cases e1:i=j
  ·subst e1;rw [if_neg (by omega:¬i=p),if_pos rfl,if_pos hpe.symm];omega
  ·rw [if_neg hne,if_neg e1];have h1:=h.all i h0 hi e1;by_cases e2:par i=p
   ·rw [if_pos e2];rw [e2] at h1;omega
   ·rw [if_neg e2];by_cases e3:par i=j
    ·rw [if_pos e3];have:=h.kids i h0 hi e3 hj;rw [<-hpe] at this;exact this
    ·rw [if_neg e3];exact h1
 ·intro i h0 hi hpar hp0;have hpi:=ZdF h0;have hpp:=ZdF hp0;have hA:=h.all p hp0 (by omega) (by omega);unfold Zcn;rw [if_neg (by omega:¬par p=p),if_neg (by omega:¬par p=j)];by_cases e1:i=j
  ·rw [if_neg (by omega:¬i=p),if_pos e1];exact hA
  ·rw [if_neg (by omega:¬i=p),if_neg e1];have:=h.all i h0 hi e1;rw [hpar] at this;omega

theorem Zft {c:Nat->Int}{q:Nat->Nat}{n i:Nat}(h:DownInv c q n i)(hs:∀ k,0<k->k<n->par k=i->c (q i)<=c (q k)):ZcV c q n:=by
 intro k h0 hn;by_cases e:par k=i
 ·rw [e];exact hs k h0 hn e
 ·exact h.all k h0 hn e

theorem ZmC {k i:Nat}(h0:0<k)(h:par k=i):k=2*i+1\/k=2*i+2:=by unfold par at h;omega

theorem Zg6 {c:Nat->Int}{q:Nat->Nat}{n i j:Nat}(h:DownInv c q n i)(hj:0<j)(hn:j<n)(hp:par j=i)(hlt:c (q j)<c (q i))(hmin:∀ k,0<k->k<n->par k=i->c (q j)<=c (q k)):DownInv c (Zcn q i j) n j:=by
 have hij:=ZdF hj;rw [hp] at hij;constructor
 ·intro k h0 hk hne;have hpk:=ZdF h0;unfold Zcn;by_cases e1:k=i
  ·subst e1;rw [if_pos rfl,if_neg (by omega:¬par k=k),if_neg hne];exact h.kids j hj hn hp h0
  ·rw [if_neg e1];by_cases e2:k=j
   ·subst e2;rw [if_pos rfl,if_pos hp];omega
   ·rw [if_neg e2];by_cases e3:par k=i
    ·rw [if_pos e3];exact hmin k h0 hk e3
    ·rw [if_neg e3,if_neg hne];exact h.all k h0 hk e3
 ·intro k h0 hk hpk hj0;have hpk2:=ZdF h0;unfold Zcn;rw [hp,if_pos rfl,if_neg (by omega:¬k=i),if_neg (by omega:¬k=j)];have:=h.all k h0 hk (by omega);rw [hpk] at this;exact this

theorem Zkc {c:Nat->Int}{q:Nat->Nat}{n:Nat}(h:ZcV c q n):∀ (m i:Nat),i<=m->i<n->c (q 0)<=c (q i)
 | 0,i,hm,_=>by rw [show i=0 by omega];exact Int.le_refl _
 | m+1,i,hm,hn=>by
  by_cases e:i=0
  ·rw [e];exact Int.le_refl _
  ·have h1:=h i (by omega) hn;have h2:=ZdF (i:=i) (by omega);have h3:=Zkc h m (par i) (by omega) (by omega);omega

structure Shuf (q q':Nat->Nat) (n:Nat):Prop where
 into:∀ i,i<n->∃ j,j<n/\q' i=q j
 onto:∀ j,j<n->∃ i,i<n/\q' i=q j
 inj:(∀ i j,i<n->j<n->q i=q j->i=j)->(∀ i j,i<n->j<n->q' i=q' j->i=j)
 rest:∀ x,n<=x->q' x=q x

theorem Shuf.refl (q:Nat->Nat)(n:Nat):Shuf q q n:=⟨fun i h=>⟨i,h,rfl⟩,fun j h=>⟨j,h,rfl⟩,fun h=>h,fun _ _=>rfl⟩

theorem Shuf.trans {q q' q'':Nat->Nat}{n:Nat}(a:Shuf q q' n)(b:Shuf q' q'' n):Shuf q q'' n:=by
 refine⟨fun i h=>?_,fun j h=>?_,fun h=>b.inj (a.inj h),fun x hx=>(b.rest x hx).trans (a.rest x hx)⟩
 ·obtain ⟨j,hj,e⟩:=b.into i h;obtain⟨k,hk,e2⟩:=a.into j hj;exact⟨k,hk,e.trans e2⟩
 ·obtain ⟨i,hi,e⟩:=a.onto j h;obtain⟨k,hk,e2⟩:=b.onto i hi;exact⟨k,hk,e2.trans e⟩

theorem Zb9 (q:Nat->Nat)(i j x:Nat):(x=i/\Zcn q i j x=q j)\/(x=j/\Zcn q i j x=q i)\/(x≠i/\x≠j/\Zcn q i j x=q x):=by
 unfold Zcn;by_cases e:x=i
 ·exact .inl ⟨e,if_pos e⟩
 ·rw [if_neg e];by_cases e2:x=j
  ·exact .inr (.inl ⟨e2,if_pos e2⟩)
  ·exact .inr (.inr ⟨e,e2,if_neg e2⟩)

theorem Shuf.swap (q:Nat->Nat){n i j:Nat}(hi:i<n)(hj:j<n):Shuf q (Zcn q i j) n:=by
 refine⟨fun x hx=>?_,fun x hx=>?_,fun h x y hx hy e=>?_,fun x hx=>?_⟩
 ·rcases Zb9 q i j x with ⟨_,e⟩ | ⟨_,e⟩ | ⟨_,_,e⟩
  ·exact ⟨j,hj,e⟩
  ·exact ⟨i,hi,e⟩
  ·exact ⟨x,hx,e⟩
 ·by_cases e1:x=i
  ·refine ⟨j,hj,?_⟩;subst e1;rcases Zb9 q x j j with ⟨e2,e⟩ | ⟨_,e⟩ | ⟨_,e2,_⟩
   ·rw [e,e2]
   ·exact e
   ·exact absurd rfl e2
  ·by_cases e3:x=j
   ·refine ⟨i,hi,?_⟩;subst e3;rcases Zb9 q i x i with ⟨_,e⟩ | ⟨e2,e⟩ | ⟨e2,_,_⟩
    ·exact e
    ·rw [e,e2]
    ·exact absurd rfl e2
   ·refine ⟨x,hx,?_⟩;unfold Zcn;rw [if_neg e1,if_neg e3]
 ·rcases Zb9 q i j x with ⟨a1,a2⟩ | ⟨a1,a2⟩ | ⟨a1,a3,a2⟩ <;> rcases Zb9 q i j y with ⟨b1,b2⟩ | ⟨b1,b2⟩ | ⟨b1,b3,b2⟩ <;> rw [a2,b2] at e
  ·omega
  ·have:=h _ _ hj hi e;omega
  ·have:=h _ _ hj hy e;omega
  ·have:=h _ _ hi hj e;omega
  ·omega
  ·have:=h _ _ hi hy e;omega
  ·have:=h _ _ hx hj e;omega
  ·have:=h _ _ hx hi e;omega
  ·exact h _ _ hx hy e
 ·rcases Zb9 q i j x with ⟨a1,_⟩ | ⟨a1,_⟩ | ⟨_,_,e⟩
  ·omega
  ·omega
  ·exact e

theorem Shuf.more {q q':Nat->Nat}{n m:Nat}(a:Shuf q q' n)(h:n<=m):Shuf q q' m:=by
 refine⟨fun i hi=>?_,fun j hj=>?_,fun hinj x y hx hy e=>?_,fun x hx=>a.rest x (by omega)⟩
 ·by_cases e:i<n
  ·obtain ⟨j,hj,e2⟩:=a.into i e;exact⟨j,by omega,e2⟩
  ·exact ⟨i,hi,a.rest i (by omega)⟩
 ·by_cases e:j<n
  ·obtain ⟨i,hi,e2⟩:=a.onto j e;exact⟨i,by omega,e2⟩
  ·exact ⟨j,hj,a.rest j (by omega)⟩
 ·by_cases e1:x<n <;> by_cases e2:y<n
  ·exact a.inj (fun i j hi hj=>hinj i j (by omega) (by omega)) x y e1 e2 e
  ·obtain ⟨j,hj,e3⟩:=a.into x e1;rw [e3,a.rest y (by omega)] at e;have:=hinj j y (by omega) hy e;omega
  ·obtain ⟨j,hj,e3⟩:=a.into y e2;rw [e3,a.rest x (by omega)] at e;have:=hinj x j hx (by omega) e;omega
  ·rw [a.rest x (by omega),a.rest y (by omega)] at e;exact hinj x y hx hy e

theorem Zr8 {c:Nat->Int}{q:Nat->Nat}{n k:Nat}(h:ZcV c q n):UpInv c (fun x=>if x=n then k else q x) (n+1) n:=by
 constructor
 ·intro i h0 hi hne;have:=ZdF h0;rw [if_neg (by omega:¬par i=n),if_neg hne];exact h i h0 (by omega)
 ·intro i h0 hi hp _;have:=ZdF h0;omega

theorem Zq0 {c:Nat->Int}{q:Nat->Nat}{n:Nat}(h:ZcV c q (n+1)):DownInv c (Zcn q 0 n) n 0:=by
 constructor
 ·intro k h0 hk hne;have:=ZdF h0;unfold Zcn;rw [if_neg hne,if_neg (by omega:¬par k=n),if_neg (by omega:¬k=0),if_neg (by omega:¬k=n)];exact h k h0 (by omega)
 ·intro k _ _ _ h0;omega
end Go.Proofs.YtikloccefmofdaaGreat
namespace Go.Proofs.YtikloccefmofdaaGreat
open Go.RowKit
set_option linter.unusedSimpArgs false
set_option linter.unusedVariables false
set_option maxRecDepth 100000
set_option maxHeartbeats 8000000
variable {xs:List Value}{base n p size:Nat}{e:TypeId}{v:Value}{w:World}
theorem Zad {w':World}{B:Nat}(h:w.ownsRow base e size v n xs)(hb:Below B w w')(hB:w.heap.size<=B):w'.ownsRow base e size v n xs:=by
 refine⟨h.1,?_⟩;rcases h.2 with h2 | ⟨g,cap,cur,hv,hg,hh,r⟩
 ·exact .inl h2
 ·have hlt:g<w.heap.size:=by
   rcases Nat.lt_or_ge g w.heap.size with hl | hl
   ·exact hl
   ·rw [Array.getElem?_eq_none hl] at hh;cases hh
  exact .inr ⟨g,cap,cur,hv,hg,by rw [hb.block g (by omega)];exact hh,r⟩
theorem ZeB (h:w.ownsRow base e 1 v n xs)(hn:0<n):
  ∃ g cap,v=.slice (some ⟨g,0,none⟩) n cap/\base<=g/\g<w.heap.size:=by
 rcases h.2 with ⟨_,h0⟩ | ⟨g,cap,cur,hv,hb,hg,_⟩
 ·omega
 ·refine ⟨g,cap,hv,hb,?_⟩;rcases Nat.lt_or_ge g w.heap.size with hlt | hge
  ·exact hlt
  ·rw [Array.getElem?_eq_none hge] at hg;cases hg
theorem ZcD (h:w.ownsRow base e 1 v n xs):∃ a cap,v=.slice a n cap:=by
 rcases h.2 with ⟨h1,h0⟩ | ⟨g,cap,cur,hv,_⟩
 ·exact ⟨none,0,by rw [h1,h0]⟩
 ·exact ⟨_,cap,hv⟩
theorem Zac (h:w.ownsRow base e size v n xs):∃ a cap,v=.slice a n cap:=by
 rcases h.2 with ⟨h1,h0⟩ | ⟨g,cap,cur,hv,_⟩
 ·exact ⟨none,0,by rw [h1,h0]⟩
 ·exact ⟨_,cap,hv⟩
theorem Zaf {b0 b1:Nat}(h:w.ownsRow b1 e size v n xs)(hb:b0<=b1):w.ownsRow b0 e size v n xs:=by
 refine⟨h.1,?_⟩;rcases h.2 with h2 | ⟨g,cap,cur,hv,hg,r⟩
 ·exact .inl h2
 ·exact .inr ⟨g,cap,cur,hv,YAK hb hg,r⟩
theorem ZaG {j:Nat}{u:Value}(h:w.ownsRow base e size v n xs)(hp:p<base):(w.setCell ⟨p,j,none⟩ u).ownsRow base e size v n xs:=by
 refine⟨h.1,?_⟩;rcases h.2 with h2 | ⟨g,cap,cur,hv,hg,hh,r⟩
 ·exact .inl h2
 ·exact .inr ⟨g,cap,cur,hv,hg,by rw [YAO w ⟨p,j,none⟩ g _ (by show g≠p;omega)];exact hh,r⟩
theorem ZfP {b0 b1:Nat}(h:w.ownsRow b1 e 1 v n xs)(hb:b0<=b1):w.ownsRow b0 e 1 v n xs:=by
 refine⟨h.1,?_⟩;rcases h.2 with h2 | ⟨g,cap,cur,hv,hg,r⟩
 ·exact .inl h2
 ·exact .inr ⟨g,cap,cur,hv,YAK hb hg,r⟩
theorem Zaa {C:Array Value}{t:TypeId}(h:w.heap[p]? = some (.cells C t (0,0)))(j:Nat):w.cell? ⟨p,j,none⟩=C[j]? := by
 simp [World.cell?,h]
theorem Zae {C:Array Value}{t:TypeId}(h:w.heap[p]? = some (.cells C t (0,0)))(j:Nat):w.frozen? ⟨p,j,none⟩=false:=by
 simp [World.frozen?,h]
theorem Zaw (w:World)(p j:Nat)(v:Value):w.grownBy (w.setCell ⟨p,j,none⟩ v) (some p):=⟨rfl,rfl,rfl,by simp,fun k _ hk=>YAO w ⟨p,j,none⟩ k _ (fun e=>hk (by simp [e]))⟩
theorem Ze0 (w:World)(n:Nat)(row:Option Nat):w.grownBy (w.drewN n) row:=⟨rfl,rfl,rfl,YA _,fun _ _ _=>rfl⟩
theorem Zai {a b c:World}{row:Option Nat}(h:a.grownBy b row)(k:b.grownBy c row):a.grownBy c row:=
 ⟨k.os.trans h.os,k.tape.trans h.tape,k.output.trans h.output,YAK h.size k.size,fun i hi hr=>(k.block i (YAB hi h.size) hr).trans (h.block i hi hr)⟩
theorem Zab {o:Obj}(h:w.heap[p]? = some o):p<w.heap.size:=by
 rcases Nat.lt_or_ge p w.heap.size with hl | hl
 ·exact hl
 ·rw [Array.getElem?_eq_none hl] at h;cases h
def inB (x a b:Int):Bool:=decide (a<=x)&&decide (x<=b)
theorem ZbU (x a b:Int)(w:World):Calls Tryz.prog 53 #[.int .i64 x,.int .i64 a,.int .i64 b] w fun e w'=>e=.returned (.bool (inB x a b))/\w=w':=by
 by_cases h1:a<=x <;> by_cases h2:x<=b
 all_goals
  go_enter Tryz.func53,Tryz.ntmps53
  go_wp2;go_ret;exact⟨by simp [inB,h1,h2],rfl⟩
end Go.Proofs.YtikloccefmofdaaGreat
namespace Go.Proofs.YtikloccefmofdaaGreat
open Go.RowKit

theorem putS:(∀ (a:Act) (v:Value),a.put none v=a)/\(∀ (a:Act) (t:Nat) (v:Value),a.put (some t) v = { a with tmps:=a.tmps.setIfInBounds t v })/\(∀ (l:List Value) (i:Nat) (v:Value),l.toArray.setIfInBounds i v=(l.set i v).toArray)/\(∀ (x v:Value) (l:List Value),(x::l).set 0 v=v::l)/\(∀ (x v:Value) (l:List Value) (n:Nat),(x::l).set (n+1) v=x::l.set n v):=
 ⟨fun _ _=>rfl,fun _ _ _=>rfl,fun _ _ _=>by simp,fun _ _ _=>rfl,fun _ _ _ _=>rfl⟩

theorem getS:(∀ (l:List Oper) (i:Nat),l.toArray[i]? = l[i]?)/\(∀ (x:Oper) (l:List Oper),(x::l)[0]? = some x)/\(∀ (x:Oper) (l:List Oper) (n:Nat),(x::l)[n+1]? = l[n]?):=
 ⟨fun _ _=>by simp,fun _ _=>rfl,fun _ _ _=>rfl⟩

def Zc2 (ops:Array Oper)(listed:Array Bool)(i:Nat):Bool:=Region.noSelect ops&&Region.free .any ops listed i&&(Region.ready .any ops listed).contains i

theorem ZfE {ops:Array Oper}{listed:Array Bool}{i:Nat}(h:Zc2 ops listed i=true):Region.noSelect ops=true/\Region.free .any ops listed i=true/\(Region.ready .any ops listed).contains i=true:=by
 unfold Zc2 at h;simp only [YAJ] at h;exact⟨h.1.1,h.1.2,h.2⟩

section
variable {P:Program} {ops:Array Oper} {Q:Exit->Act->World->Prop} {S:World->Prop} {fuel:Nat} {listed:Array Bool} {a:Act} {w:World}

/-- the beginning: the region's operations behind a letter -/
theorem Zag {id:Nat}(hm:P.follows .mixedOrders=true)(n:Nat)(hn:ops.size=n)(hS:S w.drew)(h:∀ ops',Hid (ops'=ops)->S w.drew->wpAnyH P .any ops' Q S n (Array.replicate n false) a w.drew):(Code.region id ops true).wp P Q a w:=by
 refine wp_region_held_drew hm hS (fun hs=>?_);rw [hn];exact h ops rfl hs

/-- an operation that isn't wanted -/
theorem ZkF (i:Nat)(d:Tmp)(hi:(ops[i]?).map Oper.dst=some (some d))(ht:Zc2 ops listed i=true)(hw:(ops[i]?).map (fun o=>Region.wanted o (yielded ops a.tmps))=some false)
  (hQ:∀ c a w,Q (.panic c) (a.put (some d) undef) w->Q (.panic c) a w) (hS:S w) (h:wpAnyH P .any ops Q S fuel (listed.setIfInBounds i true) (a.put (some d) undef) w):wpAnyH P .any ops Q S (fuel+1) listed a w:=by
 obtain⟨h1,h2,h3⟩:=ZfE ht;cases ho:ops[i]? with
 | none=>rw [ho] at hi;cases hi
 | some oi=>
  rw [ho] at hi hw;simp only [Option.map_some,Option.some.injEq] at hi hw;refine wpAnyH_take ho h1 h2 h3 (v:=undef) ?_ (Or.inr ⟨hw,rfl⟩) hS ?_
  ·rw [hi];exact hQ
  ·rw [hi];exact h

/-- an operation that yields v in every world that meets S -/
theorem ZbW (i:Nat){oi:Oper}{v:Value}(hi:ops[i]? = some oi)(ht:Zc2 ops listed i=true)(hw:Region.wanted oi (yielded ops a.tmps)=true)(hy:∀ w,S w->(execOp a.eval oi).run P w=.ok (.value v) w)
  (hQ:∀ c a w,Q (.panic c) (a.put oi.dst v) w->Q (.panic c) a w) (hS:S w) (h:wpAnyH P .any ops Q S fuel (listed.setIfInBounds i true) (a.put oi.dst v) w):wpAnyH P .any ops Q S (fuel+1) listed a w:=by
 obtain⟨h1,h2,h3⟩:=ZfE ht;exact wpAnyH_take hi h1 h2 h3 hQ (Or.inl ⟨hw,hy⟩) hS h

/-- a call that alone may come up -/
theorem Zek (i:Nat){oi:Oper}(hi:ops[i]? = some oi)(hr:Region.ready .any ops listed=[i])(hw:Region.wanted oi (yielded ops a.tmps)=true)
  (h:∀ K':Act->World->Prop,Shut (∀ a w,S w->(S w->wpAnyH P .any ops Q S fuel (listed.setIfInBounds i true) a w)->K' a w)->Oper.wp P oi a w K' Q):wpAnyH P .any ops Q S (fuel+1) listed a w:=by
 refine wpAnyH_ready (rs:=[i]) hr (by simp) ?_;refine AllReadyH.cons hi (fun K hK=>?_) AllReadyH.nil;rw [if_pos hw];exact h K hK
theorem take_skp (i:Nat)(d:Tmp) (hb:((ops[i]?).map Oper.dst==some (some d)&&(Zc2 ops listed i&&(ops[i]?).map (fun o=>Region.wanted o (yielded ops a.tmps))==some false))=true)
  (hQ:∀ c a w,Q (.panic c) (a.put (some d) undef) w->Q (.panic c) a w) (hS:S w) (h:wpAnyH P .any ops Q S fuel (listed.setIfInBounds i true) (a.put (some d) undef) w):wpAnyH P .any ops Q S (fuel+1) listed a w:=by
 simp only [YAJ,beq_iff_eq] at hb;exact ZkF i d hb.1 hb.2.1 hb.2.2 hQ hS h

theorem Zbs (i:Nat)(oi:Oper)(v:Value)(hi:ops[i]? = some oi) (hb:(Zc2 ops listed i&&(ops[i]?).map (fun o=>Region.wanted o (yielded ops a.tmps))==some true)=true) (hy:∀ w,S w->(execOp a.eval oi).run P w=.ok (.value v) w)
  (hQ:∀ c a w,Q (.panic c) (a.put oi.dst v) w->Q (.panic c) a w) (hS:S w) (h:wpAnyH P .any ops Q S fuel (listed.setIfInBounds i true) (a.put oi.dst v) w):wpAnyH P .any ops Q S (fuel+1) listed a w:=by
 simp only [YAJ,beq_iff_eq] at hb;have h2:=hb.2;rw [hi] at h2;simp only [Option.map_some,Option.some.injEq] at h2;exact ZbW i hi hb.1 h2 hy hQ hS h

theorem ZhD (n:Nat)(oi:Oper)(v:Value)(hi:ops[n-(fuel+1)]? = some oi) (hb:(Zc2 ops listed (n-(fuel+1))&&(ops[n-(fuel+1)]?).map (fun o=>Region.wanted o (yielded ops a.tmps))==some true)=true) (hy:∀ w,S w->(execOp a.eval oi).run P w=.ok (.value v) w)
  (hQ:∀ c a w,Q (.panic c) (a.put oi.dst v) w->Q (.panic c) a w) (hS:S w) (h:wpAnyH P .any ops Q S fuel (listed.setIfInBounds (n-(fuel+1)) true) (a.put oi.dst v) w):wpAnyH P .any ops Q S (fuel+1) listed a w:=
 Zbs (n-(fuel+1)) oi v hi hb hy hQ hS h

theorem TD (i:Nat){oi:Oper}{v:Value}(h:wpAnyH P .any ops Q S fuel (listed.setIfInBounds i true) (a.put oi.dst v) w)
  (hi:ops[i]? = some oi:=by (rw [hops.out];simp only [getS,Nat.reduceSub,Nat.reduceAdd];rfl))
  (hb:(Zc2 ops listed i&&(ops[i]?).map (fun o=>Region.wanted o (yielded ops a.tmps))==some true)=true:=by (rw [hops.out];kernel_rfl))
  (hy:∀ w,S w->(execOp a.eval oi).run P w=.ok (.value v) w:=by (intro W hW;(try dsimp only at hW);go_simp <;> with_reducible rfl))
  (hQ:∀ c a w,Q (.panic c) (a.put oi.dst v) w->Q (.panic c) a w:=by exact fun _ _ _=>id) (hS:S w:=by (first | assumption | trivial)):wpAnyH P .any ops Q S (fuel+1) listed a w:=by
 simp only [YAJ,beq_iff_eq] at hb;have h2:=hb.2;rw [hi] at h2;simp only [Option.map_some,Option.some.injEq] at h2;exact ZbW _ hi hb.1 h2 hy hQ hS h
theorem TK (n:Nat){oi:Oper}{v:Value} (h:wpAnyH P .any ops Q S fuel (listed.setIfInBounds (n-(fuel+1)) true) (a.put oi.dst v) w)
  (hi:ops[n-(fuel+1)]? = some oi:=by (rw [hops.out];simp only [getS,Nat.reduceSub,Nat.reduceAdd];rfl))
  (hb:(Zc2 ops listed (n-(fuel+1))&&(ops[n-(fuel+1)]?).map (fun o=>Region.wanted o (yielded ops a.tmps))==some true)=true:=by (rw [hops.out];kernel_rfl))
  (hy:∀ w,S w->(execOp a.eval oi).run P w=.ok (.value v) w:=by (intro W hW;(try dsimp only at hW);go_simp <;> with_reducible rfl))
  (hQ:∀ c a w,Q (.panic c) (a.put oi.dst v) w->Q (.panic c) a w:=by exact fun _ _ _=>id) (hS:S w:=by (first | assumption | trivial)):wpAnyH P .any ops Q S (fuel+1) listed a w:=TD _ h hi hb hy hQ hS
theorem TT (i:Nat){d:Tmp}(h:wpAnyH P .any ops Q S fuel (listed.setIfInBounds i true) (a.put (some d) undef) w)
  (hi:(ops[i]?).map Oper.dst=some (some d):=by (rw [hops.out];simp only [getS,Nat.reduceSub,Nat.reduceAdd];rfl))
  (hb:(Zc2 ops listed i&&(ops[i]?).map (fun o=>Region.wanted o (yielded ops a.tmps))==some false)=true:=by (rw [hops.out];kernel_rfl))
  (hQ:∀ c a w,Q (.panic c) (a.put (some d) undef) w->Q (.panic c) a w:=by exact fun _ _ _ h=>h) (hS:S w:=by (first | assumption | trivial)):wpAnyH P .any ops Q S (fuel+1) listed a w:=by
 simp only [YAJ,beq_iff_eq] at hb;exact ZkF _ d hi hb.1 hb.2 hQ hS h
theorem TS (n:Nat){d:Tmp} (h:wpAnyH P .any ops Q S fuel (listed.setIfInBounds (n-(fuel+1)) true) (a.put (some d) undef) w)
  (hi:(ops[n-(fuel+1)]?).map Oper.dst=some (some d):=by (rw [hops.out];simp only [getS,Nat.reduceSub,Nat.reduceAdd];rfl))
  (hb:(Zc2 ops listed (n-(fuel+1))&&(ops[n-(fuel+1)]?).map (fun o=>Region.wanted o (yielded ops a.tmps))==some false)=true:=by (rw [hops.out];kernel_rfl))
  (hQ:∀ c a w,Q (.panic c) (a.put (some d) undef) w->Q (.panic c) a w:=by exact fun _ _ _ h=>h) (hS:S w:=by (first | assumption | trivial)):wpAnyH P .any ops Q S (fuel+1) listed a w:=TT _ h hi hb hQ hS
theorem TC (i:Nat){oi:Oper} (h:∀ K':Act->World->Prop,Shut (∀ a w,S w->(S w->wpAnyH P .any ops Q S fuel (listed.setIfInBounds i true) a w)->K' a w)->Oper.wp P oi a w K' Q)
  (hi:ops[i]? = some oi:=by (rw [hops.out];simp only [getS];rfl)) (hr:Region.ready .any ops listed=[i]:=by (rw [hops.out];kernel_rfl)) (hw:Region.wanted oi (yielded ops a.tmps)=true:=by (rw [hops.out];kernel_rfl)):wpAnyH P .any ops Q S (fuel+1) listed a w:=
 Zek i hi hr hw h

end
end Go.Proofs.YtikloccefmofdaaGreat
namespace Go.Proofs.YtikloccefmofdaaGreat
open Go.RowKit
set_option linter.unusedSimpArgs false
set_option linter.unusedVariables false
set_option maxRecDepth 100000
set_option maxHeartbeats 8000000
variable {k:Nat}{p:Nat->Bool}
def Zce {α:Type}(ord:α->α->Int)(ls:List α):Nat->Bool
 | 0=>true
 | k+1=>match ls[k]?,ls[k+1]? with
  | some p,some l=>decide (ord p l<0)
  | _,_=>true
theorem ZbX {α:Type}{ord:α->α->Int}{ls:List α}{j:Nat}{p l:α}(hp:ls[j]? = some p)(hl:ls[j+1]? = some l):Zce ord ls (j+1)=decide (ord p l<0):=by
 simp only [Zce,hp,hl]
def ascB {α:Type}(ord:α->α->Int)(ls:List α):Bool:=(List.range ls.length).all (Zce ord ls)
theorem ZaQ {n:Nat}(hk:k<n)(h:p k=false):(List.range n).all p=false:=by
 cases e:(List.range n).all p with
 | false=>rfl
 | true=>rw [List.all_eq_true.1 e k (List.mem_range.2 hk)] at h;cases h
theorem Za4 {n:Nat}(h:∀ j,j<n->p j=true):(List.range n).all p=true:=List.all_eq_true.2 fun j hj=>h j (List.mem_range.1 hj)
theorem ZaO (h:∀ j,j<k->p j=true)(hk:p k=true):∀ j,j<k+1->p j=true:=fun j hj=>by
 by_cases e:j=k
 ·subst e;exact hk
 ·exact h j (by omega)
def okAt {α:Type}(ok:α->Bool)(ls:List α)(k:Nat):Bool:=match ls[k]? with
 | some l=>ok l
 | none=>true
theorem Zck {α:Type}{ok:α->Bool}{ls:List α}{l:α}(h:ls[k]? = some l):okAt ok ls k=ok l:=by simp only [okAt,h]
def ZbM {α:Type}(ok:α->Bool)(ls:List α):Bool:=(List.range ls.length).all (okAt ok ls)
end Go.Proofs.YtikloccefmofdaaGreat
namespace Go.Proofs.YtikloccefmofdaaGreat

inductive Walk (L:Nat->Nat->Int) (a:Nat):Nat->Int->Prop
 | nil:Walk L a a 0
 | step {v w:Nat} {x:Int}:Walk L a v x->0<L v w->Walk L a w (x+L v w)

theorem Walk.nn {L:Nat->Nat->Int}{a v:Nat}{x:Int}(h:Walk L a v x):0<=x:=by
 induction h with
 | nil=>omega
 | step _ hl ih=>omega

theorem Walk.trans {L:Nat->Nat->Int}{a b v:Nat}{x y:Int}(h1:Walk L a b x)(h2:Walk L b v y):Walk L a v (x+y):=by
 induction h2 with
 | nil=>simpa using h1
 | step _ hl ih=>
  have:=ih.step hl;rw [<-Int.add_assoc];exact this

theorem Walk.one {L:Nat->Nat->Int}{a b:Nat}(h:0<L a b):Walk L a b (L a b):=by
 have:=(Walk.nil (L:=L) (a:=a)).step h;simpa using this

theorem Walk.rev {L:Nat->Nat->Int}(hs:∀ u v,L u v=L v u){a v:Nat}{x:Int}(h:Walk L a v x):Walk L v a x:=by
 induction h with
 | nil=>exact .nil
 | step h1 hl ih=>
  rename_i v w y
  have h2:0<L w v:=by rw [hs];exact hl
  have:=(Walk.one h2).trans ih;rw [hs w v,Int.add_comm] at this;exact this

theorem Fix.walk {L:Nat->Nat->Int}{src:Nat}{c:Nat->Int}{h:Nat->List Int}(A:Fix L src c h):∀ (n v:Nat),0<=c v->(c v).toNat<=n->Walk L src v (c v):=by
 obtain⟨F,I,hF⟩:=A;intro n
 induction n with
 | zero=>
  intro v h0 hn;by_cases hv:v=src
  ·subst hv;rw [I.start];exact .nil
  ·obtain ⟨u,hu,hl,hc⟩:=I.pred v hv h0;have:=(I.fnode u hu).2;omega
 | succ n ih=>
  intro v h0 hn;by_cases hv:v=src
  ·subst hv;rw [I.start];exact .nil
  ·obtain ⟨u,hu,hl,hc⟩:=I.pred v hv h0;have h1:=(I.fnode u hu).2;rw [hc];exact (ih u h1 (by omega)).step hl

theorem Fix.least {L:Nat->Nat->Int}{src:Nat}{c:Nat->Int}{h:Nat->List Int}(A:Fix L src c h){v:Nat}{x:Int}(hw:Walk L src v x):0<=c v/\c v<=x:=by
 obtain⟨F,I,hF⟩:=A
 induction hw with
 | nil=>rw [I.start];omega
 | step _ hl ih=>
  have:=I.closed _ _ (hF _ ih.1) hl;omega

theorem Fix.sym {L:Nat->Nat->Int}(hs:∀ u v,L u v=L v u){a b:Nat}{c d:Nat->Int}{h g:Nat->List Int}(A:Fix L a c h)(B:Fix L b d g)(h0:0<=c b):0<=d a/\d a=c b:=by
 have w1:=(A.walk _ b h0 (Nat.le_refl _)).rev hs;have l1:=B.least w1;have w2:=(B.walk _ a l1.1 (Nat.le_refl _)).rev hs;have l2:=A.least w2;omega

theorem Fix.over {L:Nat->Nat->Int}{a x:Nat}{c d:Nat->Int}{h g:Nat->List Int}(A:Fix L a c h)(B:Fix L x d g)(hl:0<L a x){t:Nat}(h0:0<=d t):0<=c t/\c t<=L a x+d t:=
 A.least ((Walk.one hl).trans (B.walk _ t h0 (Nat.le_refl _)))

end Go.Proofs.YtikloccefmofdaaGreat
namespace Go.Proofs.YtikloccefmofdaaGreat
open Go.RowKit
set_option linter.unusedSimpArgs false
set_option linter.unusedVariables false
set_option maxRecDepth 100000
set_option maxHeartbeats 8000000
variable {p:Addr}{P:Program}{t:TypeId}{u:Value}{w:World}
def sumL {α:Type}(ls:List (Value × List α)):Nat:=(ls.map (fun x=>x.2.length)).sum
def ZbZ {α:Type}(ls:List (Value × List α)):List α:=(ls.map (fun x=>x.2)).flatten
theorem Zhh {α:Type}(ls:List (Value × List α)):(ZbZ ls).length=sumL ls:=by simp [ZbZ,sumL,List.length_flatten,Function.comp_def]
theorem ZdI {α:Type}{ls:List (Value × List α)}{k:Nat}{x:Value × List α}(h:ls[k]? = some x):sumL (ls.take (k+1))=sumL (ls.take k)+x.2.length:=by
 obtain⟨hk,e⟩:=YAD.1 h;unfold sumL;rw [YAI hk,e];simp
theorem Zgc {α:Type}{ls:List (Value × List α)}{k:Nat}{x:Value × List α}(h:ls[k]? = some x):ZbZ (ls.take (k+1))=ZbZ (ls.take k)++x.2:=by
 obtain⟨hk,e⟩:=YAD.1 h;unfold ZbZ;rw [YAI hk,e];simp
theorem ZcL {α:Type}(ls:List (Value × List α))(k:Nat):sumL (ls.take k)<=sumL ls:=by
 have:ls=ls.take k++ls.drop k:=(YAc k ls).symm;have h2:sumL ls=sumL (ls.take k)+sumL (ls.drop k):=by
  conv=>lhs;rw [this]
  unfold sumL;rw [YAf,List.sum_append]
 omega
theorem ZlD {nm:String}:(Builtin.ssaWrapNilChk_ #[t] t #[.pointer (some p),strVal "",strVal nm]).run P w=.ok (.pointer (some p)) w:=rfl
theorem ZhQ {fuel:Nat}{elem e2:TypeId}{f:FuncId}{i:TypeInfo}{m:Go.Method}{name:String}(hi:P.info? t=some i)(hm:i.methods.find? (·.name==name)=some m)(hp:m.path=#[])(hf:m.func=some (f,false))
  (hu:P.underlying t=some (.pointer elem)) (hd:P.underlying elem=some (.slice e2)) (hc:w.cell? p=some u):
  (method (fuel+1) t (.pointer (some p)) name).run P w=.ok (f,u) w:=by
 have hagg:(isAgg elem).run P w=.ok false w:=by
  unfold isAgg;simp [run_underlying hd,go_sem]
 unfold method;simp [typeInfo,hi,hm,hp,hf,follow,receiverAt,run_underlying hu,Place.get,ZlD,asAddr,hagg,go_sem,loadVar,hc]
theorem Zcy {fuel:Nat}{elem e2:TypeId}{f:FuncId}{name:String} (h:(P.info? t).map (fun i=>(i.methods.find? (·.name==name)).map (fun m=>(m.path,m.func)))=some (some (#[],some (f,false))))
  (hu:P.underlying t=some (.pointer elem)) (hd:P.underlying elem=some (.slice e2)) (hc:w.cell? p=some u):
  (method (fuel+1) t (.pointer (some p)) name).run P w=.ok (f,u) w:=by
 obtain⟨i,hi,h1⟩:=Option.map_eq_some_iff.1 h;obtain⟨m,hm,h2⟩:=Option.map_eq_some_iff.1 h1;simp only [Prod.mk.injEq] at h2;exact ZhQ hi hm h2.1 h2.2 hu hd hc
theorem Zfk :Tryz.prog.underlying 185=some (.pointer 160):=by kernel_rfl
theorem ZgU :Tryz.prog.underlying 160=some (.slice 157):=by kernel_rfl
theorem Zea (hc:w.cell? p=some u):(method 372 185 (.pointer (some p)) "Less").run Tryz.prog w=.ok (219,u) w:=
 Zcy (by kernel_rfl) Zfk ZgU hc
theorem Zml (hc:w.cell? p=some u):(method 372 185 (.pointer (some p)) "Len").run Tryz.prog w=.ok (141,u) w:=
 Zcy (by kernel_rfl) Zfk ZgU hc
theorem Zeb (hc:w.cell? p=some u):(method 372 185 (.pointer (some p)) "Swap").run Tryz.prog w=.ok (220,u) w:=
 Zcy (by kernel_rfl) Zfk ZgU hc
end Go.Proofs.YtikloccefmofdaaGreat
