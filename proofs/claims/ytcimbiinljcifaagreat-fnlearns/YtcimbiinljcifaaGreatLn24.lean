/-
  WCard WithK BetterS TogS Shelf SortK WayToS WayToI TogI BestM
-/
import Derived.Test.YtcimbiinljcifaaGreatLn23
import Derived.Test.YtcimbiinljcifaaGreatLn7
import Derived.Deep.RegionHeld3
import Derived.Test.YtcimbiinljcifaaGreatProg
import Derived.Test.YtcimbiinljcifaaGreatLn1
import Derived.Lib.OwnBridge
import Derived.Sort.OwnSortedInts
import Derived.Test.YtcimbiinljcifaaGreatLn13
import Derived.Test.YtcimbiinljcifaaGreatLn3
namespace Go.Proofs.YtcimbiinljcifaaGreat
open Go.RowKit
set_option linter.unusedSimpArgs false
set_option linter.unusedVariables false
set_option maxRecDepth 100000
set_option maxHeartbeats 8000000
def Zda (F:Nat->Bool):Nat:=(F 1).toNat+(F 2).toNat+(F 3).toNat+(F 4).toNat+(F 5).toNat+(F 6).toNat
theorem Zjq {u:Nat}(h:1<=u/\u<=6):u=1\/u=2\/u=3\/u=4\/u=5\/u=6:=by omega
theorem ZeL {F:Nat->Bool}{u:Nat}(hu:1<=u/\u<=6)(hF:F u=false):Zda (fun v=>F v||v==u)=Zda F+1:=by
 unfold Zda
 rcases Zjq hu with rfl | rfl | rfl | rfl | rfl | rfl <;> simp [hF] <;> omega
theorem ZhZ (F:Nat->Bool):Zda F<=6:=by
 unfold Zda;have h1:=Bool.toNat_le (F 1);have h2:=Bool.toNat_le (F 2);have h3:=Bool.toNat_le (F 3);have h4:=Bool.toNat_le (F 4);have h5:=Bool.toNat_le (F 5);have h6:=Bool.toNat_le (F 6);omega
theorem ZjU {F:Nat->Bool}(h:Zda F=6){u:Nat}(hu:1<=u/\u<=6):F u=true:=by
 cases e:F u with
 | true=>rfl
 | false=>
  have:=ZeL hu e;have:=ZhZ (fun v=>F v||v==u)
  omega
theorem ZjW:Zda (fun _=>false)=0:=rfl
def ZcH (c:Nat->Int)(h:Nat->List Int):Nat->List WayD
 | 0=>[]
 | k+1=>ZcH c h k++(if 0<=c (k+1) then [⟨((k+1:Nat):Int),c (k+1),h (k+1)⟩] else [])
theorem ZfU {c d:Nat->Int}{h g:Nat->List Int}(e:∀ v,(0<=c v->d v=c v/\g v=h v)/\(0<=d v->0<=c v)):∀ k,ZcH c h k=ZcH d g k
 | 0=>rfl
 | k+1=>by
  unfold ZcH;rw [ZfU e k]
  congr 1
  by_cases h0:0<=c (k+1)
  ·have:=(e (k+1)).1 h0
   rw [if_pos h0,if_pos (by omega),this.1,this.2]
  ·rw [if_neg h0,if_neg (fun hc=>h0 ((e (k+1)).2 hc))]
theorem Fix.coll {L:Nat->Nat->Int}{src:Nat}{c d:Nat->Int}{h g:Nat->List Int}(A:Fix L src c h)(B:Fix L src d g):ZcH c h 6=ZcH d g 6:=by
 refine ZfU (fun v=>⟨fun h0=>⟨A.cost B v h0,A.hops B v h0⟩,fun h0=>?_⟩) 6
 have:=B.cost A v h0;omega
def ZbJ (xs:List RecD)(area src:Int)(ds:List WayD):Prop:=
 if (Zaw xs&&inB src 1 6&&Zjp xs area src)=true then ∃ c h,Fix (ZgP xs area) src.toNat c h/\ds=ZcH c h 6 else ds=[]
theorem ZbJ.unique {xs:List RecD}{area src:Int}{ds es:List WayD}(h1:ZbJ xs area src ds)(h2:ZbJ xs area src es):ds=es:=by
 unfold ZbJ at h1 h2
 split at h1
 ·rename_i e
  rw [if_pos e] at h2;obtain⟨c,h,A,rfl⟩:=h1;obtain⟨d,g,B,rfl⟩:=h2;exact A.coll B
 ·rename_i e
  rw [if_neg e] at h2;rw [h1,h2]
theorem ZdV (c:Nat->Int)(h:Nat->List Int){v:Nat}(hv:1<=v):ZcH c h v=ZcH c h (v-1)++(if 0<=c v then [⟨(v:Int),c v,h v⟩] else []):=by
 obtain⟨k,rfl⟩:∃ k,v=k+1:=⟨v-1,by omega⟩
 rfl
theorem ZiK (c:Nat->Int)(h:Nat->List Int):∀ k,(ZcH c h k).length<=k
 | 0=>by simp [ZcH]
 | k+1=>by
  unfold ZcH;have:=ZiK c h k;rw [List.length_append]
  split <;> simp <;> omega
theorem Zml {L:Nat->Nat->Int}{c:Nat->Int}{u j:Nat}(hu:0<=c u):mixC L c u j u=c u:=by
 unfold mixC
 split
 ·exact Zc3 hu (Int.le_refl _)
 ·rfl
theorem ZdI {L:Nat->Nat->Int}{src:Nat}{c:Nat->Int}{h:Nat->List Int}{u v:Nat}(h0:0<=c v)(hv:c v<=c u):Zbz L src c h u v=h v/\Zav L c u v=c v:=by
 by_cases hl:0<L u v
 ·exact ZdH h0 (by omega)
 ·exact Zfr hl
theorem Zkg {L:Nat->Nat->Int}{src:Nat}{c:Nat->Int}{h:Nat->List Int}{u j:Nat}(hu:0<=c u):mixH L src c h u j u=h u:=by
 unfold mixH
 split
 ·exact (ZdI hu (Int.le_refl _)).1
 ·rfl
theorem ZhF {L:Nat->Nat->Int}{c:Nat->Int}{u v:Nat}{B:Int}(h:∀ v,c v<=B)(hL:∀ u v,L u v<=1000):Zav L c u v<=B+1000:=by
 unfold Zav;have:=h v;have:=h u;have:=hL u v
 split <;> omega
def ZhR (F:Nat->Bool)(c:Nat->Int)(v a:Nat):Prop:=
 (a=0/\∀ x,1<=x->x<v->F x=false->c x<0)\/(1<=a/\a<v/\F a=false/\0<=c a/\∀ x,1<=x->x<v->F x=false->0<=c x->c a<=c x)
theorem Zem {F:Nat->Bool}{c:Nat->Int}{v a:Nat}(h:ZhR F c v a)(hs:F v=true\/c v<0\/(1<=a/\c a<=c v)):ZhR F c (v+1) a:=by
 rcases h with ⟨h1,h2⟩ | ⟨h1,h2,h3,h4,h5⟩
 ·refine .inl ⟨h1,fun x hx1 hx2 hF=>?_⟩
  by_cases e:x=v
  ·subst e
   rcases hs with h | h | h
   ·rw [hF] at h;cases h
   ·exact h
   ·omega
  ·exact h2 x hx1 (by omega) hF
 ·refine .inr ⟨h1,by omega,h3,h4,fun x hx1 hx2 hF hc=>?_⟩
  by_cases e:x=v
  ·subst e
   rcases hs with h | h | h
   ·rw [hF] at h;cases h
   ·omega
   ·exact h.2
  ·exact h5 x hx1 (by omega) hF hc
theorem Zf2 {F:Nat->Bool}{c:Nat->Int}{v a:Nat}(h:ZhR F c v a)(h1v:1<=v)(hF:F v=false)(hc:0<=c v)(hs:a=0\/c v<c a):ZhR F c (v+1) v:=by
 refine .inr ⟨h1v,by omega,hF,hc,fun x hx1 hx2 hFx hcx=>?_⟩
 by_cases e:x=v
 ·subst e;omega
 ·rcases h with ⟨h1,h2⟩ | ⟨h1,h2,h3,h4,h5⟩
  ·have:=h2 x hx1 (by omega) hFx;omega
  ·have:=h5 x hx1 (by omega) hFx hcx;omega
structure AtRound (L:Nat->Nat->Int) (src:Nat) (F:Nat->Bool) (c:Nat->Int) (h:Nat->List Int) (r:Nat):Prop where
 inv:Inv L src F c h
 bnd:∀ v,c v<=1000*(Zda F:Int)
 at':Zda F+1=r\/(r=7/\∀ v,0<=c v->F v=true)
theorem AtRound.init {L:Nat->Nat->Int}{src:Nat}(hs:Zcx src):AtRound L src (fun _=>false) (fun v=>if v=src then 0 else -1) (fun _=>[]) 1:=by
 refine⟨Inv.init hs,fun v=>?_,.inl rfl⟩
 rw [ZjW]
 show (if v=src then (0:Int) else -1)<=_
 split <;> omega
theorem AtRound.fin {L:Nat->Nat->Int}{src:Nat}{F:Nat->Bool}{c:Nat->Int}{h:Nat->List Int}(a:AtRound L src F c h 7):Fix L src c h/\∀ v,F v=true↔0<=c v:=by
 have hf:∀ v,0<=c v->F v=true:=by
  rcases a.at' with h1 | ⟨_,h1⟩
  ·intro v hv
   exact ZjU (by omega) (a.inv.cnode v hv)
  ·exact h1
 exact⟨⟨F,a.inv,hf⟩,fun v=>⟨fun hv=>(a.inv.fnode v hv).2,hf v⟩⟩
theorem AtRound.none {L:Nat->Nat->Int}{src:Nat}{F:Nat->Bool}{c:Nat->Int}{h:Nat->List Int}{r:Nat}(a:AtRound L src F c h r)(hm:ZhR F c 7 0):AtRound L src F c h 7:=by
 refine⟨a.inv,a.bnd,.inr ⟨rfl,fun v hv=>?_⟩⟩
 have hn:=a.inv.cnode v hv;unfold Zcx at hn;cases e:F v with
 | true=>rfl
 | false=>
  rcases hm with ⟨_,h2⟩ | ⟨h1,_⟩
  ·have:=h2 v hn.1 (by omega) e;omega
  ·omega
theorem AtRound.next {L:Nat->Nat->Int}{src:Nat}{F:Nat->Bool}{c:Nat->Int}{h:Nat->List Int}{r u:Nat}(a:AtRound L src F c h r)(hL:Links L 1000)(hr:r<7)(hm:ZhR F c 7 u)(hu:1<=u):AtRound L src (fun v=>F v||v==u) (fun v=>Zav L c u v) (fun v=>Zbz L src c h u v) (r+1):=by
 rcases hm with ⟨h1,_⟩ | ⟨h1,h2,h3,h4,h5⟩
 ·omega
 ·have hcard:Zda (fun v=>F v||v==u)=Zda F+1:=ZeL ⟨h1,by omega⟩ h3
  refine⟨a.inv.step hL h3 h4 (fun v hv hc=>?_) (fun v=>Zik a.inv hL h4 v),fun v=>?_,.inl ?_⟩
  ·have hn:=a.inv.cnode v hc
   unfold Zcx at hn;exact h5 v hn.1 (by omega) hv hc
  ·rw [hcard]
   have:=ZhF (L:=L) (u:=u) (v:=v) a.bnd hL.le;omega
  ·rw [hcard]
   rcases a.at' with h6 | ⟨h6,_⟩
   ·omega
   ·omega
theorem Zg1 (W:World)(lo:Nat)(hb:lo<=W.heap.size):WaysOwn (W.alloc (.cells #[] 183)) lo (W.alloc (.cells #[] 183)).heap.size (.slice (some ⟨W.heap.size,0,none⟩) 0 0) [] where
 row:=World.ownsRow_lit W #[] 0 hb (by unfold maxLen;omega) (by simp)
 top:=by intro k hk;simp [Value.ownBlock] at hk;subst hk;simp
 nears:=by simp
 apart:=by simp
end Go.Proofs.YtcimbiinljcifaaGreat
namespace Go.Proofs.YtcimbiinljcifaaGreat
open Go.RowKit

open Classical in
noncomputable def Zcb (xs:List RecD) (area src:Int):List WayD:=if h:∃ ds,ZbJ xs area src ds then Classical.choose h else []

theorem ZbJ.eq {xs:List RecD}{area src:Int}{ds:List WayD}(h:ZbJ xs area src ds):ds=Zcb xs area src:=by
 unfold Zcb;rw [dif_pos ⟨ds,h⟩];exact h.unique (Classical.choose_spec (⟨ds,h⟩:∃ ds,ZbJ xs area src ds))

def Zli (tog:WayD->WayD->WayD)(best:Option WayD)(w:Option WayD):Option WayD:=match w with
 | none=>best
 | some w=>match best with
  | none=>some w
  | some b=>some (tog b w)

def Zcc (ds:List WayD)(to:Int):Option WayD:=ds.find? (fun x=>x.to==to)

end Go.Proofs.YtcimbiinljcifaaGreat
namespace Go.Proofs.YtcimbiinljcifaaGreat
open Go.RowKit
set_option linter.unusedSimpArgs false
set_option linter.unusedVariables false
set_option maxRecDepth 100000
set_option maxHeartbeats 8000000
def Zdz (x y:WayD):Bool:=decide (x.cost<y.cost)
theorem Zft (u1 u2:Value)(x y:WayD)(w:World):Calls Tryz.prog 154 #[.agg (wayC x u1),.agg (wayC y u2)] w fun e w'=>e=.returned (.bool (Zdz x y))/\Below w.heap.size w w':=by
 unfold wayC Zdz
 go_enter Tryz.func154,Tryz.ntmps154
 go_wp2
 go_ret
 exact⟨rfl,ZaW _ _⟩
def togD (x y:WayD):WayD:=if Zdz x y then x else if Zdz y x then y else ⟨x.to,x.cost,addL x.hops y.hops⟩
theorem ZiB (a b:List Int):(addL a b).length<=6:=Zgs a b 6
theorem ZkI {x y:WayD}{n:Nat}(hx:x.hops.length<=n)(hy:y.hops.length<=n)(h6:6<=n):(togD x y).hops.length<=n:=by
 unfold togD
 split
 ·exact hx
 ·split
  ·exact hy
  ·exact Nat.le_trans (ZiB _ _) h6
theorem cellW3 {W:World}{g b j:Nat}{x0 x1 x2:Value}(h:b≠g):(((W.setCell ⟨g,0,none⟩ x0).setCell ⟨g,1,none⟩ x1).setCell ⟨g,2,none⟩ x2).cell? ⟨b,j,none⟩=W.cell? ⟨b,j,none⟩:=by
 refine World.cell?_of_block ?_
 show (((W.setCell ⟨g,0,none⟩ x0).setCell ⟨g,1,none⟩ x1).setCell ⟨g,2,none⟩ x2).heap[b]? = W.heap[b]?
 rw [heap_setCell_other _ ⟨g,2,none⟩ b _ h,heap_setCell_other _ ⟨g,1,none⟩ b _ h,heap_setCell_other _ ⟨g,0,none⟩ b _ h]
theorem Zi2 (x y:WayD)(u1 u2:Value)(b1 b2:Nat)(w:World)(h1:w.ownsRow b1 3 1 u1 x.hops.length (flat intE x.hops))(h2:w.ownsRow b2 3 1 u2 y.hops.length (flat intE y.hops))(hx:x.hops.length<=1048576)(hy:y.hops.length<=1048576):
  Calls Tryz.prog 148 #[.agg (wayC x u1),.agg (wayC y u2)] w fun e w'=>∃ v',e=.returned (.agg (wayC (togD x y) v'))/\w'.ownsRow w.heap.size 3 1 v' (togD x y).hops.length (flat intE (togD x y).hops)/\Below w.heap.size w w':=by
 obtain⟨a1,c1,rfl⟩:=Zac h1;obtain⟨a2,c2,rfl⟩:=Zac h2;have HC1:=hide (fun W (hb:Below w.heap.size w W)=>Ze3 x (.slice a1 x.hops.length c1) b1 W (Zah h1 hb (Nat.le_refl _)) hx)
 have HC2:=hide (fun W (hb:Below w.heap.size w W)=>Ze3 y (.slice a2 y.hops.length c2) b2 W (Zah h2 hb (Nat.le_refl _)) hy)
 have HB1:=hide (fun W=>Zft (.slice a1 x.hops.length c1) (.slice a2 y.hops.length c2) x y W)
 have HB2:=hide (fun W=>Zft (.slice a2 y.hops.length c2) (.slice a1 x.hops.length c1) y x W)
 have HAD:=hide (fun W (hb:Below w.heap.size w W)=>Zc5 (.slice a1 x.hops.length c1) (.slice a2 y.hops.length c2) x.hops y.hops W hx hy ((ZaT.later (Zaq h1) hb (Nat.le_refl _)).more hb.size) ((ZaT.later (Zaq h2) hb (Nat.le_refl _)).more hb.size))
 obtain⟨P,hP⟩:∃ P,P=Zdz x y:=⟨_,rfl⟩;obtain⟨Q,hQ⟩:∃ Q,Q=Zdz y x:=⟨_,rfl⟩;obtain⟨D,hD⟩:∃ D,D=togD x y:=⟨_,rfl⟩;rw [<-hP] at HB1;rw [<-hQ] at HB2;rw [<-hD];have HD:=hide hD;unfold togD at HD;rw [<-hP, <-hQ] at HD;have BW:=ZeX (w:=w) (.cells #[.int .i64 x.to,.int .i64 x.cost,.slice a1 x.hops.length c1] 183) (.cells #[.int .i64 y.to,.int .i64 y.cost,.slice a2 y.hops.length c2] 183) (.cells #[.int .i64 0,.int .i64 0,.slice none 0 0] 183);have q0:=Zmd w (.cells #[.int .i64 x.to,.int .i64 x.cost,.slice a1 x.hops.length c1] 183) (.cells #[.int .i64 y.to,.int .i64 y.cost,.slice a2 y.hops.length c2] 183) (.cells #[.int .i64 0,.int .i64 0,.slice none 0 0] 183);have q1:=Zme w (.cells #[.int .i64 x.to,.int .i64 x.cost,.slice a1 x.hops.length c1] 183) (.cells #[.int .i64 y.to,.int .i64 y.cost,.slice a2 y.hops.length c2] 183) (.cells #[.int .i64 0,.int .i64 0,.slice none 0 0] 183);have q2:=Zmf w (.cells #[.int .i64 x.to,.int .i64 x.cost,.slice a1 x.hops.length c1] 183) (.cells #[.int .i64 y.to,.int .i64 y.cost,.slice a2 y.hops.length c2] 183) (.cells #[.int .i64 0,.int .i64 0,.slice none 0 0] 183);obtain⟨w0,hw0⟩:∃ W,W=((w.alloc (.cells #[.int .i64 x.to,.int .i64 x.cost,.slice a1 x.hops.length c1] 183)).alloc (.cells #[.int .i64 y.to,.int .i64 y.cost,.slice a2 y.hops.length c2] 183)).alloc (.cells #[.int .i64 0,.int .i64 0,.slice none 0 0] 183):=⟨_,rfl⟩;rw [<-hw0] at BW q0 q1 q2;clear h1 h2 hP hQ hD;unfold wayC at *;have fin:∀ (X:WayD) (na:Option Addr) (nc lo:Nat) (W:World),W.heap[w.heap.size+1+1]? = some (.cells #[.int .i64 0,.int .i64 0,.slice none 0 0] 183)->W.ownsRow lo 3 1 (.slice na X.hops.length nc) X.hops.length (flat intE X.hops)->w.heap.size+1+1<lo->Below w.heap.size w W->(ZbT W (w.heap.size+1+1) X (.slice na X.hops.length nc)).heap[w.heap.size+1+1]? = some (.cells (wayC X (.slice na X.hops.length nc)) 183)/\(ZbT W (w.heap.size+1+1) X (.slice na X.hops.length nc)).ownsRow w.heap.size 3 1 (.slice na X.hops.length nc) X.hops.length (flat intE X.hops)/\Below w.heap.size w (ZbT W (w.heap.size+1+1) X (.slice na X.hops.length nc)):=by
  intro X na nc lo W hz ho hlo hb;have G:=ZbH W (w.heap.size+1+1) X (.slice na X.hops.length nc);refine⟨Zh0 X _ hz,Zal (Zam ho (fun k hk=>G.block k (ho.lt k hk).2 (fun e=>by have:=(ho.lt k hk).1;simp at e;omega))) (by omega),hb.grown G hb.size (fun k hk=>by simp at hk;omega)⟩
 have FIN:=hide fin;clear fin;have r0:=Zaa q0 0;have r1:=Zaa q0 1;have r2:=Zaa q0 2;have s0:=Zaa q1 0;have s1:=Zaa q1 1;have s2:=Zaa q1 2;simp at r0 r1 r2 s0 s1 s2
 have z0:=Zab q0;have z1:=Zab q1;have z2:=Zab q2
 go_enter Tryz.func148,Tryz.ntmps148
 go_wp2_with fail
 rw [<-hw0];clear hw0;refine (HB1.out _).mono ?_
 rintro e w1 ⟨rfl,e1⟩;have e1s:=e1.size;have B1:Below w.heap.size w w1:=BW.trans (e1.mono BW.size);have p0:=(e1.block _ z0).trans q0;have p1:=(e1.block _ z1).trans q1;have p2:=(e1.block _ z2).trans q2;clear r0 r1 r2 s0 s1 s2 q0 q1 q2 e1;have r0:=Zaa p0 0;have r1:=Zaa p0 1;have r2:=Zaa p0 2;have s0:=Zaa p1 0;have s1:=Zaa p1 1;have s2:=Zaa p1 2;simp at r0 r1 r2 s0 s1 s2
 cases P
 ·go_wp2_with fail
  refine (HB2.out _).mono ?_
  rintro e w2 ⟨rfl,e2⟩;have e2s:=e2.size;have B2:Below w.heap.size w w2:=B1.trans (e2.mono B1.size);have k0:=(e2.block _ (Zab p0)).trans p0;have k1:=(e2.block _ (Zab p1)).trans p1;have k2:=(e2.block _ (Zab p2)).trans p2;clear r0 r1 r2 s0 s1 s2 p0 p1 p2 e2;have r0:=Zaa k0 0;have r1:=Zaa k0 1;have r2:=Zaa k0 2;have s0:=Zaa k1 0;have s1:=Zaa k1 1;have s2:=Zaa k1 2;simp at r0 r1 r2 s0 s1 s2
  cases Q
  ·have hDe:D=⟨x.to,x.cost,addL x.hops y.hops⟩:=HD.out
   have zz0:w.heap.size<w2.heap.size:=by omega
   have zz1:w.heap.size+1<w2.heap.size:=by omega
   have B2D:Below w.heap.size w w2.drew:=B2.drew;have HAL:=hide (ZiB x.hops y.hops);have K2:=hide k2;clear k0 k1 k2
   go_wp2
   go_region_held3 (fun W=>W.cell? ⟨w.heap.size,0,none⟩=some (.int .i64 x.to)/\W.cell? ⟨w.heap.size,1,none⟩=some (.int .i64 x.cost)/\W.cell? ⟨w.heap.size,2,none⟩=some (.slice a1 x.hops.length c1)/\W.cell? ⟨w.heap.size+1,2,none⟩=some (.slice a2 y.hops.length c2)) (first | (refine ⟨?_,?_,?_,?_⟩ <;> (rw [b3.cell (by assumption)];assumption)) | (refine ⟨?_,?_,?_,?_⟩ <;> (rw [cellW3 (by omega),b3.cell (by assumption)];assumption)) | go_keep) (first | (go_at_call 147;refine (HAD.out _ B2D).mono ?_;rintro e w3 ⟨v3,rfl,o3,b3⟩;obtain⟨na,nc,rfl⟩:=Zac o3;have k3:=(b3.block _ (show w.heap.size+1+1<w2.drew.heap.size from Zab K2.out)).trans K2.out;have t0:=Zaa k3 0;have t1:=Zaa k3 1;have t2:=Zaa k3 2;simp at t0 t1 t2;have ft:=Zae k3))
   have F:=FIN.out ⟨x.to,x.cost,addL x.hops y.hops⟩ na nc _ w3 k3 o3 (Zab K2.out) (B2D.trans (b3.mono B2D.size));subst hDe;clear k3 t0 t1 t2 ft;have FF:=hide F.1;have O5:=hide F.2.1;have B5:=hide F.2.2;clear F
   go_wp2_with fail
   (try simp only [Exit.inBlock,Exit.then])
   refine bodyPost_ret (results_cell_row rfl _ _ (w.heap.size+1+1) 183 (wayC _ _) (0,0) _ rfl FF.out Tryz.underlying183 rfl (by kernel_rfl)) rfl ?_
   exact⟨_,rfl,O5.out,B5.out⟩
  ·have hDe:D=y:=HD.out
   subst hDe
   go_wp2_with fail
   refine (HC2.out _ B2).mono ?_
   rintro e w3 ⟨v3,rfl,o3,b3⟩;obtain⟨na,nc,rfl⟩:=Zac o3;have k3:=(b3.block _ (Zab k2)).trans k2;have t0:=Zaa k3 0;have t1:=Zaa k3 1;have t2:=Zaa k3 2;simp at t0 t1 t2
   have ft:=Zae k3;have F:=FIN.out D na nc _ w3 k3 o3 (Zab k2) (B2.trans (b3.mono B2.size));clear k0 k1 k2 k3 o3 r0 r1 r2 s0 s1 s2;have FF:=hide F.1;have O5:=hide F.2.1;have B5:=hide F.2.2;clear F
   go_wp2_with fail
   (try simp only [Exit.inBlock,Exit.then])
   refine bodyPost_ret (results_cell_row rfl _ _ (w.heap.size+1+1) 183 (wayC _ _) (0,0) _ rfl FF.out Tryz.underlying183 rfl (by kernel_rfl)) rfl ?_
   exact⟨_,rfl,O5.out,B5.out⟩
 ·have hDe:D=x:=HD.out
  subst hDe
  go_wp2_with fail
  refine (HC1.out _ B1).mono ?_
  rintro e w3 ⟨v3,rfl,o3,b3⟩;obtain⟨na,nc,rfl⟩:=Zac o3;have k3:=(b3.block _ (Zab p2)).trans p2;have t0:=Zaa k3 0;have t1:=Zaa k3 1;have t2:=Zaa k3 2;simp at t0 t1 t2
  have ft:=Zae k3;have F:=FIN.out D na nc _ w3 k3 o3 (Zab p2) (B1.trans (b3.mono B1.size));clear p0 p1 p2 k3 o3 r0 r1 r2 s0 s1 s2;have FF:=hide F.1;have O5:=hide F.2.1;have B5:=hide F.2.2;clear F
  go_wp2_with fail
  (try simp only [Exit.inBlock,Exit.then])
  refine bodyPost_ret (results_cell_row rfl _ _ (w.heap.size+1+1) 183 (wayC _ _) (0,0) _ rfl FF.out Tryz.underlying183 rfl (by kernel_rfl)) rfl ?_
  exact⟨_,rfl,O5.out,B5.out⟩
end Go.Proofs.YtcimbiinljcifaaGreat
namespace Go.Proofs.YtcimbiinljcifaaGreat
end Go.Proofs.YtcimbiinljcifaaGreat
namespace Go.Proofs.YtcimbiinljcifaaGreat
open Go.RowKit
set_option linter.unusedSimpArgs false
set_option linter.unusedVariables false
set_option maxRecDepth 100000
set_option maxHeartbeats 8000000

theorem Zbx {P:Program}{fn:Func}{p u:Tmp}{ty:TypeId}(h:fn.results=#[.cell p ty,.tmp u])(tmps:Array Value)(w:World)(g:Nat)(t:TypeId)(cs:Array Value)(fr:Nat × Nat)(d:TypeDesc)
  (hp:tmps.getD p undef=.pointer (some ⟨g,0,none⟩)) (hg:w.heap[g]? = some (.cells cs t fr))
  (hu:P.underlying ty=some d) (hd:(match d with | .struct _ | .array _ _=>true | _=>false)=true) (hi:(P.info? ty).map (·.size)=some cs.size):
  (results fn tmps).run P w=.ok (.tuple #[.agg cs,tmps.getD u undef]) w:=by
 have hp':tmps[p]?.getD undef=.pointer (some ⟨g,0,none⟩):=by simpa using hp
 rw [results_cell_tmp h];simp [hp',asAddr,run_loadVar_row w g t ty cs fr d hg hu hd hi]
def ZbX (xs:List WayD)(z:Int):WayD:=(xs.find? (fun x=>x.to==z)).getD Zcu
def ZbD (xs:List WayD)(z:Int):Bool:=(xs.find? (fun x=>x.to==z)).isSome
theorem ZkO {ps:List WP}{k:Nat}{p:WP}{z:Int}(h:ps[k]? = some p)(hno:∀ q∈ps.take k,q.1.to≠z)(hz:p.1.to=z):ZbX (ZaH ps) z=p.1/\ZbD (ZaH ps) z=true:=by
 have e:(ZaH ps).find? (fun x=>x.to==z)=some p.1:=by
  have h1:=Zk0 h;obtain⟨hk,e1⟩:=List.getElem?_eq_some_iff.1 h1;rw [List.find?_eq_some_iff_append];refine⟨by simpa using hz,(ZaH ps).take k,(ZaH ps).drop (k+1),?_,?_⟩
  ·rw [<-e1, <-List.drop_eq_getElem_cons hk,List.take_append_drop]
  ·intro x hx
   have e2:(ZaH ps).take k=ZaH (ps.take k):=by simp [ZaH]
   rw [e2] at hx;simp only [ZaH,List.mem_map] at hx
   obtain⟨q,hq,rfl⟩:=hx
   simpa using hno q hq
 unfold ZbX ZbD;rw [e];exact⟨rfl,rfl⟩
theorem ZjM {ps:List WP}{z:Int}(hno:∀ q∈ps,q.1.to≠z):ZbX (ZaH ps) z=Zcu/\ZbD (ZaH ps) z=false:=by
 have e:(ZaH ps).find? (fun x=>x.to==z)=none:=by
  rw [List.find?_eq_none];intro x hx;simp only [ZaH,List.mem_map] at hx
  obtain⟨q,hq,rfl⟩:=hx
  simpa using hno q hq
 unfold ZbX ZbD;rw [e];exact⟨rfl,rfl⟩
theorem ZlJ {ps:List WP}{k:Nat}{p:WP}{z:Int}(h:ps[k]? = some p)(hno:∀ q∈ps.take k,q.1.to≠z)(hz:p.1.to≠z):∀ q∈ps.take (k+1),q.1.to≠z:=by
 obtain⟨hk,e⟩:=List.getElem?_eq_some_iff.1 h;rw [List.take_succ_eq_append_getElem hk,e];intro q hq
 rcases List.mem_append.1 hq with h1 | h1
 ·exact hno q h1
 ·have:q=p:=by simpa using h1
  subst this;exact hz
theorem Zch (v:Value)(ps:List WP)(lo hi:Nat)(z:Int)(w:World)(hv:WaysOwn w lo hi v ps)(hhi:hi<=w.heap.size)(hn:totW ps<=1048576):
  Calls Tryz.prog 140 #[v,.int .i64 z] w fun e w'=>∃ u,e=.returned (.tuple #[.agg (wayC (ZbX (ZaH ps) z) u),.bool (ZbD (ZaH ps) z)])/\w'.ownsRow w.heap.size 3 1 u (ZbX (ZaH ps) z).hops.length (flat intE (ZbX (ZaH ps) z).hops)/\Below w.heap.size w w':=by
 have hnl:=ZlN ps;obtain⟨D,hD⟩:∃ D,D=ZbX (ZaH ps) z:=⟨_,rfl⟩;obtain⟨F,hF⟩:∃ F,F=ZbD (ZaH ps) z:=⟨_,rfl⟩;rw [<-hD, <-hF];have HD:=hide hD;have HF:=hide hF;clear hD hF;obtain⟨a1,c1,rfl⟩:=Zac hv.row;have HV:=hide hv;clear hv;have BX:Below w.heap.size w (w.alloc (.cells #[.int .i64 0,.int .i64 0,.slice none 0 0] 183)):=(Below.refl _ _).alloc (Nat.le_refl _) _;have hq:=heap_alloc_new w (.cells #[.int .i64 0,.int .i64 0,.slice none 0 0] 183);obtain⟨w0,hw0⟩:∃ W,W=w.alloc (.cells #[.int .i64 0,.int .i64 0,.slice none 0 0] 183):=⟨_,rfl⟩;rw [<-hw0] at BX hq;have hs0:=Zab hq;have HQ:=hide hq;clear hq;unfold wayC
 go_enter Tryz.func140,Tryz.ntmps140
 go_wp2
 rw [<-hw0];clear hw0
 go_loopw [6] (fun i wr=>∃ k:Nat,k<=ps.length/\i=.int .i64 k/\Hid (∀ q∈ps.take k,q.1.to≠z)/\Below w0.heap.size w0 wr) (fun i _=>ps.length-(intOf i).toNat)
 case atStart=>exact ⟨0,by omega,rfl,hide (by simp),Below.refl _ _⟩
 case round=>
  obtain⟨k,hk,rfl,HNO,hnx⟩:=hrel;have hsz:=hnx.size;have BWR:Below w.heap.size w wr:=BX.trans (hnx.mono (by omega))
  have hz1:=(hnx.block _ hs0).trans HQ.out;by_cases hlt:k<ps.length
  ·obtain ⟨p,hp⟩:∃ p,ps[k]? = some p:=⟨ps[k],List.getElem?_eq_getElem hlt⟩
   obtain⟨b,off,cp,hve,hbb,c0,c1,c2,_⟩:=HV.out.at.cells k p hp;cases hve
   have hbw:b<w.heap.size:=by omega
   have hno:=HV.out.nears p (List.mem_of_getElem? hp);obtain⟨pa,pc,hpn⟩:=Zac hno.1;have HCP:=hide (fun W (hb:Below w.heap.size w W)=>Ze3 p.1 p.2 lo W (Zah hno.1 hb (Nat.le_refl _)) (by have:=ZlO (List.mem_of_getElem? hp);omega))
   unfold wayC at HCP;rw [hpn] at c2 HCP;rw [<-BWR.cell (p:=⟨b,off+k*3,none⟩) hbw] at c0;rw [<-BWR.cell (p:=⟨b,off+k*3+1,none⟩) hbw] at c1;rw [<-BWR.cell (p:=⟨b,off+k*3+2,none⟩) hbw] at c2;have hki:(0:Int)<=(k:Int):=by omega
   have hkj:(k:Int)<(ps.length:Int):=by omega
   by_cases hzz:p.1.to=z
   ·have hh:=ZkO hp HNO.out hzz
    have hDe:D=p.1:=HD.out.trans hh.1;have hFe:F=true:=HF.out.trans hh.2;subst hDe hFe;subst hzz;clear hp hno hpn hh
    go_wp2_with fail
    refine (HCP.out _ BWR).mono ?_
    rintro e w2 ⟨v1,rfl,hn2,b2⟩;obtain⟨na,nc,rfl⟩:=Zac hn2;have b2s:=b2.size;have hz2:=(b2.block _ (Zab hz1)).trans hz1;have u0:=Zaa hz2 0;have u1:=Zaa hz2 1;have u2:=Zaa hz2 2;simp at u0 u1 u2
    have fu:=Zae hz2;have FF:=hide (Zh0 p.1 (.slice na p.1.hops.length nc) hz2);have G8:=ZbH w2 w.heap.size p.1 (.slice na p.1.hops.length nc);have O3:=hide (Zal (b0:=w.heap.size) (hn2.kept G8 (by
     cases hv:(Value.slice na p.1.hops.length nc).ownBlock with
     | none=>exact .inl rfl
     | some g=>exact .inr (fun e=>by have:=(hn2.lt g hv).1;simp at e;omega))) (by omega))
    have B2:Below w.heap.size w w2:=BWR.trans (b2.mono (by omega))
    have BF:=hide (B2.grown G8 B2.size (fun k hk=>by simp at hk;omega))
    clear hz2 hn2 b2 G8 hz1
    go_wp2_with fail
    (try simp only [Exit.inBlock,Exit.then])
    refine bodyPost_ret (Zbx rfl _ _ w.heap.size 183 (wayC p.1 (.slice na p.1.hops.length nc)) (0,0) _ rfl FF.out Tryz.underlying183 rfl (by kernel_rfl)) rfl ?_
    exact⟨_,rfl,O3.out,BF.out⟩
   ·have HN:=hide (ZlJ hp HNO.out hzz)
    have hd:(p.1.to==z)=false:=by simpa using hzz
    clear hp hno hpn hz1
    go_wp2
    go_roundw
    case rel=>exact ⟨k+1,by omega,by go_num,HN,hnx⟩
    case measure=>simp [intOf];omega
  ·have hh:=ZjM (ps:=ps) (z:=z) (by have h:=HNO.out;rw [List.take_of_length_le (by omega)] at h;exact h)
   have hDe:D=Zcu:=HD.out.trans hh.1;have hFe:F=false:=HF.out.trans hh.2;subst hDe hFe;have u0:=Zaa hz1 0;have u1:=Zaa hz1 1;have u2:=Zaa hz1 2;simp at u0 u1 u2
   have fu:=Zae hz1;have FF:=hide (Zh0 Zcu (.slice none 0 0) hz1);have G8:=hide (ZbH wr w.heap.size Zcu (.slice none 0 0));clear hz1 hh
   go_wp2_with fail
   (try simp only [Exit.inBlock,Exit.then])
   refine bodyPost_ret (Zbx rfl _ _ w.heap.size 183 (wayC Zcu (.slice none 0 0)) (0,0) _ rfl FF.out Tryz.underlying183 rfl (by kernel_rfl)) rfl ?_
   exact⟨.slice none 0 0,rfl,World.ownsRow_nil _ _ _ _,BWR.grown G8.out BWR.size (fun k hk=>by simp at hk;omega)⟩


def Hop6 (l:List Int):Prop:=∀ z∈l,1<=z/\z<=6
structure GoodW (x:WayD):Prop where
 node:1<=x.to/\x.to<=6
 cost:0<=x.cost/\x.cost<=60000
 asc:x.hops.Pairwise (· < ·)
 hop6:Hop6 x.hops
theorem Zey:∀ {l:List Int}{a:Int},l.Pairwise (· < ·)->(∀ z∈l,a<=z/\z<=6)->(l.length:Int)<=7-a\/l=[]
 | [],_,_,_=>.inr rfl
 | x::xs,a,h,hr=>by
  have h':=List.pairwise_cons.1 h;have hx:=hr x (by simp)
  rcases Zey (a:=x+1) h'.2 (fun z hz=>⟨by have:=h'.1 z hz;omega,(hr z (by simp [hz])).2⟩) with h1 | h1
  ·left;simp;omega
  ·left;subst h1;simp;omega
theorem ZeK {l:List Int}(h:l.Pairwise (· < ·))(h6:Hop6 l):l.length<=6:=by
 rcases Zey (a:=1) h h6 with h1 | h1
 ·omega
 ·subst h1;simp
theorem GoodW.len {x:WayD}(h:GoodW x):x.hops.length<=6:=ZeK h.asc h.hop6
def AscW (ds:List WayD):Prop:=ds.Pairwise (fun x y=>x.to<y.to)
theorem ZiE:∀ {a b:List WayD},AscW a->AscW b->(∀ x,x∈a↔x∈b)->a=b
 | [],[],_,_,_=>rfl
 | [],y::ys,_,_,h=>by have:=(h y).2 (by simp);cases this
 | x::xs,[],_,_,h=>by have:=(h x).1 (by simp);cases this
 | x::xs,y::ys,ha,hb,h=>by
  have ha':=List.pairwise_cons.1 ha;have hb':=List.pairwise_cons.1 hb;have hxy:x=y:=by
   have h1:=(h x).1 (by simp)
   have h2:=(h y).2 (by simp)
   rcases List.mem_cons.1 h1 with e | e
   ·exact e
   ·rcases List.mem_cons.1 h2 with e2 | e2
    ·exact e2.symm
    ·have:=ha'.1 y e2;have:=hb'.1 x e;omega
  subst hxy;have:xs=ys:=by
   refine ZiE ha'.2 hb'.2 (fun z=>?_)
   have hz:=h z
   constructor
   ·intro hm
    have h1:=hz.1 (List.mem_cons_of_mem _ hm)
    rcases List.mem_cons.1 h1 with e | e
    ·have:=ha'.1 z hm;subst e;omega
    ·exact e
   ·intro hm
    have h1:=hz.2 (List.mem_cons_of_mem _ hm)
    rcases List.mem_cons.1 h1 with e | e
    ·have:=hb'.1 z hm;subst e;omega
    ·exact e
  rw [this]
theorem Zbp {ds:List WayD}{to:Int}{w:WayD}(h:Zcc ds to=some w):w∈ds/\w.to=to:=by
 unfold Zcc at h;exact⟨List.mem_of_find?_eq_some h,by have:=List.find?_some h;simpa using this⟩
theorem Zej {ds:List WayD}{to:Int}(h:Zcc ds to=none):∀ w∈ds,w.to≠to:=by
 unfold Zcc at h;rw [List.find?_eq_none] at h;intro w hw
 simpa using h w hw
theorem Zhb {ds:List WayD}(h:AscW ds){x y:WayD}(hx:x∈ds)(hy:y∈ds)(e:x.to=y.to):x=y:=by
 induction ds with
 | nil=>cases hx
 | cons a ds ih=>
  have h':=List.pairwise_cons.1 h
  rcases List.mem_cons.1 hx with e1 | e1
  ·rcases List.mem_cons.1 hy with e2 | e2
   ·rw [e1,e2]
   ·have:=h'.1 y e2;subst e1;omega
  ·rcases List.mem_cons.1 hy with e2 | e2
   ·have:=h'.1 x e1;subst e2;omega
   ·exact ih h'.2 e1 e2
theorem ZdW {ds:List WayD}(h:AscW ds){w:WayD}(hw:w∈ds):Zcc ds w.to=some w:=by
 cases e:Zcc ds w.to with
 | none=>exact absurd rfl (Zej e w hw)
 | some x=>
  have h1:=Zbp e;rw [Zhb h h1.1 hw h1.2]
theorem ZjQ {a b:List WayD}(ha:AscW a)(hb:AscW b)(h:∀ to,Zcc a to=Zcc b to):a=b:=by
 refine ZiE ha hb (fun x=>⟨fun hx=>?_,fun hx=>?_⟩)
 ·have:=ZdW ha hx
  rw [h] at this;exact (Zbp this).1
 ·have:=ZdW hb hx
  rw [<-h] at this;exact (Zbp this).1
def ZaI (to:Int)(S:WayD->Prop):Option WayD->Prop
 | none=>∀ w,¬S w
 | some b=>b.to=to/\(∃ w,S w/\w.cost=b.cost)/\(∀ w,S w->b.cost<=w.cost)/\b.hops.Pairwise (· < ·)/\∀ x,x∈b.hops↔∃ w,S w/\w.cost=b.cost/\x∈w.hops
theorem ZaI.unique {to:Int}{S:WayD->Prop}{o o':Option WayD}(h:ZaI to S o)(h':ZaI to S o'):o=o':=by
 cases o with
 | none=>
  cases o' with
  | none=>rfl
  | some b=>
   obtain⟨_,⟨w,hw,_⟩,_⟩:=h';exact absurd hw (h w)
 | some a=>
  cases o' with
  | none=>
   obtain⟨_,⟨w,hw,_⟩,_⟩:=h;exact absurd hw (h' w)
  | some b=>
   obtain⟨h1,⟨w,hw,e1⟩,h3,h4,h5⟩:=h;obtain⟨k1,⟨v,hv,e2⟩,k3,k4,k5⟩:=h';have hc:a.cost=b.cost:=by
    have:=h3 v hv;have:=k3 w hw;omega
   have hh:a.hops=b.hops:=ZhU h4 k4 (fun x=>by rw [h5,k5,hc])
   cases a;cases b
   simp at *
   exact⟨by rw [h1,k1],hc,hh⟩
theorem ZaI.congr {to:Int}{S T:WayD->Prop}{o:Option WayD}(h:ZaI to S o)(e:∀ w,S w↔T w):ZaI to T o:=by
 have:S=T:=funext fun w=>propext (e w)
 rw [<-this];exact h
def ZjN (tog:WayD->WayD->WayD):Prop:=∀ x y:WayD,Hop6 x.hops->Hop6 y.hops->(x.cost<y.cost->tog x y=x)/\(y.cost<x.cost->tog x y=y) /\
 (x.cost=y.cost->(tog x y).to=x.to/\(tog x y).cost=x.cost/\(tog x y).hops.Pairwise (· < ·)/\∀ z,z∈(tog x y).hops↔z∈x.hops\/z∈y.hops)
theorem ZkH:ZjN togD:=by
 intro x y hx hy;unfold togD Zdz;refine⟨fun h=>by simp [h],fun h=>?_,fun h=>?_⟩
 ·rw [if_neg (by simp;omega),if_pos (by simpa using h)]
 ·rw [if_neg (by simp;omega),if_neg (by simp;omega)]
  refine⟨rfl,rfl,Zgq _ _,fun z=>?_⟩
  show z∈addL x.hops y.hops↔_
  rw [Zgr]
  constructor
  ·exact fun h=>h.2.2
  ·rintro (h1 | h1)
   ·exact ⟨(hx z h1).1,(hx z h1).2,.inl h1⟩
   ·exact ⟨(hy z h1).1,(hy z h1).2,.inr h1⟩
theorem ZaI.hop6 {to:Int}{S:WayD->Prop}{b:WayD}(h:ZaI to S (some b))(hS:∀ w,S w->Hop6 w.hops):Hop6 b.hops:=by
 intro z hz;obtain⟨w,hw,_,hm⟩:=(h.2.2.2.2 z).1 hz;exact hS w hw z hm
theorem ZaI.add {tog:WayD->WayD->WayD}(ht:ZjN tog){to:Int}{S:WayD->Prop}{o:Option WayD}{w:WayD}(h:ZaI to S o)(hS:∀ w,S w->Hop6 w.hops)(hto:w.to=to)(hasc:w.hops.Pairwise (· < ·))(h6:Hop6 w.hops):ZaI to (fun x=>S x\/x=w) (Zli tog o (some w)):=by
 cases o with
 | none=>
  refine⟨hto,⟨w,.inr rfl,rfl⟩,fun x hx=>?_,hasc,fun x=>⟨fun hx=>⟨w,.inr rfl,rfl,hx⟩,?_⟩⟩
  ·rcases hx with h1 | rfl
   ·exact absurd h1 (h x)
   ·exact Int.le_refl _
  ·rintro ⟨v,h1 | rfl,_,hm⟩
   ·exact absurd h1 (h v)
   ·exact hm
 | some b=>
  have hb6:=h.hop6 hS;obtain⟨h1,⟨u,hu,e1⟩,h3,h4,h5⟩:=h;obtain⟨t1,t2,t3⟩:=ht b w hb6 h6
  show ZaI to _ (some (tog b w))
  rcases Int.lt_trichotomy b.cost w.cost with hl | hl | hl
  ·rw [t1 hl]
   refine⟨h1,⟨u,.inl hu,e1⟩,fun x hx=>?_,h4,fun x=>?_⟩
   ·rcases hx with hx | rfl
    ·exact h3 x hx
    ·omega
   ·rw [h5]
    constructor
    ·rintro ⟨v,hv,e,hm⟩
     exact⟨v,.inl hv,e,hm⟩
    ·rintro ⟨v,hv | rfl,e,hm⟩
     ·exact ⟨v,hv,e,hm⟩
     ·omega
  ·obtain ⟨s1,s2,s3,s4⟩:=t3 hl
   refine⟨by rw [s1,h1],⟨w,.inr rfl,by rw [s2,hl]⟩,fun x hx=>?_,s3,fun x=>?_⟩
   ·rw [s2]
    rcases hx with hx | rfl
    ·exact h3 x hx
    ·omega
   ·rw [s4,h5,s2]
    constructor
    ·rintro (⟨v,hv,e,hm⟩ | hm)
     ·exact ⟨v,.inl hv,e,hm⟩
     ·exact ⟨w,.inr rfl,hl.symm,hm⟩
    ·rintro ⟨v,hv | rfl,e,hm⟩
     ·exact .inl ⟨v,hv,e,hm⟩
     ·exact .inr hm
  ·rw [t2 hl]
   refine⟨hto,⟨w,.inr rfl,rfl⟩,fun x hx=>?_,hasc,fun x=>⟨fun hx=>⟨w,.inr rfl,rfl,hx⟩,?_⟩⟩
   ·rcases hx with hx | rfl
    ·have:=h3 x hx;omega
    ·exact Int.le_refl _
   ·rintro ⟨v,hv | rfl,e,hm⟩
    ·have:=h3 v hv;omega
    ·exact hm
theorem ZaI.good {to:Int}{S:WayD->Prop}{b:WayD}(h:ZaI to S (some b))(hS:∀ w,S w->GoodW w/\w.to=to):GoodW b:=by
 have h6:=h.hop6 (fun w hw=>(hS w hw).1.hop6)
 obtain⟨h1,⟨u,hu,e1⟩,h3,h4,h5⟩:=h;have hg:=hS u hu;exact⟨by rw [h1, <-hg.2];exact hg.1.node,by rw [<-e1];exact hg.1.cost,h4,h6⟩
def Za4 (S:Int->WayD->Prop)(ds:List WayD):Prop:=AscW ds/\∀ to,ZaI to (S to) (Zcc ds to)
theorem Za4.unique {S:Int->WayD->Prop}{a b:List WayD}(ha:Za4 S a)(hb:Za4 S b):a=b:=
 ZjQ ha.1 hb.1 (fun to=>(ha.2 to).unique (hb.2 to))
theorem Za4.congr {S T:Int->WayD->Prop}{a:List WayD}(ha:Za4 S a)(e:∀ to w,S to w↔T to w):Za4 T a:=
 ⟨ha.1,fun to=>(ha.2 to).congr (e to)⟩
theorem Za4.good {S:Int->WayD->Prop}{ds:List WayD}(h:Za4 S ds)(hS:∀ to w,S to w->GoodW w/\w.to=to):∀ w∈ds,GoodW w:=by
 intro w hw;have h1:=h.2 w.to;rw [ZdW h.1 hw] at h1;exact h1.good (hS w.to)
theorem Zgw {ds:List WayD}(h:AscW ds)(hg:∀ w∈ds,1<=w.to/\w.to<=6):ds.length<=6:=by
 have h1:(ds.map (·.to)).Pairwise (· < ·):=by rw [List.pairwise_map];exact h
 have:=ZeK h1 (fun z hz=>by
  obtain⟨w,hw,rfl⟩:=List.mem_map.1 hz;exact hg w hw)
 simpa using this
theorem Za4.put {tog:WayD->WayD->WayD}(ht:ZjN tog){S:Int->WayD->Prop}{ds es:List WayD}{w:WayD}(h:Za4 S ds)(hS:∀ to w,S to w->GoodW w/\w.to=to)(hw:GoodW w)(he:AscW es)(hf:∀ to,Zcc es to=if to=w.to then Zli tog (Zcc ds to) (some w) else Zcc ds to):Za4 (fun to x=>S to x\/(x=w/\w.to=to)) es:=by
 refine⟨he,fun to=>?_⟩
 rw [hf];by_cases e:to=w.to
 ·rw [if_pos e]
  refine ((h.2 to).add ht (fun v hv=>(hS to v hv).1.hop6) e.symm hw.asc hw.hop6).congr (fun x=>?_)
  constructor
  ·rintro (h1 | h1)
   ·exact .inl h1
   ·exact .inr ⟨h1,e.symm⟩
  ·rintro (h1 | h1)
   ·exact .inl h1
   ·exact .inr h1.1
 ·rw [if_neg e]
  refine (h.2 to).congr (fun x=>⟨.inl,?_⟩)
  rintro (h1 | h1)
  ·exact h1
  ·exact absurd h1.2.symm e
theorem ZgE {c:Nat->Int}{h:Nat->List Int}{w:WayD}:∀ k:Nat,w∈ZcH c h k↔∃ v:Nat,1<=v/\v<=k/\0<=c v/\w=⟨(v:Int),c v,h v⟩
 | 0=>by simp [ZcH];omega
 | k+1=>by
  have ih:=ZgE (c:=c) (h:=h) (w:=w) k;rw [ZdV c h (by omega)]
  simp only [Nat.add_sub_cancel,List.mem_append]
  rw [ih]
  constructor
  ·rintro (⟨v,h1,h2,h3⟩ | h4)
   ·exact ⟨v,h1,by omega,h3⟩
   ·split at h4
    ·rename_i h0
     exact⟨k+1,by omega,by omega,h0,by simpa using h4⟩
    ·simp at h4
  ·rintro ⟨v,h1,h2,h3,h4⟩
   by_cases e:v=k+1
   ·subst e
    right
    rw [if_pos h3,h4];simp
   ·exact .inl ⟨v,h1,by omega,h3,h4⟩
theorem ZiJ (c:Nat->Int)(h:Nat->List Int):∀ k:Nat,AscW (ZcH c h k)
 | 0=>by simp [ZcH,AscW]
 | k+1=>by
  have ih:=ZiJ c h k;rw [ZdV c h (by omega)]
  simp only [Nat.add_sub_cancel]
  unfold AscW;rw [List.pairwise_append];refine⟨ih,by split <;> simp,fun a ha b hb=>?_⟩
  obtain⟨v,h1,h2,_,rfl⟩:=(ZgE k).1 ha
  split at hb
  ·have hb':b=⟨((k+1:Nat):Int),c (k+1),h (k+1)⟩:=by simpa using hb
   subst hb'
   show (v:Int)<((k+1:Nat):Int)
   omega
  ·simp at hb
theorem ZjV {F G:Nat->Bool}(h:∀ u,F u=true->G u=true):Zda F<=Zda G:=by
 have h1:∀ u,(F u).toNat<=(G u).toNat:=fun u=>by
  cases e:F u
  ·simp
  ·rw [h u e];exact Nat.le_refl _
 unfold Zda;have:=h1 1;have:=h1 2;have:=h1 3;have:=h1 4;have:=h1 5;have:=h1 6;omega
theorem Fix.bound {L:Nat->Nat->Int}{src:Nat}{c:Nat->Int}{h:Nat->List Int}(A:Fix L src c h)(hL:Links L 1000):∀ (n v:Nat),0<=c v->(c v).toNat<=n->c v<=1000*(Zda (fun x=>decide (0<=c x/\c x<c v)):Int):=by
 obtain⟨F,I,hF⟩:=A;intro n
 induction n with
 | zero=>
  intro v h0 hn;have:c v=0:=by omega
  omega
 | succ n ih=>
  intro v h0 hn;by_cases hv:v=src
  ·subst hv;rw [I.start];omega
  ·obtain ⟨u,hu,hl,hc⟩:=I.pred v hv h0
   have h1:=(I.fnode u hu).2;have h2:=ih u h1 (by omega)
   have hle:=hL.le u v;have hcard:Zda (fun x=>decide (0<=c x/\c x<c u))+1<=Zda (fun x=>decide (0<=c x/\c x<c v)):=by
    rw [<-ZeL (F:=fun x=>decide (0<=c x/\c x<c u)) (u:=u) (I.fnode u hu).1 (by simp)]
    refine ZjV (fun x hx=>?_)
    simp only [Bool.or_eq_true,decide_eq_true_eq,beq_iff_eq] at hx |-
    rcases hx with hx | rfl
    ·omega
    ·omega
   omega
theorem Fix.bound6 {L:Nat->Nat->Int}{src:Nat}{c:Nat->Int}{h:Nat->List Int}(A:Fix L src c h)(hL:Links L 1000)(v:Nat)(h0:0<=c v):c v<=6000:=by
 have h1:=A.bound hL _ v h0 (Nat.le_refl _);have h2:=ZhZ (fun x=>decide (0<=c x/\c x<c v))
 omega
theorem ZbJ.asc {xs:List RecD}{area src:Int}{ds:List WayD}(h:ZbJ xs area src ds):AscW ds/\∀ w∈ds,GoodW w/\w.cost<=6000:=by
 unfold ZbJ at h
 split at h
 ·rename_i e
  have hst:Zaw xs=true:=by
   simp only [Bool.and_eq_true] at e
   exact e.1.1
  obtain⟨c,g,A,rfl⟩:=h;refine⟨ZiJ c g 6,fun w hw=>?_⟩
  obtain⟨v,h1,h2,h3,rfl⟩:=(ZgE 6).1 hw;have hb:=A.bound6 (Zfd hst) v h3;obtain⟨F,I,_⟩:=A;exact⟨⟨⟨by show 1<=(v:Int);omega,by show (v:Int)<=6;omega⟩,⟨h3,by show c v<=60000;omega⟩,I.asc v,fun z hz=>I.rng v z hz⟩,hb⟩
 ·subst h
  exact⟨by simp [AscW],by simp⟩
theorem Zcs (xs:List RecD)(area src:Int):AscW (Zcb xs area src)/\∀ w∈Zcb xs area src,GoodW w/\w.cost<=6000:=by
 by_cases h:∃ ds,ZbJ xs area src ds
 ·obtain ⟨ds,hd⟩:=h
  rw [<-hd.eq];exact hd.asc
 ·unfold Zcb
  rw [dif_neg h];exact⟨by simp [AscW],by simp⟩
theorem ZiM {ps:List WP}(hl:ps.length<=6)(hg:∀ w∈ZaH ps,w.hops.length<=6):totW ps<=42:=by
 have:∀ qs:List WP,(∀ w∈ZaH qs,w.hops.length<=6)->totW qs<=7*qs.length:=by
  intro qs
  induction qs with
  | nil=>intro _;simp [totW]
  | cons q qs ih=>
   intro h;rw [ZfF,List.length_cons];have h1:=h q.1 (by simp [ZaH])
   have h2:=ih (fun w hw=>h w (by simp only [ZaH,List.map_cons,List.mem_cons] at hw |-;exact .inr hw))
   omega
 have:=this ps hg;omega
end Go.Proofs.YtcimbiinljcifaaGreat
