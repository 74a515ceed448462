/-
  WCard
-/
import Derived.Test.YtadokhjefnkajaaGreatIe28
import Derived.Test.YtadokhjefnkajaaGreatIe13
namespace Go.Proofs.YtadokhjefnkajaaGreat
open Go.RowKit
set_option linter.unusedSimpArgs false
set_option linter.unusedVariables false
set_option maxRecDepth 100000
set_option maxHeartbeats 8000000
def Zb1 (F:Nat->Bool):Nat:=(F 1).toNat+(F 2).toNat+(F 3).toNat+(F 4).toNat+(F 5).toNat+(F 6).toNat
theorem Zfh {u:Nat}(h:1<=u/\u<=6):u=1\/u=2\/u=3\/u=4\/u=5\/u=6:=by omega
theorem ZdR {F:Nat->Bool}{u:Nat}(hu:1<=u/\u<=6)(hF:F u=false):Zb1 (fun v=>F v||v==u)=Zb1 F+1:=by
 unfold Zb1
 rcases Zfh hu with rfl | rfl | rfl | rfl | rfl | rfl <;> simp [hF] <;> omega
theorem ZhD (F:Nat->Bool):Zb1 F<=6:=by
 unfold Zb1;have h1:=Bool.toNat_le (F 1);have h2:=Bool.toNat_le (F 2);have h3:=Bool.toNat_le (F 3);have h4:=Bool.toNat_le (F 4);have h5:=Bool.toNat_le (F 5);have h6:=Bool.toNat_le (F 6);omega
theorem Zms {F:Nat->Bool}(h:Zb1 F=6){u:Nat}(hu:1<=u/\u<=6):F u=true:=by
 cases e:F u with
 | true=>rfl
 | false=>
  have:=ZdR hu e;have:=ZhD (fun v=>F v||v==u)
  omega
theorem ZfT:Zb1 (fun _=>false)=0:=rfl
def ZcJ (c:Nat->Int)(h:Nat->List Int):Nat->List WayD
 | 0=>[]
 | k+1=>ZcJ c h k++(if 0<=c (k+1) then [⟨((k+1:Nat):Int),c (k+1),h (k+1)⟩] else [])
theorem ZgW {c d:Nat->Int}{h g:Nat->List Int}(e:∀ v,(0<=c v->d v=c v/\g v=h v)/\(0<=d v->0<=c v)):∀ k,ZcJ c h k=ZcJ d g k
 | 0=>rfl
 | k+1=>by
  unfold ZcJ;rw [ZgW e k]
  congr 1
  by_cases h0:0<=c (k+1)
  ·have:=(e (k+1)).1 h0
   rw [if_pos h0,if_pos (by omega),this.1,this.2]
  ·rw [if_neg h0,if_neg (fun hc=>h0 ((e (k+1)).2 hc))]
theorem Fix.coll {L:Nat->Nat->Int}{src:Nat}{c d:Nat->Int}{h g:Nat->List Int}(A:Fix L src c h)(B:Fix L src d g):ZcJ c h 6=ZcJ d g 6:=by
 refine ZgW (fun v=>⟨fun h0=>⟨A.cost B v h0,A.hops B v h0⟩,fun h0=>?_⟩) 6
 have:=B.cost A v h0;omega
def Zbf (xs:List RecD)(area src:Int)(ds:List WayD):Prop:=
 if (ZaI xs&&inB src 1 6&&Zgh xs area src)=true then ∃ c h,Fix (Zdz xs area) src.toNat c h/\ds=ZcJ c h 6 else ds=[]
theorem Zbf.unique {xs:List RecD}{area src:Int}{ds es:List WayD}(h1:Zbf xs area src ds)(h2:Zbf xs area src es):ds=es:=by
 unfold Zbf at h1 h2
 split at h1
 ·rename_i e
  rw [if_pos e] at h2;obtain⟨c,h,A,rfl⟩:=h1;obtain⟨d,g,B,rfl⟩:=h2;exact A.coll B
 ·rename_i e
  rw [if_neg e] at h2;rw [h1,h2]
theorem ZeE (c:Nat->Int)(h:Nat->List Int){v:Nat}(hv:1<=v):ZcJ c h v=ZcJ c h (v-1)++(if 0<=c v then [⟨(v:Int),c v,h v⟩] else []):=by
 obtain⟨k,rfl⟩:∃ k,v=k+1:=⟨v-1,by omega⟩
 rfl
theorem ZkA (c:Nat->Int)(h:Nat->List Int):∀ k,(ZcJ c h k).length<=k
 | 0=>by simp [ZcJ]
 | k+1=>by
  unfold ZcJ;have:=ZkA c h k;rw [List.length_append]
  split <;> simp <;> omega
theorem Zm8 {L:Nat->Nat->Int}{c:Nat->Int}{u j:Nat}(hu:0<=c u):mixC L c u j u=c u:=by
 unfold mixC
 split
 ·exact Zdm hu (Int.le_refl _)
 ·rfl
theorem Zep {L:Nat->Nat->Int}{src:Nat}{c:Nat->Int}{h:Nat->List Int}{u v:Nat}(h0:0<=c v)(hv:c v<=c u):Zby L src c h u v=h v/\ZaA L c u v=c v:=by
 by_cases hl:0<L u v
 ·exact Zdn h0 (by omega)
 ·exact Zer hl
theorem Zj3 {L:Nat->Nat->Int}{src:Nat}{c:Nat->Int}{h:Nat->List Int}{u j:Nat}(hu:0<=c u):mixH L src c h u j u=h u:=by
 unfold mixH
 split
 ·exact (Zep hu (Int.le_refl _)).1
 ·rfl
theorem Zfv {L:Nat->Nat->Int}{c:Nat->Int}{u v:Nat}{B:Int}(h:∀ v,c v<=B)(hL:∀ u v,L u v<=1000):ZaA L c u v<=B+1000:=by
 unfold ZaA;have:=h v;have:=h u;have:=hL u v
 split <;> omega
def Zjr (F:Nat->Bool)(c:Nat->Int)(v a:Nat):Prop:=
 (a=0/\∀ x,1<=x->x<v->F x=false->c x<0)\/(1<=a/\a<v/\F a=false/\0<=c a/\∀ x,1<=x->x<v->F x=false->0<=c x->c a<=c x)
theorem Zfg {F:Nat->Bool}{c:Nat->Int}{v a:Nat}(h:Zjr F c v a)(hs:F v=true\/c v<0\/(1<=a/\c a<=c v)):Zjr F c (v+1) a:=by
 rcases h with ⟨h1,h2⟩ | ⟨h1,h2,h3,h4,h5⟩
 ·refine .inl ⟨h1,fun x hx1 hx2 hF=>?_⟩
  by_cases e:x=v
  ·subst e
   rcases hs with h | h | h
   ·rw [hF] at h;cases h
   ·exact h
   ·omega
  ·exact h2 x hx1 (by omega) hF
 ·refine .inr ⟨h1,by omega,h3,h4,fun x hx1 hx2 hF hc=>?_⟩
  by_cases e:x=v
  ·subst e
   rcases hs with h | h | h
   ·rw [hF] at h;cases h
   ·omega
   ·exact h.2
  ·exact h5 x hx1 (by omega) hF hc
theorem Zg4 {F:Nat->Bool}{c:Nat->Int}{v a:Nat}(h:Zjr F c v a)(h1v:1<=v)(hF:F v=false)(hc:0<=c v)(hs:a=0\/c v<c a):Zjr F c (v+1) v:=by
 refine .inr ⟨h1v,by omega,hF,hc,fun x hx1 hx2 hFx hcx=>?_⟩
 by_cases e:x=v
 ·subst e;omega
 ·rcases h with ⟨h1,h2⟩ | ⟨h1,h2,h3,h4,h5⟩
  ·have:=h2 x hx1 (by omega) hFx;omega
  ·have:=h5 x hx1 (by omega) hFx hcx;omega
structure AtRound (L:Nat->Nat->Int) (src:Nat) (F:Nat->Bool) (c:Nat->Int) (h:Nat->List Int) (r:Nat):Prop where
 inv:Inv L src F c h
 bnd:∀ v,c v<=1000*(Zb1 F:Int)
 at':Zb1 F+1=r\/(r=7/\∀ v,0<=c v->F v=true)
theorem AtRound.init {L:Nat->Nat->Int}{src:Nat}(hs:ZcH src):AtRound L src (fun _=>false) (fun v=>if v=src then 0 else -1) (fun _=>[]) 1:=by
 refine⟨Inv.init hs,fun v=>?_,.inl rfl⟩
 rw [ZfT]
 show (if v=src then (0:Int) else -1)<=_
 split <;> omega
theorem AtRound.fin {L:Nat->Nat->Int}{src:Nat}{F:Nat->Bool}{c:Nat->Int}{h:Nat->List Int}(a:AtRound L src F c h 7):Fix L src c h/\∀ v,F v=true↔0<=c v:=by
 have hf:∀ v,0<=c v->F v=true:=by
  rcases a.at' with h1 | ⟨_,h1⟩
  ·intro v hv
   exact Zms (by omega) (a.inv.cnode v hv)
  ·exact h1
 exact⟨⟨F,a.inv,hf⟩,fun v=>⟨fun hv=>(a.inv.fnode v hv).2,hf v⟩⟩
theorem AtRound.none {L:Nat->Nat->Int}{src:Nat}{F:Nat->Bool}{c:Nat->Int}{h:Nat->List Int}{r:Nat}(a:AtRound L src F c h r)(hm:Zjr F c 7 0):AtRound L src F c h 7:=by
 refine⟨a.inv,a.bnd,.inr ⟨rfl,fun v hv=>?_⟩⟩
 have hn:=a.inv.cnode v hv;unfold ZcH at hn;cases e:F v with
 | true=>rfl
 | false=>
  rcases hm with ⟨_,h2⟩ | ⟨h1,_⟩
  ·have:=h2 v hn.1 (by omega) e;omega
  ·omega
theorem AtRound.next {L:Nat->Nat->Int}{src:Nat}{F:Nat->Bool}{c:Nat->Int}{h:Nat->List Int}{r u:Nat}(a:AtRound L src F c h r)(hL:Links L 1000)(hr:r<7)(hm:Zjr F c 7 u)(hu:1<=u):AtRound L src (fun v=>F v||v==u) (fun v=>ZaA L c u v) (fun v=>Zby L src c h u v) (r+1):=by
 rcases hm with ⟨h1,_⟩ | ⟨h1,h2,h3,h4,h5⟩
 ·omega
 ·have hcard:Zb1 (fun v=>F v||v==u)=Zb1 F+1:=ZdR ⟨h1,by omega⟩ h3
  refine⟨a.inv.step hL h3 h4 (fun v hv hc=>?_) (fun v=>Zes a.inv hL h4 v),fun v=>?_,.inl ?_⟩
  ·have hn:=a.inv.cnode v hc
   unfold ZcH at hn;exact h5 v hn.1 (by omega) hv hc
  ·rw [hcard]
   have:=Zfv (L:=L) (u:=u) (v:=v) a.bnd hL.le;omega
  ·rw [hcard]
   rcases a.at' with h6 | ⟨h6,_⟩
   ·omega
   ·omega
theorem Ze5 (W:World)(lo:Nat)(hb:lo<=W.heap.size):WaysOwn (W.alloc (.cells #[] 194)) lo (W.alloc (.cells #[] 194)).heap.size (.slice (some ⟨W.heap.size,0,none⟩) 0 0) [] where
 row:=World.ownsRow_lit W #[] 0 hb (by unfold maxLen;omega) (by simp)
 top:=by intro k hk;simp [Value.ownBlock] at hk;subst hk;simp
 nears:=by simp
 apart:=by simp
end Go.Proofs.YtadokhjefnkajaaGreat
