/-
  WithM GoOnK PutW
-/
import Derived.Test.YtadokhjefnkajaaGreatIe34
import Derived.Test.YtadokhjefnkajaaGreatIe26
import Derived.Test.YtadokhjefnkajaaGreatIe32
import Derived.Test.YtadokhjefnkajaaGreatIe22
import Derived.Test.YtadokhjefnkajaaGreatIe15
import Derived.Test.YtadokhjefnkajaaGreatIe14
namespace Go.Proofs.YtadokhjefnkajaaGreat
open Go.RowKit
set_option linter.unusedSimpArgs false
set_option linter.unusedVariables false
set_option maxRecDepth 100000
set_option maxHeartbeats 8000000
def Zau (xs:List RecD)(al:List Int)(src:Int)(to:Int)(w:WayD):Prop:=w.to=to/\∃ a∈al,w∈ZbE xs a src
theorem Zbc {xs:List RecD}{al:List Int}{src to:Int}{w:WayD}(h:Zau xs al src to w):GoodW w/\w.to=to:=by
 obtain⟨h1,a,_,h2⟩:=h;exact⟨((ZbF xs a src).2 w h2).1,h1⟩
theorem ZcF {xs:List RecD}{a src:Int}{w:WayD}(h:w∈ZbE xs a src):ZaI xs=true/\0<=a/\a<3:=by
 by_cases he:∃ ds,Zbf xs a src ds
 ·obtain ⟨ds,hd⟩:=he
  rw [<-hd.eq] at h;unfold Zbf at hd
  split at hd
  ·rename_i e
   simp only [Bool.and_eq_true] at e
   obtain⟨⟨e1,_⟩,e3⟩:=e;refine⟨e1,?_⟩
   unfold Zgh Zeh at e3
   rcases Zdt xs (ZfA a src) with hz | ⟨j,y,hz,hy,hs⟩
   ·rw [hz] at e3;simp at e3
   ·have hm:y∈xs:=List.mem_of_getElem? hy
    unfold ZaI at e1;simp only [Bool.and_eq_true] at e1
    have hok:=Zdr e1.1.2 hm;simp only [Zaw,ZfA,Bool.and_eq_true,beq_iff_eq] at hs
    obtain⟨⟨⟨s1,s2⟩,_⟩,_⟩:=hs;unfold ZaX at hok;rw [if_pos s2] at hok;simp only [Bool.and_eq_true,inB,decide_eq_true_eq] at hok
    omega
  ·rw [hd] at h;cases h
 ·unfold ZbE at h
  rw [dif_neg he] at h;cases h
theorem Zik {xs:List RecD}{al bs:List Int}{src:Int}(h:∀ a,0<=a->a<3->(a∈al↔a∈bs))(to:Int)(w:WayD):Zau xs al src to w↔Zau xs bs src to w:=by
 constructor
 ·rintro ⟨h1,a,h2,h3⟩
  have:=(ZcF h3).2;exact⟨h1,a,(h a this.1 this.2).1 h2,h3⟩
 ·rintro ⟨h1,a,h2,h3⟩
  have:=(ZcF h3).2;exact⟨h1,a,(h a this.1 this.2).2 h2,h3⟩
theorem ZdO {xs:List RecD}{al:List Int}{src a:Int}{k:Nat}(h:al[k]? = some a)(to:Int)(w:WayD):Zau xs (al.take (k+1)) src to w↔Zau xs (al.take k) src to w\/(w.to=to/\w∈ZbE xs a src):=by
 obtain⟨hk,e⟩:=List.getElem?_eq_some_iff.1 h;unfold Zau;rw [List.take_succ_eq_append_getElem hk,e]
 constructor
 ·rintro ⟨h1,b,h2,h3⟩
  rcases List.mem_append.1 h2 with h4 | h4
  ·exact .inl ⟨h1,b,h4,h3⟩
  ·have:b=a:=by simpa using h4
   subst this;exact .inr ⟨h1,h3⟩
 ·rintro (⟨h1,b,h2,h3⟩ | ⟨h1,h3⟩)
  ·exact ⟨h1,b,List.mem_append.2 (.inl h2),h3⟩
  ·exact ⟨h1,a,List.mem_append.2 (.inr (by simp)),h3⟩
theorem Zbo {ds:List WayD}{j:Nat}{r:WayD}(h:ds[j]? = some r)(w:WayD):w∈ds.take (j+1)↔w∈ds.take j\/w=r:=by
 obtain⟨hk,e⟩:=List.getElem?_eq_some_iff.1 h;rw [List.take_succ_eq_append_getElem hk,e];simp
theorem ZcK {S:Int->WayD->Prop}(h:∀ to w,¬S to w):ZaR S []:=⟨by simp [AscW],fun to=>h to⟩
theorem ZaR.push {S:Int->WayD->Prop}{ds:List WayD}{t:Int}{b:WayD}(h:ZaR (fun to w=>to<t/\S to w) ds)(hb:ZaQ t (S t) (some b)):ZaR (fun to w=>to<t+1/\S to w) (ds++[b]):=by
 have hlt:∀ w∈ds,w.to<t:=by
  intro w hw;have h1:=h.2 w.to;rw [Zb2 h.1 hw] at h1;obtain⟨_,⟨u,hu,_⟩,_⟩:=h1;exact hu.1
 have hbt:b.to=t:=hb.1;have hasc:AscW (ds++[b]):=by
  unfold AscW;rw [List.pairwise_append];refine⟨h.1,by simp,fun x hx y hy=>?_⟩
  have:y=b:=by simpa using hy
  subst this;rw [hbt];exact hlt x hx
 refine⟨hasc,fun to=>?_⟩
 by_cases e:to=t
 ·subst e
  have hf:Zbu (ds++[b]) b.to=some b:=Zb2 hasc (by simp)
  rw [hbt] at hf;rw [hf];refine hb.congr (fun w=>⟨fun hw=>⟨by omega,hw⟩,fun hw=>hw.2⟩)
 ·have hf:Zbu (ds++[b]) to=Zbu ds to:=by
   unfold Zbu;rw [List.find?_append];cases e2:ds.find? (fun x=>x.to==to) with
   | some w=>rfl
   | none=>
    simp only [Option.none_or,List.find?_cons,List.find?_nil]
    have:(b.to==to)=false:=by rw [hbt];simpa using fun h=>e h.symm
    rw [this]
  rw [hf];refine (h.2 to).congr (fun w=>⟨fun hw=>⟨by omega,hw.2⟩,fun hw=>⟨by have:=hw.1;omega,hw.2⟩⟩)
theorem ZaR.skip {S:Int->WayD->Prop}{ds:List WayD}{t:Int}(h:ZaR (fun to w=>to<t/\S to w) ds)(hb:ZaQ t (S t) none):ZaR (fun to w=>to<t+1/\S to w) ds:=by
 refine h.congr (fun to w=>⟨fun hw=>⟨by omega,hw.2⟩,fun hw=>⟨?_,hw.2⟩⟩)
 have h1:=hw.1;by_cases e:to=t
 ·subst e;exact absurd hw.2 (hb w)
 ·omega
theorem Zcp (ds:List WayD)(to:Int):(Zbs ds to=true/\Zbu ds to=some (ZbD ds to))\/(Zbs ds to=false/\Zbu ds to=none):=by
 unfold Zbs ZbD Zbu;cases e:ds.find? (fun x=>x.to==to) with
 | none=>exact .inr ⟨rfl,rfl⟩
 | some w=>exact .inl ⟨rfl,rfl⟩
theorem Zjt {tog:WayD->WayD->WayD}(ht:Zlg tog){xs:List RecD}{al:List Int}{src a t:Int}{k:Nat}{o:Option WayD}(h:al[k]? = some a)(hb:ZaQ t (Zau xs (al.take k) src t) o):
  ZaQ t (Zau xs (al.take (k+1)) src t) (Zj5 tog o (Zbu (ZbE xs a src) t)):=by
 have hw:=ZbF xs a src;cases e:Zbu (ZbE xs a src) t with
 | none=>
  refine ZaQ.congr hb (fun w=>?_)
  rw [ZdO h]
  constructor
  ·exact .inl
  ·rintro (h1 | ⟨h1,h2⟩)
   ·exact h1
   ·exact absurd h1 (Zc7 e w h2)
 | some r=>
  have hr:=Za0 e;have hg:=(hw.2 r hr.1).1;refine (hb.add ht (fun w hw=>(Zbc hw).1.hop6) hr.2 hg.asc hg.hop6).congr (fun w=>?_)
  rw [ZdO h]
  constructor
  ·rintro (h1 | h1)
   ·exact .inl h1
   ·subst h1;exact .inr ⟨hr.2,hr.1⟩
  ·rintro (h1 | ⟨h1,h2⟩)
   ·exact .inl h1
   ·exact .inr (Ziv hw.1 h2 hr.1 (by rw [h1,hr.2]))
def Off (x:Value)(lo hi:Nat):Prop:=∀ b,x.ownBlock=some b->b<lo\/hi<=b
theorem Off.kept {x:Value}{lo hi:Nat}(h:Off x lo hi){W W':World}(hg:W.grownBy W' x.ownBlock):∀ k,lo<=k->k<hi->k<W.heap.size->W'.heap[k]? = W.heap[k]? :=
 fun k h1 h2 h3=>hg.block k h3 (fun e=>by have:=h k e.symm;omega)
theorem Off.next {x x':Value}{lo hi B:Nat}(h:Off x lo hi)(hn:∀ b,x'.ownBlock=some b->x.ownBlock=some b\/B<=b)(hB:hi<=B):Off x' lo hi:=fun b hb=>by
 rcases hn b hb with h1 | h1
 ·exact h b h1
 ·omega
end Go.Proofs.YtadokhjefnkajaaGreat
namespace Go.Proofs.YtadokhjefnkajaaGreat
open Go.RowKit

set_option linter.unusedSimpArgs false

theorem FS.popped {W W':World}{lo z n:Nat}{u u':Value}{q q':Nat->Nat}{bp:Nat->Option Nat}{wd:Nat->WayD}{wv:Nat->Value}(s:FS W lo z u (n+1) q bp wd wv)(F:FK W W' lo z)(hb':HB W' lo z (finC bp u') u' n q' wd wv)(hi:ZcG (fun k=>(wd k).cost) q' n):FS W' lo z u' n q' bp wd wv:=by
 refine⟨s.lz,hb',hi,fun v k e=>⟨?_,(s.way v k e).2⟩,fun v k e=>?_,s.short,s.apart,s.to,s.b0⟩
 ·have hj:=(s.way v k e).1
  exact (F.typed _ _ _ _ hj (by decide) (fun e=>by rw [e,s.hb.box] at hj;simp at hj)).trans hj
 ·have ho:=s.row v k e
  refine Zan ho (fun j hj=>?_)
  rcases ho.2 with ⟨e1,_⟩ | ⟨g2,cap,cur,e1,_,hh,_⟩
  ·rw [e1] at hj;cases hj
  ·rw [e1] at hj
   simp [Value.ownBlock] at hj
   subst hj;exact F.typed _ _ _ _ hh (by decide) (fun e=>by rw [e,s.hb.box] at hh;simp at hh)

theorem ZoG {L:Nat->Nat->Int}{src:Nat}{F:Nat->Bool}{c:Nat->Int}{h:Nat->List Int}(I:Inv L src F c h){u t:Nat}(hu:0<=c u){x:WayD}(hx:x.hops=h u)(co:Int):onwD x (t:Int) co=⟨(t:Int),x.cost+co,wayL src h u t⟩:=by
 unfold onwD wayL;by_cases e:u=src
 ·have:x.hops=[]:=by rw [hx,e];exact I.start0
  rw [if_pos this,if_pos e]
 ·have:x.hops≠[]:=by rw [hx];exact I.hops_ne _ u e hu (Nat.le_refl _)
  rw [if_neg this,if_neg e,hx]

theorem Zii {L:Nat->Nat->Int}{src:Nat}{F:Nat->Bool}{c:Nat->Int}{h:Nat->List Int}(I:Inv L src F c h){u t:Nat}(ht:1<=t/\t<=6):(wayL src h u t).Pairwise (· < ·)/\∀ x,x∈wayL src h u t->1<=x/\x<=6:=by
 unfold wayL;by_cases e:u=src
 ·rw [if_pos e]
  refine⟨by simp,fun x hx=>?_⟩
  simp at hx
  omega
 ·rw [if_neg e]
  exact⟨I.asc u,I.rng u⟩

theorem Zp5 {L:Nat->Nat->Int}{src:Nat}{F:Nat->Bool}{c:Nat->Int}{h:Nat->List Int}(I:Inv L src F c h){u t:Nat}(ht:1<=t/\t<=6):(wayL src h u t).length<=6:=by
 obtain⟨h1,h2⟩:=Zii I (u:=u) ht;rw [ZfD (a:=[]) (b:=wayL src h u t) h1 (fun x=>by simp) h2]
 exact Zcu _ _

section
variable {L:Nat->Nat->Int} {src:Nat} {F:Nat->Bool} {c:Nat->Int} {h:Nat->List Int} {n u t:Nat} {q:Nat->Nat} {bp:Nat->Option Nat} {wd:Nat->WayD}

theorem Zm1 (I:Inv L src F c h)(hl:0<L u t)(ht:1<=t/\t<=6)(g:GI (fun x=>F x||x==u) (mixC L c u t) (mixH L src c h u t) n q bp wd){kn:Nat}(hb:bp t=some kn)(hnc:¬c u+L u t<(wd kn).cost):
  (togI (wd kn) ⟨(t:Int),c u+L u t,wayL src h u t⟩).hops=Zby L src c h u t/\ZaA L c u t=c t/\(togI (wd kn) ⟨(t:Int),c u+L u t,wayL src h u t⟩).cost=(wd kn).cost/\(togI (wd kn) ⟨(t:Int),c u+L u t,wayL src h u t⟩).to=(wd kn).to:=by
 have hc:(wd kn).cost=c t:=by have:=g.cc t;rw [Zcq hb,Zc8] at this;exact this
 have hh:(wd kn).hops=h t:=by have:=g.hh t;rw [ZdU hb,ZeT] at this;exact this
 have h0:=g.nn t kn hb;unfold togI Zbz;by_cases e:(wd kn).cost<c u+L u t
 ·have hr:=Zdn (L:=L) (src:=src) (c:=c) (h:=h) (u:=u) (v:=t) (by omega) (by omega)
  rw [if_pos (by simpa using e)]
  exact⟨by rw [hr.1];exact hh,hr.2,rfl,rfl⟩
 ·have hr:=Zeq (L:=L) (src:=src) (c:=c) (h:=h) (u:=u) (v:=t) hl (by omega) (by omega)
  rw [if_neg (by simpa using e),if_neg (by simpa using hnc)]
  refine⟨?_,hr.2,rfl,rfl⟩
  show Zdj (wd kn).hops (wayL src h u t)=_
  rw [hr.1,hh];refine ZfD (ZiO _ _) (fun x=>Zf5) (fun x hx=>?_)
  rcases Zf5.1 hx with h1 | h1
  ·exact I.rng t x h1
  ·exact (Zii I ht).2 x h1

theorem Znu (I:Inv L src F c h)(hL:Links L 1000)(hu:0<=c u):(Zby L src c h u t).length<=6:=by
 have r:=Zes I hL hu t;rw [ZfD (a:=[]) (b:=Zby L src c h u t) r.asc (fun x=>by simp) (fun x hx=>by
  rcases (r.mem x).1 hx with ⟨h1,_⟩ | ⟨h1,_,h3⟩
  ·exact I.rng t x h1
  ·have hn:=(hL.node u t h1).2
   unfold ZcH at hn;exact (Zii I (src:=src) (u:=u) hn).2 x (Zih.2 h3))]
 exact Zcu _ _

theorem ZlY (I:Inv L src F c h)(hl:0<L u t)(ht:1<=t/\t<=6)(g:GI (fun x=>F x||x==u) (mixC L c u t) (mixH L src c h u t) n q bp wd){kn:Nat}(hb:bp t=some kn)(hnc:¬c u+L u t<(wd kn).cost):
  GI (fun x=>F x||x==u) (mixC L c u (t+1)) (mixH L src c h u (t+1)) n q bp (upd wd kn (togI (wd kn) ⟨(t:Int),c u+L u t,wayL src h u t⟩)):=by
 obtain⟨j1,j2,j3,j4⟩:=Zm1 I hl ht g hb hnc;have:=g.join hb j3 j4;rw [j1] at this;rw [ZcM j2,Zb5];exact this

theorem ZlZ (I:Inv L src F c h)(hF:F u=false)(hu:0<=c u)(hl:0<L u t)(ht:1<=t/\t<=6)(g:GI (fun x=>F x||x==u) (mixC L c u t) (mixH L src c h u t) n q bp wd){k:Nat}{q':Nat->Nat}
  (hcase:bp t=none\/∃ kn,bp t=some kn/\c u+L u t<(wd kn).cost) (hk1:∀ i,i<n->q i≠k) (hk2:∀ v,bp v≠some k) (hs:Shuf (fun y=>if y=n then k else q y) q' (n+1)):
  GI (fun x=>F x||x==u) (mixC L c u (t+1)) (mixH L src c h u (t+1)) (n+1) q' (upd bp t (some k)) (upd wd k ⟨(t:Int),c u+L u t,wayL src h u t⟩):=by
 have hc:c t<0\/c u+L u t<c t:=by
  have h1:=g.cc t;rw [Zc8] at h1
  rcases hcase with e | ⟨kn,e,h2⟩
  ·rw [ZfF e] at h1;omega
  ·rw [Zcq e] at h1;omega
 have hFt:(F t||t==u)=false:=by
  cases e:F t with
  | true=>
   have h1:=I.mono t u e hF hu;have h2:=(I.fnode t e).2;omega
  | false=>
   by_cases e2:t=u
   ·subst e2;omega
   ·simp [e2]
 have hr:=ZcP (L:=L) (src:=src) (c:=c) (h:=h) (u:=u) (v:=t) hl hc;have hw:=Zii I (u:=u) ht;have hway:wayL src h u t=Zby L src c h u t:=by
  rw [hr.1];exact ZfD hw.1 (fun x=>by simp) hw.2
 have:=g.push (t:=t) (k:=k) (x:=⟨(t:Int),c u+L u t,wayL src h u t⟩) hFt rfl (by rw [Zc8];exact hc) hk1 hk2 hs (by show 0<=c u+L u t;omega)
 rw [Zc9,Zb5,hr.2, <-hway];exact this

theorem Zl0 (hl:¬0<L u t)(g:GI (fun x=>F x||x==u) (mixC L c u t) (mixH L src c h u t) n q bp wd):GI (fun x=>F x||x==u) (mixC L c u (t+1)) (mixH L src c h u (t+1)) n q bp wd:=by
 have hr:=Zer (src:=src) (c:=c) (h:=h) hl;rw [ZcM hr.2,ZeS hr.1];exact g
end

def GO (W:World)(lo z:Nat)(L:Nat->Nat->Int)(src m:Nat):Prop:=
 ∃ u n q bp wd wv F c h,FS W lo z u n q bp wd wv/\GI F c h n q bp wd/\Inv L src F c h/\(∀ v,c v<=1000*(Zb1 F:Int))/\m=7*(6-Zb1 F)+n

def GEnd (W:World)(lo z:Nat)(L:Nat->Nat->Int)(src:Nat):Prop:=
 ∃ u q bp wd wv c h,FS W lo z u 0 q bp wd wv/\(∀ v,cOf bp wd v=c v)/\(∀ v,hOf bp wd v=h v)/\(∀ v k,bp v=some k->0<=(wd k).cost)/\Fix L src c h

theorem GI.end {L:Nat->Nat->Int}{src:Nat}{F:Nat->Bool}{c:Nat->Int}{h:Nat->List Int}{q:Nat->Nat}{bp:Nat->Option Nat}{wd:Nat->WayD}(g:GI F c h 0 q bp wd)(I:Inv L src F c h):Fix L src c h:=by
 refine⟨F,I,fun v hv=>?_⟩
 cases e:F v with
 | true=>rfl
 | false=>
  have h1:=g.cc v;cases e2:bp v with
  | none=>rw [ZfF e2] at h1;omega
  | some k=>
   obtain⟨i,hi,_⟩:=g.live v k e2 e;omega

theorem GI.stale {F:Nat->Bool}{c:Nat->Int}{h:Nat->List Int}{n:Nat}{q q':Nat->Nat}{bp:Nat->Option Nat}{wd:Nat->WayD}(g:GI F c h (n+1) q bp wd)(hs:Shuf (Zcb q 0 n) q' n){v kb:Nat}(hto:(wd (q 0)).to=(v:Int))(hb:bp v=some kb)(hlt:(wd kb).cost<(wd (q 0)).cost):GI F c h n q' bp wd:=by
 refine g.pop hs (fun _ e=>e) (fun v' k e hF e2=>?_) (fun v' e1 e2=>by rw [e1] at e2;cases e2)
 subst e2;have h1:=g.to v' _ e;have:v'=v:=by omega
 subst this;rw [hb] at e;cases e
 omega

theorem GI.fresh {F:Nat->Bool}{c:Nat->Int}{h:Nat->List Int}{n:Nat}{q q':Nat->Nat}{bp:Nat->Option Nat}{wd:Nat->WayD}(g:GI F c h (n+1) q bp wd)(hs:Shuf (Zcb q 0 n) q' n)(hh:ZcG (fun k=>(wd k).cost) q (n+1)){v kb:Nat}(hto:(wd (q 0)).to=(v:Int))(hb:bp v=some kb)(hlt:¬(wd kb).cost<(wd (q 0)).cost):
  GI (fun x=>F x||x==v) c h n q' bp wd/\q 0=kb/\F v=false/\0<=c v/\(wd (q 0)).cost=c v/\(wd (q 0)).hops=h v/\∀ v',F v'=false->0<=c v'->c v<=c v':=by
 obtain⟨v2,kb2,e1,e2,e3⟩:=g.ent 0 (by omega)
 have hv:v2=v:=by omega
 subst hv;rw [hb] at e2;cases e2
 rcases e3 with ⟨e4,e5⟩ | e4
 ·have hcv:(wd (q 0)).cost=c v2:=by have:=g.cc v2;rw [Zcq hb] at this;rw [e4];exact this
  have hhv:(wd (q 0)).hops=h v2:=by have:=g.hh v2;rw [ZdU hb] at this;rw [e4];exact this
  have h0:=g.nn v2 kb hb;refine⟨g.pop hs (fun v' e=>?_) (fun v' k e hF e6=>?_) (fun v' e6 e7=>?_),e4,e5,by rw [<-hcv,e4];exact h0,hcv,hhv,fun v' hF hc=>?_⟩
  ·cases e6:F v' with
   | false=>rfl
   | true=>rw [e6] at e;simp at e
  ·subst e6
   have h1:=g.to v' _ e;have h2:v'=v2:=by omega
   subst h2;simp at hF
  ·rw [e6] at e7
   have h1:v'=v2:=by simpa using e7
   subst h1;rw [hb,e4]
  ·have h1:=g.cc v'
   cases e6:bp v' with
   | none=>rw [ZfF e6] at h1;omega
   | some k'=>
    rw [Zcq e6] at h1;obtain⟨i,hi,e7⟩:=g.live v' k' e6 hF;have h2:=ZiM hh i i (Nat.le_refl _) hi;have h3:(wd (q 0)).cost<=(wd (q i)).cost:=h2;rw [e7] at h3;omega
 ·exact absurd e4 hlt
end Go.Proofs.YtadokhjefnkajaaGreat
namespace Go.Proofs.YtadokhjefnkajaaGreat
open Go.RowKit
set_option linter.unusedSimpArgs false
set_option linter.unusedVariables false
set_option maxRecDepth 100000
set_option maxHeartbeats 8000000
theorem ZmJ {W:World}{lo hi:Nat}{r:WP}(h:Zbv W lo hi r):∀ u∈encW r,u.oneCell'=true:=by
 obtain⟨a,c,e⟩:=Zac h.1;obtain⟨x,v⟩:=r;simp only at e
 subst e;exact Zdi x a _ c
theorem ZjU (lo i vb:Nat)(v:Value)(ps:List WP)(r:WP)(w:World)(hv:WaysOwn w lo w.heap.size v ps)(hlo:lo<=w.heap.size)(hi:i<=ps.length)(hn:ps.length<=1048576)(hvb:w.heap[vb]? = some (.cells (encW r).toArray 194 (0,0)))(hne:some vb≠v.ownBlock)(hr1:∀ u∈encW r,u.oneCell'=true):
  Calls Tryz.prog 247 #[v,.int .i64 (i:Int),.slice (some ⟨vb,0,none⟩) 1 1] w fun e w'=>∃ v',e=.returned v'/\w'.ownsRow lo 194 3 v' (ps.length+1) (flat encW (ps.take i++[r]++ps.drop i))/\w.grownBy w' v.ownBlock/\(v'.ownBlock=v.ownBlock\/v'.ownBlock=some w.heap.size):=by
 by_cases he:i=ps.length
 ·rw [he]
  exact Zos lo ps.length 1 vb v ps r w rfl rfl hlo hn hv.row hvb hr1
 ·have hone:∀ p∈ps,∃ a k c,p.2=.slice a k c:=fun p hp=>by
   obtain⟨a,c,e⟩:=Zac (hv.nears p hp).1;exact⟨a,_,c,e⟩
  rcases hv.row.2 with ⟨_,h0⟩ | ⟨g,cap,cur,hve,_⟩
  ·omega
  ·subst hve
   have hne2:vb≠g:=fun e=>hne (by rw [e];rfl)
   by_cases hroom:ps.length+1<=cap
   ·exact Zlz lo g cap ps.length 1 i vb ps r w rfl rfl hv.row (by omega) hroom hvb hne2 hone hr1
   ·exact ZmV lo g cap ps.length 1 i vb ps r w rfl rfl hlo hn hv.row (by omega) (by omega) hvb hone hr1
theorem Zcz.symm {p q:WP}(h:Zcz p q):Zcz q p:=fun k hk hp=>h k hp hk
theorem ZiP {W W2:World}{lo:Nat}{v:Value}{ps:List WP}(h:WaysOwn W lo W.heap.size v ps)(hg:W.grownBy W2 v.ownBlock){q:WP}(hq:Zbv W lo W.heap.size q):Zbv W2 lo W2.heap.size q:=
 ⟨Zan hq.1 (fun j hj=>hg.block j (hq.2 j hj) (Zfd hq h.row j hj)),fun k hk=>Nat.lt_of_lt_of_le (hq.2 k hk) hg.size⟩
theorem WaysOwn.ins {W W2:World}{lo i:Nat}{v v':Value}{ps:List WP}{r:WP}(h:WaysOwn W lo W.heap.size v ps)(hr:Zbv W lo W.heap.size r)(hap:∀ p∈ps,Zcz p r)(hi:i<=ps.length)
  (row:W2.ownsRow lo 194 3 v' (ps.length+1) (flat encW (ps.take i++[r]++ps.drop i))) (hg:W.grownBy W2 v.ownBlock):WaysOwn W2 lo W2.heap.size v' (ps.take i++[r]++ps.drop i) where
 row:=by rw [ZhS ps r i hi];exact row
 top:=fun k hk=>(row.lt k hk).2
 nears:=by
  intro q hq;refine ZiP h hg ?_
  rcases List.mem_append.1 hq with h1 | h1
  ·rcases List.mem_append.1 h1 with h2 | h2
   ·exact h.nears q (List.mem_of_mem_take h2)
   ·have:q=r:=by simpa using h2
    subst this;exact hr
  ·exact h.nears q (List.mem_of_mem_drop h1)
 apart:=by
  have hp:=h.apart;rw [<-List.take_append_drop i ps,List.pairwise_append] at hp;rw [List.append_assoc,List.pairwise_append];refine⟨hp.1,?_,?_⟩
  ·rw [List.pairwise_append]
   refine⟨by simp,hp.2.1,?_⟩
   intro a ha b hb;have:a=r:=by simpa using ha
   subst this;exact (hap b (List.mem_of_mem_drop hb)).symm
  ·intro a ha b hb
   rcases List.mem_append.1 hb with h1 | h1
   ·have:b=r:=by simpa using h1
    subst this;exact hap a (List.mem_of_mem_take ha)
   ·exact hp.2.2 a ha b h1
theorem WaysOwn.put {W:World}{lo i g cap n:Nat}{ps:List WP}{r:WP}(h:WaysOwn W lo W.heap.size (.slice (some ⟨g,0,none⟩) n cap) ps)(hn:n=ps.length)(hr:Zbv W lo W.heap.size r)(hap:∀ p∈ps,Zcz p r)(hi:i<ps.length):WaysOwn (putW W g (i*3) r) lo (putW W g (i*3) r).heap.size (.slice (some ⟨g,0,none⟩) n cap) (ps.set i r):=by
 subst hn;have hst:=Znr (p:=r) h.row hi;have hg:W.grownBy (putW W g (i*3) r) (Value.slice (some ⟨g,0,none⟩) ps.length cap).ownBlock:=Zhc W g (i*3) r;refine⟨by simpa using hst,fun k hk=>(hst.lt k hk).2,?_,?_⟩
 ·intro q hq
  refine ZiP h hg ?_
  rcases List.mem_or_eq_of_mem_set hq with h1 | h1
  ·exact h.nears q h1
  ·subst h1;exact hr
 ·have hp:=h.apart
  rw [List.pairwise_iff_getElem] at hp |-;intro a b ha hb hab;simp only [List.length_set] at ha hb
  rw [List.getElem_set,List.getElem_set];by_cases e1:i=a
  ·rw [if_pos e1,if_neg (by omega)]
   exact (hap _ (List.getElem_mem hb)).symm
  ·rw [if_neg e1]
   by_cases e2:i=b
   ·rw [if_pos e2]
    exact hap _ (List.getElem_mem ha)
   ·rw [if_neg e2]
    exact hp a b ha hb hab
theorem ZmE (ps:List WP)(r:WP)(i:Nat):Zal (ps.take i++[r]++ps.drop i)=(Zal ps).take i++[r.1]++(Zal ps).drop i:=by simp [Zal]
theorem ZmF (ps:List WP)(r:WP)(i:Nat):Zal (ps.set i r)=(Zal ps).set i r.1:=by simp [Zal,List.map_set]
theorem Zmn {xs:List WayD}(h:AscW xs)(r:WayD):∀ s t,s<=t->t<xs.length->ltW xs r t->ltW xs r s:=by
 intro s t hst ht hl;obtain⟨x,hx,hlt⟩:=hl;by_cases e:s=t
 ·subst e;exact⟨x,hx,hlt⟩
 ·obtain ⟨h1,e1⟩:=List.getElem?_eq_some_iff.1 hx
  unfold AscW at h;rw [List.pairwise_iff_getElem] at h;have h2:=h s t (by omega) ht (by omega)
  rw [e1] at h2;exact⟨xs[s],List.getElem?_eq_getElem (by omega),by omega⟩
theorem ZpR {xs:List WayD}{r:WayD}{i:Nat}(h:AscW xs)(hi:i<=xs.length)(h1:∀ t,t<i->ltW xs r t)(h2:∀ t,i<=t->t<xs.length->¬ltW xs r t)(h3:¬∃ x,xs[i]? = some x/\x.to=r.to)(tog:WayD->WayD->WayD):
  AscW (xs.take i++[r]++xs.drop i)/\∀ to,Zbu (xs.take i++[r]++xs.drop i) to=if to=r.to then Zj5 tog (Zbu xs to) (some r) else Zbu xs to:=by
 have hlo:∀ x∈xs.take i,x.to<r.to:=by
  intro x hx;obtain⟨j,hj,e⟩:=List.getElem_of_mem hx;rw [List.length_take] at hj;rw [List.getElem_take] at e;obtain⟨y,hy,hl⟩:=h1 j (by omega)
  rw [List.getElem?_eq_getElem (by omega)] at hy
  have hy':=Option.some.inj hy;rw [<-e,hy'];exact hl
 have hhi:∀ x∈xs.drop i,r.to<x.to:=by
  have hge:∀ x∈xs.drop i,r.to<=x.to:=by
   intro x hx;obtain⟨j,hj,e⟩:=List.getElem_of_mem hx;rw [List.length_drop] at hj;rw [List.getElem_drop] at e;have:=h2 (i+j) (by omega) (by omega)
   rcases Int.lt_or_le x.to r.to with hc | hc
   ·exact absurd ⟨x,by rw [List.getElem?_eq_getElem (by omega),e],hc⟩ this
   ·exact hc
  intro x hx;have h4:=hge x hx
  rcases Int.lt_or_le r.to x.to with hc | hc
  ·exact hc
  ·exfalso
   have hlen:i<xs.length:=by
    rcases Nat.lt_or_ge i xs.length with h5 | h5
    ·exact h5
    ·rw [List.drop_eq_nil_of_le h5] at hx;cases hx
   rw [List.drop_eq_getElem_cons hlen] at hx;have h6:=hge xs[i] (by rw [List.drop_eq_getElem_cons hlen];exact List.mem_cons_self)
   rcases List.mem_cons.1 hx with e | e
   ·exact h3 ⟨xs[i],List.getElem?_eq_getElem hlen,by rw [<-e];omega⟩
   ·have hp:=h
    unfold AscW at hp;rw [<-List.take_append_drop i xs,List.pairwise_append] at hp;have hp2:=hp.2.1;rw [List.drop_eq_getElem_cons hlen] at hp2;have:=(List.pairwise_cons.1 hp2).1 x e;omega
 have hp:=h;unfold AscW at hp;rw [<-List.take_append_drop i xs,List.pairwise_append] at hp;have hasc:AscW (xs.take i++[r]++xs.drop i):=by
  unfold AscW;rw [List.append_assoc,List.pairwise_append];refine⟨hp.1,?_,?_⟩
  ·rw [List.pairwise_append]
   refine⟨by simp,hp.2.1,?_⟩
   intro a ha b hb;have:a=r:=by simpa using ha
   subst this;exact hhi b hb
  ·intro a ha b hb
   rcases List.mem_append.1 hb with h5 | h5
   ·have:b=r:=by simpa using h5
    subst this;exact hlo a ha
   ·exact hp.2.2 a ha b h5
 have hmem:∀ x,x∈xs.take i++[r]++xs.drop i↔x∈xs\/x=r:=by
  intro x;simp only [List.mem_append,List.mem_singleton]
  constructor
  ·rintro ((h5 | h5) | h5)
   ·exact .inl (List.mem_of_mem_take h5)
   ·exact .inr h5
   ·exact .inl (List.mem_of_mem_drop h5)
  ·rintro (h5 | h5)
   ·rw [<-List.take_append_drop i xs] at h5
    rcases List.mem_append.1 h5 with h6 | h6
    ·exact .inl (.inl h6)
    ·exact .inr h6
   ·exact .inl (.inr h5)
 have hno:∀ x∈xs,x.to≠r.to:=by
  intro x hx;rw [<-List.take_append_drop i xs] at hx
  rcases List.mem_append.1 hx with h6 | h6
  ·have:=hlo x h6;omega
  ·have:=hhi x h6;omega
 refine⟨hasc,fun to=>?_⟩
 by_cases e:to=r.to
 ·subst e
  rw [if_pos rfl];have hn:Zbu xs r.to=none:=by
   cases e2:Zbu xs r.to with
   | none=>rfl
   | some y=>have:=Za0 e2;exact absurd this.2 (hno y this.1)
  rw [hn];exact Zb2 hasc ((hmem r).2 (.inr rfl))
 ·rw [if_neg e]
  cases e2:Zbu xs to with
  | none=>
   cases e3:Zbu (xs.take i++[r]++xs.drop i) to with
   | none=>rfl
   | some y=>
    have h7:=Za0 e3
    rcases (hmem y).1 h7.1 with h8 | h8
    ·exact absurd h7.2 (Zc7 e2 y h8)
    ·exact absurd (by rw [<-h7.2,h8]) e
  | some y=>
   have h7:=Za0 e2;have:=Zb2 hasc ((hmem y).2 (.inl h7.1));rw [h7.2] at this;exact this
theorem ZpS {xs:List WayD}{r x y:WayD}{i:Nat}(h:AscW xs)(hx:xs[i]? = some x)(he:x.to=r.to)(tog:WayD->WayD->WayD)(hy:y=tog x r)(hyt:y.to=x.to):
  AscW (xs.set i y)/\∀ to,Zbu (xs.set i y) to=if to=r.to then Zj5 tog (Zbu xs to) (some r) else Zbu xs to:=by
 obtain⟨hi,e1⟩:=List.getElem?_eq_some_iff.1 hx;have hasc:AscW (xs.set i y):=by
  unfold AscW at h |-;rw [List.pairwise_iff_getElem] at h |-;intro a b ha hb hab;simp only [List.length_set] at ha hb
  have hab2:=h a b ha hb hab;rw [List.getElem_set,List.getElem_set];by_cases ea:i=a
  ·subst ea
   rw [if_pos rfl,if_neg (by omega),hyt, <-e1]
   exact hab2
  ·rw [if_neg ea]
   by_cases eb:i=b
   ·subst eb
    rw [if_pos rfl,hyt, <-e1];exact hab2
   ·rw [if_neg eb]
    exact hab2
 have hxm:x∈xs:=List.mem_of_getElem? hx;have hym:y∈xs.set i y:=List.mem_iff_getElem?.2 ⟨i,List.getElem?_set_self hi⟩;have hoth:∀ z,z.to≠x.to->(z∈xs.set i y↔z∈xs):=by
  intro z hz
  constructor
  ·intro hm
   rcases List.mem_or_eq_of_mem_set hm with h5 | h5
   ·exact h5
   ·subst h5;exact absurd hyt hz
  ·intro hm
   obtain⟨j,hj,e⟩:=List.getElem_of_mem hm;have hji:j≠i:=fun e2=>by subst e2;rw [e1] at e;exact hz (by rw [e])
   exact List.mem_iff_getElem?.2 ⟨j,by rw [List.getElem?_set_ne (Ne.symm hji),List.getElem?_eq_getElem hj,e]⟩
 refine⟨hasc,fun to=>?_⟩
 by_cases e:to=r.to
 ·rw [if_pos e]
  have hf:Zbu xs to=some x:=by rw [e, <-he];exact Zb2 h hxm
  rw [hf]
  show _=some (tog x r)
  rw [<-hy];have:=Zb2 hasc hym;rw [hyt,he, <-e] at this;exact this
 ·rw [if_neg e]
  have ene:to≠x.to:=by rw [he];exact e
  cases e2:Zbu xs to with
  | none=>
   cases e3:Zbu (xs.set i y) to with
   | none=>rfl
   | some z=>
    have h7:=Za0 e3;exact absurd h7.2 (Zc7 e2 z ((hoth z (by rw [h7.2];exact ene)).1 h7.1))
  | some z=>
   have h7:=Za0 e2;have:=Zb2 hasc ((hoth z (by rw [h7.2];exact ene)).2 h7.1)
   rw [h7.2] at this;exact this
theorem ZpZ (x y:WayD)(h:x.to=y.to):(togI x y).to=x.to:=by
 unfold togI
 split
 ·rfl
 ·split
  ·exact h.symm
  ·rfl
def PutD (ds:List WayD)(r:WayD)(es:List WayD):Prop:=AscW es/\∀ to,Zbu es to=if to=r.to then Zj5 togI (Zbu ds to) (some r) else Zbu ds to
def Zed (B:Nat)(ps:List WP)(r:WP)(qs:List WP):Prop:=∀ q∈qs,(∃ p∈ps,q.2=p.2)\/q.2=r.2\/∀ k,q.2.ownBlock=some k->B<=k
theorem ZjD (B:Nat)(ps:List WP)(r:WP)(i:Nat):Zed B ps r (ps.take i++[r]++ps.drop i):=by
 intro q hq
 rcases List.mem_append.1 hq with h1 | h1
 ·rcases List.mem_append.1 h1 with h2 | h2
  ·exact .inl ⟨q,List.mem_of_mem_take h2,rfl⟩
  ·have:q=r:=by simpa using h2
   subst this;exact .inr (.inl rfl)
 ·exact .inl ⟨q,List.mem_of_mem_drop h1,rfl⟩
theorem ZjE (B:Nat)(ps:List WP)(r q0:WP)(i:Nat)(h:∀ k,q0.2.ownBlock=some k->B<=k):Zed B ps r (ps.set i q0):=by
 intro q hq
 rcases List.mem_or_eq_of_mem_set hq with h1 | h1
 ·exact .inl ⟨q,h1,rfl⟩
 ·subst h1;exact .inr (.inr h)
theorem ZfQ {B:Nat}{w W:World}(h:Below B w W)(hB:w.heap.size<=B)(row:Option Nat):w.grownBy W row:=⟨h.os,h.tape,h.output,h.size,fun k hk _=>h.block k (by omega)⟩
theorem Zhd (v:Value)(ps:List WP)(lo:Nat)(r:WP)(w:World)(hv:WaysOwn w lo w.heap.size v ps)(hlo:lo<=w.heap.size)(hn:ps.length<=1000)(hsh:∀ p∈ps,p.1.hops.length<=1000)(hrl:r.1.hops.length<=1000)(hasc:AscW (Zal ps))(hr:Zbv w lo w.heap.size r)(hap:∀ p∈ps,Zcz p r):
  Calls Tryz.prog 213 #[v,.agg (wayC r.1 r.2)] w fun e w'=>∃ x qs,e=.returned x/\PutD (Zal ps) r.1 (Zal qs)/\WaysOwn w' lo w'.heap.size x qs/\Zed w.heap.size ps r qs/\(∀ k,x.ownBlock=some k->v.ownBlock=some k\/w.heap.size<=k)/\w.grownBy w' v.ownBlock:=by
 have hfl:(Zal ps).length=ps.length:=by simp [Zal]
 obtain⟨a1,vc,hve⟩:=Zac hv.row;obtain⟨ra,rc,hrn⟩:=Zac hr.1;have BX:Below w.heap.size w (w.alloc (.cells #[.int .i64 r.1.to,.int .i64 r.1.cost,.slice ra r.1.hops.length rc] 194)):=(Below.refl _ _).alloc (Nat.le_refl _) _;have hx:=heap_alloc_new w (.cells #[.int .i64 r.1.to,.int .i64 r.1.cost,.slice ra r.1.hops.length rc] 194);obtain⟨w0,hw0⟩:∃ w0,w0=w.alloc (.cells #[.int .i64 r.1.to,.int .i64 r.1.cost,.slice ra r.1.hops.length rc] 194):=⟨_,rfl⟩;rw [<-hw0] at BX hx;have hs0:=Zab hx;have hv0:=hv.below BX (Nat.le_refl _);have hr0:=hr.keep (W':=w0) (fun k _ _ h3=>BX.block k h3)
 have HS:=Zkg v ps w.heap.size r w0 hv0.at BX.size (by omega) ⟨ra,rc,hrn⟩ (by rw [<-hfl];exact Zmn hasc r.1)
 have d0:=Zaa hx 0;have d1:=Zaa hx 1;have d2:=Zaa hx 2;simp at d0 d1 d2
 have HV:=hide hv0;have HR:=hide hr0;have HA:=hide hasc;have HP:=hide hap;have HFL:=hide hfl;have HRN:=hide hrn;have HSH:=hide hsh;unfold wayC at *;rw [hrn] at HS |-;subst hve;have HSS:=hide HS;clear HS hv0 hr0 hasc hap hr hrn hv hfl hsh
 go_enter Tryz.func213,Tryz.ntmps213
 go_wp2_with fail
 rw [<-hw0];clear hw0;refine HSS.out.mono ?_
 rintro e w1 ⟨i,f,rfl,hil,q1,q2,q3,b1⟩;have b1s:=b1.size;have hx1:=(b1.block _ hs0).trans hx;have B1:Below w.heap.size w w1:=BX.trans (b1.mono BX.size);have hv1:=(HV.out.below b1 (by omega)).wide (Nat.le_refl _) (show w.heap.size<=w1.heap.size by omega)
 have hr1:=((HR.out).keep (W':=w1) (fun k _ _ h3=>b1.block k h3)).wide (Nat.le_refl _) (show w.heap.size<=w1.heap.size by omega)
 have Q1:=hide q1;have Q2:=hide q2;have Q3:=hide q3;clear q1 q2 q3 d0 d1 d2 hx b1;have d0:=Zaa hx1 0;have d1:=Zaa hx1 1;have d2:=Zaa hx1 2;simp at d0 d1 d2
 have hii:(0:Int)<=(i:Int):=by omega
 cases f with
 | true=>
  have hil2:i<ps.length:=by
   obtain⟨x,hx,_⟩:=Q3.out.1 rfl;have:=(List.getElem?_eq_some_iff.1 hx).1;rw [HFL.out] at this;exact this
  have hij:(i:Int)<(ps.length:Int):=by omega
  obtain⟨p,hp⟩:∃ p,ps[i]? = some p:=⟨ps[i],List.getElem?_eq_getElem hil2⟩
  rcases hv1.row.2 with ⟨_,h0⟩ | ⟨g,cap,cur,hve,_⟩
  ·omega
  ·cases hve
   have hpo:=hv1.nears p (List.mem_of_getElem? hp);obtain⟨pa,pc,hpn⟩:=Zac hpo.1;obtain⟨b,off,cp,hve,hbb,c0,c1,c2,_⟩:=hv1.at.cells i p hp;cases hve
   rw [hpn] at c2;simp only [Nat.zero_add] at c0 c1 c2
   have hgl:=hv1.row.lt g rfl;have hgw:g<w.heap.size:=HV.out.top g rfl;have HTG:=ZkK p.1 r.1 p.2 r.2 lo lo w1.drew (Zae hpo.1 (Below.refl w1.heap.size w1).drew (Nat.le_refl _)) (Zae hr1.1 (Below.refl w1.heap.size w1).drew (Nat.le_refl _)) (by have:=HSH.out p (List.mem_of_getElem? hp);omega) (by omega)
   rw [hpn,HRN.out] at HTG;unfold wayC at HTG;obtain⟨q,hq⟩:∃ q,q=togI p.1 r.1:=⟨_,rfl⟩;rw [<-hq] at HTG;have hpe:p.1.to=r.1.to:=by
    obtain⟨x,hx,h0⟩:=Q3.out.1 rfl;rw [ZcA hp] at hx;cases hx
    exact h0
   have hfin:∀ (W:World) (u:Value),W.ownsRow w1.heap.size 3 1 u q.hops.length (flat intE q.hops)->Below w1.heap.size w1 W->∃ qs,PutD (Zal ps) r.1 (Zal qs)/\WaysOwn (putW W g (i*3) (q,u)) lo (putW W g (i*3) (q,u)).heap.size (.slice (some ⟨g,0,none⟩) ps.length vc) qs/\Zed w.heap.size ps r qs/\w.grownBy (putW W g (i*3) (q,u)) (some g):=by
    intro W u hu hb;have hvW:=(hv1.below hb (Nat.le_refl _)).wide (Nat.le_refl _) hb.size;have hnew:Zbv W lo W.heap.size (q,u):=⟨Zaj hu (by omega),fun k hk=>(hu.lt k hk).2⟩
    have hapn:∀ p'∈ps,Zcz p' (q,u):=fun p' hp' k hk he=>by
     have h1:=(hv1.nears p' hp').2 k hk;have h2:=(hu.lt k he).1;omega
    refine⟨ps.set i (q,u),?_,hvW.put rfl hnew hapn hil2,ZjE _ _ _ _ _ (fun k hk=>by have:=(hu.lt k hk).1;omega),?_⟩
    ·rw [ZmF]
     exact ZpS HA.out (ZcA hp) hpe togI hq (by rw [hq];exact ZpZ _ _ hpe)
    ·exact Zah (ZfQ (B1.trans (hb.mono (by omega))) (Nat.le_refl _) _) (Zhc W g (i*3) (q,u))
   have HFIN:=hide hfin;have HT:=hide HTG;have HV1:=hide hv1;have BD:Below w1.heap.size w1 w1.drew:=(Below.refl _ _).drew;rw [<-BD.cell (p:=⟨g,i*3,none⟩) (by exact hgl.2)] at c0
   rw [<-BD.cell (p:=⟨g,i*3+1,none⟩) (by exact hgl.2)] at c1
   rw [<-BD.cell (p:=⟨g,i*3+2,none⟩) (by exact hgl.2)] at c2
   rw [<-BD.cell (p:=⟨w.heap.size,0,none⟩) (by show w.heap.size<w1.heap.size;omega)] at d0
   rw [<-BD.cell (p:=⟨w.heap.size,1,none⟩) (by show w.heap.size<w1.heap.size;omega)] at d1
   rw [<-BD.cell (p:=⟨w.heap.size,2,none⟩) (by show w.heap.size<w1.heap.size;omega)] at d2
   clear hfin HTG hv1 hr1 hpo hpn hp hq hpe HA HP
   go_wp2_with fail
   refine wp_region_noPanic ?_
   refine Zag (S:=fun _=>True) (by kernel_rfl) 10 rfl trivial ?_
   intro ops hops _;refine ZoX _ _ _ _ _ _ _ _ _ _ _ _ _ _ _ _ _ _ _ _ _ _ _ _ _ _ w1.drew g ps.length vc i w.heap.size p.1 r.1 q pa ra p.1.hops.length pc r.1.hops.length rc (fun W u=>∃ l,W.ownsRow w1.heap.size 3 1 u l (flat intE q.hops)/\l=q.hops.length/\Below w1.heap.size w1 W) _ ops hops (fun _ _ _ _ h=>h) hii hij c0 c1 c2 d0 d1 d2 (hide (HT.out.mono ?_)) ?_ ?_ ?_
   ·rintro e w2 ⟨u,rfl,hu,hb⟩
    obtain⟨ua,uc,rfl⟩:=Zac hu;exact⟨ua,q.hops.length,uc,rfl,_,hu,rfl,BD.trans hb⟩
   ·rintro W u ⟨l,hu,hl,hb⟩
    have hvW:=HV1.out.below hb (Nat.le_refl _);obtain⟨y0,f0⟩:=ZaG hvW.row (i*3) (by omega)
    obtain⟨y1,f1⟩:=ZaG hvW.row (i*3+1) (by omega)
    obtain⟨y2,f2⟩:=ZaG hvW.row (i*3+2) (by omega)
    exact⟨y0,y1,y2,f0,f1,f2⟩
   ·rintro W u ⟨l,hu,hl,hb⟩ j
    exact (HV1.out.below hb (Nat.le_refl _)).row.frozenAt j
   ·rintro W ua ul uc ⟨l,hu,hl,hb⟩
    refine NoPanic.normal ?_
    subst hl;obtain⟨qs,h1,h2,h3,h4⟩:=HFIN.out W _ hu hb;have H1:=hide h1;have H2:=hide h2;have H3:=hide h3;have H4:=hide h4;clear h1 h2 h3 h4 hu hb hops ops HFIN HT HV1
    go_wp2
    go_ret
    first
     | exact ⟨_,qs,rfl,H1.out,H2.out,H3.out,fun k hk=>.inl hk,H4.out⟩
     | exact ⟨_,rfl,qs,H1.out,H2.out,H3.out,fun k hk=>.inl hk,H4.out⟩
 | false=>
  have hl:PutD (Zal ps) r.1 (Zal (ps.take i++[r]++ps.drop i)):=by
   rw [ZmE];exact ZpR HA.out (by rw [HFL.out];exact hil) Q1.out (by rw [HFL.out];exact Q2.out) (fun h=>by have:=Q3.out.2 h;cases this) togI
  have HL:=hide hl;clear hl;have BY:Below w1.heap.size w1 (w1.alloc (.cells #[.int .i64 r.1.to,.int .i64 r.1.cost,.slice ra r.1.hops.length rc] 194)):=(Below.refl _ _).alloc (Nat.le_refl _) _;have hy:=heap_alloc_new w1 (.cells #[.int .i64 r.1.to,.int .i64 r.1.cost,.slice ra r.1.hops.length rc] 194);obtain⟨w2,hw2⟩:∃ w2,w2=w1.alloc (.cells #[.int .i64 r.1.to,.int .i64 r.1.cost,.slice ra r.1.hops.length rc] 194):=⟨_,rfl⟩;rw [<-hw2] at BY hy;have hv2:=(hv1.below BY (Nat.le_refl _)).wide (Nat.le_refl _) BY.size;have hr2:=(hr1.keep (W':=w2) (fun k _ _ h3=>BY.block k h3)).wide (Nat.le_refl _) BY.size
  have HI:=ZjU lo i w1.heap.size _ ps r w2 hv2 (by have:=BY.size;omega) hil (by omega) (by
   rw [hy];unfold encW;rw [HRN.out]) (fun e=>by
    have h6:=hv1.top _ e.symm;omega) (ZmJ hr2)
  have HII:=hide HI;have HV2:=hide hv2;have HR2:=hide hr2;have B2:Below w.heap.size w w2:=B1.trans (BY.mono (by omega))
  have hb2:=BY.size;clear HI hv1 hr1 hv2 hr2
  go_wp2_with fail
  rw [<-hw2];clear hw2;refine HII.out.mono ?_
  rintro e w3 ⟨x,rfl,hrow,hg,hblk⟩;have hfin:=HV2.out.ins HR2.out HP.out hil hrow hg;have hB:=Zah (ZfQ B2 (Nat.le_refl _) _) hg;have hbk:∀ k,x.ownBlock=some k->(Value.slice a1 ps.length vc).ownBlock=some k\/w.heap.size<=k:=fun k hk=>by
   rcases hblk with h1 | h1
   ·exact .inl (by rw [<-h1];exact hk)
   ·right
    rw [h1] at hk;cases hk
    omega
  obtain⟨xa,xc,rfl⟩:=Zac hrow;have HF:=hide hfin;have HB:=hide hB;have HK:=hide hbk;have HFR:=hide (ZjD w.heap.size ps r i);clear hfin hB hrow hg hbk hblk
  go_wp2
  go_ret
  first
   | exact ⟨_,_,rfl,HL.out,HF.out,HFR.out,HK.out,HB.out⟩
   | exact ⟨_,rfl,_,HL.out,HF.out,HFR.out,HK.out,HB.out⟩
end Go.Proofs.YtadokhjefnkajaaGreat
