/-
  Parts.
-/
import Derived.Test.YtcnjnibnecpddaaGreatTr14
namespace Go.Proofs.YtcnjnibnecpddaaGreat
open Go.RowKit
set_option linter.unusedSimpArgs false
set_option linter.unusedVariables false
set_option maxRecDepth 100000
set_option maxHeartbeats 8000000
variable {a src t:Int}{S:Int->WayD->Prop}{al:List Int}{xs:List RecD}{ds:List WayD}
def Zas (xs:List RecD)(al:List Int)(src:Int)(to:Int)(w:WayD):Prop:=w.to=to/\∃ a∈al,w∈ZbO xs a src
theorem ZaS {to:Int}{w:WayD}(h:Zas xs al src to w):GoodW w/\w.to=to:=by
 obtain⟨h1,a,_,h2⟩:=h;exact⟨((ZbP xs a src).2 w h2).1,h1⟩
theorem Zc6 {w:WayD}(h:w∈ZbO xs a src):ZaA xs=true/\0<=a/\a<3:=by
 by_cases he:∃ ds,Zbn xs a src ds
 ·obtain ⟨ds,hd⟩:=he;rw [<-hd.eq] at h;unfold Zbn at hd
  split at hd
  ·rename_i e
   simp only [YAM] at e;obtain⟨⟨e1,_⟩,e3⟩:=e;refine⟨e1,?_⟩;unfold Zhj Zfb at e3;rcases Zea xs (ZgB a src) with hz | ⟨j,y,hz,hy,hs⟩
   ·rw [hz] at e3;simp at e3
   ·have hm:y∈xs:=YAH hy;unfold ZaA at e1;simp only [YAM] at e1;have hok:=ZdD e1.1.2 hm;simp only [Zat,ZgB,YAM,beq_iff_eq] at hs;obtain⟨⟨⟨s1,s2⟩,_⟩,_⟩:=hs;unfold Za2 at hok;rw [if_pos s2] at hok;simp only [YAM,inB,YAT] at hok;omega
  ·rw [hd] at h;cases h
 ·unfold ZbO at h;rw [dif_neg he] at h;cases h
theorem ZjK {bs:List Int}(h:∀ a,0<=a->a<3->(a∈al↔a∈bs))(to:Int)(w:WayD):Zas xs al src to w↔Zas xs bs src to w:=by
 constructor
 ·rintro ⟨h1,a,h2,h3⟩;have:=(Zc6 h3).2;exact⟨h1,a,(h a this.1 this.2).1 h2,h3⟩
 ·rintro ⟨h1,a,h2,h3⟩;have:=(Zc6 h3).2;exact⟨h1,a,(h a this.1 this.2).2 h2,h3⟩
theorem Zex {k:Nat}(h:al[k]? = some a)(to:Int)(w:WayD):Zas xs (al.take (k+1)) src to w↔Zas xs (al.take k) src to w\/(w.to=to/\w∈ZbO xs a src):=by
 obtain⟨hk,e⟩:=YAD.1 h;unfold Zas;rw [YAI hk,e];constructor
 ·rintro ⟨h1,b,h2,h3⟩;rcases YAF.1 h2 with h4 | h4
  ·exact .inl ⟨h1,b,h4,h3⟩
  ·have:b=a:=by simpa using h4
   subst this;exact .inr ⟨h1,h3⟩
 ·rintro (⟨h1,b,h2,h3⟩ | ⟨h1,h3⟩)
  ·exact ⟨h1,b,YAF.2 (.inl h2),h3⟩
  ·exact ⟨h1,a,YAF.2 (.inr (by simp)),h3⟩
theorem ZbB {j:Nat}{r:WayD}(h:ds[j]? = some r)(w:WayD):w∈ds.take (j+1)↔w∈ds.take j\/w=r:=by
 obtain⟨hk,e⟩:=YAD.1 h;rw [YAI hk,e];simp
theorem Zcd (h:∀ to w,¬S to w):ZaE S []:=⟨by simp [AscW],fun to=>h to⟩
theorem ZaE.push {b:WayD}(h:ZaE (fun to w=>to<t/\S to w) ds)(hb:ZaJ t (S t) (some b)):ZaE (fun to w=>to<t+1/\S to w) (ds++[b]):=by
 have hlt:∀ w∈ds,w.to<t:=by
  intro w hw;have h1:=h.2 w.to;rw [Zb3 h.1 hw] at h1;obtain⟨_,⟨u,hu,_⟩,_⟩:=h1;exact hu.1
 have hbt:b.to=t:=hb.1;have hasc:AscW (ds++[b]):=by
  unfold AscW;rw [YAQ];refine⟨h.1,by simp,fun x hx y hy=>?_⟩;have:y=b:=by simpa using hy
  subst this;rw [hbt];exact hlt x hx
 refine⟨hasc,fun to=>?_⟩;by_cases e:to=t
 ·subst e;have hf:ZaZ (ds++[b]) b.to=some b:=Zb3 hasc (by simp);rw [hbt] at hf;rw [hf];refine hb.congr (fun w=>⟨fun hw=>⟨by omega,hw⟩,fun hw=>hw.2⟩)
 ·have hf:ZaZ (ds++[b]) to=ZaZ ds to:=by
   unfold ZaZ;rw [List.find?_append];cases e2:ds.find? (fun x=>x.to==to) with
   | some w=>rfl
   | none=>
    simp only [Option.none_or,List.find?_cons,List.find?_nil];have:(b.to==to)=false:=by rw [hbt];simpa using fun h=>e h.symm
    rw [this]
  rw [hf];refine (h.2 to).congr (fun w=>⟨fun hw=>⟨by omega,hw.2⟩,fun hw=>⟨by have:=hw.1;omega,hw.2⟩⟩)
theorem ZaE.skip (h:ZaE (fun to w=>to<t/\S to w) ds)(hb:ZaJ t (S t) none):ZaE (fun to w=>to<t+1/\S to w) ds:=by
 refine h.congr (fun to w=>⟨fun hw=>⟨by omega,hw.2⟩,fun hw=>⟨?_,hw.2⟩⟩);have h1:=hw.1;by_cases e:to=t
 ·subst e;exact absurd hw.2 (hb w)
 ·omega
theorem ZcJ (ds:List WayD)(to:Int):(Zbe ds to=true/\ZaZ ds to=some (Zbl ds to))\/(Zbe ds to=false/\ZaZ ds to=none):=by
 unfold Zbe Zbl ZaZ;cases e:ds.find? (fun x=>x.to==to) with
 | none=>exact .inr ⟨rfl,rfl⟩
 | some w=>exact .inl ⟨rfl,rfl⟩
theorem Zk0 {tog:WayD->WayD->WayD}(ht:ZkW tog){k:Nat}{o:Option WayD}(h:al[k]? = some a)(hb:ZaJ t (Zas xs (al.take k) src t) o):
  ZaJ t (Zas xs (al.take (k+1)) src t) (ZeX tog o (ZaZ (ZbO xs a src) t)):=by
 have hw:=ZbP xs a src;cases e:ZaZ (ZbO xs a src) t with
 | none=>
  refine ZaJ.congr hb (fun w=>?_);rw [Zex h];constructor
  ·exact .inl
  ·rintro (h1 | ⟨h1,h2⟩)
   ·exact h1
   ·exact absurd h1 (ZdH e w h2)
 | some r=>
  have hr:=ZaX e;have hg:=(hw.2 r hr.1).1;refine (hb.add ht (fun w hw=>(ZaS hw).1.hop6) hr.2 hg.asc hg.hop6).congr (fun w=>?_);rw [Zex h];constructor
  ·rintro (h1 | h1)
   ·exact .inl h1
   ·subst h1;exact .inr ⟨hr.2,hr.1⟩
  ·rintro (h1 | ⟨h1,h2⟩)
   ·exact .inl h1
   ·exact .inr (ZjV hw.1 h2 hr.1 (by rw [h1,hr.2]))
def Off (x:Value)(lo hi:Nat):Prop:=∀ b,x.ownBlock=some b->b<lo\/hi<=b
theorem Off.kept {x:Value}{lo hi:Nat}(h:Off x lo hi){W W':World}(hg:W.grownBy W' x.ownBlock):∀ k,lo<=k->k<hi->k<W.heap.size->W'.heap[k]? = W.heap[k]? :=
 fun k h1 h2 h3=>hg.block k h3 (fun e=>by have:=h k e.symm;omega)
theorem Off.next {x x':Value}{lo hi B:Nat}(h:Off x lo hi)(hn:∀ b,x'.ownBlock=some b->x.ownBlock=some b\/B<=b)(hB:hi<=B):Off x' lo hi:=fun b hb=>by
 rcases hn b hb with h1 | h1
 ·exact h b h1
 ·omega
end Go.Proofs.YtcnjnibnecpddaaGreat
namespace Go.Proofs.YtcnjnibnecpddaaGreat
open Go.RowKit

set_option linter.unusedSimpArgs false

theorem FS.popped {W W':World}{lo z n:Nat}{u u':Value}{q q':Nat->Nat}{bp:Nat->Option Nat}{wd:Nat->WayD}{wv:Nat->Value}(s:FS W lo z u (n+1) q bp wd wv)(F:FK W W' lo z)(hb':HB W' lo z (finC bp u') u' n q' wd wv)(hi:Zc7 (fun k=>(wd k).cost) q' n):FS W' lo z u' n q' bp wd wv:=by
 refine⟨s.lz,hb',hi,fun v k e=>⟨?_,(s.way v k e).2⟩,fun v k e=>?_,s.short,s.apart,s.to,s.b0⟩
 ·have hj:=(s.way v k e).1;exact (F.typed _ _ _ _ hj (by decide) (fun e=>by rw [e,s.hb.box] at hj;simp at hj)).trans hj
 ·have ho:=s.row v k e;refine Zal ho (fun j hj=>?_);rcases ho.2 with ⟨e1,_⟩ | ⟨g2,cap,cur,e1,_,hh,_⟩
  ·rw [e1] at hj;cases hj
  ·rw [e1] at hj;simp [Value.ownBlock] at hj;subst hj;exact F.typed _ _ _ _ hh (by decide) (fun e=>by rw [e,s.hb.box] at hh;simp at hh)

theorem ZqS {L:Nat->Nat->Int}{src:Nat}{F:Nat->Bool}{c:Nat->Int}{h:Nat->List Int}(I:Inv L src F c h){u t:Nat}(hu:0<=c u){x:WayD}(hx:x.hops=h u)(co:Int):onwD x (t:Int) co=⟨(t:Int),x.cost+co,wayL src h u t⟩:=by
 unfold onwD wayL;by_cases e:u=src
 ·have:x.hops=[]:=by rw [hx,e];exact I.start0
  rw [if_pos this,if_pos e]
 ·have:x.hops≠[]:=by rw [hx];exact I.hops_ne _ u e hu (YA _)
  rw [if_neg this,if_neg e,hx]

theorem ZjI {L:Nat->Nat->Int}{src:Nat}{F:Nat->Bool}{c:Nat->Int}{h:Nat->List Int}(I:Inv L src F c h){u t:Nat}(ht:1<=t/\t<=6):(wayL src h u t).Pairwise (· < ·)/\∀ x,x∈wayL src h u t->1<=x/\x<=6:=by
 unfold wayL;by_cases e:u=src
 ·rw [if_pos e];refine⟨by simp,fun x hx=>?_⟩;simp at hx;omega
 ·rw [if_neg e];exact⟨I.asc u,I.rng u⟩

theorem Zsu {L:Nat->Nat->Int}{src:Nat}{F:Nat->Bool}{c:Nat->Int}{h:Nat->List Int}(I:Inv L src F c h){u t:Nat}(ht:1<=t/\t<=6):(wayL src h u t).length<=6:=by
 obtain⟨h1,h2⟩:=ZjI I (u:=u) ht;rw [Zfw (a:=[]) (b:=wayL src h u t) h1 (fun x=>by simp) h2];exact ZcP _ _

section
variable {L:Nat->Nat->Int} {src:Nat} {F:Nat->Bool} {c:Nat->Int} {h:Nat->List Int} {n u t:Nat} {q:Nat->Nat} {bp:Nat->Option Nat} {wd:Nat->WayD}

theorem Zo0 (I:Inv L src F c h)(hl:0<L u t)(ht:1<=t/\t<=6)(g:GI (fun x=>F x||x==u) (mixC L c u t) (mixH L src c h u t) n q bp wd){kn:Nat}(hb:bp t=some kn)(hnc:¬c u+L u t<(wd kn).cost):
  (togI (wd kn) ⟨(t:Int),c u+L u t,wayL src h u t⟩).hops=ZbK L src c h u t/\ZaC L c u t=c t/\(togI (wd kn) ⟨(t:Int),c u+L u t,wayL src h u t⟩).cost=(wd kn).cost/\(togI (wd kn) ⟨(t:Int),c u+L u t,wayL src h u t⟩).to=(wd kn).to:=by
 have hc:(wd kn).cost=c t:=by have:=g.cc t;rw [ZcK hb,ZdJ] at this;exact this
 have hh:(wd kn).hops=h t:=by have:=g.hh t;rw [ZeC hb,ZfO] at this;exact this
 have h0:=g.nn t kn hb;unfold togI Zbp;by_cases e:(wd kn).cost<c u+L u t
 ·have hr:=Zd3 (L:=L) (src:=src) (c:=c) (h:=h) (u:=u) (v:=t) (by omega) (by omega);rw [if_pos (by simpa using e)];exact⟨by rw [hr.1];exact hh,hr.2,rfl,rfl⟩
 ·have hr:=Zfm (L:=L) (src:=src) (c:=c) (h:=h) (u:=u) (v:=t) hl (by omega) (by omega);rw [if_neg (by simpa using e),if_neg (by simpa using hnc)];refine⟨?_,hr.2,rfl,rfl⟩;show Zcy (wd kn).hops (wayL src h u t)=_;rw [hr.1,hh];refine Zfw (Zg6 _ _) (fun x=>ZfI) (fun x hx=>?_);rcases ZfI.1 hx with h1 | h1
  ·exact I.rng t x h1
  ·exact (ZjI I ht).2 x h1

theorem Zpz (I:Inv L src F c h)(hL:Links L 1000)(hu:0<=c u):(ZbK L src c h u t).length<=6:=by
 have r:=Zfo I hL hu t;rw [Zfw (a:=[]) (b:=ZbK L src c h u t) r.asc (fun x=>by simp) (fun x hx=>by
  rcases (r.mem x).1 hx with ⟨h1,_⟩ | ⟨h1,_,h3⟩
  ·exact I.rng t x h1
  ·have hn:=(hL.node u t h1).2;unfold Zc8 at hn;exact (ZjI I (src:=src) (u:=u) hn).2 x (ZjH.2 h3))]
 exact ZcP _ _

theorem ZnO (I:Inv L src F c h)(hl:0<L u t)(ht:1<=t/\t<=6)(g:GI (fun x=>F x||x==u) (mixC L c u t) (mixH L src c h u t) n q bp wd){kn:Nat}(hb:bp t=some kn)(hnc:¬c u+L u t<(wd kn).cost):
  GI (fun x=>F x||x==u) (mixC L c u (t+1)) (mixH L src c h u (t+1)) n q bp (upd wd kn (togI (wd kn) ⟨(t:Int),c u+L u t,wayL src h u t⟩)):=by
 obtain⟨j1,j2,j3,j4⟩:=Zo0 I hl ht g hb hnc;have:=g.join hb j3 j4;rw [j1] at this;rw [Zde j2,Zcp];exact this

theorem ZnP (I:Inv L src F c h)(hF:F u=false)(hu:0<=c u)(hl:0<L u t)(ht:1<=t/\t<=6)(g:GI (fun x=>F x||x==u) (mixC L c u t) (mixH L src c h u t) n q bp wd){k:Nat}{q':Nat->Nat}
  (hcase:bp t=none\/∃ kn,bp t=some kn/\c u+L u t<(wd kn).cost) (hk1:∀ i,i<n->q i≠k) (hk2:∀ v,bp v≠some k) (hs:Shuf (fun y=>if y=n then k else q y) q' (n+1)):
  GI (fun x=>F x||x==u) (mixC L c u (t+1)) (mixH L src c h u (t+1)) (n+1) q' (upd bp t (some k)) (upd wd k ⟨(t:Int),c u+L u t,wayL src h u t⟩):=by
 have hc:c t<0\/c u+L u t<c t:=by
  have h1:=g.cc t;rw [ZdJ] at h1;rcases hcase with e | ⟨kn,e,h2⟩
  ·rw [ZgH e] at h1;omega
  ·rw [ZcK e] at h1;omega
 have hFt:(F t||t==u)=false:=by
  cases e:F t with
  | true=>
   have h1:=I.mono t u e hF hu;have h2:=(I.fnode t e).2;omega
  | false=>
   by_cases e2:t=u
   ·subst e2;omega
   ·simp [e2]
 have hr:=Zdj (L:=L) (src:=src) (c:=c) (h:=h) (u:=u) (v:=t) hl hc;have hw:=ZjI I (u:=u) ht;have hway:wayL src h u t=ZbK L src c h u t:=by
  rw [hr.1];exact Zfw hw.1 (fun x=>by simp) hw.2
 have:=g.push (t:=t) (k:=k) (x:=⟨(t:Int),c u+L u t,wayL src h u t⟩) hFt rfl (by rw [ZdJ];exact hc) hk1 hk2 hs (by show 0<=c u+L u t;omega);rw [ZdK,Zcp,hr.2, <-hway];exact this

theorem ZnQ (hl:¬0<L u t)(g:GI (fun x=>F x||x==u) (mixC L c u t) (mixH L src c h u t) n q bp wd):GI (fun x=>F x||x==u) (mixC L c u (t+1)) (mixH L src c h u (t+1)) n q bp wd:=by
 have hr:=Zfn (src:=src) (c:=c) (h:=h) hl;rw [Zde hr.2,ZfN hr.1];exact g
end

def GO (W:World)(lo z:Nat)(L:Nat->Nat->Int)(src m:Nat):Prop:=
 ∃ u n q bp wd wv F c h,FS W lo z u n q bp wd wv/\GI F c h n q bp wd/\Inv L src F c h/\(∀ v,c v<=1000*(Zcn F:Int))/\m=7*(6-Zcn F)+n

def GEnd (W:World)(lo z:Nat)(L:Nat->Nat->Int)(src:Nat):Prop:=
 ∃ u q bp wd wv c h,FS W lo z u 0 q bp wd wv/\(∀ v,cOf bp wd v=c v)/\(∀ v,hOf bp wd v=h v)/\(∀ v k,bp v=some k->0<=(wd k).cost)/\Fix L src c h

theorem GI.end {L:Nat->Nat->Int}{src:Nat}{F:Nat->Bool}{c:Nat->Int}{h:Nat->List Int}{q:Nat->Nat}{bp:Nat->Option Nat}{wd:Nat->WayD}(g:GI F c h 0 q bp wd)(I:Inv L src F c h):Fix L src c h:=by
 refine⟨F,I,fun v hv=>?_⟩;cases e:F v with
 | true=>rfl
 | false=>
  have h1:=g.cc v;cases e2:bp v with
  | none=>rw [ZgH e2] at h1;omega
  | some k=>
   obtain⟨i,hi,_⟩:=g.live v k e2 e;omega

theorem GI.stale {F:Nat->Bool}{c:Nat->Int}{h:Nat->List Int}{n:Nat}{q q':Nat->Nat}{bp:Nat->Option Nat}{wd:Nat->WayD}(g:GI F c h (n+1) q bp wd)(hs:Shuf (Zcu q 0 n) q' n){v kb:Nat}(hto:(wd (q 0)).to=(v:Int))(hb:bp v=some kb)(hlt:(wd kb).cost<(wd (q 0)).cost):GI F c h n q' bp wd:=by
 refine g.pop hs (fun _ e=>e) (fun v' k e hF e2=>?_) (fun v' e1 e2=>by rw [e1] at e2;cases e2);subst e2;have h1:=g.to v' _ e;have:v'=v:=by omega
 subst this;rw [hb] at e;cases e;omega

theorem GI.fresh {F:Nat->Bool}{c:Nat->Int}{h:Nat->List Int}{n:Nat}{q q':Nat->Nat}{bp:Nat->Option Nat}{wd:Nat->WayD}(g:GI F c h (n+1) q bp wd)(hs:Shuf (Zcu q 0 n) q' n)(hh:Zc7 (fun k=>(wd k).cost) q (n+1)){v kb:Nat}(hto:(wd (q 0)).to=(v:Int))(hb:bp v=some kb)(hlt:¬(wd kb).cost<(wd (q 0)).cost):
  GI (fun x=>F x||x==v) c h n q' bp wd/\q 0=kb/\F v=false/\0<=c v/\(wd (q 0)).cost=c v/\(wd (q 0)).hops=h v/\∀ v',F v'=false->0<=c v'->c v<=c v':=by
 obtain⟨v2,kb2,e1,e2,e3⟩:=g.ent 0 (by omega);have hv:v2=v:=by omega
 subst hv;rw [hb] at e2;cases e2;rcases e3 with ⟨e4,e5⟩ | e4
 ·have hcv:(wd (q 0)).cost=c v2:=by have:=g.cc v2;rw [ZcK hb] at this;rw [e4];exact this
  have hhv:(wd (q 0)).hops=h v2:=by have:=g.hh v2;rw [ZeC hb] at this;rw [e4];exact this
  have h0:=g.nn v2 kb hb;refine⟨g.pop hs (fun v' e=>?_) (fun v' k e hF e6=>?_) (fun v' e6 e7=>?_),e4,e5,by rw [<-hcv,e4];exact h0,hcv,hhv,fun v' hF hc=>?_⟩
  ·cases e6:F v' with
   | false=>rfl
   | true=>rw [e6] at e;simp at e
  ·subst e6;have h1:=g.to v' _ e;have h2:v'=v2:=by omega
   subst h2;simp at hF
  ·rw [e6] at e7;have h1:v'=v2:=by simpa using e7
   subst h1;rw [hb,e4]
  ·have h1:=g.cc v';cases e6:bp v' with
   | none=>rw [ZgH e6] at h1;omega
   | some k'=>
    rw [ZcK e6] at h1;obtain⟨i,hi,e7⟩:=g.live v' k' e6 hF;have h2:=Zkf hh i i (YA _) hi;have h3:(wd (q 0)).cost<=(wd (q i)).cost:=h2;rw [e7] at h3;omega
 ·exact absurd e4 hlt
end Go.Proofs.YtcnjnibnecpddaaGreat
namespace Go.Proofs.YtcnjnibnecpddaaGreat
open Go.RowKit
set_option linter.unusedSimpArgs false
set_option linter.unusedVariables false
set_option maxRecDepth 100000
set_option maxHeartbeats 8000000
variable {border:Bool}{a area src to:Int}{al:List Int}{ls:List LP}{rs xs:List RecD}{ps:List WP}{g i k lo z:Nat}{r:RecD}{bv u:Value}{b d:WayD}{V W W':World}
theorem ZoK {hi:Nat}{r:WP}(h:ZbD W lo hi r):∀ u∈encW r,u.oneCell'=true:=by
 obtain⟨a,c,e⟩:=Zac h.1;obtain⟨x,v⟩:=r;simp only at e;subst e;exact Zdr x a _ c
theorem Zlt (lo i vb:Nat)(v:Value)(ps:List WP)(r:WP)(w:World)(hv:WaysOwn w lo w.heap.size v ps)(hlo:lo<=w.heap.size)(hi:i<=ps.length)(hn:ps.length<=1048576)(hvb:w.heap[vb]? = some (.cells (encW r).toArray 193 (0,0)))(hne:some vb≠v.ownBlock)(hr1:∀ u∈encW r,u.oneCell'=true):
  Calls Tryz.prog 246 #[v,M (i:Int),.slice (some (U vb 0)) 1 1] w fun e w'=>∃ v',e=.returned v'/\w'.ownsRow lo 193 3 v' (ps.length+1) (flat encW (ps.take i++[r]++ps.drop i))/\w.grownBy w' v.ownBlock/\(v'.ownBlock=v.ownBlock\/v'.ownBlock=some w.heap.size):=by
 by_cases he:i=ps.length
 ·rw [he];exact ZqE lo ps.length 1 vb v ps r w rfl rfl hlo hn hv.row hvb hr1
 ·have hone:∀ p∈ps,∃ a k c,p.2=.slice a k c:=fun p hp=>by
   obtain⟨a,c,e⟩:=Zac (hv.nears p hp).1;exact⟨a,_,c,e⟩
  rcases hv.row.2 with ⟨_,h0⟩ | ⟨g,cap,cur,hve,_⟩
  ·omega
  ·subst hve;have hne2:vb≠g:=fun e=>hne (by rw [e];rfl);by_cases hroom:ps.length+1<=cap
   ·exact Znj lo g cap ps.length 1 i vb ps r w rfl rfl hv.row (by omega) hroom hvb hne2 hone hr1
   ·exact ZoV lo g cap ps.length 1 i vb ps r w rfl rfl hlo hn hv.row (by omega) (by omega) hvb hone hr1
theorem ZcX.symm {p q:WP}(h:ZcX p q):ZcX q p:=fun k hk hp=>h k hp hk
theorem Zkg {W2:World}{v:Value}(h:WaysOwn W lo W.heap.size v ps)(hg:W.grownBy W2 v.ownBlock){q:WP}(hq:ZbD W lo W.heap.size q):ZbD W2 lo W2.heap.size q:=
 ⟨Zal hq.1 (fun j hj=>hg.block j (hq.2 j hj) (Zf9 hq h.row j hj)),fun k hk=>YAB (hq.2 k hk) hg.size⟩
theorem WaysOwn.ins {W2:World}{v v':Value}{r:WP}(h:WaysOwn W lo W.heap.size v ps)(hr:ZbD W lo W.heap.size r)(hap:∀ p∈ps,ZcX p r)(hi:i<=ps.length)
  (row:W2.ownsRow lo 193 3 v' (ps.length+1) (flat encW (ps.take i++[r]++ps.drop i))) (hg:W.grownBy W2 v.ownBlock):WaysOwn W2 lo W2.heap.size v' (ps.take i++[r]++ps.drop i) where
 row:=by rw [Zjd ps r i hi];exact row
 top:=fun k hk=>(row.lt k hk).2
 nears:=by
  intro q hq;refine Zkg h hg ?_;rcases YAF.1 hq with h1 | h1
  ·rcases YAF.1 h1 with h2 | h2
   ·exact h.nears q (YAl h2)
   ·have:q=r:=by simpa using h2
    subst this;exact hr
  ·exact h.nears q (List.mem_of_mem_drop h1)
 apart:=by
  have hp:=h.apart;rw [<-YAa i ps,YAQ] at hp;rw [YAW,YAQ];refine⟨hp.1,?_,?_⟩
  ·rw [YAQ];refine⟨by simp,hp.2.1,?_⟩;intro a ha b hb;have:a=r:=by simpa using ha
   subst this;exact (hap b (List.mem_of_mem_drop hb)).symm
  ·intro a ha b hb;rcases YAF.1 hb with h1 | h1
   ·have:b=r:=by simpa using h1
    subst this;exact hap a (YAl ha)
   ·exact hp.2.2 a ha b h1
theorem WaysOwn.put {cap n:Nat}{r:WP} (h:WaysOwn W lo W.heap.size (.slice (some (U g 0)) n cap) ps) (hn:n=ps.length) (hr:ZbD W lo W.heap.size r) (hap:∀ p∈ps,ZcX p r) (hi:i<ps.length):WaysOwn (putW W g (i*3) r) lo (putW W g (i*3) r).heap.size (.slice (some (U g 0)) n cap) (ps.set i r):=by
 subst hn;have hst:=Zpw (p:=r) h.row hi;have hg:W.grownBy (putW W g (i*3) r) (Value.slice (some (U g 0)) ps.length cap).ownBlock:=Ziw W g (i*3) r;refine⟨by simpa using hst,fun k hk=>(hst.lt k hk).2,?_,?_⟩
 ·intro q hq;refine Zkg h hg ?_;rcases List.mem_or_eq_of_mem_set hq with h1 | h1
  ·exact h.nears q h1
  ·subst h1;exact hr
 ·have hp:=h.apart;rw [YAb] at hp |-;intro a b ha hb hab;simp only [List.length_set] at ha hb;rw [List.getElem_set,List.getElem_set];by_cases e1:i=a
  ·rw [if_pos e1,if_neg (by omega)];exact (hap _ (YAw hb)).symm
  ·rw [if_neg e1];by_cases e2:i=b
   ·rw [if_pos e2];exact hap _ (YAw ha)
   ·rw [if_neg e2];exact hp a b ha hb hab
theorem ZoC (ps:List WP)(r:WP)(i:Nat):Zag (ps.take i++[r]++ps.drop i)=(Zag ps).take i++[r.1]++(Zag ps).drop i:=by simp [Zag]
theorem ZoD (ps:List WP)(r:WP)(i:Nat):Zag (ps.set i r)=(Zag ps).set i r.1:=by simp [Zag,List.map_set]
theorem Zoj {xs:List WayD}(h:AscW xs)(r:WayD):∀ s t,s<=t->t<xs.length->ltW xs r t->ltW xs r s:=by
 intro s t hst ht hl;obtain⟨x,hx,hlt⟩:=hl;by_cases e:s=t
 ·subst e;exact⟨x,hx,hlt⟩
 ·obtain ⟨h1,e1⟩:=YAD.1 hx;unfold AscW at h;rw [YAb] at h;have h2:=h s t (by omega) ht (by omega);rw [e1] at h2;exact⟨xs[s],YAA (by omega),by omega⟩
theorem Zsf {xs:List WayD}{r:WayD}(h:AscW xs)(hi:i<=xs.length)(h1:∀ t,t<i->ltW xs r t)(h2:∀ t,i<=t->t<xs.length->¬ltW xs r t)(h3:¬∃ x,xs[i]? = some x/\x.to=r.to)(tog:WayD->WayD->WayD):
  AscW (xs.take i++[r]++xs.drop i)/\∀ to,ZaZ (xs.take i++[r]++xs.drop i) to=if to=r.to then ZeX tog (ZaZ xs to) (some r) else ZaZ xs to:=by
 have hlo:∀ x∈xs.take i,x.to<r.to:=by
  intro x hx;obtain⟨j,hj,e⟩:=List.getElem_of_mem hx;rw [YAS] at hj;rw [List.getElem_take] at e;obtain⟨y,hy,hl⟩:=h1 j (by omega);rw [YAA (by omega)] at hy;have hy':=Option.some.inj hy;rw [<-e,hy'];exact hl
 have hhi:∀ x∈xs.drop i,r.to<x.to:=by
  have hge:∀ x∈xs.drop i,r.to<=x.to:=by
   intro x hx;obtain⟨j,hj,e⟩:=List.getElem_of_mem hx;rw [YAj] at hj;rw [List.getElem_drop] at e;have:=h2 (i+j) (by omega) (by omega);rcases Int.lt_or_le x.to r.to with hc | hc
   ·exact absurd ⟨x,by rw [YAA (by omega),e],hc⟩ this
   ·exact hc
  intro x hx;have h4:=hge x hx;rcases Int.lt_or_le r.to x.to with hc | hc
  ·exact hc
  ·exfalso;have hlen:i<xs.length:=by
    rcases Nat.lt_or_ge i xs.length with h5 | h5
    ·exact h5
    ·rw [List.drop_eq_nil_of_le h5] at hx;cases hx
   rw [YAk hlen] at hx;have h6:=hge xs[i] (by rw [YAk hlen];exact List.mem_cons_self);rcases YAg.1 hx with e | e
   ·exact h3 ⟨xs[i],YAA hlen,by rw [<-e];omega⟩
   ·have hp:=h;unfold AscW at hp;rw [<-YAa i xs,YAQ] at hp;have hp2:=hp.2.1;rw [YAk hlen] at hp2;have:=(YAr.1 hp2).1 x e;omega
 have hp:=h;unfold AscW at hp;rw [<-YAa i xs,YAQ] at hp;have hasc:AscW (xs.take i++[r]++xs.drop i):=by
  unfold AscW;rw [YAW,YAQ];refine⟨hp.1,?_,?_⟩
  ·rw [YAQ];refine⟨by simp,hp.2.1,?_⟩;intro a ha b hb;have:a=r:=by simpa using ha
   subst this;exact hhi b hb
  ·intro a ha b hb;rcases YAF.1 hb with h5 | h5
   ·have:b=r:=by simpa using h5
    subst this;exact hlo a ha
   ·exact hp.2.2 a ha b h5
 have hmem:∀ x,x∈xs.take i++[r]++xs.drop i↔x∈xs\/x=r:=by
  intro x;simp only [YAF,YAy];constructor
  ·rintro ((h5 | h5) | h5)
   ·exact .inl (YAl h5)
   ·exact .inr h5
   ·exact .inl (List.mem_of_mem_drop h5)
  ·rintro (h5 | h5)
   ·rw [<-YAa i xs] at h5;rcases YAF.1 h5 with h6 | h6
    ·exact .inl (.inl h6)
    ·exact .inr h6
   ·exact .inl (.inr h5)
 have hno:∀ x∈xs,x.to≠r.to:=by
  intro x hx;rw [<-YAa i xs] at hx;rcases YAF.1 hx with h6 | h6
  ·have:=hlo x h6;omega
  ·have:=hhi x h6;omega
 refine⟨hasc,fun to=>?_⟩;by_cases e:to=r.to
 ·subst e;rw [if_pos rfl];have hn:ZaZ xs r.to=none:=by
   cases e2:ZaZ xs r.to with
   | none=>rfl
   | some y=>have:=ZaX e2;exact absurd this.2 (hno y this.1)
  rw [hn];exact Zb3 hasc ((hmem r).2 (.inr rfl))
 ·rw [if_neg e];cases e2:ZaZ xs to with
  | none=>
   cases e3:ZaZ (xs.take i++[r]++xs.drop i) to with
   | none=>rfl
   | some y=>
    have h7:=ZaX e3;rcases (hmem y).1 h7.1 with h8 | h8
    ·exact absurd h7.2 (ZdH e2 y h8)
    ·exact absurd (by rw [<-h7.2,h8]) e
  | some y=>
   have h7:=ZaX e2;have:=Zb3 hasc ((hmem y).2 (.inl h7.1));rw [h7.2] at this;exact this
theorem Zsg {xs:List WayD}{r x y:WayD}(h:AscW xs)(hx:xs[i]? = some x)(he:x.to=r.to)(tog:WayD->WayD->WayD)(hy:y=tog x r)(hyt:y.to=x.to):
  AscW (xs.set i y)/\∀ to,ZaZ (xs.set i y) to=if to=r.to then ZeX tog (ZaZ xs to) (some r) else ZaZ xs to:=by
 obtain⟨hi,e1⟩:=YAD.1 hx;have hasc:AscW (xs.set i y):=by
  unfold AscW at h |-;rw [YAb] at h |-;intro a b ha hb hab;simp only [List.length_set] at ha hb;have hab2:=h a b ha hb hab;rw [List.getElem_set,List.getElem_set];by_cases ea:i=a
  ·subst ea;rw [if_pos rfl,if_neg (by omega),hyt, <-e1];exact hab2
  ·rw [if_neg ea];by_cases eb:i=b
   ·subst eb;rw [if_pos rfl,hyt, <-e1];exact hab2
   ·rw [if_neg eb];exact hab2
 have hxm:x∈xs:=YAH hx;have hym:y∈xs.set i y:=List.mem_iff_getElem?.2 ⟨i,List.getElem?_set_self hi⟩;have hoth:∀ z,z.to≠x.to->(z∈xs.set i y↔z∈xs):=by
  intro z hz;constructor
  ·intro hm;rcases List.mem_or_eq_of_mem_set hm with h5 | h5
   ·exact h5
   ·subst h5;exact absurd hyt hz
  ·intro hm;obtain⟨j,hj,e⟩:=List.getElem_of_mem hm;have hji:j≠i:=fun e2=>by subst e2;rw [e1] at e;exact hz (by rw [e])
   exact List.mem_iff_getElem?.2 ⟨j,by rw [List.getElem?_set_ne (Ne.symm hji),YAA hj,e]⟩
 refine⟨hasc,fun to=>?_⟩;by_cases e:to=r.to
 ·rw [if_pos e];have hf:ZaZ xs to=some x:=by rw [e, <-he];exact Zb3 h hxm
  rw [hf];show _=some (tog x r);rw [<-hy];have:=Zb3 hasc hym;rw [hyt,he, <-e] at this;exact this
 ·rw [if_neg e];have ene:to≠x.to:=by rw [he];exact e
  cases e2:ZaZ xs to with
  | none=>
   cases e3:ZaZ (xs.set i y) to with
   | none=>rfl
   | some z=>
    have h7:=ZaX e3;exact absurd h7.2 (ZdH e2 z ((hoth z (by rw [h7.2];exact ene)).1 h7.1))
  | some z=>
   have h7:=ZaX e2;have:=Zb3 hasc ((hoth z (by rw [h7.2];exact ene)).2 h7.1);rw [h7.2] at this;exact this
theorem Zsp (x y:WayD)(h:x.to=y.to):(togI x y).to=x.to:=by
 unfold togI
 split
 ·rfl
 ·split
  ·exact h.symm
  ·rfl
def PutD (ds:List WayD)(r:WayD)(es:List WayD):Prop:=AscW es/\∀ to,ZaZ es to=if to=r.to then ZeX togI (ZaZ ds to) (some r) else ZaZ ds to
def Ze6 (B:Nat)(ps:List WP)(r:WP)(qs:List WP):Prop:=∀ q∈qs,(∃ p∈ps,q.2=p.2)\/q.2=r.2\/∀ k,q.2.ownBlock=some k->B<=k
theorem Zlc (B:Nat)(ps:List WP)(r:WP)(i:Nat):Ze6 B ps r (ps.take i++[r]++ps.drop i):=by
 intro q hq;rcases YAF.1 hq with h1 | h1
 ·rcases YAF.1 h1 with h2 | h2
  ·exact .inl ⟨q,YAl h2,rfl⟩
  ·have:q=r:=by simpa using h2
   subst this;exact .inr (.inl rfl)
 ·exact .inl ⟨q,List.mem_of_mem_drop h1,rfl⟩
theorem Zld (B:Nat)(ps:List WP)(r q0:WP)(i:Nat)(h:∀ k,q0.2.ownBlock=some k->B<=k):Ze6 B ps r (ps.set i q0):=by
 intro q hq;rcases List.mem_or_eq_of_mem_set hq with h1 | h1
 ·exact .inl ⟨q,h1,rfl⟩
 ·subst h1;exact .inr (.inr h)
theorem ZgR {B:Nat}{w:World}(h:Below B w W)(hB:w.heap.size<=B)(row:Option Nat):w.grownBy W row:=⟨h.os,h.tape,h.output,h.size,fun k hk _=>h.block k (by omega)⟩
theorem Zix (v:Value)(ps:List WP)(lo:Nat)(r:WP)(w:World)(hv:WaysOwn w lo w.heap.size v ps)(hlo:lo<=w.heap.size)(hn:ps.length<=1000)(hsh:∀ p∈ps,p.1.hops.length<=1000)(hrl:r.1.hops.length<=1000)(hasc:AscW (Zag ps))(hr:ZbD w lo w.heap.size r)(hap:∀ p∈ps,ZcX p r):
  Calls Tryz.prog 212 #[v,.agg (wayC r.1 r.2)] w fun e w'=>∃ x qs,e=.returned x/\PutD (Zag ps) r.1 (Zag qs)/\WaysOwn w' lo w'.heap.size x qs/\Ze6 w.heap.size ps r qs/\(∀ k,x.ownBlock=some k->v.ownBlock=some k\/w.heap.size<=k)/\w.grownBy w' v.ownBlock:=by
 have hfl:(Zag ps).length=ps.length:=by simp [Zag]
 obtain⟨a1,vc,hve⟩:=Zac hv.row;obtain⟨ra,rc,hrn⟩:=Zac hr.1;have BX:T_ w (w.alloc (.cells #[M r.1.to,M r.1.cost,.slice ra r.1.hops.length rc] 193)):=(YAC _ _).alloc (YA _) _;have hx:=YAE w (.cells #[M r.1.to,M r.1.cost,.slice ra r.1.hops.length rc] 193);obtain⟨w0,hw0⟩:∃ w0,w0=w.alloc (.cells #[M r.1.to,M r.1.cost,.slice ra r.1.hops.length rc] 193):=⟨_,rfl⟩;rw [<-hw0] at BX hx;have hs0:=Zab hx;have hv0:=hv.below BX (YA _);have hr0:=hr.keep (W':=w0) (fun k _ _ h3=>BX.block k h3);have HS:=ZlQ v ps w.heap.size r w0 hv0.at BX.size (by omega) ⟨ra,rc,hrn⟩ (by rw [<-hfl];exact Zoj hasc r.1);have d0:=Zaa hx 0;have d1:=Zaa hx 1;have d2:=Zaa hx 2;simp at d0 d1 d2;have HV:=hide hv0;have HR:=hide hr0;have HA:=hide hasc;have HP:=hide hap;have HFL:=hide hfl;have HRN:=hide hrn;have HSH:=hide hsh;unfold wayC at *;rw [hrn] at HS |-;subst hve;have HSS:=hide HS;clear HS hv0 hr0 hasc hap hr hrn hv hfl hsh
 go_enter Tryz.func212,Tryz.ntmps212
 go_wp2_with fail
 rw [<-hw0];clear hw0;refine HSS.out.mono ?_;rintro e w1 ⟨i,f,rfl,hil,q1,q2,q3,b1⟩;have b1s:=b1.size;have hx1:=(b1.block _ hs0).trans hx;have B1:T_ w w1:=BX.trans (b1.mono BX.size);have hv1:=(HV.out.below b1 (by omega)).wide (YA _) (show w.heap.size<=w1.heap.size by omega);have hr1:=((HR).keep (W':=w1) (fun k _ _ h3=>b1.block k h3)).wide (YA _) (show w.heap.size<=w1.heap.size by omega);have Q1:=hide q1;have Q2:=hide q2;have Q3:=hide q3;clear q1 q2 q3 d0 d1 d2 hx b1;have d0:=Zaa hx1 0;have d1:=Zaa hx1 1;have d2:=Zaa hx1 2;simp at d0 d1 d2;have hii:(0:Int)<=(i:Int):=by omega
 cases f with
 | true=>
  have hil2:i<ps.length:=by
   obtain⟨x,hx,_⟩:=Q3.out.1 rfl;have:=(YAD.1 hx).1;rw [HFL.out] at this;exact this
  have hij:(i:Int)<(ps.length:Int):=by omega
  obtain⟨p,hp⟩:∃ p,ps[i]? = some p:=⟨ps[i],YAA hil2⟩;rcases hv1.row.2 with ⟨_,h0⟩ | ⟨g,cap,cur,hve,_⟩
  ·omega
  ·cases hve;have hpo:=hv1.nears p (YAH hp);obtain⟨pa,pc,hpn⟩:=Zac hpo.1;obtain⟨b,off,cp,hve,hbb,c0,c1,c2,_⟩:=hv1.at.cells i p hp;cases hve;rw [hpn] at c2;simp only [Nat.zero_add] at c0 c1 c2;have hgl:=hv1.row.lt g rfl;have hgw:g<w.heap.size:=HV.out.top g rfl;have HTG:=Zmp p.1 r.1 p.2 r.2 lo lo w1.drew (Zad hpo.1 (YAC w1.heap.size w1).drew (YA _)) (Zad hr1.1 (YAC w1.heap.size w1).drew (YA _)) (by have:=HSH.out p (YAH hp);omega) (by omega);rw [hpn,HRN.out] at HTG;unfold wayC at HTG;obtain⟨q,hq⟩:∃ q,q=togI p.1 r.1:=⟨_,rfl⟩;rw [<-hq] at HTG;have hpe:p.1.to=r.1.to:=by
    obtain⟨x,hx,h0⟩:=Q3.out.1 rfl;rw [Zc2 hp] at hx;cases hx;exact h0
   have hfin:∀ (W:World) (u:Value),W.ownsRow w1.heap.size 3 1 u q.hops.length (flat intE q.hops)->T_ w1 W->∃ qs,PutD (Zag ps) r.1 (Zag qs)/\WaysOwn (putW W g (i*3) (q,u)) lo (putW W g (i*3) (q,u)).heap.size (.slice (some (U g 0)) ps.length vc) qs/\Ze6 w.heap.size ps r qs/\w.grownBy (putW W g (i*3) (q,u)) (some g):=by
    intro W u hu hb;have hvW:=(hv1.below hb (YA _)).wide (YA _) hb.size;have hnew:ZbD W lo W.heap.size (q,u):=⟨Zaf hu (by omega),fun k hk=>(hu.lt k hk).2⟩;have hapn:∀ p'∈ps,ZcX p' (q,u):=fun p' hp' k hk he=>by
     have h1:=(hv1.nears p' hp').2 k hk;have h2:=(hu.lt k he).1;omega
    refine⟨ps.set i (q,u),?_,hvW.put rfl hnew hapn hil2,Zld _ _ _ _ _ (fun k hk=>by have:=(hu.lt k hk).1;omega),?_⟩
    ·rw [ZoD];exact Zsg HA (Zc2 hp) hpe togI hq (by rw [hq];exact Zsp _ _ hpe)
    ·exact Zaj (ZgR (B1.trans (hb.mono (by omega))) (YA _) _) (Ziw W g (i*3) (q,u))
   have HFIN:=hide hfin;have HT:=hide HTG;have HV1:=hide hv1;have BD:T_ w1 w1.drew:=(YAC _ _).drew;replace c0:=(BD.cell (by exact hgl.2)).trans c0;replace c1:=(BD.cell (by exact hgl.2)).trans c1;replace c2:=(BD.cell (by exact hgl.2)).trans c2;replace d0:=(BD.cell (by show w.heap.size<w1.heap.size;omega)).trans d0;replace d1:=(BD.cell (by show w.heap.size<w1.heap.size;omega)).trans d1;replace d2:=(BD.cell (by show w.heap.size<w1.heap.size;omega)).trans d2;clear hfin HTG hv1 hr1 hpo hpn hp hq hpe HA HP
   go_wp2_with fail
   refine wp_region_noPanic ?_;refine Zah (S:=fun _=>True) (by kernel_rfl) 10 rfl trivial ?_;intro ops hops _;refine Zrb _ _ _ _ _ _ _ _ _ _ _ _ _ _ _ _ _ _ _ _ _ _ _ _ _ _ w1.drew g ps.length vc i w.heap.size p.1 r.1 q pa ra p.1.hops.length pc r.1.hops.length rc (fun W u=>∃ l,W.ownsRow w1.heap.size 3 1 u l (flat intE q.hops)/\l=q.hops.length/\T_ w1 W) _ ops hops (fun _ _ _ _ h=>h) hii hij c0 c1 c2 d0 d1 d2 (hide (HT.out.mono ?_)) ?_ ?_ ?_
   ·rintro e w2 ⟨u,rfl,hu,hb⟩;obtain⟨ua,uc,rfl⟩:=Zac hu;exact⟨ua,q.hops.length,uc,rfl,_,hu,rfl,BD.trans hb⟩
   ·rintro W u ⟨l,hu,hl,hb⟩;have hvW:=HV1.out.below hb (YA _);obtain⟨y0,f0⟩:=ZaM hvW.row (i*3) (by omega);obtain⟨y1,f1⟩:=ZaM hvW.row (i*3+1) (by omega);obtain⟨y2,f2⟩:=ZaM hvW.row (i*3+2) (by omega);exact⟨y0,y1,y2,f0,f1,f2⟩
   ·rintro W u ⟨l,hu,hl,hb⟩ j;exact (HV1.out.below hb (YA _)).row.frozenAt j
   ·rintro W ua ul uc ⟨l,hu,hl,hb⟩;refine NoPanic.normal ?_;subst hl;obtain⟨qs,h1,h2,h3,h4⟩:=HFIN.out W _ hu hb;have H1:=hide h1;have H2:=hide h2;have H3:=hide h3;have H4:=hide h4;clear h1 h2 h3 h4 hu hb hops ops HFIN HT HV1;go_wp2;go_ret
    first
     | exact ⟨_,qs,rfl,H1,H2,H3,fun k hk=>.inl hk,H4⟩
     | exact ⟨_,rfl,qs,H1,H2,H3,fun k hk=>.inl hk,H4⟩
 | false=>
  have hl:PutD (Zag ps) r.1 (Zag (ps.take i++[r]++ps.drop i)):=by
   rw [ZoC];exact Zsf HA (by rw [HFL.out];exact hil) Q1 (by rw [HFL.out];exact Q2) (fun h=>by have:=Q3.out.2 h;cases this) togI
  have HL:=hide hl;clear hl;have BY:T_ w1 (w1.alloc (.cells #[M r.1.to,M r.1.cost,.slice ra r.1.hops.length rc] 193)):=(YAC _ _).alloc (YA _) _;have hy:=YAE w1 (.cells #[M r.1.to,M r.1.cost,.slice ra r.1.hops.length rc] 193);obtain⟨w2,hw2⟩:∃ w2,w2=w1.alloc (.cells #[M r.1.to,M r.1.cost,.slice ra r.1.hops.length rc] 193):=⟨_,rfl⟩;rw [<-hw2] at BY hy;have hv2:=(hv1.below BY (YA _)).wide (YA _) BY.size;have hr2:=(hr1.keep (W':=w2) (fun k _ _ h3=>BY.block k h3)).wide (YA _) BY.size;have HI:=Zlt lo i w1.heap.size _ ps r w2 hv2 (by have:=BY.size;omega) hil (by omega) (by
   rw [hy];unfold encW;rw [HRN.out]) (fun e=>by
    have h6:=hv1.top _ e.symm;omega) (ZoK hr2)
  have HII:=hide HI;have HV2:=hide hv2;have HR2:=hide hr2;have B2:T_ w w2:=B1.trans (BY.mono (by omega));have hb2:=BY.size;clear HI hv1 hr1 hv2 hr2
  go_wp2_with fail
  rw [<-hw2];clear hw2;refine HII.out.mono ?_;rintro e w3 ⟨x,rfl,hrow,hg,hblk⟩;have hfin:=HV2.out.ins HR2 HP hil hrow hg;have hB:=Zaj (ZgR B2 (YA _) _) hg;have hbk:∀ k,x.ownBlock=some k->(Value.slice a1 ps.length vc).ownBlock=some k\/w.heap.size<=k:=fun k hk=>by
   rcases hblk with h1 | h1
   ·exact .inl (by rw [<-h1];exact hk)
   ·right;rw [h1] at hk;cases hk;omega
  obtain⟨xa,xc,rfl⟩:=Zac hrow;have HF:=hide hfin;have HB:=hide hB;have HK:=hide hbk;have HFR:=hide (Zlc w.heap.size ps r i);clear hfin hB hrow hg hbk hblk;go_wp2;go_ret
  first
   | exact ⟨_,_,rfl,HL,HF,HFR,HK,HB⟩
   | exact ⟨_,rfl,_,HL,HF,HFR,HK,HB⟩
def ZcG (xs:List RecD)(area src:Int)(r:RecD)(d:WayD):Prop:=
 r.kind=2/\r.area=area/\r.owner≠src/\∃ v,ZaZ (ZbO xs area src) r.owner=some v/\v.cost+r.cost<60000/\d=⟨r.key,v.cost+r.cost,v.hops⟩
def outS (xs rs:List RecD)(area src to:Int)(d:WayD):Prop:=d.to=to/\∃ r∈rs,ZcG xs area src r d
theorem ZeN (hs:ZaA xs=true)(hr:r∈xs)(hk:r.kind=2):(1<=r.key/\r.key<=6)/\(0<=r.cost/\r.cost<=60000):=by
 unfold ZaA at hs;simp only [YAM] at hs;have hok:=ZdD hs.1.2 hr;unfold Za2 at hok;rw [if_neg (by omega),if_pos hk] at hok;simp only [YAM,inB,YAT] at hok;omega
theorem Zew (hr:r∈xs)(h:ZcG xs area src r d):GoodW d:=by
 obtain⟨h1,_,_,v,h4,h5,rfl⟩:=h;have hm:=(ZaX h4).1;have hv:=((ZbP xs area src).2 v hm).1;have hb:=ZeN (Zc6 hm).1 hr h1;exact⟨hb.1,⟨by show 0<=v.cost+r.cost;have:=hv.cost;omega,by show v.cost+r.cost<=60000;omega⟩,hv.asc,hv.hop6⟩
theorem ZfR (hs:∀ r∈rs,r∈xs)(h:outS xs rs area src to d):GoodW d/\d.to=to:=by
 obtain⟨h1,r,hr,h2⟩:=h;exact⟨Zew (hs r hr) h2,h1⟩
theorem Zkw (h:rs[k]? = some r)(d:WayD):outS xs (rs.take (k+1)) area src to d↔outS xs (rs.take k) area src to d\/(d.to=to/\ZcG xs area src r d):=by
 obtain⟨hk,e⟩:=YAD.1 h;unfold outS;rw [YAI hk,e];constructor
 ·rintro ⟨h1,x,h2,h3⟩;rcases YAF.1 h2 with h4 | h4
  ·exact .inl ⟨h1,x,h4,h3⟩
  ·have:x=r:=by simpa using h4
   subst this;exact .inr ⟨h1,h3⟩
 ·rintro (⟨h1,x,h2,h3⟩ | ⟨h1,h3⟩)
  ·exact ⟨h1,x,YAF.2 (.inl h2),h3⟩
  ·exact ⟨h1,r,YAF.2 (.inr (by simp)),h3⟩
def ZjZ (border:Bool)(a:Int):Prop:=border=true->a=0
def Zbw (xs:List RecD)(al:List Int)(border:Bool)(src to:Int)(d:WayD):Prop:=(∀ x,¬Zas xs al src to x)/\∃ a∈al,ZjZ border a/\outS xs xs a src to d
theorem Zbc (h:Zbw xs al border src to d):GoodW d/\d.to=to:=by
 obtain⟨_,a,_,_,h2⟩:=h;exact ZfR (fun _ h=>h) h2
theorem Zhq (h:outS xs rs area src to d):ZaA xs=true/\0<=area/\area<3:=by
 obtain⟨_,r,_,_,_,_,v,h4,_⟩:=h;exact Zc6 (ZaX h4).1
def ZhG (xs:List RecD)(al:List Int)(border:Bool)(src to:Int)(d:WayD):Prop:=∃ a∈al,ZjZ border a/\outS xs xs a src to d
theorem ZnV (h:ZhG xs al border src to d):GoodW d/\d.to=to:=by
 obtain⟨a,_,_,h2⟩:=h;exact ZfR (fun _ h=>h) h2
theorem ZiA (h:al[k]? = some a)(d:WayD):ZhG xs (al.take (k+1)) border src to d↔ZhG xs (al.take k) border src to d\/(ZjZ border a/\outS xs xs a src to d):=by
 obtain⟨hk,e⟩:=YAD.1 h;unfold ZhG;rw [YAI hk,e];constructor
 ·rintro ⟨b,h2,h3,h4⟩;rcases YAF.1 h2 with h5 | h5
  ·exact .inl ⟨b,h5,h3,h4⟩
  ·have:b=a:=by simpa using h5
   subst this;exact .inr ⟨h3,h4⟩
 ·rintro (⟨b,h2,h3,h4⟩ | ⟨h3,h4⟩)
  ·exact ⟨b,YAF.2 (.inl h2),h3,h4⟩
  ·exact ⟨a,YAF.2 (.inr (by simp)),h3,h4⟩
theorem Zk1 {tog:WayD->WayD->WayD}(ht:ZkW tog){o:Option WayD}{S0:WayD->Prop}(hS0:∀ d,S0 d->GoodW d/\d.to=to)(h:xs[k]? = some r)(hb:ZaJ to (fun d=>S0 d\/outS xs (xs.take k) area src to d) o)(hd:ZcG xs area src r d)(hto:d.to=to):
  ZaJ to (fun d=>S0 d\/outS xs (xs.take (k+1)) area src to d) (ZeX tog o (some d)):=by
 have hg:=Zew (YAH h) hd;refine (hb.add ht (fun w hw=>?_) hto hg.asc hg.hop6).congr (fun w=>?_)
 ·rcases hw with h1 | h1
  ·exact (hS0 w h1).1.hop6
  ·exact (ZfR (fun r hr=>YAl hr) h1).1.hop6
 ·rw [Zkw h];have huniq:∀ w,ZcG xs area src r w->w=d:=by
   rintro w ⟨_,_,_,v,h4,_,rfl⟩;obtain⟨_,_,_,v',h4',_,rfl⟩:=hd;rw [h4] at h4';cases h4';rfl
  constructor
  ·rintro ((h1 | h1) | h1)
   ·exact .inl h1
   ·exact .inr (.inl h1)
   ·subst h1;exact .inr (.inr ⟨hto,hd⟩)
  ·rintro (h1 | h1 | ⟨_,h1⟩)
   ·exact .inl (.inl h1)
   ·exact .inl (.inr h1)
   ·exact .inr (huniq w h1)
theorem ZbX {o:Option WayD}{S0:WayD->Prop}(h:xs[k]? = some r)(hb:ZaJ to (fun d=>S0 d\/outS xs (xs.take k) area src to d) o)(hn:∀ d,d.to=to->¬ZcG xs area src r d):
  ZaJ to (fun d=>S0 d\/outS xs (xs.take (k+1)) area src to d) o:=by
 refine hb.congr (fun w=>?_);rw [Zkw h];constructor
 ·rintro (h1 | h1)
  ·exact .inl h1
  ·exact .inr (.inl h1)
 ·rintro (h1 | h1 | ⟨h1,h2⟩)
  ·exact .inl h1
  ·exact .inr h1
  ·exact absurd h2 (hn w h1)
structure BoxT (W:World) (z lo:Nat) (b:WayD) (bv:Value):Prop where
 box:W.heap[z]? = some (.cells (wayC b bv) 193)
 own:W.ownsRow lo 3 1 bv b.hops.length (flat intE b.hops)
 len:b.hops.length<=6
theorem BoxT.below (h:BoxT W z lo b bv)(hb:T_ W W'):BoxT W' z lo b bv:=
 ⟨(hb.block _ (Zab h.box)).trans h.box,Zad h.own hb (YA _),h.len⟩
theorem BoxT.other {cs:Array Value}{T:TypeId}{fr:Nat × Nat}(h:BoxT W z lo b bv)(hg:W.grownBy W' (some g))(hgz:z≠g)(hbox:W.heap[g]? = some (.cells cs T fr))(hT:(3:TypeId)≠T):BoxT W' z lo b bv:=
 ⟨(hg.block z (Zab h.box) (by simp;omega)).trans h.box,Zal h.own (fun j hj=>hg.block j (h.own.lt j hj).2 (fun e=>Zaq h.own hbox hT (by rw [hj];exact e.symm))),h.len⟩
theorem BoxT.put (h:BoxT W z lo b bv)(hu:W.ownsRow lo 3 1 u d.hops.length (flat intE d.hops))(hl:d.hops.length<=6):BoxT (Zbb W z d u) z lo d u:=by
 have hb:=h.box;unfold wayC at hb;have hg:=Za7 W z d u;exact⟨ZdA d u hb,Zal hu (fun j hj=>hg.block j (hu.lt j hj).2 (fun e=>Zaq hu h.box (by decide) (by rw [hj];exact e.symm))),hl⟩
theorem Zfj {o:Obj}(h:W.heap[g]? = some o)(hne:g≠z):(Zbb W z d u).heap[g]? = some o:=((Za7 W z d u).block g (Zab h) (by simp;omega)).trans h
theorem WLs.keep {hi:Nat}(h:WLs W lo hi u ls)(hk:∀ k,lo<=k->k<hi->k<W.heap.size->W'.heap[k]? = W.heap[k]?):WLs W' lo hi u ls:=
 ⟨Zal h.row (fun k e=>hk k (h.row.lt k e).1 (h.top k e) (h.row.lt k e).2),h.top,fun p hp=>(h.ways p hp).keep hk⟩
def ZbQ (xs:List RecD)(src:Int)(al:List Int)(ls:List LP):Prop:=ls.map (fun p=>Zag p.2)=al.map (fun a=>ZbO xs a src)
theorem ZbQ.at (h:ZbQ xs src al ls)(ha:al[k]? = some a):∃ p,ls[k]? = some p/\Zag p.2=ZbO xs a src:=by
 have h1:=congrArg (fun l=>l[k]?) h;simp only [List.getElem?_map,ha,Option.map_some] at h1;cases e:ls[k]? with
 | none=>rw [e] at h1;cases h1
 | some p=>rw [e] at h1;exact⟨p,rfl,by simpa using h1⟩
theorem ZbQ.len (h:ZbQ xs src al ls):ls.length=al.length:=by
 have:=congrArg List.length h;simpa using this
theorem ZbQ.push {p:LP}(h:ZbQ xs src (al.take k) ls)(ha:al[k]? = some a)(hp:Zag p.2=ZbO xs a src):ZbQ xs src (al.take (k+1)) (ls++[p]):=by
 obtain⟨hk,e⟩:=YAD.1 ha;unfold ZbQ;rw [YAI hk,e,YAh,YAh,h];simp [hp]
theorem ZjJ (h:Zag ps=ZbO xs a src):totW ps<=42:=by
 have hw:=ZbP xs a src;refine ZgI ?_ (fun d hd=>(hw.2 d (by rw [<-h];exact hd)).1.len);have:=ZcU hw.1 (fun d hd=>(hw.2 d hd).1.node);rw [<-h] at this;simpa [Zag] using this
theorem Zp3 (W:World)(lo:Nat)(hb:lo<=W.heap.size):WLs (W.alloc (.cells #[] 187)) lo (W.alloc (.cells #[] 187)).heap.size (.slice (some (U W.heap.size 0)) 0 0) []:=by
 have h:(W.alloc (.cells #[] 187)).ownsRow lo 187 1 (.slice (some (U W.heap.size 0)) 0 0) 0 (flat Zi5 []):=YAe W #[] 0 hb (by unfold maxLen;omega) (by simp);exact⟨h,fun k hk=>(h.lt k hk).2,by simp⟩
theorem Tryz.infoWayS :(Tryz.prog.info? 187).map (fun i=>(i.zero,i.size,i.bytes))=some (some (.slice none 0 0),1,24):=by kernel_rfl
structure BoxSt (V W:World) (z:Nat) (b:WayD) (bv:Value):Prop where
 box:W.heap[z]? = some (.cells (wayC b bv) 193)
 own:W.ownsRow z 3 1 bv b.hops.length (flat intE b.hops)
 bel:Below z V W
 len:b.hops.length<=6
theorem BoxSt.below (h:BoxSt V W z b bv)(hb:T_ W W'):BoxSt V W' z b bv:=
 ⟨(hb.block _ (Zab h.box)).trans h.box,Zad h.own hb (YA _),h.bel.trans (hb.mono (by have:=Zab h.box;omega)),h.len⟩
theorem BoxSt.put (h:BoxSt V W z b bv)(hz:V.heap.size=z)(hu:W.ownsRow (z+1) 3 1 u d.hops.length (flat intE d.hops))(hl:d.hops.length<=6):BoxSt V (Zbb W z d u) z d u:=by
 have hb:=h.box;unfold wayC at hb;have hg:=Za7 W z d u;refine⟨ZdA d u hb,?_,h.bel.grown hg (by have:=h.bel.size;omega) (fun k hk=>by simp at hk;omega),hl⟩;refine Zaf (hu.kept hg ?_) (by omega);cases hv:u.ownBlock with
 | none=>exact .inl rfl
 | some g=>exact .inr (fun e=>by have:=(hu.lt g hv).1;simp at e;omega)
theorem BoxSt.other {cs:Array Value}{fr:Nat × Nat}(h:BoxSt V W z b bv)(hg:W.grownBy W' (some g))(hgz:z<g)(hbox:W.heap[g]? = some (.cells cs 193 fr))(hz:V.heap.size=z):BoxSt V W' z b bv:=
 ⟨(hg.block z (Zab h.box) (by simp;omega)).trans h.box,Zal h.own (fun j hj=>hg.block j (h.own.lt j hj).2 (fun e=>Zaq h.own hbox (by decide) (by rw [hj];exact e.symm))),h.bel.grown hg (by have:=h.bel.size;omega) (fun k hk=>by simp at hk;omega),h.len⟩
theorem Zit {l:List Int}(h:W.ownsRow lo 3 1 u l.length (flat intE l))(hg:W.grownBy W' (some g))(hlt:g<lo):W'.ownsRow lo 3 1 u l.length (flat intE l):=
 Zal h (fun j hj=>hg.block j (h.lt j hj).2 (fun e=>by have:=(h.lt j hj).1;simp at e;omega))
theorem ZrZ {L:Nat->Nat->Int}{src:Nat}(h:∃ m,GO W lo z L src m/\m<=43):∃ u n q bp wd wv F c hh,FS W lo z u n q bp wd wv/\GI F c hh n q bp wd/\Inv L src F c hh/\(∀ v,c v<=1000*(Zcn F:Int))/\Zin (GO W lo z L src)=7*(6-Zcn F)+n/\7*(6-Zcn F)+n<=43:=by
 obtain⟨m,hm,h43⟩:=h;have hle:=Zhc hm;obtain⟨u,n,q,bp,wd,wv,F,c,hh,a1,a2,a3,a4,a5⟩:=Zly ⟨m,hm⟩;exact⟨u,n,q,bp,wd,wv,F,c,hh,a1,a2,a3,a4,a5,by omega⟩
theorem ZkT {P:Program}{a:Act}{w:World}{Q:Exit->Act->World->Prop}{c rest:Go.Code}(l:Nat)(hf:findLabel c l=some rest)
  (pass:∀ a w,Q .normal a w->rest.wp P (Exit.jump l (fun a' w'=>Q .normal a' w'/\(0:Nat)<0) Q) a w)
  (first:c.wp P (Exit.jump l (fun a' w'=>Q .normal a' w') Q) a w):(Go.Code.scope c).wp P Q a w:=
 wp_scope_jumps l (fun a' w'=>Q .normal a' w') (fun _ _=>0) hf first pass
theorem Zqt (W:World)(lo z:Nat)(v:Value)(ps:List RP)(hi:Nat)(area:Int)(L:Nat->Nat->Int)(src:Nat)(hv:RecsIn W hi v ps)(hhi:hi<=lo)(hn:tot ps<=1048576)(hL:Links L 1000)(hLk:∀ a b:Nat,1<=a/\a<=6->1<=b/\b<=6->Zhe (fsts ps) area (a:Int) (b:Int)=L a b)(hgo:∃ m,GO W lo z L src m/\m<=43):
  Calls Tryz.prog 239 #[.pointer (some (U z 0)),v,M area] W fun e W'=>e=.returned (.tuple #[])/\GEnd W' lo z L src/\Below lo W W':=by
 obtain⟨a1,c1,rfl⟩:=Zac hv.row;have HLI:=hide (fun V (hb:Below lo W V) (a b:Nat) (ha:1<=a/\a<=6) (hb':1<=b/\b<=6) (hl:lo<=V.heap.size)=>by
  have:=Zlq (.slice a1 ps.length c1) ps hi area (a:Int) (b:Int) V (hv.below hb hhi) (YAG hhi hl) hn;rw [hLk a b ha hb'] at this;exact this)
 have HGO:=hide hgo;have HLL:=hide hL;clear hgo hv hLk hL
 go_enter Tryz.func239,Tryz.ntmps239
 go_wp2
 go_loopw [6] (fun p wr=>(p=p)/\(∃ m,GO wr lo z L src m/\m<=43)/\Below lo W wr) (fun _ wr=>Zin (GO wr lo z L src))
 case atStart=>exact ⟨rfl,HGO,YAC _ _⟩
 case round=>
  rename World=>wa
  clear HGO;obtain⟨_,hgo,hba⟩:=hrel;obtain⟨u,n,q,bp,wd,wv,F,c,hh,fs,gi,iv,bnd,hM,hn43⟩:=ZrZ hgo;have cz:=fs.hb.cell;obtain⟨ua,uc,hu⟩:=Zac fs.hb.hq.row;rw [hu] at cz;have hlo:=fs.size;have HFS:=hide fs;have HGI:=hide gi;have HIV:=hide iv;have HBN:=hide bnd;have HM:=hide hM;clear hgo fs gi iv bnd hM;by_cases hn0:n=0
  ·subst hn0;have HEND:=hide (show GEnd wa lo z L src from ⟨u,q,bp,wd,wv,c,hh,HFS,HGI.out.cc,HGI.out.hh,HGI.out.nn,HGI.out.end HIV⟩);clear hu
   go_wp2_with fail
   refine (Zjf _ _ _ _).mono ?_;rintro e w1 ⟨rfl,rfl⟩;go_wp2
   go_returns
   exact⟨rfl,HEND,hba⟩
  ·obtain ⟨m,hm⟩:∃ m,n=m+1:=⟨n-1,by omega⟩;subst hm;have HPOP:=hide (Zli wa lo z m _ u q wd wv HFS.out.hb hlo (by omega) rfl HFS.out.lz HFS.out.hp);unfold ptrV at HPOP;have hgt:(0:Int)<((m+1:Nat):Int):=by omega
   have hAs:=fun v W=>Zm2 v W;clear hu
   go_wp2_with fail
   refine (Zjf _ _ _ _).mono ?_;rintro e w1 ⟨rfl,rfl⟩;obtain⟨t0,kb,hto,hbp,hent⟩:=HGI.out.ent 0 (by omega);have ht0:1<=t0/\t0<=6:=by
    have h1:=HGI.out.cc t0;rw [ZcK hbp] at h1;have h2:=HGI.out.nn t0 kb hbp;have h3:=HIV.out.cnode t0 (by omega);exact h3
   go_wp2_with fail
   by_cases hst:(wd kb).cost<(wd (q 0)).cost
   ·refine ZkT 0 (rest:=?rest) ?hf ?_ ?_
    case hf=>rfl
    ·intro a w hq;refine wp_skip ?_;exact hq
    ·go_wp2_with fail
     refine HPOP.out.mono ?_;rintro e w2 ⟨u',q',rfl,hip,hsh,hb',fk⟩;rw [Zg1] at hb';have fs2:=HFS.out.popped fk hb' hip;have ba2:Below lo W w2:=hba.trans fk.below;have hlo2:=fs2.size;have hw0:=HFS.out.hb.hq.way 0 (by omega);have hp2:=(fk.typed _ _ _ _ hw0 (by decide) (fun e=>by rw [e,HFS.out.hb.box] at hw0;simp at hw0)).trans hw0;obtain⟨pa,pl,pk,hpv⟩:=HFS.out.hb.hq.sl 0 (by omega);have hk2:=(fs2.way t0 kb hbp).1;obtain⟨ba,bk,hbv⟩:=Zac (fs2.row t0 kb hbp);have kz:=fs2.known ht0;rw [hbp] at kz;unfold ptrO at kz;rw [hpv] at hp2;rw [hbv] at hk2;obtain⟨p0,hp0⟩:∃ p,p=q 0:=⟨_,rfl⟩;obtain⟨xp,hxp⟩:∃ x,x=wd (q 0):=⟨_,rfl⟩;obtain⟨xb,hxb⟩:∃ x,x=wd kb:=⟨_,rfl⟩;have HBT:=hide (fun V=>Zcz (.slice ba (wd kb).hops.length bk) (.slice pa pl pk) (wd kb) (wd (q 0)) V);rw [<-hxp, <-hxb] at HBT;rw [<-hxp] at hp2;rw [<-hxb] at hk2;rw [<-hp0] at hp2 |-;obtain⟨bl,hbl⟩:∃ l,l=xb.hops.length:=⟨_,rfl⟩;rw [<-hbl] at hk2 HBT;have hwp:wayC xp (.slice pa pl pk)=#[M (t0:Int),M xp.cost,.slice pa pl pk]:=by unfold wayC;rw [hxp,hto]
     rw [hwp] at hp2 HBT;unfold wayC Zbp at HBT;unfold wayC at hk2;obtain⟨pc,hpc⟩:∃ c,c=xp.cost:=⟨_,rfl⟩;obtain⟨bt,hbt⟩:∃ c,c=xb.to:=⟨_,rfl⟩;obtain⟨bc,hbc⟩:∃ c,c=xb.cost:=⟨_,rfl⟩;rw [<-hpc] at hp2 HBT;rw [<-hbt, <-hbc] at hk2 HBT;have lp2:=Zab hp2;have lb2:=Zab hk2;have lz2:=Zab fs2.hb.box;have s1:=Zaa hp2 0;have s2:=Zaa hp2 1;have s3:=Zaa hp2 2;have s4:=Zaa hk2 0;have s5:=Zaa hk2 1;have s6:=Zaa hk2 2;simp at s1 s2 s3 s4 s5 s6;have hti:(0:Int)<=(t0:Int):=by omega
     have htj:(t0:Int)<7:=by omega
     have FS2:=hide fs2;have HSH:=hide hsh;have HP0:=hide hp0;have HXP:=hide hxp;have HXB:=hide hxb;have HPC:=hide hpc;have HBC:=hide hbc;have HP2:=hide hp2;have HTO:=hide hto;have HBP:=hide hbp;have HEN:=hide hent;clear fs2 hsh hp0 hxp hxb hpc hbt hbc hbl hp2 hk2 hw0 fk hb' hip hpv hbv hwp hto hbp hent HPOP cz;go_wp2;refine wp_region_noPanic ?_;have hS0:w2.drew.cell? (U z t0)=some (.pointer (some (U kb 0)))/\w2.drew.cell? (U p0 0)=some (M (t0:Int))/\w2.drew.cell? (U p0 1)=some (M pc)/\w2.drew.cell? (U p0 2)=some (.slice pa pl pk)/\w2.drew.cell? (U kb 0)=some (M bt)/\w2.drew.cell? (U kb 1)=some (M bc)/\w2.drew.cell? (U kb 2)=some (.slice ba bl bk):=⟨kz,s1,s2,s3,s4,s5,s6⟩;have lz4:z<w2.drew.heap.size:=lz2;have lp4:p0<w2.drew.heap.size:=lp2;have lb4:kb<w2.drew.heap.size:=lb2;refine Zah (S:=fun W=>W.cell? (U z t0)=some (.pointer (some (U kb 0)))/\W.cell? (U p0 0)=some (M (t0:Int))/\W.cell? (U p0 1)=some (M pc)/\W.cell? (U p0 2)=some (.slice pa pl pk)/\W.cell? (U kb 0)=some (M bt)/\W.cell? (U kb 1)=some (M bc)/\W.cell? (U kb 2)=some (.slice ba bl bk)) (by kernel_rfl) 15 rfl hS0 ?_;intro ops hops _;show wpAnyH Tryz.prog .any ops _ _ 15 #[false,false,false,false,false,false,false,false,false,false,false,false,false,false,false] _ w2.drew
     iterate 14
      refine ZhJ 15 ?_ ?_ ?_ (by rw [hops.out];kernel_rfl) ?_ ?_ (by assumption) ?_
      rotate_left 2
      ·rw [hops.out];simp only [getS,Nat.reduceSub,Nat.reduceAdd];rfl
      ·intro W hW;obtain⟨k1,k2,k3,k4,k5,k6,k7⟩:=hW;go_simp <;> with_reducible rfl
      ·exact fun _ _ _=>id
      try simp only [putS]
     refine TC 14 ?_;intro K hK;go_simp;refine (HBT _).mono ?_;rintro e w5 ⟨rfl,b5⟩;have hK5:w5.cell? (U z t0)=some (.pointer (some (U kb 0)))/\w5.cell? (U p0 0)=some (M (t0:Int))/\w5.cell? (U p0 1)=some (M pc)/\w5.cell? (U p0 2)=some (.slice pa pl pk)/\w5.cell? (U kb 0)=some (M bt)/\w5.cell? (U kb 1)=some (M bc)/\w5.cell? (U kb 2)=some (.slice ba bl bk):=by
      refine⟨?_,?_,?_,?_,?_,?_,?_⟩
      ·rw [b5.cell lz4];exact hS0.1
      ·rw [b5.cell lp4];exact hS0.2.1
      ·rw [b5.cell lp4];exact hS0.2.2.1
      ·rw [b5.cell lp4];exact hS0.2.2.2.1
      ·rw [b5.cell lb4];exact hS0.2.2.2.2.1
      ·rw [b5.cell lb4];exact hS0.2.2.2.2.2.1
      ·rw [b5.cell lb4];exact hS0.2.2.2.2.2.2
     refine hK _ _ hK5 (fun _=>?_);clear hK K
     try simp only [putS]
     refine wpAnyH_done (by rw [hops.out];kernel_rfl) ?_ _;clear hops ops;refine NoPanic.normal ?_;have hcc:bc<pc:=by rw [HBC.out,HPC.out,HXB.out,HXP.out];exact hst
     rw [YAc hcc];have fs5:=FS2.out.below ((bdr1 w2).trans b5);have HNX:=hide (show GO w5 lo z L src (7*(6-Zcn F)+m) from ⟨u',m,q',bp,wd,wv,F,c,hh,fs5,HGI.out.stale HSH HTO HBP hst,HIV,HBN,rfl⟩);have B5:Below lo W w5:=ba2.trans (((bdr1 w2).trans b5).mono hlo2);go_wp2
     go_step3
     (try simp only [Exit.then,Exit.jump])
     refine⟨rfl,?_⟩;go_wp2;go_roundw
     case rel=>exact ⟨trivial,⟨_,HNX,by omega⟩,B5⟩
     case measure=>
      have h1:=Zhc HNX;have h2:=HM.out;omega
   ·go_step3
    go_wp2_with fail
    refine HPOP.out.mono ?_;rintro e w2 ⟨u',q',rfl,hip,hsh,hb',fk⟩;rw [Zg1] at hb';have fs2:=HFS.out.popped fk hb' hip;have ba2:Below lo W w2:=hba.trans fk.below;have hlo2:=fs2.size;have hw0:=HFS.out.hb.hq.way 0 (by omega);have hp2:=(fk.typed _ _ _ _ hw0 (by decide) (fun e=>by rw [e,HFS.out.hb.box] at hw0;simp at hw0)).trans hw0;obtain⟨pa,pl,pk,hpv⟩:=HFS.out.hb.hq.sl 0 (by omega);have hk2:=(fs2.way t0 kb hbp).1;obtain⟨ba,bk,hbv⟩:=Zac (fs2.row t0 kb hbp);have kz:=fs2.known ht0;rw [hbp] at kz;unfold ptrO at kz;rw [hpv] at hp2;rw [hbv] at hk2;obtain⟨p0,hp0⟩:∃ p,p=q 0:=⟨_,rfl⟩;obtain⟨xp,hxp⟩:∃ x,x=wd (q 0):=⟨_,rfl⟩;obtain⟨xb,hxb⟩:∃ x,x=wd kb:=⟨_,rfl⟩;have HBT:=hide (fun V=>Zcz (.slice ba (wd kb).hops.length bk) (.slice pa pl pk) (wd kb) (wd (q 0)) V);rw [<-hxp, <-hxb] at HBT;rw [<-hxp] at hp2;rw [<-hxb] at hk2;rw [<-hp0] at hp2 |-;obtain⟨bl,hbl⟩:∃ l,l=xb.hops.length:=⟨_,rfl⟩;rw [<-hbl] at hk2 HBT;have hwp:wayC xp (.slice pa pl pk)=#[M (t0:Int),M xp.cost,.slice pa pl pk]:=by unfold wayC;rw [hxp,hto]
    rw [hwp] at hp2 HBT;unfold wayC Zbp at HBT;unfold wayC at hk2;obtain⟨pc,hpc⟩:∃ c,c=xp.cost:=⟨_,rfl⟩;obtain⟨bt,hbt⟩:∃ c,c=xb.to:=⟨_,rfl⟩;obtain⟨bc,hbc⟩:∃ c,c=xb.cost:=⟨_,rfl⟩;rw [<-hpc] at hp2 HBT;rw [<-hbt, <-hbc] at hk2 HBT;have lp2:=Zab hp2;have lb2:=Zab hk2;have lz2:=Zab fs2.hb.box;have s1:=Zaa hp2 0;have s2:=Zaa hp2 1;have s3:=Zaa hp2 2;have s4:=Zaa hk2 0;have s5:=Zaa hk2 1;have s6:=Zaa hk2 2;simp at s1 s2 s3 s4 s5 s6;have hti:(0:Int)<=(t0:Int):=by omega
    have htj:(t0:Int)<7:=by omega
    have FS2:=hide fs2;have HSH:=hide hsh;have HP0:=hide hp0;have HXP:=hide hxp;have HXB:=hide hxb;have HPC:=hide hpc;have HBC:=hide hbc;have HP2:=hide hp2;have HTO:=hide hto;have HBP:=hide hbp;have HEN:=hide hent;clear fs2 hsh hp0 hxp hxb hpc hbt hbc hbl hp2 hk2 hw0 fk hb' hip hpv hbv hwp hto hbp hent HPOP cz;go_wp2;refine wp_region_noPanic ?_;have hS0:w2.drew.cell? (U z t0)=some (.pointer (some (U kb 0)))/\w2.drew.cell? (U p0 0)=some (M (t0:Int))/\w2.drew.cell? (U p0 1)=some (M pc)/\w2.drew.cell? (U p0 2)=some (.slice pa pl pk)/\w2.drew.cell? (U kb 0)=some (M bt)/\w2.drew.cell? (U kb 1)=some (M bc)/\w2.drew.cell? (U kb 2)=some (.slice ba bl bk):=⟨kz,s1,s2,s3,s4,s5,s6⟩;have lz4:z<w2.drew.heap.size:=lz2;have lp4:p0<w2.drew.heap.size:=lp2;have lb4:kb<w2.drew.heap.size:=lb2;refine Zah (S:=fun W=>W.cell? (U z t0)=some (.pointer (some (U kb 0)))/\W.cell? (U p0 0)=some (M (t0:Int))/\W.cell? (U p0 1)=some (M pc)/\W.cell? (U p0 2)=some (.slice pa pl pk)/\W.cell? (U kb 0)=some (M bt)/\W.cell? (U kb 1)=some (M bc)/\W.cell? (U kb 2)=some (.slice ba bl bk)) (by kernel_rfl) 15 rfl hS0 ?_;intro ops hops _;show wpAnyH Tryz.prog .any ops _ _ 15 #[false,false,false,false,false,false,false,false,false,false,false,false,false,false,false] _ w2.drew
    iterate 14
     refine ZhJ 15 ?_ ?_ ?_ (by rw [hops.out];kernel_rfl) ?_ ?_ (by assumption) ?_
     rotate_left 2
     ·rw [hops.out];simp only [getS,Nat.reduceSub,Nat.reduceAdd];rfl
     ·intro W hW;obtain⟨k1,k2,k3,k4,k5,k6,k7⟩:=hW;go_simp <;> with_reducible rfl
     ·exact fun _ _ _=>id
     try simp only [putS]
    refine TC 14 ?_;intro K hK;go_simp;refine (HBT _).mono ?_;rintro e w5 ⟨rfl,b5⟩;have hK5:w5.cell? (U z t0)=some (.pointer (some (U kb 0)))/\w5.cell? (U p0 0)=some (M (t0:Int))/\w5.cell? (U p0 1)=some (M pc)/\w5.cell? (U p0 2)=some (.slice pa pl pk)/\w5.cell? (U kb 0)=some (M bt)/\w5.cell? (U kb 1)=some (M bc)/\w5.cell? (U kb 2)=some (.slice ba bl bk):=by
     refine⟨?_,?_,?_,?_,?_,?_,?_⟩
     ·rw [b5.cell lz4];exact hS0.1
     ·rw [b5.cell lp4];exact hS0.2.1
     ·rw [b5.cell lp4];exact hS0.2.2.1
     ·rw [b5.cell lp4];exact hS0.2.2.2.1
     ·rw [b5.cell lb4];exact hS0.2.2.2.2.1
     ·rw [b5.cell lb4];exact hS0.2.2.2.2.2.1
     ·rw [b5.cell lb4];exact hS0.2.2.2.2.2.2
    refine hK _ _ hK5 (fun _=>?_);clear hK K
    try simp only [putS]
    refine wpAnyH_done (by rw [hops.out];kernel_rfl) ?_ _;clear hops ops;refine NoPanic.normal ?_;have hcc:¬bc<pc:=by rw [HBC.out,HPC.out,HXB.out,HXP.out];omega
    rw [YAZ hcc];have fs5:=FS2.out.below ((bdr1 w2).trans b5);have B5:Below lo W w5:=ba2.trans (((bdr1 w2).trans b5).mono hlo2);obtain⟨gi5,hq0,hFt,hct,hcost,hhops,hmin⟩:=HGI.out.fresh HSH.out HFS.out.hp HTO.out HBP.out (by omega);have hpk:p0=kb:=by rw [HP0.out];exact hq0
    have hbp0:bp t0=some p0:=by rw [hpk];exact HBP
    have HGI5:=hide gi5;have HFS5:=hide fs5;have HFT:=hide hFt;have HCT:=hide hct;have HMIN:=hide hmin;have hcb:=HBN.out t0;have hcard:Zcn F<=5:=by
     have h1:=Zez (F:=F) (u:=t0) ht0 hFt;have h2:=ZiX (fun v=>F v||v==t0);omega
    have hc5:c t0<=5000:=by omega
    have HBP0:=hide hbp0;clear gi5 fs5 hFt hct hmin hq0 hpk hbp0 hcost hhops HFS FS2 HP2 HBT hK5 hS0 kz s1 s2 s3 s4 s5 s6 HP0 HXP HXB HPC HBC HSH HTO HBP HEN hcc hst b5;go_wp2
    go_loopw [7] (fun i wr=>∃ (t:Nat) (u:Value) (n:Nat) (q:Nat->Nat) (bp:Nat->Option Nat) (wd:Nat->WayD) (wv:Nat->Value),1<=t/\t<=7/\i=M (t:Int)/\Hid (FS wr lo z u n q bp wd wv)/\Hid (GI (fun x=>F x||x==t0) (mixC L c t0 t) (mixH L src c hh t0 t) n q bp wd)/\Hid (bp t0=some p0)/\n+1<=m+t/\Below lo W wr) (fun i _=>8-(intOf i).toNat)
    case atStart=>exact ⟨1,_,m,q',bp,wd,wv,by omega,by omega,rfl,HFS5,hide (by rw [Zmw HLL.out,Zmy HLL.out];exact HGI5),HBP0,by omega,B5⟩
    case round=>
     rename World=>wr
     clear HFS5 HGI5 HBP0;obtain⟨t,u2,n2,q2,bp2,wd2,wv2,ht1,ht7,rfl,HF2,HG2,HB2,hn2,hbr⟩:=hrel;by_cases htl:t<7
     ·have ht6:(t:Int)<=6:=by omega
      have ht:1<=t/\t<=6:=by omega
      have hw:=(HF2.out.way t0 p0 HB2).1;have hto2:=HF2.out.to t0 p0 HB2;have hrow2:=HF2.out.row t0 p0 HB2;obtain⟨xa,xc,hxv⟩:=Zac hrow2;have hcx:(wd2 p0).cost=c t0:=by
       have h1:=HG2.out.cc t0;rw [ZcK HB2.out,Zo7 HCT.out] at h1;exact h1
      have hhx:(wd2 p0).hops=hh t0:=by
       have h1:=HG2.out.hh t0;rw [ZeC HB2.out,ZlF HCT.out] at h1;exact h1
      have hxl:=HF2.out.short t0 p0 HB2;obtain⟨x,hx⟩:∃ x,x=wd2 p0:=⟨_,rfl⟩;rw [hxv, <-hx] at hw hrow2;rw [<-hx] at hto2 hcx hhx hxl;have hwx:wayC x (.slice xa x.hops.length xc)=#[M (t0:Int),M x.cost,.slice xa x.hops.length xc]:=by unfold wayC;rw [hto2]
      rw [hwx] at hw;have e0:=Zaa hw 0;simp at e0;have hlr:=HF2.out.size;have lpr:=Zab hw;have HLI2:=hide (HLI wr hbr t0 t ht0 ht hlr);have hl0:=HLL.out.pos t0 t;have hl1:=HLL.out.le t0 t;obtain⟨lk,hlk⟩:∃ l,l=L t0 t:=⟨_,rfl⟩;rw [<-hlk] at HLI2 hl0 hl1;have HLK:=hide hlk;have HW:=hide hw;have HROW:=hide hrow2;have HCX:=hide hcx;have HHX:=hide hhx;have HX:=hide hx;have HWX:=hide hwx;have HTO2:=hide hto2;clear hlk hw hrow2 hcx hhx hx hwx hxv hto2;by_cases hlz:lk=0
      ·subst hlz;have HG3:=hide (ZnQ (by rw [<-HLK.out];omega) HG2)
       go_wp2_with fail
       refine HLI2.out.mono ?_;rintro e w6 ⟨rfl,b6⟩;have FS6:=hide (HF2.out.below b6);have B6:Below lo W w6:=hbr.trans (b6.mono hlr);clear b6;go_wp2;go_roundw
       case rel=>exact ⟨t+1,u2,n2,q2,bp2,wd2,wv2,by omega,by omega,by go_num,FS6,HG3,HB2,by omega,B6⟩
       case measure=>exact MS_
      ·have hlp:0<lk:=by omega
       have hlp2:lk>0:=hlp;have HY:=hide (ZqS HIV HCT HHX lk (t:=t))
       go_wp2_with fail
       refine HLI2.out.mono ?_;rintro e w6 ⟨rfl,b6⟩;have fs6:=HF2.out.below b6;have B6:Below lo W w6:=hbr.trans (b6.mono hlr);have hw6:=(b6.block _ lpr).trans HW;have g0:=Zaa hw6 0;have g1:=Zaa hw6 1;have g2:=Zaa hw6 2;simp at g0 g1 g2;rw [HCX.out] at g1;have hon:=ZnD x (.slice xa x.hops.length xc) lo (t:Int) lk w6 (Zad HROW b6 (YA _)) (by omega) (by rw [HCX.out];have:=HCT.out;omega) (by rw [HCX.out];omega);rw [HWX.out,HY.out,HCX.out] at hon;have HON:=hide hon;have HFS6:=hide fs6;clear hon fs6 b6 hw6
       go_wp2_with fail
       refine HON.out.mono ?_;rintro e w7 ⟨v7,rfl,ho7,b7⟩;have fs7:=HFS6.out.below b7;have B7:Below lo W w7:=B6.trans (b7.mono HFS6.out.size);have hl67:=b7.size;have hfr:∀ v' k' b,bp2 v'=some k'->(wv2 k').ownBlock=some b->v7.ownBlock≠some b:=by
        intro v' k' b e1 e2 e3;have h1:=((HFS6.out.row v' k' e1).lt b e2).2;have h2:=(ho7.lt b e3).1;omega
       have hjl:∀ kn,bp2 t=some kn->¬c t0+lk<(wd2 kn).cost->(togI (wd2 kn) ⟨(t:Int),c t0+lk,wayL src hh t0 t⟩).hops.length<=6/\(togI (wd2 kn) ⟨(t:Int),c t0+lk,wayL src hh t0 t⟩).cost=(wd2 kn).cost/\(togI (wd2 kn) ⟨(t:Int),c t0+lk,wayL src hh t0 t⟩).to=(wd2 kn).to:=by
        intro kn e1 e2;rw [HLK.out] at e2 |-;obtain⟨j1,_,j3,j4⟩:=Zo0 HIV.out (by rw [<-HLK.out];exact hlp) ht HG2 e1 e2;exact⟨by rw [j1];exact Zpz HIV HLL HCT,j3,j4⟩
       have HFO:=hide (Zkb w7 lo z u2 n2 q2 bp2 wd2 wv2 t ⟨(t:Int),c t0+lk,wayL src hh t0 t⟩ v7 fs7 (by omega) ht rfl (Zaf ho7 HFS6.out.size) (Zsu HIV ht) hfr hjl);obtain⟨na,nc,hv7⟩:=Zac ho7;have hkq:∀ i,i<n2->q2 i≠w7.heap.size:=fun i hi e=>by have:=Zab (fs7.hb.hq.way i hi);omega
       have hkb:∀ v,bp2 v≠some w7.heap.size:=fun v e=>by have:=Zab (fs7.way v _ e).1;omega
       have hp7:p0≠w7.heap.size:=fun e=>hkb t0 (by rw [HB2.out,e]);have HKQ:=hide hkq;have HKB:=hide hkb;rw [hv7];rw [hv7] at HFO;clear fs7 hfr hjl ho7 b7 hkq hkb hv7
       go_wp2_with fail
       refine HFO.out.mono ?_;rintro e w8 ⟨rfl,b8,hcs⟩;have B8:Below lo W w8:=B7.trans b8;rcases hcs with ⟨hcase,u3,q3,fs8,hsh8⟩ | ⟨kn,vy,e1,e2,fs8⟩
       ·have HG8:=hide (ZnP HIV HFT HCT (by rw [<-HLK.out];exact hlp) ht HG2 (by rw [<-HLK.out];exact hcase) HKQ HKB hsh8);rw [<-HLK.out] at HG8;have HFS8:=hide fs8;have HB8:=hide (show upd bp2 t (some w7.heap.size) t0=some p0 by
         rw [Zao]
         ·exact HB2
         ·intro e;subst e;have hcc:=HCT.out;have hx1:=HG2.out.cc t0;rw [ZdJ] at hx1;rcases hcase with e3 | ⟨kn,e3,e4⟩
          ·rw [HB2.out] at e3;cases e3
          ·rw [ZcK e3] at hx1;have e5:c t0+lk<(wd2 kn).cost:=e4;omega)
        clear fs8 hsh8 hcase;go_wp2;go_roundw
        case rel=>exact ⟨t+1,u3,n2+1,q3,_,_,_,by omega,by omega,by go_num,HFS8,HG8,HB8,by omega,B8⟩
        case measure=>exact MS_
       ·have HG8:=hide (ZnO HIV (by rw [<-HLK.out];exact hlp) ht HG2 e1 (by rw [<-HLK.out];exact e2));rw [<-HLK.out] at HG8;have HFS8:=hide fs8;clear fs8 e1 e2;go_wp2;go_roundw
        case rel=>exact ⟨t+1,u2,n2,q2,bp2,_,_,by omega,by omega,by go_num,HFS8,HG8,HB2,by omega,B8⟩
        case measure=>exact MS_
     ·have ht6:¬(t:Int)<=6:=by omega
      have htt:t=7:=by omega
      subst htt;have hg9:=HG2.out;rw [Zmv HLL.out,Zmx HLL.out] at hg9;have iv9:=HIV.out.step HLL HFT HCT HMIN (fun v=>Zfo HIV HLL HCT v);have hcard9:Zcn (fun v=>F v||v==t0)=Zcn F+1:=Zez ht0 HFT;have HNX:=hide (show GO wr lo z L src (7*(6-Zcn (fun v=>F v||v==t0))+n2) from ⟨u2,n2,q2,bp2,wd2,wv2,_,_,_,HF2,hg9,iv9,fun v=>by
       rw [hcard9];have h1:=Zgw (L:=L) (u:=t0) (v:=v) HBN HLL.out.le;omega,rfl⟩)
      rw [hcard9] at HNX;clear hg9 iv9 hcard9;go_wp2
      go_step3
      rw [Exit.noGoto_normal];go_wp2;go_roundw
      case rel=>exact ⟨trivial,⟨_,HNX,by omega⟩,hbr⟩
      case measure=>
       have h1:=Zhc HNX;have h2:=HM.out;omega
end Go.Proofs.YtcnjnibnecpddaaGreat
namespace Go.Proofs.YtcnjnibnecpddaaGreat
open Go.RowKit

structure PutSt (W:World) (lo loR hiR loW hiW:Nat) (S:Int->WayD->Prop) (x:Value) (qs:List WP) (u:Value) (ws:List WP) (j:Nat):Prop where
 own:WaysOwn W lo W.heap.size x qs
 best:ZaE S (Zag qs)
 offR:Off x loR hiR
 offW:Off x loW hiW
 from_:WaysOwn W loW hiW u ws
 lw:lo<=loW
 wide:loW<=hiW
 hW:hiW<=W.heap.size
 hR:hiR<=loW
 apart:∀ p∈qs,∀ q∈ws.drop j,ZcX p q

section
variable {W:World} {lo loR hiR loW hiW:Nat} {S:Int->WayD->Prop} {x u:Value} {qs ws:List WP} {j:Nat}

theorem PutSt.below {W':World}(h:PutSt W lo loR hiR loW hiW S x qs u ws j)(hb:T_ W W'):PutSt W' lo loR hiR loW hiW S x qs u ws j:=
 {h with
  own:=(h.own.below hb (YA _)).wide (YA _) hb.size
  from_:=h.from_.below hb h.hW
  hW:=YAG h.hW hb.size }

theorem PutSt.hop (h:PutSt W lo loR hiR loW hiW S x qs u ws j){r:WP}(hr:ws[j]? = some r):ZbD W lo W.heap.size r:=(h.from_.nears r (YAH hr)).wide h.lw h.hW

theorem ZfD {r:WP}(hr:ws[j]? = some r):ws.drop j=r::ws.drop (j+1):=by
 obtain⟨h1,e1⟩:=YAD.1 hr;rw [YAk h1,e1]

theorem PutSt.apartR (h:PutSt W lo loR hiR loW hiW S x qs u ws j){r:WP}(hr:ws[j]? = some r):∀ p∈qs,ZcX p r:=fun p hp=>h.apart p hp r (by rw [ZfD hr];exact List.mem_cons_self)

theorem PutSt.good (h:PutSt W lo loR hiR loW hiW S x qs u ws j)(hS:∀ to w,S to w->GoodW w/\w.to=to):qs.length<=6/\∀ p∈qs,p.1.hops.length<=6:=by
 have hg:=h.best.good hS;refine⟨?_,fun p hp=>(hg p.1 (by simp only [Zag,YAV];exact⟨p,hp,rfl⟩)).len⟩;have:=ZcU h.best.1 (fun w hw=>(hg w hw).node);simpa [Zag] using this

theorem PutSt.pass (h:PutSt W lo loR hiR loW hiW S x qs u ws j){r:WP}(hr:ws[j]? = some r){T:Int->WayD->Prop}(hT:∀ to w,S to w↔T to w):PutSt W lo loR hiR loW hiW T x qs u ws (j+1):=
 {h with
  best:=h.best.congr hT
  apart:=fun p hp q hq=>h.apart p hp q (by rw [ZfD hr];exact YAi _ hq) }

theorem PutSt.put {W':World}{x':Value}{qs':List WP}(h:PutSt W lo loR hiR loW hiW S x qs u ws j){r:WP}(hr:ws[j]? = some r)(hS:∀ to w,S to w->GoodW w/\w.to=to)(hg:GoodW r.1){T:Int->WayD->Prop}(hT:∀ to w,(S to w\/(w=r.1/\r.1.to=to))↔T to w)
  (hp:PutD (Zag qs) r.1 (Zag qs')) (ho:WaysOwn W' lo W'.heap.size x' qs') (hf:Ze6 W.heap.size qs r qs') (hn:∀ b,x'.ownBlock=some b->x.ownBlock=some b\/W.heap.size<=b) (hgr:W.grownBy W' x.ownBlock):PutSt W' lo loR hiR loW hiW T x' qs' u ws (j+1) where
 own:=ho
 best:=(h.best.put Zjw hS hg hp.1 hp.2).congr hT
 offR:=h.offR.next hn (by have:=h.hR;have:=h.wide;have:=h.hW;omega)
 offW:=h.offW.next hn h.hW
 from_:=h.from_.keep (h.offW.kept hgr)
 lw:=h.lw
 wide:=h.wide
 hW:=YAG h.hW hgr.size
 hR:=h.hR
 apart:=by
  intro p hp q hq;have hq':q∈ws.drop j:=by rw [ZfD hr];exact YAi _ hq
  rcases hf p hp with ⟨p',hp',e⟩ | e | e
  ·have h1:=h.apart p' hp' q hq';intro k hk;rw [e] at hk;exact h1 k hk
  ·intro k hk;rw [e] at hk;have hpw:=h.from_.apart;rw [<-YAa j ws,YAQ] at hpw;have h2:=hpw.2.1;rw [ZfD hr] at h2;exact (YAr.1 h2).1 q hq k hk
  ·intro k hk he;have h1:=e k hk;have h2:=(h.from_.nears q (List.mem_of_mem_drop hq')).2 k he;have:=h.hW;omega

theorem PutSt.start {W0:World}(ho:WaysOwn W0 lo W0.heap.size x qs)(hb:ZaE S (Zag qs))(hoff:Off x loR hiR)(hR:hiR<=W0.heap.size)(hlo:lo<=W0.heap.size)(hbl:T_ W0 W)(hf:WaysOwn W W0.heap.size W.heap.size u ws):PutSt W lo loR hiR W0.heap.size W.heap.size S x qs u ws 0 where
 own:=(ho.below hbl (YA _)).wide (YA _) hbl.size
 best:=hb
 offR:=hoff
 offW:=fun b hx=>.inl (ho.top b hx)
 from_:=hf
 lw:=hlo
 wide:=hbl.size
 hW:=YA _
 hR:=hR
 apart:=by
  intro p hp q hq k hk he;have h1:=(ho.nears p hp).2 k hk;have h2:=((hf.nears q (List.mem_of_mem_drop hq)).1.lt k he).1;omega
end
end Go.Proofs.YtcnjnibnecpddaaGreat
