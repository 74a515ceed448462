/-
  BestM FoundI PutC
-/
import Derived.Test.YtadokhjefnkajaaGreatIe31
import Derived.Test.YtadokhjefnkajaaGreatIe19
import Derived.Test.YtadokhjefnkajaaGreatIe24
import Derived.Test.YtadokhjefnkajaaGreatIe22
namespace Go.Proofs.YtadokhjefnkajaaGreat
open Go.RowKit
set_option linter.unusedSimpArgs false
set_option linter.unusedVariables false
set_option maxRecDepth 100000
set_option maxHeartbeats 8000000
def Hop6 (l:List Int):Prop:=∀ z∈l,1<=z/\z<=6
structure GoodW (x:WayD):Prop where
 node:1<=x.to/\x.to<=6
 cost:0<=x.cost/\x.cost<=60000
 asc:x.hops.Pairwise (· < ·)
 hop6:Hop6 x.hops
theorem Zfo:∀ {l:List Int}{a:Int},l.Pairwise (· < ·)->(∀ z∈l,a<=z/\z<=6)->(l.length:Int)<=7-a\/l=[]
 | [],_,_,_=>.inr rfl
 | x::xs,a,h,hr=>by
  have h':=List.pairwise_cons.1 h;have hx:=hr x (by simp)
  rcases Zfo (a:=x+1) h'.2 (fun z hz=>⟨by have:=h'.1 z hz;omega,(hr z (by simp [hz])).2⟩) with h1 | h1
  ·left;simp;omega
  ·left;subst h1;simp;omega
theorem ZeA {l:List Int}(h:l.Pairwise (· < ·))(h6:Hop6 l):l.length<=6:=by
 rcases Zfo (a:=1) h h6 with h1 | h1
 ·omega
 ·subst h1;simp
theorem GoodW.len {x:WayD}(h:GoodW x):x.hops.length<=6:=ZeA h.asc h.hop6
def AscW (ds:List WayD):Prop:=ds.Pairwise (fun x y=>x.to<y.to)
theorem Zkv:∀ {a b:List WayD},AscW a->AscW b->(∀ x,x∈a↔x∈b)->a=b
 | [],[],_,_,_=>rfl
 | [],y::ys,_,_,h=>by have:=(h y).2 (by simp);cases this
 | x::xs,[],_,_,h=>by have:=(h x).1 (by simp);cases this
 | x::xs,y::ys,ha,hb,h=>by
  have ha':=List.pairwise_cons.1 ha;have hb':=List.pairwise_cons.1 hb;have hxy:x=y:=by
   have h1:=(h x).1 (by simp)
   have h2:=(h y).2 (by simp)
   rcases List.mem_cons.1 h1 with e | e
   ·exact e
   ·rcases List.mem_cons.1 h2 with e2 | e2
    ·exact e2.symm
    ·have:=ha'.1 y e2;have:=hb'.1 x e;omega
  subst hxy;have:xs=ys:=by
   refine Zkv ha'.2 hb'.2 (fun z=>?_)
   have hz:=h z
   constructor
   ·intro hm
    have h1:=hz.1 (List.mem_cons_of_mem _ hm)
    rcases List.mem_cons.1 h1 with e | e
    ·have:=ha'.1 z hm;subst e;omega
    ·exact e
   ·intro hm
    have h1:=hz.2 (List.mem_cons_of_mem _ hm)
    rcases List.mem_cons.1 h1 with e | e
    ·have:=hb'.1 z hm;subst e;omega
    ·exact e
  rw [this]
theorem Za0 {ds:List WayD}{to:Int}{w:WayD}(h:Zbu ds to=some w):w∈ds/\w.to=to:=by
 unfold Zbu at h;exact⟨List.mem_of_find?_eq_some h,by have:=List.find?_some h;simpa using this⟩
theorem Zc7 {ds:List WayD}{to:Int}(h:Zbu ds to=none):∀ w∈ds,w.to≠to:=by
 unfold Zbu at h;rw [List.find?_eq_none] at h;intro w hw
 simpa using h w hw
theorem Ziv {ds:List WayD}(h:AscW ds){x y:WayD}(hx:x∈ds)(hy:y∈ds)(e:x.to=y.to):x=y:=by
 induction ds with
 | nil=>cases hx
 | cons a ds ih=>
  have h':=List.pairwise_cons.1 h
  rcases List.mem_cons.1 hx with e1 | e1
  ·rcases List.mem_cons.1 hy with e2 | e2
   ·rw [e1,e2]
   ·have:=h'.1 y e2;subst e1;omega
  ·rcases List.mem_cons.1 hy with e2 | e2
   ·have:=h'.1 x e1;subst e2;omega
   ·exact ih h'.2 e1 e2
theorem Zb2 {ds:List WayD}(h:AscW ds){w:WayD}(hw:w∈ds):Zbu ds w.to=some w:=by
 cases e:Zbu ds w.to with
 | none=>exact absurd rfl (Zc7 e w hw)
 | some x=>
  have h1:=Za0 e;rw [Ziv h h1.1 hw h1.2]
theorem Zmm {a b:List WayD}(ha:AscW a)(hb:AscW b)(h:∀ to,Zbu a to=Zbu b to):a=b:=by
 refine Zkv ha hb (fun x=>⟨fun hx=>?_,fun hx=>?_⟩)
 ·have:=Zb2 ha hx
  rw [h] at this;exact (Za0 this).1
 ·have:=Zb2 hb hx
  rw [<-h] at this;exact (Za0 this).1
def ZaQ (to:Int)(S:WayD->Prop):Option WayD->Prop
 | none=>∀ w,¬S w
 | some b=>b.to=to/\(∃ w,S w/\w.cost=b.cost)/\(∀ w,S w->b.cost<=w.cost)/\b.hops.Pairwise (· < ·)/\∀ x,x∈b.hops↔∃ w,S w/\w.cost=b.cost/\x∈w.hops
theorem ZaQ.unique {to:Int}{S:WayD->Prop}{o o':Option WayD}(h:ZaQ to S o)(h':ZaQ to S o'):o=o':=by
 cases o with
 | none=>
  cases o' with
  | none=>rfl
  | some b=>
   obtain⟨_,⟨w,hw,_⟩,_⟩:=h';exact absurd hw (h w)
 | some a=>
  cases o' with
  | none=>
   obtain⟨_,⟨w,hw,_⟩,_⟩:=h;exact absurd hw (h' w)
  | some b=>
   obtain⟨h1,⟨w,hw,e1⟩,h3,h4,h5⟩:=h;obtain⟨k1,⟨v,hv,e2⟩,k3,k4,k5⟩:=h';have hc:a.cost=b.cost:=by
    have:=h3 v hv;have:=k3 w hw;omega
   have hh:a.hops=b.hops:=Zhu h4 k4 (fun x=>by rw [h5,k5,hc])
   cases a;cases b
   simp at *
   exact⟨by rw [h1,k1],hc,hh⟩
theorem ZaQ.congr {to:Int}{S T:WayD->Prop}{o:Option WayD}(h:ZaQ to S o)(e:∀ w,S w↔T w):ZaQ to T o:=by
 have:S=T:=funext fun w=>propext (e w)
 rw [<-this];exact h
def Zlg (tog:WayD->WayD->WayD):Prop:=∀ x y:WayD,Hop6 x.hops->Hop6 y.hops->(x.cost<y.cost->tog x y=x)/\(y.cost<x.cost->tog x y=y) /\
 (x.cost=y.cost->(tog x y).to=x.to/\(tog x y).cost=x.cost/\(tog x y).hops.Pairwise (· < ·)/\∀ z,z∈(tog x y).hops↔z∈x.hops\/z∈y.hops)
theorem ZnO:Zlg togD:=by
 intro x y hx hy;unfold togD Zbz;refine⟨fun h=>by simp [h],fun h=>?_,fun h=>?_⟩
 ·rw [if_neg (by simp;omega),if_pos (by simpa using h)]
 ·rw [if_neg (by simp;omega),if_neg (by simp;omega)]
  refine⟨rfl,rfl,ZfB _ _,fun z=>?_⟩
  show z∈addL x.hops y.hops↔_
  rw [ZfC]
  constructor
  ·exact fun h=>h.2.2
  ·rintro (h1 | h1)
   ·exact ⟨(hx z h1).1,(hx z h1).2,.inl h1⟩
   ·exact ⟨(hy z h1).1,(hy z h1).2,.inr h1⟩
theorem Zp0:Zlg togI:=by
 intro x y hx hy;unfold togI Zbz;refine⟨fun h=>by simp [h],fun h=>?_,fun h=>?_⟩
 ·rw [if_neg (by simp;omega),if_pos (by simpa using h)]
 ·rw [if_neg (by simp;omega),if_neg (by simp;omega)]
  exact⟨rfl,rfl,ZiO _ _,fun z=>Zf5⟩
theorem ZaQ.hop6 {to:Int}{S:WayD->Prop}{b:WayD}(h:ZaQ to S (some b))(hS:∀ w,S w->Hop6 w.hops):Hop6 b.hops:=by
 intro z hz;obtain⟨w,hw,_,hm⟩:=(h.2.2.2.2 z).1 hz;exact hS w hw z hm
theorem ZaQ.add {tog:WayD->WayD->WayD}(ht:Zlg tog){to:Int}{S:WayD->Prop}{o:Option WayD}{w:WayD}(h:ZaQ to S o)(hS:∀ w,S w->Hop6 w.hops)(hto:w.to=to)(hasc:w.hops.Pairwise (· < ·))(h6:Hop6 w.hops):ZaQ to (fun x=>S x\/x=w) (Zj5 tog o (some w)):=by
 cases o with
 | none=>
  refine⟨hto,⟨w,.inr rfl,rfl⟩,fun x hx=>?_,hasc,fun x=>⟨fun hx=>⟨w,.inr rfl,rfl,hx⟩,?_⟩⟩
  ·rcases hx with h1 | rfl
   ·exact absurd h1 (h x)
   ·exact Int.le_refl _
  ·rintro ⟨v,h1 | rfl,_,hm⟩
   ·exact absurd h1 (h v)
   ·exact hm
 | some b=>
  have hb6:=h.hop6 hS;obtain⟨h1,⟨u,hu,e1⟩,h3,h4,h5⟩:=h;obtain⟨t1,t2,t3⟩:=ht b w hb6 h6
  show ZaQ to _ (some (tog b w))
  rcases Int.lt_trichotomy b.cost w.cost with hl | hl | hl
  ·rw [t1 hl]
   refine⟨h1,⟨u,.inl hu,e1⟩,fun x hx=>?_,h4,fun x=>?_⟩
   ·rcases hx with hx | rfl
    ·exact h3 x hx
    ·omega
   ·rw [h5]
    constructor
    ·rintro ⟨v,hv,e,hm⟩
     exact⟨v,.inl hv,e,hm⟩
    ·rintro ⟨v,hv | rfl,e,hm⟩
     ·exact ⟨v,hv,e,hm⟩
     ·omega
  ·obtain ⟨s1,s2,s3,s4⟩:=t3 hl
   refine⟨by rw [s1,h1],⟨w,.inr rfl,by rw [s2,hl]⟩,fun x hx=>?_,s3,fun x=>?_⟩
   ·rw [s2]
    rcases hx with hx | rfl
    ·exact h3 x hx
    ·omega
   ·rw [s4,h5,s2]
    constructor
    ·rintro (⟨v,hv,e,hm⟩ | hm)
     ·exact ⟨v,.inl hv,e,hm⟩
     ·exact ⟨w,.inr rfl,hl.symm,hm⟩
    ·rintro ⟨v,hv | rfl,e,hm⟩
     ·exact .inl ⟨v,hv,e,hm⟩
     ·exact .inr hm
  ·rw [t2 hl]
   refine⟨hto,⟨w,.inr rfl,rfl⟩,fun x hx=>?_,hasc,fun x=>⟨fun hx=>⟨w,.inr rfl,rfl,hx⟩,?_⟩⟩
   ·rcases hx with hx | rfl
    ·have:=h3 x hx;omega
    ·exact Int.le_refl _
   ·rintro ⟨v,hv | rfl,e,hm⟩
    ·have:=h3 v hv;omega
    ·exact hm
theorem ZaQ.good {to:Int}{S:WayD->Prop}{b:WayD}(h:ZaQ to S (some b))(hS:∀ w,S w->GoodW w/\w.to=to):GoodW b:=by
 have h6:=h.hop6 (fun w hw=>(hS w hw).1.hop6)
 obtain⟨h1,⟨u,hu,e1⟩,h3,h4,h5⟩:=h;have hg:=hS u hu;exact⟨by rw [h1, <-hg.2];exact hg.1.node,by rw [<-e1];exact hg.1.cost,h4,h6⟩
def ZaR (S:Int->WayD->Prop)(ds:List WayD):Prop:=AscW ds/\∀ to,ZaQ to (S to) (Zbu ds to)
theorem ZaR.unique {S:Int->WayD->Prop}{a b:List WayD}(ha:ZaR S a)(hb:ZaR S b):a=b:=
 Zmm ha.1 hb.1 (fun to=>(ha.2 to).unique (hb.2 to))
theorem ZaR.congr {S T:Int->WayD->Prop}{a:List WayD}(ha:ZaR S a)(e:∀ to w,S to w↔T to w):ZaR T a:=
 ⟨ha.1,fun to=>(ha.2 to).congr (e to)⟩
theorem ZaR.good {S:Int->WayD->Prop}{ds:List WayD}(h:ZaR S ds)(hS:∀ to w,S to w->GoodW w/\w.to=to):∀ w∈ds,GoodW w:=by
 intro w hw;have h1:=h.2 w.to;rw [Zb2 h.1 hw] at h1;exact h1.good (hS w.to)
theorem Zc2 {ds:List WayD}(h:AscW ds)(hg:∀ w∈ds,1<=w.to/\w.to<=6):ds.length<=6:=by
 have h1:(ds.map (·.to)).Pairwise (· < ·):=by rw [List.pairwise_map];exact h
 have:=ZeA h1 (fun z hz=>by
  obtain⟨w,hw,rfl⟩:=List.mem_map.1 hz;exact hg w hw)
 simpa using this
theorem ZaR.put {tog:WayD->WayD->WayD}(ht:Zlg tog){S:Int->WayD->Prop}{ds es:List WayD}{w:WayD}(h:ZaR S ds)(hS:∀ to w,S to w->GoodW w/\w.to=to)(hw:GoodW w)(he:AscW es)(hf:∀ to,Zbu es to=if to=w.to then Zj5 tog (Zbu ds to) (some w) else Zbu ds to):ZaR (fun to x=>S to x\/(x=w/\w.to=to)) es:=by
 refine⟨he,fun to=>?_⟩
 rw [hf];by_cases e:to=w.to
 ·rw [if_pos e]
  refine ((h.2 to).add ht (fun v hv=>(hS to v hv).1.hop6) e.symm hw.asc hw.hop6).congr (fun x=>?_)
  constructor
  ·rintro (h1 | h1)
   ·exact .inl h1
   ·exact .inr ⟨h1,e.symm⟩
  ·rintro (h1 | h1)
   ·exact .inl h1
   ·exact .inr h1.1
 ·rw [if_neg e]
  refine (h.2 to).congr (fun x=>⟨.inl,?_⟩)
  rintro (h1 | h1)
  ·exact h1
  ·exact absurd h1.2.symm e
theorem ZhG {c:Nat->Int}{h:Nat->List Int}{w:WayD}:∀ k:Nat,w∈ZcJ c h k↔∃ v:Nat,1<=v/\v<=k/\0<=c v/\w=⟨(v:Int),c v,h v⟩
 | 0=>by simp [ZcJ];omega
 | k+1=>by
  have ih:=ZhG (c:=c) (h:=h) (w:=w) k;rw [ZeE c h (by omega)]
  simp only [Nat.add_sub_cancel,List.mem_append]
  rw [ih]
  constructor
  ·rintro (⟨v,h1,h2,h3⟩ | h4)
   ·exact ⟨v,h1,by omega,h3⟩
   ·split at h4
    ·rename_i h0
     exact⟨k+1,by omega,by omega,h0,by simpa using h4⟩
    ·simp at h4
  ·rintro ⟨v,h1,h2,h3,h4⟩
   by_cases e:v=k+1
   ·subst e
    right
    rw [if_pos h3,h4];simp
   ·exact .inl ⟨v,h1,by omega,h3,h4⟩
theorem Zkz (c:Nat->Int)(h:Nat->List Int):∀ k:Nat,AscW (ZcJ c h k)
 | 0=>by simp [ZcJ,AscW]
 | k+1=>by
  have ih:=Zkz c h k;rw [ZeE c h (by omega)]
  simp only [Nat.add_sub_cancel]
  unfold AscW;rw [List.pairwise_append];refine⟨ih,by split <;> simp,fun a ha b hb=>?_⟩
  obtain⟨v,h1,h2,_,rfl⟩:=(ZhG k).1 ha
  split at hb
  ·have hb':b=⟨((k+1:Nat):Int),c (k+1),h (k+1)⟩:=by simpa using hb
   subst hb'
   show (v:Int)<((k+1:Nat):Int)
   omega
  ·simp at hb
theorem Zmt {F G:Nat->Bool}(h:∀ u,F u=true->G u=true):Zb1 F<=Zb1 G:=by
 have h1:∀ u,(F u).toNat<=(G u).toNat:=fun u=>by
  cases e:F u
  ·simp
  ·rw [h u e];exact Nat.le_refl _
 unfold Zb1;have:=h1 1;have:=h1 2;have:=h1 3;have:=h1 4;have:=h1 5;have:=h1 6;omega
theorem Fix.bound {L:Nat->Nat->Int}{src:Nat}{c:Nat->Int}{h:Nat->List Int}(A:Fix L src c h)(hL:Links L 1000):∀ (n v:Nat),0<=c v->(c v).toNat<=n->c v<=1000*(Zb1 (fun x=>decide (0<=c x/\c x<c v)):Int):=by
 obtain⟨F,I,hF⟩:=A;intro n
 induction n with
 | zero=>
  intro v h0 hn;have:c v=0:=by omega
  omega
 | succ n ih=>
  intro v h0 hn;by_cases hv:v=src
  ·subst hv;rw [I.start];omega
  ·obtain ⟨u,hu,hl,hc⟩:=I.pred v hv h0
   have h1:=(I.fnode u hu).2;have h2:=ih u h1 (by omega)
   have hle:=hL.le u v;have hcard:Zb1 (fun x=>decide (0<=c x/\c x<c u))+1<=Zb1 (fun x=>decide (0<=c x/\c x<c v)):=by
    rw [<-ZdR (F:=fun x=>decide (0<=c x/\c x<c u)) (u:=u) (I.fnode u hu).1 (by simp)]
    refine Zmt (fun x hx=>?_)
    simp only [Bool.or_eq_true,decide_eq_true_eq,beq_iff_eq] at hx |-
    rcases hx with hx | rfl
    ·omega
    ·omega
   omega
theorem Fix.bound6 {L:Nat->Nat->Int}{src:Nat}{c:Nat->Int}{h:Nat->List Int}(A:Fix L src c h)(hL:Links L 1000)(v:Nat)(h0:0<=c v):c v<=6000:=by
 have h1:=A.bound hL _ v h0 (Nat.le_refl _);have h2:=ZhD (fun x=>decide (0<=c x/\c x<c v))
 omega
theorem Zbf.asc {xs:List RecD}{area src:Int}{ds:List WayD}(h:Zbf xs area src ds):AscW ds/\∀ w∈ds,GoodW w/\w.cost<=6000:=by
 unfold Zbf at h
 split at h
 ·rename_i e
  have hst:ZaI xs=true:=by
   simp only [Bool.and_eq_true] at e
   exact e.1.1
  obtain⟨c,g,A,rfl⟩:=h;refine⟨Zkz c g 6,fun w hw=>?_⟩
  obtain⟨v,h1,h2,h3,rfl⟩:=(ZhG 6).1 hw;have hb:=A.bound6 (Zej hst) v h3;obtain⟨F,I,_⟩:=A;exact⟨⟨⟨by show 1<=(v:Int);omega,by show (v:Int)<=6;omega⟩,⟨h3,by show c v<=60000;omega⟩,I.asc v,fun z hz=>I.rng v z hz⟩,hb⟩
 ·subst h
  exact⟨by simp [AscW],by simp⟩
theorem ZbF (xs:List RecD)(area src:Int):AscW (ZbE xs area src)/\∀ w∈ZbE xs area src,GoodW w/\w.cost<=6000:=by
 by_cases h:∃ ds,Zbf xs area src ds
 ·obtain ⟨ds,hd⟩:=h
  rw [<-hd.eq];exact hd.asc
 ·unfold ZbE
  rw [dif_neg h];exact⟨by simp [AscW],by simp⟩
theorem ZfG {ps:List WP}(hl:ps.length<=6)(hg:∀ w∈Zal ps,w.hops.length<=6):totW ps<=42:=by
 have:∀ qs:List WP,(∀ w∈Zal qs,w.hops.length<=6)->totW qs<=7*qs.length:=by
  intro qs
  induction qs with
  | nil=>intro _;simp [totW]
  | cons q qs ih=>
   intro h;rw [ZgE,List.length_cons];have h1:=h q.1 (by simp [Zal])
   have h2:=ih (fun w hw=>h w (by simp only [Zal,List.map_cons,List.mem_cons] at hw |-;exact .inr hw))
   omega
 have:=this ps hg;omega
theorem bdrM (n:Nat)(w:World):Below w.heap.size w (w.drewN n):=⟨rfl,rfl,rfl,Nat.le_refl _,fun _ _=>rfl⟩
theorem bdr1 (w:World):Below w.heap.size w w.drew:=⟨rfl,rfl,rfl,Nat.le_refl _,fun _ _=>rfl⟩
def Zil (W:World)(lo z:Nat)(u:Value)(n:Nat)(q:Nat->Nat)(bp:Nat->Option Nat)(wd:Nat->WayD)(wv:Nat->Value)(t:Nat)(x:WayD)(v:Value)(k:Nat)(W':World):Prop:=
 Below lo W W'/\(((bp t=none\/∃ kn,bp t=some kn/\x.cost<(wd kn).cost)/\∃ u' q',FS W' lo z u' (n+1) q' (upd bp t (some k)) (upd wd k x) (upd wv k v)/\Shuf (fun y=>if y=n then k else q y) q' (n+1))
  \/ (∃ kn vy,bp t=some kn/\¬x.cost<(wd kn).cost/\FS W' lo z u n q bp (upd wd kn (togI (wd kn) x)) (upd wv kn vy)))
theorem ZiI (W:World)(lo z:Nat)(u:Value)(n:Nat)(q:Nat->Nat)(bp:Nat->Option Nat)(wd:Nat->WayD)(wv:Nat->Value)(t:Nat)(x:WayD)(v:Value)(s:FS W lo z u n q bp wd wv)(hn:n<=500)(ht:1<=t/\t<=6)(hx:x.to=(t:Int))(hrow:W.ownsRow lo 3 1 v x.hops.length (flat intE x.hops))(hxl:x.hops.length<=6)
  (hfr:∀ v' k' b,bp v'=some k'->(wv k').ownBlock=some b->v.ownBlock≠some b) (hjl:∀ kn,bp t=some kn->¬x.cost<(wd kn).cost->(togI (wd kn) x).hops.length<=6/\(togI (wd kn) x).cost=(wd kn).cost/\(togI (wd kn) x).to=(wd kn).to):
  Calls Tryz.prog 239 #[.pointer (some ⟨z,0,none⟩),.agg (wayC x v)] W fun e W'=>e=.returned (.tuple #[])/\Zil W lo z u n q bp wd wv t x v W.heap.size W':=by
 obtain⟨xa,xc,rfl⟩:=Zac hrow;have hlo:=s.size;have BA:Below W.heap.size W (W.alloc (.cells #[.int .i64 (t:Int),.int .i64 x.cost,.slice xa x.hops.length xc] 194)):=(Below.refl _ _).alloc (Nat.le_refl _) _;have hkn:=heap_alloc_new W (.cells #[.int .i64 (t:Int),.int .i64 x.cost,.slice xa x.hops.length xc] 194);obtain⟨W1,hW1⟩:∃ V,V=W.alloc (.cells #[.int .i64 (t:Int),.int .i64 x.cost,.slice xa x.hops.length xc] 194):=⟨_,rfl⟩;rw [<-hW1] at BA hkn;have s1:=s.below BA;have hrow1:=Zae hrow BA (Nat.le_refl _);have hqk:∀ i,i<n->q i≠W.heap.size:=fun i hi e=>by have:=Zab (s.hb.hq.way i hi);omega
 have hbk:∀ v,bp v≠some W.heap.size:=fun v e=>by have:=Zab (s.way v _ e).1;omega
 have hsz1:=BA.size;obtain⟨P,hP⟩:∃ P,P=Zil W lo z u n q bp wd wv t x (.slice xa x.hops.length xc) W.heap.size:=⟨_,rfl⟩;rw [<-hP];obtain⟨k,hk⟩:∃ k,k=W.heap.size:=⟨_,rfl⟩;rw [<-hk] at hkn hqk hbk hP;have hlk:lo<=k:=by omega
 have hwc:wayC x (.slice xa x.hops.length xc)=#[.int .i64 (t:Int),.int .i64 x.cost,.slice xa x.hops.length xc]:=by unfold wayC;rw [hx]
 have hknc:W1.heap[k]? = some (.cells (wayC x (.slice xa x.hops.length xc)) 194):=by rw [hwc];exact hkn
 have HPC:=hide (show ∀ W2 W3,Below W1.heap.size W1 W2->Below (W2.setCell ⟨z,t,none⟩ (.pointer (some ⟨k,0,none⟩))).heap.size (W2.setCell ⟨z,t,none⟩ (.pointer (some ⟨k,0,none⟩))) W3->(bp t=none\/∃ kn,bp t=some kn/\x.cost<(wd kn).cost)->Calls Tryz.prog 262 #[.iface 296 (.pointer (some ⟨z,7,none⟩)),.iface 273 (.pointer (some ⟨k,0,none⟩))] W3 fun e W'=>e=.returned (.tuple #[])/\P W' by
  intro W2 W3 b2 b3 hcase;have s2:=s1.below b2;have hk2:=(b2.block _ (Zab hknc)).trans hknc;obtain⟨p1,p2,p3⟩:=s2.put ht x (.slice xa x.hops.length xc) hqk hk2;have hlo3:lo<=W3.heap.size:=by have h1:=b3.size;have h2:=b2.size;simp at h1;omega
  refine (ZiL W3 lo z n _ u q _ _ k (p1.below b3) hlo3 (by omega) rfl s.lz ((b3.block _ (Zab p2)).trans p2) ⟨xa,x.hops.length,xc,Zax _ _ _⟩ ?_).mono ?_
  ·intro i h0 hi
   have h1:=Zdb h0
   show (upd wd k x (q (par i))).cost<=(upd wd k x (q i)).cost
   rw [Zao _ _ (hqk i hi),Zao _ _ (hqk _ (by omega))]
   exact s.hp i h0 hi
  ·rintro e W' ⟨u',q',rfl,hi,hsh,hb',f'⟩
   rw [Zf1] at hb';have fs:=s2.pushed ht hx hxl hk2 hlk hbk (Zae hrow1 b2 (Nat.le_refl _)) hfr (p3.trans (FK.of_below b3 (by have h2:=b2.size;simp;omega))) f' hb' hi
   refine⟨rfl,?_⟩
   rw [hP];exact⟨((BA.mono hlo).trans (b2.mono (by omega))).trans ((p3.trans (FK.of_below b3 (by have h2:=b2.size;simp;omega))).trans f').below,.inl ⟨hcase,u',q',fs,hsh⟩⟩)
 have ka0:=Zaa hkn 0;have ka1:=Zaa hkn 1;have ka2:=Zaa hkn 2;simp at ka0 ka1 ka2
 have kz:=s1.known ht;have lk1:=Zab hkn;have lz1:=Zab s1.hb.box;have fz1:=Zaf s1.hb.box;have hti:(0:Int)<=(t:Int):=by omega
 have htj:(t:Int)<7:=by omega
 cases hbt:bp t with
 | none=>
  rw [hbt] at kz;unfold ptrO at kz;have HPC:=hide (fun W2 W3 a b=>HPC.out W2 W3 a b (.inl hbt))
  rw [hwc];clear hbt hP hjl s s1 hrow hrow1 hfr hxl hx hwc hknc hkn
  go_enter Tryz.func239,Tryz.ntmps239
  go_wp2
  rw [<-hW1, <-hk];clear hW1 hk
  go_quiet (fail)
  have B2:=bdrM nq W1;have ka0:(W1.drewN nq).cell? ⟨k,0,none⟩=some (.int .i64 (t:Int)):=ka0;have kz:(W1.drewN nq).cell? ⟨z,t,none⟩=some (.pointer none):=kz;have fz1:∀ j,(W1.drewN nq).frozen? ⟨z,j,none⟩=false:=fz1;generalize W1.drewN nq=W2 at *
  go_wp2
  go_quiet (fail)
  have B3:=B2.trans ((bdrM nq W2).mono B2.size);have ka0:(W2.drewN nq).cell? ⟨k,0,none⟩=some (.int .i64 (t:Int)):=ka0;have kz:(W2.drewN nq).cell? ⟨z,t,none⟩=some (.pointer none):=kz;have fz1:∀ j,(W2.drewN nq).frozen? ⟨z,j,none⟩=false:=fz1;generalize W2.drewN nq=W3 at *;have ft:=fz1 t
  go_wp2
  go_region
  go_wp2_with fail
  refine (HPC.out W3 _ B3 (bdr1 _)).mono ?_
  rintro e w9 ⟨rfl,hPP⟩;have HPP:=hide hPP;clear hPP
  go_wp2
  go_returns
  exact⟨rfl,HPP.out⟩
 | some kn=>
  rw [hbt] at kz;unfold ptrO at kz;obtain⟨y,hy⟩:∃ y,y=wd kn:=⟨_,rfl⟩;have hway1:=(s1.way t kn hbt).1;have hrowk:=s1.row t kn hbt;obtain⟨ya,yc,hyv⟩:=Zac hrowk;rw [hyv, <-hy] at hway1;rw [hyv, <-hy] at hrowk;have hyl:y.hops.length<=6:=by rw [hy];exact s1.short t kn hbt
  have hkl:=(s1.way t kn hbt).2;have ln1:=Zab hway1;have hkk:kn≠k:=fun e=>hbk t (by rw [hbt,e])
  have kb0:=Zaa hway1 0;have kb1:=Zaa hway1 1;have kb2:=Zaa hway1 2;simp [wayC] at kb0 kb1 kb2
  have HBT:=hide (fun W=>Zcf (.slice xa x.hops.length xc) (.slice ya y.hops.length yc) x y W)
  rw [hwc] at HBT;unfold wayC Zbz at HBT;have HTG:=hide (fun V (hb:Below W1.heap.size W1 V)=>ZkK y x (.slice ya y.hops.length yc) (.slice xa x.hops.length xc) lo lo V (Zae hrowk hb (Nat.le_refl _)) (Zae hrow1 hb (Nat.le_refl _)) (by omega) (by omega))
  rw [hwc] at HTG;obtain⟨r,hr⟩:∃ r,r=togI y x:=⟨_,rfl⟩;rw [<-hr] at HTG;unfold wayC at HTG;have HJN:=hide (show ¬x.cost<y.cost->∀ W2 V va vc,Below W1.heap.size W1 V->Below V.heap.size V W2->W2.ownsRow V.heap.size 3 1 (.slice va r.hops.length vc) r.hops.length (flat intE r.hops)->P (((W2.setCell ⟨kn,0,none⟩ (.int .i64 r.to)).setCell ⟨kn,1,none⟩ (.int .i64 r.cost)).setCell ⟨kn,2,none⟩ (.slice va r.hops.length vc)) by
   intro hnc W2 V va vc hbV hb2 ho;have hj:=hjl kn hbt (by rw [<-hy];exact hnc)
   rw [<-hy, <-hr] at hj;have hbW2:Below W1.heap.size W1 W2:=hbV.trans (hb2.mono hbV.size);have fs:=s1.joined (y:=r) (vy:=.slice va r.hops.length vc) hbt (by rw [hj.2.1,hy]) (by rw [hj.2.2,hy]) hj.1 hbW2 hbV.size ho
   rw [hP];refine⟨((BA.mono hlo).trans (hbW2.mono (by omega))).trans ⟨rfl,rfl,rfl,by simp,fun j hj'=>by
    have G:=Za2 W2 kn r (.slice va r.hops.length vc);exact G.block j (by have:=hbW2.size;omega) (by simp;omega)⟩,.inr ⟨kn,.slice va r.hops.length vc,hbt,by rw [<-hy];exact hnc,?_⟩⟩
   rw [<-hy, <-hr];exact fs)
  have HPC:=hide (fun (hc:x.cost<y.cost) W2 W3 a b=>HPC.out W2 W3 a b (.inr ⟨kn,hbt,by rw [<-hy];exact hc⟩))
  rw [hwc];have HWY:=hide hway1;clear hbt hP hjl s s1 hrow hrow1 hfr hxl hx hwc hknc hkn hy hr hyv hrowk hway1;have hS1:W1.cell? ⟨k,0,none⟩=some (.int .i64 (t:Int))/\W1.cell? ⟨k,1,none⟩=some (.int .i64 x.cost)/\W1.cell? ⟨k,2,none⟩=some (.slice xa x.hops.length xc)/\W1.cell? ⟨kn,0,none⟩=some (.int .i64 y.to)/\W1.cell? ⟨kn,1,none⟩=some (.int .i64 y.cost)/\W1.cell? ⟨kn,2,none⟩=some (.slice ya y.hops.length yc):=⟨ka0,ka1,ka2,kb0,kb1,kb2⟩;clear ka0 ka1 ka2 kb0 kb1 kb2;have ka0:=hS1.1
  go_enter Tryz.func239,Tryz.ntmps239
  go_wp2
  rw [<-hW1, <-hk];clear hW1 hk
  go_quiet (fail)
  have B2:=bdrM nq W1;have hS2:(W1.drewN nq).cell? ⟨k,0,none⟩=some (.int .i64 (t:Int))/\(W1.drewN nq).cell? ⟨k,1,none⟩=some (.int .i64 x.cost)/\(W1.drewN nq).cell? ⟨k,2,none⟩=some (.slice xa x.hops.length xc)/\(W1.drewN nq).cell? ⟨kn,0,none⟩=some (.int .i64 y.to)/\(W1.drewN nq).cell? ⟨kn,1,none⟩=some (.int .i64 y.cost)/\(W1.drewN nq).cell? ⟨kn,2,none⟩=some (.slice ya y.hops.length yc):=hS1;have kz:(W1.drewN nq).cell? ⟨z,t,none⟩=some (.pointer (some ⟨kn,0,none⟩)):=kz;have fz1:∀ j,(W1.drewN nq).frozen? ⟨z,j,none⟩=false:=fz1;have lk2:k<(W1.drewN nq).heap.size:=lk1;have ln2:kn<(W1.drewN nq).heap.size:=ln1;have lz2:z<(W1.drewN nq).heap.size:=lz1;clear ka0 hS1;generalize W1.drewN nq=W2 at *
  go_wp2
  refine wp_region_noPanic ?_
  have hS0:W2.drew.cell? ⟨k,0,none⟩=some (.int .i64 (t:Int))/\W2.drew.cell? ⟨k,1,none⟩=some (.int .i64 x.cost)/\W2.drew.cell? ⟨k,2,none⟩=some (.slice xa x.hops.length xc)/\W2.drew.cell? ⟨kn,0,none⟩=some (.int .i64 y.to)/\W2.drew.cell? ⟨kn,1,none⟩=some (.int .i64 y.cost)/\W2.drew.cell? ⟨kn,2,none⟩=some (.slice ya y.hops.length yc):=hS2;have lk3:k<W2.drew.heap.size:=lk2;have ln3:kn<W2.drew.heap.size:=ln2;refine Zag (S:=fun W=>W.cell? ⟨k,0,none⟩=some (.int .i64 (t:Int))/\W.cell? ⟨k,1,none⟩=some (.int .i64 x.cost)/\W.cell? ⟨k,2,none⟩=some (.slice xa x.hops.length xc)/\W.cell? ⟨kn,0,none⟩=some (.int .i64 y.to)/\W.cell? ⟨kn,1,none⟩=some (.int .i64 y.cost)/\W.cell? ⟨kn,2,none⟩=some (.slice ya y.hops.length yc)) (by kernel_rfl) 9 rfl hS0 ?_
  intro ops hops _
  show wpAnyH Tryz.prog .any ops _ _ 9 #[false,false,false,false,false,false,false,false,false] _ W2.drew
  iterate 7
   refine Zar 9 ?_ ?_ ?_ (by rw [hops.out];kernel_rfl) ?_ ?_ (by assumption) ?_
   rotate_left 2
   ·rw [hops.out];simp only [getS,Nat.reduceSub,Nat.reduceAdd];rfl
   ·intro W hW;obtain⟨k1,k2,k3,k4,k5,k6⟩:=hW;go_simp <;> with_reducible rfl
   ·exact fun _ _ _=>id
   try simp only [putS]
  refine Zak 7 (oi:=?_) ?_ (by rw [hops.out];kernel_rfl) ?_ ?_
  rotate_left 1
  ·rw [hops.out];simp only [getS];rfl
  ·rw [hops.out];kernel_rfl
  intro K hK
  go_simp
  refine (HBT.out _).mono ?_
  rintro e w4 ⟨rfl,b4⟩;have hK4:w4.cell? ⟨k,0,none⟩=some (.int .i64 (t:Int))/\w4.cell? ⟨k,1,none⟩=some (.int .i64 x.cost)/\w4.cell? ⟨k,2,none⟩=some (.slice xa x.hops.length xc)/\w4.cell? ⟨kn,0,none⟩=some (.int .i64 y.to)/\w4.cell? ⟨kn,1,none⟩=some (.int .i64 y.cost)/\w4.cell? ⟨kn,2,none⟩=some (.slice ya y.hops.length yc):=by
   refine⟨?_,?_,?_,?_,?_,?_⟩ <;> (rw [b4.cell (by first | exact lk3 | exact ln3)];first | exact hS0.1 | exact hS0.2.1 | exact hS0.2.2.1 | exact hS0.2.2.2.1 | exact hS0.2.2.2.2.1 | exact hS0.2.2.2.2.2)
  refine hK.out _ _ hK4 (fun _=>?_)
  clear hK K
  try simp only [putS]
  refine ZaP 8 ?_ ?_ ?_ (by rw [hops.out];kernel_rfl) ?_ ?_ (by assumption) ?_
  rotate_left 2
  ·rw [hops.out];simp only [getS];rfl
  ·intro W hW;obtain⟨k1,k2,k3,k4,k5,k6⟩:=hW;go_simp <;> with_reducible rfl
  ·exact fun _ _ _=>id
  try simp only [putS]
  refine wpAnyH_done (by rw [hops.out];kernel_rfl) ?_ _
  clear hops ops;refine NoPanic.normal ?_
  have B4:Below W1.heap.size W1 w4:=(B2.trans ((bdr1 W2).mono B2.size)).trans (b4.mono B2.size);by_cases hcc:x.cost<y.cost
  ·rw [decide_eq_true hcc]
   have kz4:w4.cell? ⟨z,t,none⟩=some (.pointer (some ⟨kn,0,none⟩)):=(b4.cell lz2).trans kz;have fz4:w4.frozen? ⟨z,t,none⟩=false:=(b4.frozen lz2).trans (fz1 t);have ka4:=hK4.1;have HPC:=hide (HPC.out hcc);clear hK4 hS0 hS2 HJN HTG HBT b4
   go_wp2
   go_region
   go_wp2_with fail
   refine (HPC.out w4 _ B4 (bdr1 _)).mono ?_
   rintro e w9 ⟨rfl,hPP⟩;have HPP:=hide hPP;clear hPP
   go_wp2
   go_returns
   exact⟨rfl,HPP.out⟩
  ·rw [decide_eq_false hcc]
   have HJN:=hide (HJN.out (by omega))
   have hkn4:=(B4.block _ ln1).trans HWY.out;have hB5d:Below W1.heap.size W1 w4.drew:=B4.trans ((bdr1 w4).mono B4.size);have ln5d:kn<w4.drew.heap.size:=Zab hkn4;have hkn5:w4.drew.heap[kn]? = some (.cells (wayC y (.slice ya y.hops.length yc)) 194):=hkn4;unfold wayC at hkn5;clear hS0 hS2 HPC HBT b4 hkn4
   go_wp2
   refine wp_region_noPanic ?_
   refine Zag (S:=fun _=>True) (by kernel_rfl) 8 rfl trivial ?_
   intro ops hops _;have a0:w4.drew.cell? ⟨k,0,none⟩=some (.int .i64 (t:Int)):=hK4.1;have a1:w4.drew.cell? ⟨k,1,none⟩=some (.int .i64 x.cost):=hK4.2.1;have a2:w4.drew.cell? ⟨k,2,none⟩=some (.slice xa x.hops.length xc):=hK4.2.2.1;have a3:w4.drew.cell? ⟨kn,0,none⟩=some (.int .i64 y.to):=hK4.2.2.2.1;have a4:w4.drew.cell? ⟨kn,1,none⟩=some (.int .i64 y.cost):=hK4.2.2.2.2.1;have a5:w4.drew.cell? ⟨kn,2,none⟩=some (.slice ya y.hops.length yc):=hK4.2.2.2.2.2
   show wpAnyH Tryz.prog .any ops _ (fun _=>True) 8 #[false,false,false,false,false,false,false,false] _ w4.drew
   iterate 3
    refine Zar 8 ?_ ?_ ?_ (by rw [hops.out];kernel_rfl) ?_ ?_ trivial ?_
    rotate_left 2
    ·rw [hops.out];simp only [getS,Nat.reduceSub,Nat.reduceAdd];rfl
    ·intro W _;go_simp <;> with_reducible rfl
    ·exact fun _ _ _=>id
    try simp only [putS]
   refine wpAnyH_ready (rs:=[3,4]) (by rw [hops.out];kernel_rfl) (by simp) ?_
   refine AllReadyH.cons (o:=?_) ?_ (fun K hK=>?_) ?_
   rotate_left 1
   ·rw [hops.out];simp only [getS];rfl
   ·rw [if_pos (by rfl)]
    go_simp
    refine hK.out _ _ trivial (fun _=>?_)
    clear hK K
    try simp only [putS]
    refine wpAnyH_ready (rs:=[4]) (by rw [hops.out];kernel_rfl) (by simp) ?_
    refine AllReadyH.cons (o:=?_) ?_ (fun K hK=>?_) ?_
    rotate_left 1
    ·rw [hops.out];simp only [getS];rfl
    ·rw [if_pos (by rfl)]
     go_simp
     refine hK.out _ _ trivial (fun _=>?_)
     clear hK K
     try simp only [putS]
     refine Zak 5 (oi:=?_) ?_ (by rw [hops.out];kernel_rfl) ?_ ?_
     rotate_left 1
     ·rw [hops.out];simp only [getS];rfl
     ·rw [hops.out];kernel_rfl
     intro K hK
     go_simp
     refine (HTG.out w4.drew hB5d).mono ?_
     rintro e w6 ⟨vy,rfl,hoy,b6⟩;obtain⟨va,vc,rfl⟩:=Zac hoy;refine hK.out _ _ trivial (fun _=>?_)
     clear hK K
     try simp only [putS]
     refine ZaP 6 ?_ ?_ ?_ (by rw [hops.out];kernel_rfl) ?_ ?_ trivial ?_
     rotate_left 2
     ·rw [hops.out];simp only [getS];rfl
     ·intro W _;go_simp <;> with_reducible rfl
     ·exact fun _ _ _=>id
     try simp only [putS]
     have hz6:=(b6.block _ ln5d).trans hkn5;have u0:=Zaa hz6 0;have u1:=Zaa hz6 1;have u2:=Zaa hz6 2;simp at u0 u1 u2
     have fu:=Zaf hz6;have FIN:=hide (HJN.out w6 w4.drew va vc hB5d b6 hoy);clear hz6 hoy b6;refine Zak 7 (oi:=?_) ?_ (by rw [hops.out];kernel_rfl) ?_ ?_
     rotate_left 1
     ·rw [hops.out];simp only [getS];rfl
     ·rw [hops.out];kernel_rfl
     intro K hK
     go_simp
     refine hK.out _ _ trivial (fun _=>?_)
     clear hK K
     try simp only [putS]
     refine wpAnyH_done (by rw [hops.out];kernel_rfl) ?_ _
     clear hops ops;refine NoPanic.normal ?_
     go_wp2
     go_returns
     exact⟨rfl,FIN.out⟩
    exact AllReadyH.nil
   refine AllReadyH.cons (o:=?_) ?_ (fun K hK=>?_) ?_
   rotate_left 1
   ·rw [hops.out];simp only [getS];rfl
   ·rw [if_pos (by rfl)]
    go_simp
    refine hK.out _ _ trivial (fun _=>?_)
    clear hK K
    try simp only [putS]
    refine wpAnyH_ready (rs:=[3]) (by rw [hops.out];kernel_rfl) (by simp) ?_
    refine AllReadyH.cons (o:=?_) ?_ (fun K hK=>?_) ?_
    rotate_left 1
    ·rw [hops.out];simp only [getS];rfl
    ·rw [if_pos (by rfl)]
     go_simp
     refine hK.out _ _ trivial (fun _=>?_)
     clear hK K
     try simp only [putS]
     refine Zak 5 (oi:=?_) ?_ (by rw [hops.out];kernel_rfl) ?_ ?_
     rotate_left 1
     ·rw [hops.out];simp only [getS];rfl
     ·rw [hops.out];kernel_rfl
     intro K hK
     go_simp
     refine (HTG.out w4.drew hB5d).mono ?_
     rintro e w6 ⟨vy,rfl,hoy,b6⟩;obtain⟨va,vc,rfl⟩:=Zac hoy;refine hK.out _ _ trivial (fun _=>?_)
     clear hK K
     try simp only [putS]
     refine ZaP 6 ?_ ?_ ?_ (by rw [hops.out];kernel_rfl) ?_ ?_ trivial ?_
     rotate_left 2
     ·rw [hops.out];simp only [getS];rfl
     ·intro W _;go_simp <;> with_reducible rfl
     ·exact fun _ _ _=>id
     try simp only [putS]
     have hz6:=(b6.block _ ln5d).trans hkn5;have u0:=Zaa hz6 0;have u1:=Zaa hz6 1;have u2:=Zaa hz6 2;simp at u0 u1 u2
     have fu:=Zaf hz6;have FIN:=hide (HJN.out w6 w4.drew va vc hB5d b6 hoy);clear hz6 hoy b6;refine Zak 7 (oi:=?_) ?_ (by rw [hops.out];kernel_rfl) ?_ ?_
     rotate_left 1
     ·rw [hops.out];simp only [getS];rfl
     ·rw [hops.out];kernel_rfl
     intro K hK
     go_simp
     refine hK.out _ _ trivial (fun _=>?_)
     clear hK K
     try simp only [putS]
     refine wpAnyH_done (by rw [hops.out];kernel_rfl) ?_ _
     clear hops ops;refine NoPanic.normal ?_
     go_wp2
     go_returns
     exact⟨rfl,FIN.out⟩
    exact AllReadyH.nil
   exact AllReadyH.nil
theorem Zfp {B:Nat}{w W:World}(h:Below B w W)(hB:w.heap.size<=B)(row:Option Nat):w.grownBy W row:=⟨h.os,h.tape,h.output,h.size,fun k hk _=>h.block k (by omega)⟩
theorem ZjT (lo i vb:Nat)(v:Value)(ps:List RP)(r:RP)(w:World)(hv:RecsOwn w lo w.heap.size v ps)(hlo:lo<=w.heap.size)(hi:i<=ps.length)(hn:ps.length<=1048576)(hvb:w.heap[vb]? = some (.cells (encP r).toArray 39 (0,0)))(hne:some vb≠v.ownBlock)(hr1:∀ u∈encP r,u.oneCell'=true):
  Calls Tryz.prog 192 #[v,.int .i64 (i:Int),.slice (some ⟨vb,0,none⟩) 1 1] w fun e w'=>∃ v',e=.returned v'/\w'.ownsRow lo 39 8 v' (ps.length+1) (flat encP (ps.take i++[r]++ps.drop i))/\w.grownBy w' v.ownBlock/\(v'.ownBlock=v.ownBlock\/v'.ownBlock=some w.heap.size):=by
 by_cases he:i=ps.length
 ·rw [he]
  exact Zor lo ps.length 1 vb v ps r w rfl rfl hlo hn hv.row hvb hr1
 ·have hone:∀ p∈ps,∃ a k c,p.2=.slice a k c:=fun p hp=>by
   obtain⟨a,c,e⟩:=Zac (hv.nears p hp).1;exact⟨a,_,c,e⟩
  rcases hv.row.2 with ⟨_,h0⟩ | ⟨g,cap,cur,hve,_⟩
  ·omega
  ·subst hve
   have hne2:vb≠g:=fun e=>hne (by rw [e];rfl)
   by_cases hroom:ps.length+1<=cap
   ·exact Zly lo g cap ps.length 1 i vb ps r w rfl rfl hv.row (by omega) hroom hvb hne2 hone hr1
   ·exact ZmU lo g cap ps.length 1 i vb ps r w rfl rfl hlo hn hv.row (by omega) (by omega) hvb hone hr1
theorem ZmX (v:Value)(ps:List RP)(lo:Nat)(r:RP)(w:World)(hv:RecsOwn w lo w.heap.size v ps)(hlo:lo<=w.heap.size)(hn:tot ps<=1048576)(hasc:Asc (fsts ps))(hr:ZaD w lo w.heap.size r)(hap:∀ p∈ps,Zd4 p r):
  Calls Tryz.prog 137 #[v,.agg (recC r.1 r.2)] w fun e w'=>∃ x qs,e=.returned x/\fsts qs=putD (fsts ps) r.1/\RecsOwn w' lo w'.heap.size x qs/\(∀ k,x.ownBlock=some k->v.ownBlock=some k\/w.heap.size<=k)/\w.grownBy w' v.ownBlock:=by
 have hnl:=Zbh ps;have hfl:(fsts ps).length=ps.length:=by simp [fsts]
 obtain⟨a1,vc,hve⟩:=Zac hv.row;obtain⟨ra,rc,hrn⟩:=Zac hr.1;have BX:Below w.heap.size w (w.alloc (.cells #[.int .i64 r.1.area,.int .i64 r.1.kind,.int .i64 r.1.owner,.int .i64 r.1.key,.int .i64 r.1.seq,.slice ra r.1.near.length rc,.int .i64 r.1.cost,.bool r.1.far] 39)):=(Below.refl _ _).alloc (Nat.le_refl _) _;have hx:=heap_alloc_new w (.cells #[.int .i64 r.1.area,.int .i64 r.1.kind,.int .i64 r.1.owner,.int .i64 r.1.key,.int .i64 r.1.seq,.slice ra r.1.near.length rc,.int .i64 r.1.cost,.bool r.1.far] 39);obtain⟨w0,hw0⟩:∃ w0,w0=w.alloc (.cells #[.int .i64 r.1.area,.int .i64 r.1.kind,.int .i64 r.1.owner,.int .i64 r.1.key,.int .i64 r.1.seq,.slice ra r.1.near.length rc,.int .i64 r.1.cost,.bool r.1.far] 39):=⟨_,rfl⟩;rw [<-hw0] at BX hx;have hs0:=Zab hx;have hv0:=hv.below BX (Nat.le_refl _);have hr0:=hr.keep (W':=w0) (fun k _ _ h3=>BX.block k h3)
 have HS:=Zhf v ps w.heap.size r w0 hv0.in BX.size hn (hr0.wide (Nat.zero_le _) (Nat.le_refl _)) (by rw [<-hfl];exact Zhv hasc r.1)
 have d0:=Zaa hx 0;have d1:=Zaa hx 1;have d2:=Zaa hx 2;have d3:=Zaa hx 3;have d4:=Zaa hx 4;have d5:=Zaa hx 5;have d6:=Zaa hx 6;have d7:=Zaa hx 7;simp at d0 d1 d2 d3 d4 d5 d6 d7
 have HV:=hide hv0;have HR:=hide hr0;have HA:=hide hasc;have HP:=hide hap;have H1:=hide hr;have HFL:=hide hfl;have HRN:=hide hrn;have HVE:=hide hve;unfold recC at *;rw [hrn] at HS |-;subst hve;have HSS:=hide HS;clear HS hv0 hr0 hasc hap hr hrn hv hfl
 go_enter Tryz.func137,Tryz.ntmps137
 go_wp2_with fail
 rw [<-hw0];clear hw0;refine HSS.out.mono ?_
 rintro e w1 ⟨i,f,rfl,hil,q1,q2,q3,b1⟩;have b1s:=b1.size;have hx1:=(b1.block _ hs0).trans hx;have B1:Below w.heap.size w w1:=BX.trans (b1.mono BX.size);have hv1:=(HV.out.below b1 (by omega)).wide (Nat.le_refl _) (show w.heap.size<=w1.heap.size by omega)
 have hr1:=((HR.out).keep (W':=w1) (fun k _ _ h3=>b1.block k h3)).wide (Nat.le_refl _) (show w.heap.size<=w1.heap.size by omega)
 have Q1:=hide q1;have Q2:=hide q2;have Q3:=hide q3;clear q1 q2 q3 d0 d1 d2 d3 d4 d5 d6 d7 hx b1;have d0:=Zaa hx1 0;have d1:=Zaa hx1 1;have d2:=Zaa hx1 2;have d3:=Zaa hx1 3;have d4:=Zaa hx1 4;have d5:=Zaa hx1 5;have d6:=Zaa hx1 6;have d7:=Zaa hx1 7;simp at d0 d1 d2 d3 d4 d5 d6 d7
 have hii:(0:Int)<=(i:Int):=by omega
 cases f with
 | true=>
  have hil2:i<ps.length:=by
   obtain⟨x,hx,_⟩:=Q3.out.1 rfl;have:=(List.getElem?_eq_some_iff.1 hx).1;rw [HFL.out] at this;exact this
  have hij:(i:Int)<(ps.length:Int):=by omega
  rcases hv1.row.2 with ⟨_,h0⟩ | ⟨g,cap,cur,hve,_⟩
  ·omega
  ·cases hve
   have hpr:r=(r.1,.slice ra r.1.near.length rc):=by rw [<-HRN.out]
   have hfin:=hv1.put (i:=i) rfl hr1 HP.out hil2;have hg:=Zd1 w1 g (i*8) r;have hgl:=hv1.row.lt g rfl;have hB:=Zah (Zfp B1 (Nat.le_refl _) (some g)) hg;have hl:fsts (ps.set i r)=putD (fsts ps) r.1:=by
    obtain⟨x,hx,h0⟩:=Q3.out.1 rfl;obtain⟨hi2,ex⟩:=List.getElem?_eq_some_iff.1 hx;rw [ZkE,Zk5 HA.out hi2 Q1.out (by rw [HFL.out];exact Q2.out) (by rw [ex];exact h0)]
   obtain⟨y0,f0⟩:=ZaG hv1.row (i*8) (by omega)
   obtain⟨y1,f1⟩:=ZaG hv1.row (i*8+1) (by omega)
   obtain⟨y2,f2⟩:=ZaG hv1.row (i*8+2) (by omega)
   obtain⟨y3,f3⟩:=ZaG hv1.row (i*8+3) (by omega)
   obtain⟨y4,f4⟩:=ZaG hv1.row (i*8+4) (by omega)
   obtain⟨y5,f5⟩:=ZaG hv1.row (i*8+5) (by omega)
   obtain⟨y6,f6⟩:=ZaG hv1.row (i*8+6) (by omega)
   obtain⟨y7,f7⟩:=ZaG hv1.row (i*8+7) (by omega)
   have fz:=fun j=>hv1.row.frozenAt j
   have hne:g≠w.heap.size:=by
    intro e;have h5:=HV.out.top g rfl;omega
   rw [hpr] at hfin hB hl;have HF:=hide hfin;have HB:=hide hB;have HL:=hide hl;clear hfin hB hl hpr hg hv1 hr1
   go_wp2
   go_ret
   first
    | exact ⟨_,ps.set i (r.1,.slice ra r.1.near.length rc),rfl,HL.out,HF.out,fun k hk=>.inl hk,HB.out⟩
    | exact ⟨_,rfl,ps.set i (r.1,.slice ra r.1.near.length rc),HL.out,HF.out,fun k hk=>.inl hk,HB.out⟩
 | false=>
  have hl:fsts (ps.take i++[r]++ps.drop i)=putD (fsts ps) r.1:=by
   rw [ZkD,Zk4 HA.out (by rw [HFL.out];exact hil) Q1.out (by rw [HFL.out];exact Q2.out) (fun h=>by have:=Q3.out.2 h;cases this)]
  have HL:=hide hl;clear hl;have BY:Below w1.heap.size w1 (w1.alloc (.cells #[.int .i64 r.1.area,.int .i64 r.1.kind,.int .i64 r.1.owner,.int .i64 r.1.key,.int .i64 r.1.seq,.slice ra r.1.near.length rc,.int .i64 r.1.cost,.bool r.1.far] 39)):=(Below.refl _ _).alloc (Nat.le_refl _) _;have hy:=heap_alloc_new w1 (.cells #[.int .i64 r.1.area,.int .i64 r.1.kind,.int .i64 r.1.owner,.int .i64 r.1.key,.int .i64 r.1.seq,.slice ra r.1.near.length rc,.int .i64 r.1.cost,.bool r.1.far] 39);obtain⟨w2,hw2⟩:∃ w2,w2=w1.alloc (.cells #[.int .i64 r.1.area,.int .i64 r.1.kind,.int .i64 r.1.owner,.int .i64 r.1.key,.int .i64 r.1.seq,.slice ra r.1.near.length rc,.int .i64 r.1.cost,.bool r.1.far] 39):=⟨_,rfl⟩;rw [<-hw2] at BY hy;have hv2:=(hv1.below BY (Nat.le_refl _)).wide (Nat.le_refl _) BY.size;have hr2:=(hr1.keep (W':=w2) (fun k _ _ h3=>BY.block k h3)).wide (Nat.le_refl _) BY.size
  have HI:=ZjT lo i w1.heap.size _ ps r w2 hv2 (by have:=BY.size;omega) hil (by omega) (by
   rw [hy];unfold encP;rw [HRN.out]) (fun e=>by
    have h6:=hv1.top _ e.symm;omega) (ZkX hr2)
  have HII:=hide HI;have HV2:=hide hv2;have HR2:=hide hr2;have B2:Below w.heap.size w w2:=B1.trans (BY.mono (by omega))
  have hb2:=BY.size;clear HI hv1 hr1 hv2 hr2
  go_wp2_with fail
  rw [<-hw2];clear hw2;refine HII.out.mono ?_
  rintro e w3 ⟨x,rfl,hrow,hg,hblk⟩;have hfin:=HV2.out.ins HR2.out HP.out hil hrow hg;have hB:=Zah (Zfp B2 (Nat.le_refl _) _) hg;have hbk:∀ k,x.ownBlock=some k->(Value.slice a1 ps.length vc).ownBlock=some k\/w.heap.size<=k:=fun k hk=>by
   rcases hblk with h1 | h1
   ·exact .inl (by rw [<-h1];exact hk)
   ·right
    rw [h1] at hk;cases hk
    omega
  have HBK:=hide hbk;clear hbk hblk;obtain⟨xa,xc,rfl⟩:=Zac hrow;have HF:=hide hfin;have HB:=hide hB;clear hfin hB hrow hg
  go_wp2
  go_ret
  first
   | exact ⟨_,_,rfl,HL.out,HF.out,HBK.out,HB.out⟩
   | exact ⟨_,rfl,_,HL.out,HF.out,HBK.out,HB.out⟩
end Go.Proofs.YtadokhjefnkajaaGreat
