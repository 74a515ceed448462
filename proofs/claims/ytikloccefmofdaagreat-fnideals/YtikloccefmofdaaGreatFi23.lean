/-
  Parts.
-/
import Derived.Test.YtikloccefmofdaaGreatFi20
namespace Go.Proofs.YtikloccefmofdaaGreat
open Go.RowKit
set_option linter.unusedSimpArgs false
set_option linter.unusedVariables false
set_option maxRecDepth 100000
set_option maxHeartbeats 8000000
variable {to:Int}{a ds:List WayD}{hi lo t:Nat}{bp:Nat->Option Nat}{wv:Nat->Value}{wd:Nat->WayD}{o:Option WayD}{u:Value}{w:WayD}{S:WayD->Prop}{W W':World}
def Hop6 (l:List Int):Prop:=∀ z∈l,1<=z/\z<=6
structure GoodW (x:WayD):Prop where
 node:1<=x.to/\x.to<=6
 cost:0<=x.cost/\x.cost<=60000
 asc:x.hops.Pairwise (· < ·)
 hop6:Hop6 x.hops
theorem Zgp :∀ {l:List Int}{a:Int},l.Pairwise (· < ·)->(∀ z∈l,a<=z/\z<=6)->(l.length:Int)<=7-a\/l=[]
 | [],_,_,_=>.inr rfl
 | x::xs,a,h,hr=>by
  have h':=YAo.1 h;have hx:=hr x (by simp);rcases Zgp (a:=x+1) h'.2 (fun z hz=>⟨by have:=h'.1 z hz;omega,(hr z (by simp [hz])).2⟩) with h1 | h1
  ·left;simp;omega
  ·left;subst h1;simp;omega
theorem Zdf {l:List Int}(h:l.Pairwise (· < ·))(h6:Hop6 l):l.length<=6:=by
 rcases Zgp (a:=1) h h6 with h1 | h1
 ·omega
 ·subst h1;simp
theorem GoodW.len {x:WayD}(h:GoodW x):x.hops.length<=6:=Zdf h.asc h.hop6
def AscW (ds:List WayD):Prop:=ds.Pairwise (fun x y=>x.to<y.to)
theorem Zl1 :∀ {a b:List WayD},AscW a->AscW b->(∀ x,x∈a↔x∈b)->a=b
 | [],[],_,_,_=>rfl
 | [],y::ys,_,_,h=>by have:=(h y).2 (by simp);cases this
 | x::xs,[],_,_,h=>by have:=(h x).1 (by simp);cases this
 | x::xs,y::ys,ha,hb,h=>by
  have ha':=YAo.1 ha;have hb':=YAo.1 hb;have hxy:x=y:=by
   have h1:=(h x).1 (by simp);have h2:=(h y).2 (by simp);rcases YAb.1 h1 with e | e
   ·exact e
   ·rcases YAb.1 h2 with e2 | e2
    ·exact e2.symm
    ·have:=ha'.1 y e2;have:=hb'.1 x e;omega
  subst hxy;have:xs=ys:=by
   refine Zl1 ha'.2 hb'.2 (fun z=>?_);have hz:=h z;constructor
   ·intro hm;have h1:=hz.1 (YAg _ hm);rcases YAb.1 h1 with e | e
    ·have:=ha'.1 z hm;subst e;omega
    ·exact e
   ·intro hm;have h1:=hz.2 (YAg _ hm);rcases YAb.1 h1 with e | e
    ·have:=hb'.1 z hm;subst e;omega
    ·exact e
  rw [this]
theorem ZaM (h:ZaV ds to=some w):w∈ds/\w.to=to:=by
 unfold ZaV at h;exact⟨List.mem_of_find?_eq_some h,by have:=List.find?_some h;simpa using this⟩
theorem Zdz (h:ZaV ds to=none):∀ w∈ds,w.to≠to:=by
 unfold ZaV at h;rw [List.find?_eq_none] at h;intro w hw;simpa using h w hw
theorem ZjV (h:AscW ds){x y:WayD}(hx:x∈ds)(hy:y∈ds)(e:x.to=y.to):x=y:=by
 induction ds with
 | nil=>cases hx
 | cons a ds ih=>
  have h':=YAo.1 h;rcases YAb.1 hx with e1 | e1
  ·rcases YAb.1 hy with e2 | e2
   ·rw [e1,e2]
   ·have:=h'.1 y e2;subst e1;omega
  ·rcases YAb.1 hy with e2 | e2
   ·have:=h'.1 x e1;subst e2;omega
   ·exact ih h'.2 e1 e2
theorem ZbP (h:AscW ds)(hw:w∈ds):ZaV ds w.to=some w:=by
 cases e:ZaV ds w.to with
 | none=>exact absurd rfl (Zdz e w hw)
 | some x=>
  have h1:=ZaM e;rw [ZjV h h1.1 hw h1.2]
theorem Zn2 {b:List WayD}(ha:AscW a)(hb:AscW b)(h:∀ to,ZaV a to=ZaV b to):a=b:=by
 refine Zl1 ha hb (fun x=>⟨fun hx=>?_,fun hx=>?_⟩)
 ·have:=ZbP ha hx;rw [h] at this;exact (ZaM this).1
 ·have:=ZbP hb hx;rw [<-h] at this;exact (ZaM this).1
def ZaN (to:Int)(S:WayD->Prop):Option WayD->Prop
 | none=>∀ w,¬S w
 | some b=>b.to=to/\(∃ w,S w/\w.cost=b.cost)/\(∀ w,S w->b.cost<=w.cost)/\b.hops.Pairwise (· < ·)/\∀ x,x∈b.hops↔∃ w,S w/\w.cost=b.cost/\x∈w.hops
theorem ZaN.unique {o':Option WayD}(h:ZaN to S o)(h':ZaN to S o'):o=o':=by
 cases o with
 | none=>
  cases o' with
  | none=>rfl
  | some b=>
   obtain⟨_,⟨w,hw,_⟩,_⟩:=h';exact absurd hw (h w)
 | some a=>
  cases o' with
  | none=>
   obtain⟨_,⟨w,hw,_⟩,_⟩:=h;exact absurd hw (h' w)
  | some b=>
   obtain⟨h1,⟨w,hw,e1⟩,h3,h4,h5⟩:=h;obtain⟨k1,⟨v,hv,e2⟩,k3,k4,k5⟩:=h';have hc:a.cost=b.cost:=by
    have:=h3 v hv;have:=k3 w hw;omega
   have hh:a.hops=b.hops:=ZiH h4 k4 (fun x=>by rw [h5,k5,hc]);cases a;cases b;simp at *;exact⟨by rw [h1,k1],hc,hh⟩
theorem ZaN.congr {T:WayD->Prop}(h:ZaN to S o)(e:∀ w,S w↔T w):ZaN to T o:=by
 have:S=T:=funext fun w=>propext (e w);rw [<-this];exact h
def ZkU (tog:WayD->WayD->WayD):Prop:=∀ x y:WayD,Hop6 x.hops->Hop6 y.hops->(x.cost<y.cost->tog x y=x)/\(y.cost<x.cost->tog x y=y) /\
 (x.cost=y.cost->(tog x y).to=x.to/\(tog x y).cost=x.cost/\(tog x y).hops.Pairwise (· < ·)/\∀ z,z∈(tog x y).hops↔z∈x.hops\/z∈y.hops)
theorem ZhE :ZkU togD:=by
 intro x y hx hy;unfold togD Zbr;refine⟨fun h=>by simp [h],fun h=>?_,fun h=>?_⟩
 ·rw [if_neg (by simp;omega),if_pos (by simpa using h)]
 ·rw [if_neg (by simp;omega),if_neg (by simp;omega)];refine⟨rfl,rfl,ZgC _ _,fun z=>?_⟩;show z∈addL x.hops y.hops↔_;rw [ZgD];constructor
  ·exact fun h=>h.2.2
  ·rintro (h1 | h1)
   ·exact ⟨(hx z h1).1,(hx z h1).2,.inl h1⟩
   ·exact ⟨(hy z h1).1,(hy z h1).2,.inr h1⟩
theorem Zjw :ZkU togI:=by
 intro x y hx hy;unfold togI Zbr;refine⟨fun h=>by simp [h],fun h=>?_,fun h=>?_⟩
 ·rw [if_neg (by simp;omega),if_pos (by simpa using h)]
 ·rw [if_neg (by simp;omega),if_neg (by simp;omega)];exact⟨rfl,rfl,Zhc _ _,fun z=>Zfy⟩
theorem ZaN.hop6 {b:WayD}(h:ZaN to S (some b))(hS:∀ w,S w->Hop6 w.hops):Hop6 b.hops:=by
 intro z hz;obtain⟨w,hw,_,hm⟩:=(h.2.2.2.2 z).1 hz;exact hS w hw z hm
theorem ZaN.add {tog:WayD->WayD->WayD}(ht:ZkU tog)(h:ZaN to S o)(hS:∀ w,S w->Hop6 w.hops)(hto:w.to=to)(hasc:w.hops.Pairwise (· < ·))(h6:Hop6 w.hops):ZaN to (fun x=>S x\/x=w) (ZfI tog o (some w)):=by
 cases o with
 | none=>
  refine⟨hto,⟨w,.inr rfl,rfl⟩,fun x hx=>?_,hasc,fun x=>⟨fun hx=>⟨w,.inr rfl,rfl,hx⟩,?_⟩⟩
  ·rcases hx with h1 | rfl
   ·exact absurd h1 (h x)
   ·exact Int.le_refl _
  ·rintro ⟨v,h1 | rfl,_,hm⟩
   ·exact absurd h1 (h v)
   ·exact hm
 | some b=>
  have hb6:=h.hop6 hS;obtain⟨h1,⟨u,hu,e1⟩,h3,h4,h5⟩:=h;obtain⟨t1,t2,t3⟩:=ht b w hb6 h6;show ZaN to _ (some (tog b w));rcases Int.lt_trichotomy b.cost w.cost with hl | hl | hl
  ·rw [t1 hl];refine⟨h1,⟨u,.inl hu,e1⟩,fun x hx=>?_,h4,fun x=>?_⟩
   ·rcases hx with hx | rfl
    ·exact h3 x hx
    ·omega
   ·rw [h5];constructor
    ·rintro ⟨v,hv,e,hm⟩;exact⟨v,.inl hv,e,hm⟩
    ·rintro ⟨v,hv | rfl,e,hm⟩
     ·exact ⟨v,hv,e,hm⟩
     ·omega
  ·obtain ⟨s1,s2,s3,s4⟩:=t3 hl;refine⟨by rw [s1,h1],⟨w,.inr rfl,by rw [s2,hl]⟩,fun x hx=>?_,s3,fun x=>?_⟩
   ·rw [s2];rcases hx with hx | rfl
    ·exact h3 x hx
    ·omega
   ·rw [s4,h5,s2];constructor
    ·rintro (⟨v,hv,e,hm⟩ | hm)
     ·exact ⟨v,.inl hv,e,hm⟩
     ·exact ⟨w,.inr rfl,hl.symm,hm⟩
    ·rintro ⟨v,hv | rfl,e,hm⟩
     ·exact .inl ⟨v,hv,e,hm⟩
     ·exact .inr hm
  ·rw [t2 hl];refine⟨hto,⟨w,.inr rfl,rfl⟩,fun x hx=>?_,hasc,fun x=>⟨fun hx=>⟨w,.inr rfl,rfl,hx⟩,?_⟩⟩
   ·rcases hx with hx | rfl
    ·have:=h3 x hx;omega
    ·exact Int.le_refl _
   ·rintro ⟨v,hv | rfl,e,hm⟩
    ·have:=h3 v hv;omega
    ·exact hm
theorem ZaN.good {b:WayD}(h:ZaN to S (some b))(hS:∀ w,S w->GoodW w/\w.to=to):GoodW b:=by
 have h6:=h.hop6 (fun w hw=>(hS w hw).1.hop6);obtain⟨h1,⟨u,hu,e1⟩,h3,h4,h5⟩:=h;have hg:=hS u hu;exact⟨by rw [h1, <-hg.2];exact hg.1.node,by rw [<-e1];exact hg.1.cost,h4,h6⟩
def ZaE (S:Int->WayD->Prop)(ds:List WayD):Prop:=AscW ds/\∀ to,ZaN to (S to) (ZaV ds to)
theorem ZaE.unique {S:Int->WayD->Prop}{b:List WayD}(ha:ZaE S a)(hb:ZaE S b):a=b:=
 Zn2 ha.1 hb.1 (fun to=>(ha.2 to).unique (hb.2 to))
theorem ZaE.congr {S T:Int->WayD->Prop}(ha:ZaE S a)(e:∀ to w,S to w↔T to w):ZaE T a:=
 ⟨ha.1,fun to=>(ha.2 to).congr (e to)⟩
theorem ZaE.good {S:Int->WayD->Prop}(h:ZaE S ds)(hS:∀ to w,S to w->GoodW w/\w.to=to):∀ w∈ds,GoodW w:=by
 intro w hw;have h1:=h.2 w.to;rw [ZbP h.1 hw] at h1;exact h1.good (hS w.to)
theorem Zdr (h:AscW ds)(hg:∀ w∈ds,1<=w.to/\w.to<=6):ds.length<=6:=by
 have h1:(ds.map (·.to)).Pairwise (· < ·):=by rw [YAm];exact h
 have:=Zdf h1 (fun z hz=>by
  obtain⟨w,hw,rfl⟩:=YAR.1 hz;exact hg w hw)
 simpa using this
theorem ZaE.put {tog:WayD->WayD->WayD}(ht:ZkU tog){S:Int->WayD->Prop}{es:List WayD}(h:ZaE S ds)(hS:∀ to w,S to w->GoodW w/\w.to=to)(hw:GoodW w)(he:AscW es)(hf:∀ to,ZaV es to=if to=w.to then ZfI tog (ZaV ds to) (some w) else ZaV ds to):ZaE (fun to x=>S to x\/(x=w/\w.to=to)) es:=by
 refine⟨he,fun to=>?_⟩;rw [hf];by_cases e:to=w.to
 ·rw [if_pos e];refine ((h.2 to).add ht (fun v hv=>(hS to v hv).1.hop6) e.symm hw.asc hw.hop6).congr (fun x=>?_);constructor
  ·rintro (h1 | h1)
   ·exact .inl h1
   ·exact .inr ⟨h1,e.symm⟩
  ·rintro (h1 | h1)
   ·exact .inl h1
   ·exact .inr h1.1
 ·rw [if_neg e];refine (h.2 to).congr (fun x=>⟨.inl,?_⟩);rintro (h1 | h1)
  ·exact h1
  ·exact absurd h1.2.symm e
theorem Zdg {c:Nat->Int}{h:Nat->List Int}{w:WayD}:∀ k:Nat,w∈Zcc c h k↔∃ v:Nat,1<=v/\v<=k/\0<=c v/\w=⟨(v:Int),c v,h v⟩
 | 0=>by simp [Zcc];omega
 | k+1=>by
  have ih:=Zdg (c:=c) (h:=h) (w:=w) k;rw [Zfr c h (by omega)];simp only [Nat.add_sub_cancel,YAF];rw [ih];constructor
  ·rintro (⟨v,h1,h2,h3⟩ | h4)
   ·exact ⟨v,h1,by omega,h3⟩
   ·split at h4
    ·rename_i h0
     exact⟨k+1,by omega,by omega,h0,by simpa using h4⟩
    ·simp at h4
  ·rintro ⟨v,h1,h2,h3,h4⟩;by_cases e:v=k+1
   ·subst e;right;rw [if_pos h3,h4];simp
   ·exact .inl ⟨v,h1,by omega,h3,h4⟩
theorem Zl5 (c:Nat->Int)(h:Nat->List Int):∀ k:Nat,AscW (Zcc c h k)
 | 0=>by simp [Zcc,AscW]
 | k+1=>by
  have ih:=Zl5 c h k;rw [Zfr c h (by omega)];simp only [Nat.add_sub_cancel];unfold AscW;rw [YAM];refine⟨ih,by split <;> simp,fun a ha b hb=>?_⟩;obtain⟨v,h1,h2,_,rfl⟩:=(Zdg k).1 ha
  split at hb
  ·have hb':b=⟨((k+1:Nat):Int),c (k+1),h (k+1)⟩:=by simpa using hb
   subst hb';show (v:Int)<((k+1:Nat):Int);omega
  ·simp at hb
theorem Zob {F G:Nat->Bool}(h:∀ u,F u=true->G u=true):Zb4 F<=Zb4 G:=by
 have h1:∀ u,(F u).toNat<=(G u).toNat:=fun u=>by
  cases e:F u
  ·simp
  ·rw [h u e];exact YA _
 unfold Zb4;have:=h1 1;have:=h1 2;have:=h1 3;have:=h1 4;have:=h1 5;have:=h1 6;omega
theorem Fix.bound {L:Nat->Nat->Int}{src:Nat}{c:Nat->Int}{h:Nat->List Int}(A:Fix L src c h)(hL:Links L 1000):∀ (n v:Nat),0<=c v->(c v).toNat<=n->c v<=1000*(Zb4 (fun x=>decide (0<=c x/\c x<c v)):Int):=by
 obtain⟨F,I,hF⟩:=A;intro n
 induction n with
 | zero=>
  intro v h0 hn;have:c v=0:=by omega
  omega
 | succ n ih=>
  intro v h0 hn;by_cases hv:v=src
  ·subst hv;rw [I.start];omega
  ·obtain ⟨u,hu,hl,hc⟩:=I.pred v hv h0;have h1:=(I.fnode u hu).2;have h2:=ih u h1 (by omega);have hle:=hL.le u v;have hcard:Zb4 (fun x=>decide (0<=c x/\c x<c u))+1<=Zb4 (fun x=>decide (0<=c x/\c x<c v)):=by
    rw [<-ZdN (F:=fun x=>decide (0<=c x/\c x<c u)) (u:=u) (I.fnode u hu).1 (by simp)];refine Zob (fun x hx=>?_);simp only [YAv,YAS,beq_iff_eq] at hx |-
    rcases hx with hx | rfl
    ·omega
    ·omega
   omega
theorem Fix.bound6 {L:Nat->Nat->Int}{src:Nat}{c:Nat->Int}{h:Nat->List Int}(A:Fix L src c h)(hL:Links L 1000)(v:Nat)(h0:0<=c v):c v<=6000:=by
 have h1:=A.bound hL _ v h0 (YA _);have h2:=ZiQ (fun x=>decide (0<=c x/\c x<c v));omega
theorem ZaX.asc {xs:List RecD}{area src:Int}(h:ZaX xs area src ds):AscW ds/\∀ w∈ds,GoodW w/\w.cost<=6000:=by
 unfold ZaX at h
 split at h
 ·rename_i e
  have hst:Zax xs=true:=by
   simp only [YAJ] at e;exact e.1.1
  obtain⟨c,g,A,rfl⟩:=h;refine⟨Zl5 c g 6,fun w hw=>?_⟩;obtain⟨v,h1,h2,h3,rfl⟩:=(Zdg 6).1 hw;have hb:=A.bound6 (ZdQ hst) v h3;obtain⟨F,I,_⟩:=A;exact⟨⟨⟨by show 1<=(v:Int);omega,by show (v:Int)<=6;omega⟩,⟨h3,by show c v<=60000;omega⟩,I.asc v,fun z hz=>I.rng v z hz⟩,hb⟩
 ·subst h;exact⟨by simp [AscW],by simp⟩
theorem ZbL (xs:List RecD)(area src:Int):AscW (ZbE xs area src)/\∀ w∈ZbE xs area src,GoodW w/\w.cost<=6000:=by
 by_cases h:∃ ds,ZaX xs area src ds
 ·obtain ⟨ds,hd⟩:=h;rw [<-hd.eq];exact hd.asc
 ·unfold ZbE;rw [dif_neg h];exact⟨by simp [AscW],by simp⟩
theorem ZgJ {ps:List WP}(hl:ps.length<=6)(hg:∀ w∈Zaj ps,w.hops.length<=6):totW ps<=42:=by
 have:∀ qs:List WP,(∀ w∈Zaj qs,w.hops.length<=6)->totW qs<=7*qs.length:=by
  intro qs
  induction qs with
  | nil=>intro _;simp [totW]
  | cons q qs ih=>
   intro h;rw [ZhG,YAk];have h1:=h q.1 (by simp [Zaj]);have h2:=ih (fun w hw=>h w (by simp only [Zaj,List.map_cons,YAb] at hw |-;exact .inr hw));omega
 have:=this ps hg;omega
abbrev LP:=Value × List WP
def ZiX (p:LP):List Value:=[p.1]
theorem Zg7 (p:LP):(ZiX p).length=1:=rfl
theorem Zgh {base size n:Nat}{e T:TypeId}{v:Value}{xs:List Value}(h:W.ownsRow base e size v n xs)(hne:e≠T)(hk:∀ (k:Nat) (cs:Array Value) (t:TypeId) (fr:Nat × Nat),W.heap[k]? = some (.cells cs t fr)->t≠T->W'.heap[k]? = W.heap[k]?):W'.ownsRow base e size v n xs:=by
 refine Zal h (fun j hj=>?_);rcases h.2 with ⟨e1,_⟩ | ⟨g2,cap,cur,e1,_,hh,_⟩
 ·rw [e1] at hj;cases hj
 ·rw [e1] at hj;simp [Value.ownBlock] at hj;subst hj;exact hk _ _ _ _ hh hne
theorem WaysOwn.typed {T:TypeId}{v:Value}{ps:List WP}(h:WaysOwn W lo hi v ps)(h1:(108:TypeId)≠T)(h2:(3:TypeId)≠T)(hk:∀ (k:Nat) (cs:Array Value) (t:TypeId) (fr:Nat × Nat),W.heap[k]? = some (.cells cs t fr)->t≠T->W'.heap[k]? = W.heap[k]?):WaysOwn W' lo hi v ps:=
 ⟨Zgh h.row h1 hk,h.top,fun p hp=>⟨Zgh (h.nears p hp).1 h2 hk,(h.nears p hp).2⟩,h.apart⟩
structure WLs (W:World) (lo hi:Nat) (u:Value) (ls:List LP):Prop where
 row:W.ownsRow lo 102 1 u ls.length (flat ZiX ls)
 top:∀ k,u.ownBlock=some k->k<hi
 ways:∀ p∈ls,WaysOwn W lo hi p.1 p.2
theorem WLs.below {B:Nat}{ls:List LP}(h:WLs W lo hi u ls)(hb:Below B W W')(hB:hi<=B):WLs W' lo hi u ls:=
 ⟨Zal h.row (fun k e=>hb.block k (by have:=h.top k e;omega)),h.top,fun p hp=>(h.ways p hp).below hb hB⟩
theorem WLs.wide {lo' hi':Nat}{ls:List LP}(h:WLs W lo hi u ls)(hl:lo'<=lo)(hh:hi<=hi'):WLs W lo' hi' u ls:=
 ⟨Zaf h.row hl,fun k e=>YAB (h.top k e) hh,fun p hp=>(h.ways p hp).wide hl hh⟩
theorem WLs.cell {ls:List LP}(h:WLs W lo hi u ls){i:Nat}{p:LP}(hp:ls[i]? = some p):∃ g cap,u=.slice (some ⟨g,0,none⟩) ls.length cap/\W.cell? ⟨g,i,none⟩=some p.1/\g<hi/\g<W.heap.size:=by
 have hi':i<ls.length:=(YAD.1 hp).1;rcases h.row.2 with ⟨_,e⟩ | ⟨g,cap,cur,hv,_⟩
 ·omega
 ·refine ⟨g,cap,hv,?_,h.top g (by rw [hv];rfl),(h.row.lt g (by rw [hv];rfl)).2⟩;have:=World.ownsRow.cellAt (by rw [<-hv];exact h.row) i (by omega);rw [this];have e:=Zeq Zg7 ls i 0 p hp (by omega);simpa [ZiX] using e
theorem WLs.push {Wa W2:World}{u':Value}{ls:List LP}{p:LP}(h:WLs W lo W.heap.size u ls)(hb:Below W.heap.size W Wa)(hp:WaysOwn Wa lo Wa.heap.size p.1 p.2)
  (row:W2.ownsRow lo 102 1 u' (ls.length+1) (flat ZiX (ls++[p]))) (hg:Wa.grownBy W2 u.ownBlock):WLs W2 lo W2.heap.size u' (ls++[p]):=by
 have rowa:=Zad h.row hb (YA _);have hk:∀ (k:Nat) (cs:Array Value) (t:TypeId) (fr:Nat × Nat),Wa.heap[k]? = some (.cells cs t fr)->t≠102->W2.heap[k]? = Wa.heap[k]? := fun k cs t fr hk ht=>hg.block k (Zab hk) (Zar rowa hk (fun e=>ht e.symm));refine⟨by simpa using row,fun k e=>(row.lt k e).2,fun q hq=>?_⟩;rcases YAF.1 hq with h1 | h1
 ·exact (((h.ways q h1).below hb (YA _)).typed (by decide) (by decide) hk).wide (YA _) (YAK hb.size hg.size)
 ·have:q=p:=by simpa using h1
  subst this;exact (hp.typed (by decide) (by decide) hk).wide (YA _) hg.size
def Zcp (bp:Nat->Option Nat)(wd:Nat->WayD)(wv:Nat->Value):Nat->List WP
 | 0=>[]
 | t+1=>Zcp bp wd wv t++(match bp t with
  | some k=>[(wd k,wv k)]
  | none=>[])
theorem Zdy {k:Nat}(h:bp t=some k):Zcp bp wd wv (t+1)=Zcp bp wd wv t++[(wd k,wv k)]:=by
 show Zcp bp wd wv t++(match bp t with
  | some k=>[(wd k,wv k)]
  | none=>[])=_
 rw [h]
theorem ZcS (h:bp t=none):Zcp bp wd wv (t+1)=Zcp bp wd wv t:=by
 show Zcp bp wd wv t++(match bp t with
  | some k=>[(wd k,wv k)]
  | none=>[])=_
 rw [h];simp
theorem Zfq {p:WP}:∀ {t:Nat},p∈Zcp bp wd wv t->∃ v k,v<t/\bp v=some k/\p=(wd k,wv k)
 | 0,h=>by cases h
 | t+1,h=>by
  cases e:bp t with
  | none=>
   rw [ZcS e] at h;obtain⟨v,k,h1,h2⟩:=Zfq h;exact⟨v,k,by omega,h2⟩
  | some k=>
   rw [Zdy e] at h;rcases YAF.1 h with h1 | h1
   ·obtain ⟨v,k,h1,h2⟩:=Zfq h1;exact⟨v,k,by omega,h2⟩
   ·exact ⟨t,k,by omega,e,by simpa using h1⟩
theorem Zj0 (bp:Nat->Option Nat)(wd:Nat->WayD)(wv:Nat->Value):∀ t,(Zcp bp wd wv t).length<=t
 | 0=>by simp [Zcp]
 | t+1=>by
  have:=Zj0 bp wd wv t;cases e:bp t with
  | none=>rw [ZcS e];omega
  | some k=>rw [Zdy e];simp;omega
theorem ZeY (h:∀ v v' k k',v≠v'->bp v=some k->bp v'=some k'->∀ b,(wv k).ownBlock=some b->(wv k').ownBlock≠some b):∀ t,(Zcp bp wd wv t).Pairwise ZcM
 | 0=>by simp [Zcp]
 | t+1=>by
  cases e:bp t with
  | none=>rw [ZcS e];exact ZeY h t
  | some k=>
   rw [Zdy e,YAM];refine⟨ZeY h t,by simp,fun p hp q hq=>?_⟩;obtain⟨v,k',hv,e2,rfl⟩:=Zfq hp;have:q=(wd k,wv k):=by simpa using hq
   subst this;intro b hb;exact h v t k' k (by omega) e2 e b hb
theorem ZhZ {bp:Nat->Option Nat}{wd:Nat->WayD}{wv:Nat->Value}{c:Nat->Int}{h:Nat->List Int}(h0:bp 0=none)(hc:∀ v,cOf bp wd v=c v)(hh:∀ v,hOf bp wd v=h v)(hto:∀ v k,bp v=some k->(wd k).to=(v:Int))(hnn:∀ v k,bp v=some k->0<=(wd k).cost):∀ t,Zaj (Zcp bp wd wv (t+1))=Zcc c h t
 | 0=>by rw [ZcS h0];rfl
 | t+1=>by
  have ih:=ZhZ h0 hc hh hto hnn t (wv:=wv);have e1:=hc (t+1);have e2:=hh (t+1);unfold Zcc;cases e:bp (t+1) with
  | none=>
   rw [ZgG e] at e1;rw [ZcS e,ih,if_neg (by omega),List.append_nil]
  | some k=>
   rw [ZcC e] at e1;rw [Zet e] at e2;have h1:=hnn (t+1) k e;have h2:=hto (t+1) k e;rw [Zdy e,if_pos (by omega), <-ih, <-e1, <-e2, <-h2];simp [Zaj]
theorem Zq8 (f:Nat->Value)(W:World)(ht:t<=6):(Instr.index 158 (.agg #[f 0,f 1,f 2,f 3,f 4,f 5,f 6]) (.int .i64 (t:Int))).run Tryz.prog W=.ok (f t) W:=by
 have h:t=0\/t=1\/t=2\/t=3\/t=4\/t=5\/t=6:=by omega
 rcases h with rfl | rfl | rfl | rfl | rfl | rfl | rfl <;> rfl
theorem Zrr (W:World)(lo z:Nat)(u:Value)(n:Nat)(q:Nat->Nat)(bp:Nat->Option Nat)(wd:Nat->WayD)(wv:Nat->Value)(s:FS W lo z u n q bp wd wv):
  Calls Tryz.prog 115 #[.pointer (some ⟨z,0,none⟩)] W fun e W'=>∃ x,e=.returned x/\WaysOwn W' lo W'.heap.size x (Zcp bp wd wv 7)/\Below lo W W':=by
 have hlo:=s.size;have lz:=Zab s.hb.box;have B0:Below W.heap.size W (W.alloc (.cells #[] 108)):=(YAC _ _).alloc (YA _) _;have O0:(W.alloc (.cells #[] 108)).ownsRow W.heap.size 108 3 (.slice (some ⟨W.heap.size,0,none⟩) 0 0) 0 (flat encW []):=World.ownsRow_lit W #[] 0 (YA _) (by unfold maxLen;omega) (by simp);obtain⟨W0,hW0⟩:∃ V,V=W.alloc (.cells #[] 108):=⟨_,rfl⟩;rw [<-hW0] at B0 O0;have bx:=s.hb.box;unfold finC at bx;have d0:=Zaa bx 0;have d1:=Zaa bx 1;have d2:=Zaa bx 2;have d3:=Zaa bx 3;have d4:=Zaa bx 4;have d5:=Zaa bx 5;have d6:=Zaa bx 6;simp at d0 d1 d2 d3 d4 d5 d6;have FIN:=hide (fun (W':World) (x:Value) (hb:Below W.heap.size W W') (ho:W'.ownsRow W.heap.size 108 3 x (Zcp bp wd wv 7).length (flat encW (Zcp bp wd wv 7)))=>show WaysOwn W' lo W'.heap.size x (Zcp bp wd wv 7) from
  {row:=Zaf ho hlo
   top:=fun k hk=>(ho.lt k hk).2
   nears:=fun p hp=>by
    obtain⟨v,k,_,e,rfl⟩:=Zfq hp;have hr:=Zad (s.row v k e) hb (YA _);exact⟨hr,fun b hb=>(hr.lt b hb).2⟩
   apart:=ZeY s.apart 7 })
 have HWY:=hide (fun v k (e:bp v=some k)=>(s.way v k e).1);have HSL:=hide (fun v k (e:bp v=some k)=>Zac (s.row v k e));obtain⟨f,hf⟩:∃ f:Nat->Value,f=fun t=>ptrO (bp t):=⟨_,rfl⟩;have HF:=hide hf;rw [show ptrO (bp 0)=f 0 by rw [hf]] at d0;rw [show ptrO (bp 1)=f 1 by rw [hf]] at d1;rw [show ptrO (bp 2)=f 2 by rw [hf]] at d2;rw [show ptrO (bp 3)=f 3 by rw [hf]] at d3;rw [show ptrO (bp 4)=f 4 by rw [hf]] at d4;rw [show ptrO (bp 5)=f 5 by rw [hf]] at d5;rw [show ptrO (bp 6)=f 6 by rw [hf]] at d6;have HO0:=hide O0;clear hf s bx O0
 go_enter Tryz.func115,Tryz.ntmps115
 go_wp2;rw [<-hW0];clear hW0 d0 d1 d2 d3 d4 d5 d6
 go_loopw [11,3] (fun i o wr=>∃ (t:Nat) (x:Value),t<=7/\i=.int .i64 (t:Int)/\o=x/\wr.ownsRow W.heap.size 108 3 x (Zcp bp wd wv t).length (flat encW (Zcp bp wd wv t))/\Below W.heap.size W wr) (fun i _ _=>8-(intOf i).toNat)
 case atStart=>exact ⟨0,_,by omega,rfl,rfl,HO0.out,B0⟩
 case round=>
  obtain⟨t,x,ht,rfl,rfl,hown,hb⟩:=hrel;clear HO0 B0;obtain⟨xa,xc,rfl⟩:=Zac hown;have hsz:=hb.size;have OW:=hide hown;have hcl:=Zj0 bp wd wv t;clear hown;by_cases htl:t<7
  ·have ht6:(t:Int)<7:=by omega
   have hix:=fun V=>Zq8 f V (t:=t) (by omega);cases e:bp t with
   | none=>
    have hft:f t=.pointer none:=by rw [HF.out];show ptrO (bp t)=_;rw [e];rfl
    rw [hft] at hix;have HOW:=hide (show wr.ownsRow W.heap.size 108 3 (.slice xa (Zcp bp wd wv t).length xc) (Zcp bp wd wv (t+1)).length (flat encW (Zcp bp wd wv (t+1))) by rw [ZcS e];exact OW.out);clear e hft;go_wp2;go_roundw
    case rel=>exact ⟨t+1,_,by omega,by go_num,rfl,HOW.out,hb⟩
    case measure=>simp [intOf];omega
   | some k=>
    have hft:f t=.pointer (some ⟨k,0,none⟩):=by rw [HF.out];show ptrO (bp t)=_;rw [e];rfl
    rw [hft] at hix;obtain⟨ya,yc,hyv⟩:=HSL.out t k e;have hw:=HWY.out t k e;rw [hyv] at hw;obtain⟨y,hy⟩:∃ y,y=wd k:=⟨_,rfl⟩;rw [<-hy] at hw hyv;have lk:=Zab hw;have hw2:=(hb.block _ lk).trans hw;have s0:=Zaa hw2 0;have s1:=Zaa hw2 1;have s2:=Zaa hw2 2;simp [wayC] at s0 s1 s2;have HSP:=hide (Zdy e (wd:=wd) (wv:=wv));rw [hyv, <-hy] at HSP;obtain⟨C,hC⟩:∃ C,C=Zcp bp wd wv t:=⟨_,rfl⟩;rw [<-hC] at OW HSP hcl |-;clear e hft hw hw2 hy hyv hC
    go_wp2_with (first
     | (at_builtin;refine ZaL Zbg (by omega) (by omega) _ rfl _ _ 102 rfl W.heap.size 108 Tryz.underlying102 (.agg (wayC Zbl (.slice none 0 0))) rfl Tryz.infoWay _ C (y,.slice ya y.hops.length yc) (Zdh _ _ _ _) rfl (OW.out.alloc _) ⟨wr.heap.size,0,none⟩ 1 rfl (Zan (cs:=encW (y,.slice ya y.hops.length yc))) (by omega) (by simp;omega) ?_))
    intro v' w4 hown' hgrow;have B4:Below W.heap.size W w4:=(hb.alloc hsz _).grown hgrow (by simp;omega) (fun j hj=>(OW.out.lt j hj).1);have O4:=hide (show w4.ownsRow W.heap.size 108 3 v' (Zcp bp wd wv (t+1)).length (flat encW (Zcp bp wd wv (t+1))) by rw [HSP.out];simpa using hown');obtain⟨va,vc,rfl⟩:=Zac hown';clear hown' hgrow;go_wp2;go_roundw
    case rel=>exact ⟨t+1,_,by omega,by go_num,rfl,O4.out,B4⟩
    case measure=>simp [intOf];omega
  ·have ht6:¬(t:Int)<7:=by omega
   have htt:t=7:=by omega
   subst htt;have HE:=hide (FIN.out wr _ hb OW.out);have HBB:=hide (hb.mono hlo);obtain⟨C,hC⟩:∃ C,C=Zcp bp wd wv 7:=⟨_,rfl⟩;rw [<-hC] at HE |-;have HCC:=hide hC;clear hC OW FIN;go_wp2;go_ret;exact⟨_,rfl,by rw [<-HCC.out];exact HE.out,HBB.out⟩
end Go.Proofs.YtikloccefmofdaaGreat
