/-
  Parts.
-/
import Derived.Test.YtcnjnibnecpddaaGreatTr13
namespace Go.Proofs.YtcnjnibnecpddaaGreat
open Go.RowKit
set_option linter.unusedSimpArgs false
set_option linter.unusedVariables false
set_option maxRecDepth 100000
set_option maxHeartbeats 8000000
variable {to:Int}{a ds:List WayD}{B hi lo t:Nat}{c:Nat->Int}{h:Nat->List Int}{bp:Nat->Option Nat}{wv:Nat->Value}{wd:Nat->WayD}{o:Option WayD}{u:Value}{w:WayD}{S:WayD->Prop}{W W':World}
def Hop6 (l:List Int):Prop:=∀ z∈l,1<=z/\z<=6
structure GoodW (x:WayD):Prop where
 node:1<=x.to/\x.to<=6
 cost:0<=x.cost/\x.cost<=60000
 asc:x.hops.Pairwise (· < ·)
 hop6:Hop6 x.hops
theorem Zgn :∀ {l:List Int}{a:Int},l.Pairwise (· < ·)->(∀ z∈l,a<=z/\z<=6)->(l.length:Int)<=7-a\/l=[]
 | [],_,_,_=>.inr rfl
 | x::xs,a,h,hr=>by
  have h':=YAr.1 h;have hx:=hr x (by simp);rcases Zgn (a:=x+1) h'.2 (fun z hz=>⟨by have:=h'.1 z hz;omega,(hr z (by simp [hz])).2⟩) with h1 | h1
  ·left;simp;omega
  ·left;subst h1;simp;omega
theorem Zc0 {l:List Int}(h:l.Pairwise (· < ·))(h6:Hop6 l):l.length<=6:=by
 rcases Zgn (a:=1) h h6 with h1 | h1
 ·omega
 ·subst h1;simp
theorem GoodW.len {x:WayD}(h:GoodW x):x.hops.length<=6:=Zc0 h.asc h.hop6
def AscW (ds:List WayD):Prop:=ds.Pairwise (fun x y=>x.to<y.to)
theorem Zl9 :∀ {a b:List WayD},AscW a->AscW b->(∀ x,x∈a↔x∈b)->a=b
 | [],[],_,_,_=>rfl
 | [],y::ys,_,_,h=>by have:=(h y).2 (by simp);cases this
 | x::xs,[],_,_,h=>by have:=(h x).1 (by simp);cases this
 | x::xs,y::ys,ha,hb,h=>by
  have ha':=YAr.1 ha;have hb':=YAr.1 hb;have hxy:x=y:=by
   have h1:=(h x).1 (by simp);have h2:=(h y).2 (by simp);rcases YAg.1 h1 with e | e
   ·exact e
   ·rcases YAg.1 h2 with e2 | e2
    ·exact e2.symm
    ·have:=ha'.1 y e2;have:=hb'.1 x e;omega
  subst hxy;have:xs=ys:=by
   refine Zl9 ha'.2 hb'.2 (fun z=>?_);have hz:=h z;constructor
   ·intro hm;have h1:=hz.1 (YAi _ hm);rcases YAg.1 h1 with e | e
    ·have:=ha'.1 z hm;subst e;omega
    ·exact e
   ·intro hm;have h1:=hz.2 (YAi _ hm);rcases YAg.1 h1 with e | e
    ·have:=hb'.1 z hm;subst e;omega
    ·exact e
  rw [this]
theorem ZaX (h:ZaZ ds to=some w):w∈ds/\w.to=to:=by
 unfold ZaZ at h;exact⟨List.mem_of_find?_eq_some h,by have:=List.find?_some h;simpa using this⟩
theorem ZdH (h:ZaZ ds to=none):∀ w∈ds,w.to≠to:=by
 unfold ZaZ at h;rw [List.find?_eq_none] at h;intro w hw;simpa using h w hw
theorem ZjV (h:AscW ds){x y:WayD}(hx:x∈ds)(hy:y∈ds)(e:x.to=y.to):x=y:=by
 induction ds with
 | nil=>cases hx
 | cons a ds ih=>
  have h':=YAr.1 h;rcases YAg.1 hx with e1 | e1
  ·rcases YAg.1 hy with e2 | e2
   ·rw [e1,e2]
   ·have:=h'.1 y e2;subst e1;omega
  ·rcases YAg.1 hy with e2 | e2
   ·have:=h'.1 x e1;subst e2;omega
   ·exact ih h'.2 e1 e2
theorem Zb3 (h:AscW ds)(hw:w∈ds):ZaZ ds w.to=some w:=by
 cases e:ZaZ ds w.to with
 | none=>exact absurd rfl (ZdH e w hw)
 | some x=>
  have h1:=ZaX e;rw [ZjV h h1.1 hw h1.2]
theorem Zoh {b:List WayD}(ha:AscW a)(hb:AscW b)(h:∀ to,ZaZ a to=ZaZ b to):a=b:=by
 refine Zl9 ha hb (fun x=>⟨fun hx=>?_,fun hx=>?_⟩)
 ·have:=Zb3 ha hx;rw [h] at this;exact (ZaX this).1
 ·have:=Zb3 hb hx;rw [<-h] at this;exact (ZaX this).1
def ZaJ (to:Int)(S:WayD->Prop):Option WayD->Prop
 | none=>∀ w,¬S w
 | some b=>b.to=to/\(∃ w,S w/\w.cost=b.cost)/\(∀ w,S w->b.cost<=w.cost)/\b.hops.Pairwise (· < ·)/\∀ x,x∈b.hops↔∃ w,S w/\w.cost=b.cost/\x∈w.hops
theorem ZaJ.unique {o':Option WayD}(h:ZaJ to S o)(h':ZaJ to S o'):o=o':=by
 cases o with
 | none=>
  cases o' with
  | none=>rfl
  | some b=>
   obtain⟨_,⟨w,hw,_⟩,_⟩:=h';exact absurd hw (h w)
 | some a=>
  cases o' with
  | none=>
   obtain⟨_,⟨w,hw,_⟩,_⟩:=h;exact absurd hw (h' w)
  | some b=>
   obtain⟨h1,⟨w,hw,e1⟩,h3,h4,h5⟩:=h;obtain⟨k1,⟨v,hv,e2⟩,k3,k4,k5⟩:=h';have hc:a.cost=b.cost:=by
    have:=h3 v hv;have:=k3 w hw;omega
   have hh:a.hops=b.hops:=ZiN h4 k4 (fun x=>by rw [h5,k5,hc]);cases a;cases b;simp at *;exact⟨by rw [h1,k1],hc,hh⟩
theorem ZaJ.congr {T:WayD->Prop}(h:ZaJ to S o)(e:∀ w,S w↔T w):ZaJ to T o:=by
 have:S=T:=funext fun w=>propext (e w);rw [<-this];exact h
def ZkW (tog:WayD->WayD->WayD):Prop:=∀ x y:WayD,Hop6 x.hops->Hop6 y.hops->(x.cost<y.cost->tog x y=x)/\(y.cost<x.cost->tog x y=y) /\
 (x.cost=y.cost->(tog x y).to=x.to/\(tog x y).cost=x.cost/\(tog x y).hops.Pairwise (· < ·)/\∀ z,z∈(tog x y).hops↔z∈x.hops\/z∈y.hops)
theorem Zgi :ZkW togD:=by
 intro x y hx hy;unfold togD Zbp;refine⟨fun h=>by simp [h],fun h=>?_,fun h=>?_⟩
 ·rw [if_neg (by simp;omega),if_pos (by simpa using h)]
 ·rw [if_neg (by simp;omega),if_neg (by simp;omega)];refine⟨rfl,rfl,ZgD _ _,fun z=>?_⟩;show z∈addL x.hops y.hops↔_;rw [ZgF];constructor
  ·exact fun h=>h.2.2
  ·rintro (h1 | h1)
   ·exact ⟨(hx z h1).1,(hx z h1).2,.inl h1⟩
   ·exact ⟨(hy z h1).1,(hy z h1).2,.inr h1⟩
theorem Zjw :ZkW togI:=by
 intro x y hx hy;unfold togI Zbp;refine⟨fun h=>by simp [h],fun h=>?_,fun h=>?_⟩
 ·rw [if_neg (by simp;omega),if_pos (by simpa using h)]
 ·rw [if_neg (by simp;omega),if_neg (by simp;omega)];exact⟨rfl,rfl,Zg6 _ _,fun z=>ZfI⟩
theorem ZaJ.hop6 {b:WayD}(h:ZaJ to S (some b))(hS:∀ w,S w->Hop6 w.hops):Hop6 b.hops:=by
 intro z hz;obtain⟨w,hw,_,hm⟩:=(h.2.2.2.2 z).1 hz;exact hS w hw z hm
theorem ZaJ.add {tog:WayD->WayD->WayD}(ht:ZkW tog)(h:ZaJ to S o)(hS:∀ w,S w->Hop6 w.hops)(hto:w.to=to)(hasc:w.hops.Pairwise (· < ·))(h6:Hop6 w.hops):ZaJ to (fun x=>S x\/x=w) (ZeX tog o (some w)):=by
 cases o with
 | none=>
  refine⟨hto,⟨w,.inr rfl,rfl⟩,fun x hx=>?_,hasc,fun x=>⟨fun hx=>⟨w,.inr rfl,rfl,hx⟩,?_⟩⟩
  ·rcases hx with h1 | rfl
   ·exact absurd h1 (h x)
   ·exact Int.le_refl _
  ·rintro ⟨v,h1 | rfl,_,hm⟩
   ·exact absurd h1 (h v)
   ·exact hm
 | some b=>
  have hb6:=h.hop6 hS;obtain⟨h1,⟨u,hu,e1⟩,h3,h4,h5⟩:=h;obtain⟨t1,t2,t3⟩:=ht b w hb6 h6;show ZaJ to _ (some (tog b w));rcases Int.lt_trichotomy b.cost w.cost with hl | hl | hl
  ·rw [t1 hl];refine⟨h1,⟨u,.inl hu,e1⟩,fun x hx=>?_,h4,fun x=>?_⟩
   ·rcases hx with hx | rfl
    ·exact h3 x hx
    ·omega
   ·rw [h5];constructor
    ·rintro ⟨v,hv,e,hm⟩;exact⟨v,.inl hv,e,hm⟩
    ·rintro ⟨v,hv | rfl,e,hm⟩
     ·exact ⟨v,hv,e,hm⟩
     ·omega
  ·obtain ⟨s1,s2,s3,s4⟩:=t3 hl;refine⟨by rw [s1,h1],⟨w,.inr rfl,by rw [s2,hl]⟩,fun x hx=>?_,s3,fun x=>?_⟩
   ·rw [s2];rcases hx with hx | rfl
    ·exact h3 x hx
    ·omega
   ·rw [s4,h5,s2];constructor
    ·rintro (⟨v,hv,e,hm⟩ | hm)
     ·exact ⟨v,.inl hv,e,hm⟩
     ·exact ⟨w,.inr rfl,hl.symm,hm⟩
    ·rintro ⟨v,hv | rfl,e,hm⟩
     ·exact .inl ⟨v,hv,e,hm⟩
     ·exact .inr hm
  ·rw [t2 hl];refine⟨hto,⟨w,.inr rfl,rfl⟩,fun x hx=>?_,hasc,fun x=>⟨fun hx=>⟨w,.inr rfl,rfl,hx⟩,?_⟩⟩
   ·rcases hx with hx | rfl
    ·have:=h3 x hx;omega
    ·exact Int.le_refl _
   ·rintro ⟨v,hv | rfl,e,hm⟩
    ·have:=h3 v hv;omega
    ·exact hm
theorem ZaJ.good {b:WayD}(h:ZaJ to S (some b))(hS:∀ w,S w->GoodW w/\w.to=to):GoodW b:=by
 have h6:=h.hop6 (fun w hw=>(hS w hw).1.hop6);obtain⟨h1,⟨u,hu,e1⟩,h3,h4,h5⟩:=h;have hg:=hS u hu;exact⟨by rw [h1, <-hg.2];exact hg.1.node,by rw [<-e1];exact hg.1.cost,h4,h6⟩
def ZaE (S:Int->WayD->Prop)(ds:List WayD):Prop:=AscW ds/\∀ to,ZaJ to (S to) (ZaZ ds to)
theorem ZaE.unique {S:Int->WayD->Prop}{b:List WayD}(ha:ZaE S a)(hb:ZaE S b):a=b:=
 Zoh ha.1 hb.1 (fun to=>(ha.2 to).unique (hb.2 to))
theorem ZaE.congr {S T:Int->WayD->Prop}(ha:ZaE S a)(e:∀ to w,S to w↔T to w):ZaE T a:=
 ⟨ha.1,fun to=>(ha.2 to).congr (e to)⟩
theorem ZaE.good {S:Int->WayD->Prop}(h:ZaE S ds)(hS:∀ to w,S to w->GoodW w/\w.to=to):∀ w∈ds,GoodW w:=by
 intro w hw;have h1:=h.2 w.to;rw [Zb3 h.1 hw] at h1;exact h1.good (hS w.to)
theorem ZcU (h:AscW ds)(hg:∀ w∈ds,1<=w.to/\w.to<=6):ds.length<=6:=by
 have h1:(ds.map (·.to)).Pairwise (· < ·):=by rw [YAn];exact h
 have:=Zc0 h1 (fun z hz=>by
  obtain⟨w,hw,rfl⟩:=YAV.1 hz;exact hg w hw)
 simpa using this
theorem ZaE.put {tog:WayD->WayD->WayD}(ht:ZkW tog){S:Int->WayD->Prop}{es:List WayD}(h:ZaE S ds)(hS:∀ to w,S to w->GoodW w/\w.to=to)(hw:GoodW w)(he:AscW es)(hf:∀ to,ZaZ es to=if to=w.to then ZeX tog (ZaZ ds to) (some w) else ZaZ ds to):ZaE (fun to x=>S to x\/(x=w/\w.to=to)) es:=by
 refine⟨he,fun to=>?_⟩;rw [hf];by_cases e:to=w.to
 ·rw [if_pos e];refine ((h.2 to).add ht (fun v hv=>(hS to v hv).1.hop6) e.symm hw.asc hw.hop6).congr (fun x=>?_);constructor
  ·rintro (h1 | h1)
   ·exact .inl h1
   ·exact .inr ⟨h1,e.symm⟩
  ·rintro (h1 | h1)
   ·exact .inl h1
   ·exact .inr h1.1
 ·rw [if_neg e];refine (h.2 to).congr (fun x=>⟨.inl,?_⟩);rintro (h1 | h1)
  ·exact h1
  ·exact absurd h1.2.symm e
theorem Zi1 {c:Nat->Int}{h:Nat->List Int}{w:WayD}:∀ k:Nat,w∈Zdb c h k↔∃ v:Nat,1<=v/\v<=k/\0<=c v/\w=⟨(v:Int),c v,h v⟩
 | 0=>by simp [Zdb];omega
 | k+1=>by
  have ih:=Zi1 (c:=c) (h:=h) (w:=w) k;rw [ZfA c h (by omega)];simp only [Nat.add_sub_cancel,YAF];rw [ih];constructor
  ·rintro (⟨v,h1,h2,h3⟩ | h4)
   ·exact ⟨v,h1,by omega,h3⟩
   ·split at h4
    ·rename_i h0
     exact⟨k+1,by omega,by omega,h0,by simpa using h4⟩
    ·simp at h4
  ·rintro ⟨v,h1,h2,h3,h4⟩;by_cases e:v=k+1
   ·subst e;right;rw [if_pos h3,h4];simp
   ·exact .inl ⟨v,h1,by omega,h3,h4⟩
theorem Zmd (c:Nat->Int)(h:Nat->List Int):∀ k:Nat,AscW (Zdb c h k)
 | 0=>by simp [Zdb,AscW]
 | k+1=>by
  have ih:=Zmd c h k;rw [ZfA c h (by omega)];simp only [Nat.add_sub_cancel];unfold AscW;rw [YAQ];refine⟨ih,by split <;> simp,fun a ha b hb=>?_⟩;obtain⟨v,h1,h2,_,rfl⟩:=(Zi1 k).1 ha
  split at hb
  ·have hb':b=⟨((k+1:Nat):Int),c (k+1),h (k+1)⟩:=by simpa using hb
   subst hb';show (v:Int)<((k+1:Nat):Int);omega
  ·simp at hb
theorem Zop {F G:Nat->Bool}(h:∀ u,F u=true->G u=true):Zcn F<=Zcn G:=by
 have h1:∀ u,(F u).toNat<=(G u).toNat:=fun u=>by
  cases e:F u
  ·simp
  ·rw [h u e];exact YA _
 unfold Zcn;have:=h1 1;have:=h1 2;have:=h1 3;have:=h1 4;have:=h1 5;have:=h1 6;omega
theorem Fix.bound {L:Nat->Nat->Int}{src:Nat}(A:Fix L src c h)(hL:Links L 1000):∀ (n v:Nat),0<=c v->(c v).toNat<=n->c v<=1000*(Zcn (fun x=>decide (0<=c x/\c x<c v)):Int):=by
 obtain⟨F,I,hF⟩:=A;intro n
 induction n with
 | zero=>
  intro v h0 hn;have:c v=0:=by omega
  omega
 | succ n ih=>
  intro v h0 hn;by_cases hv:v=src
  ·subst hv;rw [I.start];omega
  ·obtain ⟨u,hu,hl,hc⟩:=I.pred v hv h0;have h1:=(I.fnode u hu).2;have h2:=ih u h1 (by omega);have hle:=hL.le u v;have hcard:Zcn (fun x=>decide (0<=c x/\c x<c u))+1<=Zcn (fun x=>decide (0<=c x/\c x<c v)):=by
    rw [<-Zez (F:=fun x=>decide (0<=c x/\c x<c u)) (u:=u) (I.fnode u hu).1 (by simp)];refine Zop (fun x hx=>?_);simp only [YAx,YAT,beq_iff_eq] at hx |-
    rcases hx with hx | rfl
    ·omega
    ·omega
   omega
theorem Fix.bound6 {L:Nat->Nat->Int}{src:Nat}(A:Fix L src c h)(hL:Links L 1000)(v:Nat)(h0:0<=c v):c v<=6000:=by
 have h1:=A.bound hL _ v h0 (YA _);have h2:=ZiX (fun x=>decide (0<=c x/\c x<c v));omega
theorem Zbn.asc {xs:List RecD}{area src:Int}(h:Zbn xs area src ds):AscW ds/\∀ w∈ds,GoodW w/\w.cost<=6000:=by
 unfold Zbn at h
 split at h
 ·rename_i e
  have hst:ZaA xs=true:=by
   simp only [YAM] at e;exact e.1.1
  obtain⟨c,g,A,rfl⟩:=h;refine⟨Zmd c g 6,fun w hw=>?_⟩;obtain⟨v,h1,h2,h3,rfl⟩:=(Zi1 6).1 hw;have hb:=A.bound6 (Zff hst) v h3;obtain⟨F,I,_⟩:=A;exact⟨⟨⟨by show 1<=(v:Int);omega,by show (v:Int)<=6;omega⟩,⟨h3,by show c v<=60000;omega⟩,I.asc v,fun z hz=>I.rng v z hz⟩,hb⟩
 ·subst h;exact⟨by simp [AscW],by simp⟩
theorem ZbP (xs:List RecD)(area src:Int):AscW (ZbO xs area src)/\∀ w∈ZbO xs area src,GoodW w/\w.cost<=6000:=by
 by_cases h:∃ ds,Zbn xs area src ds
 ·obtain ⟨ds,hd⟩:=h;rw [<-hd.eq];exact hd.asc
 ·unfold ZbO;rw [dif_neg h];exact⟨by simp [AscW],by simp⟩
theorem ZgI {ps:List WP}(hl:ps.length<=6)(hg:∀ w∈Zag ps,w.hops.length<=6):totW ps<=42:=by
 have:∀ qs:List WP,(∀ w∈Zag qs,w.hops.length<=6)->totW qs<=7*qs.length:=by
  intro qs
  induction qs with
  | nil=>intro _;simp [totW]
  | cons q qs ih=>
   intro h;rw [ZhP,YAm];have h1:=h q.1 (by simp [Zag]);have h2:=ih (fun w hw=>h w (by simp only [Zag,List.map_cons,YAg] at hw |-;exact .inr hw));omega
 have:=this ps hg;omega
abbrev LP:=Value × List WP
def Zi5 (p:LP):List Value:=[p.1]
theorem Zg0 (p:LP):(Zi5 p).length=1:=rfl
theorem ZdN {base size n:Nat}{e T:TypeId}{v:Value}{xs:List Value}(h:W.ownsRow base e size v n xs)(hne:e≠T)(hk:∀ (k:Nat) (cs:Array Value) (t:TypeId) (fr:Nat × Nat),W.heap[k]? = some (.cells cs t fr)->t≠T->W'.heap[k]? = W.heap[k]?):W'.ownsRow base e size v n xs:=by
 refine Zal h (fun j hj=>?_);rcases h.2 with ⟨e1,_⟩ | ⟨g2,cap,cur,e1,_,hh,_⟩
 ·rw [e1] at hj;cases hj
 ·rw [e1] at hj;simp [Value.ownBlock] at hj;subst hj;exact hk _ _ _ _ hh hne
theorem WaysOwn.typed {T:TypeId}{v:Value}{ps:List WP}(h:WaysOwn W lo hi v ps)(h1:(193:TypeId)≠T)(h2:(3:TypeId)≠T)(hk:∀ (k:Nat) (cs:Array Value) (t:TypeId) (fr:Nat × Nat),W.heap[k]? = some (.cells cs t fr)->t≠T->W'.heap[k]? = W.heap[k]?):WaysOwn W' lo hi v ps:=
 ⟨ZdN h.row h1 hk,h.top,fun p hp=>⟨ZdN (h.nears p hp).1 h2 hk,(h.nears p hp).2⟩,h.apart⟩
structure WLs (W:World) (lo hi:Nat) (u:Value) (ls:List LP):Prop where
 row:W.ownsRow lo 187 1 u ls.length (flat Zi5 ls)
 top:∀ k,u.ownBlock=some k->k<hi
 ways:∀ p∈ls,WaysOwn W lo hi p.1 p.2
theorem WLs.below {ls:List LP}(h:WLs W lo hi u ls)(hb:Below B W W')(hB:hi<=B):WLs W' lo hi u ls:=
 ⟨Zal h.row (fun k e=>hb.block k (by have:=h.top k e;omega)),h.top,fun p hp=>(h.ways p hp).below hb hB⟩
theorem WLs.wide {lo' hi':Nat}{ls:List LP}(h:WLs W lo hi u ls)(hl:lo'<=lo)(hh:hi<=hi'):WLs W lo' hi' u ls:=
 ⟨Zaf h.row hl,fun k e=>YAB (h.top k e) hh,fun p hp=>(h.ways p hp).wide hl hh⟩
theorem WLs.cell {ls:List LP}(h:WLs W lo hi u ls){i:Nat}{p:LP}(hp:ls[i]? = some p):∃ g cap,u=.slice (some (U g 0)) ls.length cap/\W.cell? (U g i)=some p.1/\g<hi/\g<W.heap.size:=by
 have hi':i<ls.length:=(YAD.1 hp).1;rcases h.row.2 with ⟨_,e⟩ | ⟨g,cap,cur,hv,_⟩
 ·omega
 ·refine ⟨g,cap,hv,?_,h.top g (by rw [hv];rfl),(h.row.lt g (by rw [hv];rfl)).2⟩;have:=World.ownsRow.cellAt (by rw [<-hv];exact h.row) i (by omega);rw [this];have e:=Zca Zg0 ls i 0 p hp (by omega);simpa [Zi5] using e
theorem WLs.push {Wa W2:World}{u':Value}{ls:List LP}{p:LP}(h:WLs W lo W.heap.size u ls)(hb:T_ W Wa)(hp:WaysOwn Wa lo Wa.heap.size p.1 p.2)
  (row:W2.ownsRow lo 187 1 u' (ls.length+1) (flat Zi5 (ls++[p]))) (hg:Wa.grownBy W2 u.ownBlock):WLs W2 lo W2.heap.size u' (ls++[p]):=by
 have rowa:=Zad h.row hb (YA _);have hk:∀ (k:Nat) (cs:Array Value) (t:TypeId) (fr:Nat × Nat),Wa.heap[k]? = some (.cells cs t fr)->t≠187->W2.heap[k]? = Wa.heap[k]? := fun k cs t fr hk ht=>hg.block k (Zab hk) (Zaq rowa hk (fun e=>ht e.symm));refine⟨by simpa using row,fun k e=>(row.lt k e).2,fun q hq=>?_⟩;rcases YAF.1 hq with h1 | h1
 ·exact (((h.ways q h1).below hb (YA _)).typed (by decide) (by decide) hk).wide (YA _) (YAG hb.size hg.size)
 ·have:q=p:=by simpa using h1
  subst this;exact (hp.typed (by decide) (by decide) hk).wide (YA _) hg.size
theorem Tryz.infoI :(Tryz.prog.info? 28).map (fun i=>(i.zero,i.size,i.bytes))=some (some (.slice none 0 0),1,24):=by kernel_rfl
theorem Tryz.infoBl :(Tryz.prog.info? 4).map (fun i=>(i.zero,i.size,i.bytes))=some (some (.bool false),1,1):=by kernel_rfl
theorem drewB {w:World}(h:Below B w W):Below B w W.drew:=h.trans ⟨rfl,rfl,rfl,YA _,fun _ _=>rfl⟩
theorem Ze0 (n:Nat)(w:World):T_ w (w.drewN n):=⟨rfl,rfl,rfl,YA _,fun _ _=>rfl⟩
theorem SSt.grow {g b n:Nat}{o:Nat->Nat->Int}{F:Nat->Bool}{hv:Nat->Value}{xs:List Value}(s:SSt W g b o F c h hv)(hr:W.ownsRow lo 193 3 u n xs)(hk:∀ k,k<W.heap.size->some k≠u.ownBlock->W'.heap[k]? = W.heap[k]?):SSt W' g b o F c h hv:=
 ⟨s.gb,(hk g (Zab s.ln) (Zaq hr s.ln (by decide))).trans s.ln,(hk b (Zab s.cs) (Zaq hr s.cs (by decide))).trans s.cs,(hk (b+1) (Zab s.hs) (Zaq hr s.hs (by decide))).trans s.hs,(hk (b+1+1) (Zab s.ds) (Zaq hr s.ds (by decide))).trans s.ds,fun v=>Zal (s.rows v) (fun k hk2=>hk k ((s.rows v).lt k hk2).2 (by
  rcases (s.rows v).2 with ⟨e1,_⟩ | ⟨g2,cap,cur,e1,_,hh,_⟩
  ·rw [e1] at hk2;cases hk2
  ·rw [e1] at hk2;simp [Value.ownBlock] at hk2;subst hk2;exact Zaq hr hh (by decide))),s.short⟩
theorem Zfr (v:Value)(ps:List RP)(hi:Nat)(area src:Int)(w:World)(hv:RecsIn w hi v ps)(hhi:hi<=w.heap.size)(hn:tot ps<=1048576):
  Calls Tryz.prog 195 #[v,M area,M src] w fun e w'=>∃ u qs,e=.returned u/\Zbn (fsts ps) area src (Zag qs)/\WaysOwn w' w.heap.size w'.heap.size u qs/\T_ w w':=by
 obtain⟨a1,c1,rfl⟩:=Zac hv.row;have BW0:T_ w (w.alloc (.cells #[] 193)):=(YAC _ _).alloc (YA _) _;have WO0:=Zf0 w w.heap.size (YA _);have hs0:(w.alloc (.cells #[] 193)).heap.size=w.heap.size+1:=by simp
 obtain⟨w0,hw0⟩:∃ W,W=w.alloc (.cells #[] 193):=⟨_,rfl⟩;rw [<-hw0] at BW0 WO0 hs0;have hv0:=hv.below BW0 hhi;have hh0:hi<=w0.heap.size:=by omega
 have HN:=hide (fun W (hb:T_ w0 W)=>ZhF (.slice a1 ps.length c1) ps hi area src W (hv0.below hb hh0) (YAG hh0 hb.size) hn);have HS:=hide (fun W (hb:T_ w0 W)=>Zdx (.slice a1 ps.length c1) ps W hn (ZbG.more ((hv0.below hb hh0).at) (YAG hh0 hb.size)));have HL:=hide (fun W (hb:T_ w0 W)=>ZnU (.slice a1 ps.length c1) ps hi area W (hv0.below hb hh0) (YAG hh0 hb.size) hn);have WO:=hide WO0;clear hv hv0 WO0;obtain⟨D,hD⟩:∃ D,D=ZcC (fsts ps) area src:=⟨_,rfl⟩;obtain⟨NB,hNB⟩:∃ b,b=Zhj (fsts ps) area src:=⟨_,rfl⟩;obtain⟨SB,hSB⟩:∃ b,b=ZaA (fsts ps):=⟨_,rfl⟩;obtain⟨IB,hIB⟩:∃ b,b=inB src 1 6:=⟨_,rfl⟩;rw [<-hD, <-hNB] at HN;rw [<-hSB] at HS;have HNB:=hide hNB;have HSB:=hide hSB;have HIB:=hide hIB;clear hD hNB hSB hIB;unfold recC at HN
 go_enter Tryz.func195,Tryz.ntmps195
 go_wp2_with fail
 rw [<-hw0];clear hw0;refine (HN _ (YAC _ _)).mono ?_;rintro e w1 ⟨u,rfl,hu,hul,b1⟩;obtain⟨ua,uc,rfl⟩:=ZaG.shape hu;have BX:T_ w0 (w1.alloc (.cells #[M D.area,M D.kind,M D.owner,M D.key,M D.seq,.slice ua D.near.length uc,M D.cost,.bool D.far] 39)):=b1.alloc b1.size _;obtain⟨w2,hw2⟩:∃ W,W=w1.alloc (.cells #[M D.area,M D.kind,M D.owner,M D.key,M D.seq,.slice ua D.near.length uc,M D.cost,.bool D.far] 39):=⟨_,rfl⟩;rw [<-hw2] at BX;clear hu hul HN
 go_wp2_with fail
 rw [<-hw2];clear hw2 b1;refine (HS _ BX).mono ?_;rintro e w3 ⟨rfl,b3⟩;have B3:T_ w0 w3:=BX.trans (b3.mono BX.size);have B3w:T_ w w3:=BW0.trans (B3.mono (by omega));have EMP:=hide (fun (e:(SB&&IB&&NB)=false)=>show Zbn (fsts ps) area src (Zag []) by unfold Zbn;rw [<-HSB.out, <-HIB.out, <-HNB.out,e];rfl);have WO3:=hide ((WO.out.below B3 (YA _)).wide (YA _) B3.size);clear HS b3;cases SB
 ·go_wp2;go_ret;exact⟨_,[],rfl,EMP rfl,WO3,B3w⟩
 ·go_wp2_with fail
  refine (ZbS _ _ _ _).mono ?_;rintro e w4 ⟨rfl,rfl⟩;rw [<-HIB.out];cases IB
  ·go_wp2;go_ret;exact⟨_,[],rfl,EMP rfl,WO3,B3w⟩
  ·cases NB
   ·go_wp2;go_ret;exact⟨_,[],rfl,EMP rfl,WO3,B3w⟩
   ·go_wp2_with fail
    refine (HL _ B3).mono ?_;rintro e w4 ⟨o,rfl,hg,ho,b4⟩;obtain⟨s,rfl⟩:∃ s:Nat,src=(s:Int):=⟨src.toNat,by have:=Zeg.1 HIB.out.symm;omega⟩;have hs6:=Zeg.1 HIB.out.symm;have hs1:1<=s:=by omega
    have hs7:s<=6:=by omega
    have HLK:=hide (Zff (area:=area) HSB.out.symm);have HO:=hide (show ∀ u v,1<=u->u<=6->1<=v->v<=6->o u v=Zei (fsts ps) area u v by
     intro u v h1 h2 h3 h4;rw [ho u v h1 h2 h3 h4];unfold Zei;rw [if_pos ⟨⟨h1,h2⟩,h3,h4⟩])
    have FIN:=hide (fun c h (hf:Fix (Zei (fsts ps) area) s c h)=>show Zbn (fsts ps) area (s:Int) (Zdb c h 6) by
     unfold Zbn;rw [<-HSB.out, <-HIB.out, <-HNB.out];exact⟨c,h,by simpa using hf,rfl⟩)
    obtain⟨L,hLL⟩:∃ L,L=Zei (fsts ps) area:=⟨_,rfl⟩;rw [<-hLL] at HLK HO FIN;clear hLL ho EMP HSB HIB HNB;obtain⟨g,hgg⟩:∃ g,g=w3.heap.size:=⟨_,rfl⟩;rw [<-hgg] at hg |-;have B4:T_ w0 w4:=B3.trans (b4.mono B3.size);have S5:=SSt.start hg;have B5:T_ w0 (((w4.alloc (.cells (rowA (fun _=>M 0) 7) 3)).alloc (.cells (rowA (fun _=>.slice none 0 0) 7) 28)).alloc (.cells (rowA (fun _=>.bool false) 7) 4)):=((B4.alloc B4.size _).alloc (by have:=B4.size;simp;omega) _).alloc (by have:=B4.size;simp;omega) _;have hb4:=B4.size;have hgz:w0.heap.size<=g:=by rw [hgg];exact B3.size
    clear b4 B3 B3w WO3 hg BX hgg HL
    go_wp2_with (first | (at_make;first | refine Zcc _ rfl _ _ 28 rfl 3 (M 0) 8 Tryz.underlying28 Tryz.info3 rfl 7 rfl rfl (by omega) (by omega) ?_ | refine Zcc _ rfl _ _ 269 rfl 28 (.slice none 0 0) 24 Tryz.underlying269 Tryz.infoI rfl 7 rfl rfl (by omega) (by omega) ?_ | refine Zcc _ rfl _ _ 46 rfl 4 (.bool false) 1 Tryz.underlying46 Tryz.infoBl rfl 7 rfl rfl (by omega) (by omega) ?_))
    generalize (((w4.alloc (.cells (rowA (fun _=>M 0) 7) 3)).alloc (.cells (rowA (fun _=>.slice none 0 0) 7) 28)).alloc (.cells (rowA (fun _=>.bool false) 7) 4))=w5 at *;obtain⟨b,hb⟩:∃ b,b=w4.heap.size:=⟨_,rfl⟩;go_wp2;rw [<-hb] at S5 hb4 |-;clear hb B4;have HS5:=hide S5;clear S5
    go_loopw [14] (fun i wr=>∃ k:Nat,1<=k/\k<=7/\i=M (k:Int)/\SSt wr g b o (fun _=>false) (fun v=>if v<k then -1 else 0) (fun _=>[]) (fun _=>.slice none 0 0)/\T_ w0 wr) (fun i _=>8-(intOf i).toNat)
    case atStart=>exact ⟨1,by omega,by omega,rfl,HS5.out.congr (fun v h1 h2=>by rw [if_neg (by omega)]),B5⟩
    case round=>
     rename World=>wa
     obtain⟨k,hk1,hk,rfl,hst,hnx⟩:=hrel;have HST:=hide hst;clear hst HS5 B5;by_cases hlt:k<7
     ·have hk6:(k:Int)<=6:=by omega
      have hj1:(0:Int)<=(k:Int):=by omega
      have hj2:(k:Int)<7:=by omega
      obtain⟨x1,d1⟩:∃ x,wa.cell? (U b k)=some (M x):=⟨_,HST.out.cost (v:=k) (by omega) (by omega)⟩;have f1:=Zae HST.out.cs;have S6:=hide ((HST.out.setC (v:=k) (by omega) (-1)).congr (d:=fun v=>if v<k+1 then -1 else 0) (fun v h1 h2=>by
       show (if v<k+1 then (-1:Int) else 0)=if v=k then -1 else if v<k then -1 else 0
       by_cases e:v=k
       ·rw [if_pos e,if_pos (by omega)]
       ·rw [if_neg e];by_cases e2:v<k
        ·rw [if_pos e2,if_pos (by omega)]
        ·rw [if_neg (by omega),if_neg (by omega)]))
      have B6:=hide (hnx.setCell (p:=(U b k)) (by show w0.heap.size<=b;omega) (M (-1)));go_wp2;go_roundw
      case rel=>exact ⟨k+1,by omega,by omega,by go_num,S6,B6⟩
      case measure=>exact MS_
     ·have hk6:¬(k:Int)<=6:=by omega
      have hkk:k=7:=by omega
      subst hkk;obtain⟨x1,d1⟩:∃ x,wa.cell? (U b s)=some (M x):=⟨_,HST.out.cost (v:=s) (by omega) (by omega)⟩;have f1:=Zae HST.out.cs;have hj1:(0:Int)<=(s:Int):=by omega
      have hj2:(s:Int)<7:=by omega
      have S6:=hide ((HST.out.setC (v:=s) (by omega) 0).congr (d:=fun v=>if v=s then 0 else -1) (fun v h1 h2=>by
       show (if v=s then (0:Int) else -1)=if v=s then 0 else if v<7 then -1 else 0
       by_cases e:v=s
       ·rw [if_pos e,if_pos e]
       ·rw [if_neg e,if_neg e,if_pos (by omega)]))
      have B6:=hide (hnx.setCell (p:=(U b s)) (by show w0.heap.size<=b;omega) (M 0));go_wp2;generalize wa.setCell (U b s) (M 0)=w6 at *;clear HST d1 f1 hnx hk6
      go_loopw [15] (fun i wr=>∃ (r:Nat) (F:Nat->Bool) (c:Nat->Int) (h:Nat->List Int) (hv:Nat->Value),1<=r/\r<=7/\i=M (r:Int)/\Hid (SSt wr g b o F c h hv)/\Hid (AtRound L s F c h r)/\T_ w0 wr) (fun i _=>8-(intOf i).toNat)
      case atStart=>exact ⟨1,_,_,_,_,by omega,by omega,rfl,S6,hide (AtRound.init ⟨hs1,hs7⟩),B6⟩
      case round=>
       rename World=>wb
       obtain⟨r,F,c,h,hv,hr1,hr7,rfl,HS,HA,hnx⟩:=hrel;clear S6 B6;by_cases hrl:r<7
       ·have hr6:(r:Int)<=6:=by omega
        go_wp2
        go_loopw [17,16] (fun i a' wr=>∃ (v a:Nat),1<=v/\v<=7/\a<=6/\i=M (v:Int)/\a'=M (a:Int)/\Hid (ZkV F c v a)/\Hid (SSt wr g b o F c h hv)/\T_ w0 wr) (fun i _ _=>8-(intOf i).toNat)
        case atStart=>exact ⟨1,0,by omega,by omega,by omega,rfl,rfl,hide (.inl ⟨rfl,fun x h1 h2=>by omega⟩),HS,hnx⟩
        case round=>
         rename World=>wc
         obtain⟨v,a,hv1,hv7,ha6,rfl,rfl,HM,HSc,hnc⟩:=hrel;clear HS hnx;by_cases hvl:v<7
         ·have hv6:(v:Int)<=6:=by omega
          have hvi:(0:Int)<=(v:Int):=by omega
          have hvj:(v:Int)<7:=by omega
          have dd:=HSc.out.done (v:=v) (by omega);have dc:=HSc.out.cost (v:=v) hv1 (by omega);have SB:=hide (fun W (hb:T_ wc W)=>HSc.out.below hb);obtain⟨x,hx⟩:∃ x,x=c v:=⟨_,rfl⟩;rw [<-hx] at dc;have HX:=hide hx;clear hx;cases hF:F v with
          | true=>
           rw [hF] at dd;have HM2:=hide (Zgb HM (.inl hF));clear HSc;go_wp2
           go_quiet (fail)
           go_wp2;go_roundw
           case rel=>exact ⟨v+1,a,by omega,by omega,ha6,by go_num,rfl,HM2,hide (SB _ (Ze0 _ _)),hnc.trans ((Ze0 _ _).mono hnc.size)⟩
           case measure=>exact MS_
          | false=>
           rw [hF] at dd;by_cases hx0:0<=x
           ·by_cases ha:a=0
            ·subst ha;have HM2:=hide (Zip HM hv1 hF (by rw [<-HX.out];exact hx0) (.inl rfl));clear HSc;go_wp2
             go_quiet (fail)
             go_wp2;go_roundw
             case rel=>exact ⟨v+1,v,by omega,by omega,by omega,by go_num,rfl,HM2,hide (SB _ (Ze0 _ _)),hnc.trans ((Ze0 _ _).mono hnc.size)⟩
             case measure=>exact MS_
            ·obtain ⟨y,hy⟩:∃ y,y=c a:=⟨_,rfl⟩;have da:=HSc.out.cost (v:=a) (by omega) ha6;rw [<-hy] at da;have HY:=hide hy;have hai:(0:Int)<=(a:Int):=by omega
             have haj:(a:Int)<7:=by omega
             have hane:((a:Int)==0)=false:=by simpa using (show ¬(a:Int)=0 by omega)
             have hane2:¬(a:Int)=0:=by omega
             clear hy HSc;by_cases hxy:x<y
             ·have HM2:=hide (Zip HM hv1 hF (by rw [<-HX.out];exact hx0) (.inr (by rw [<-HX.out, <-HY.out];exact hxy)));go_wp2
              go_quiet (fail)
              go_wp2;go_roundw
              case rel=>exact ⟨v+1,v,by omega,by omega,by omega,by go_num,rfl,HM2,hide (SB _ (Ze0 _ _)),hnc.trans ((Ze0 _ _).mono hnc.size)⟩
              case measure=>exact MS_
             ·have HM2:=hide (Zgb HM (.inr (.inr ⟨by omega,by rw [<-HX.out, <-HY.out];omega⟩)));go_wp2
              go_quiet (fail)
              go_wp2;go_roundw
              case rel=>exact ⟨v+1,a,by omega,by omega,ha6,by go_num,rfl,HM2,hide (SB _ (Ze0 _ _)),hnc.trans ((Ze0 _ _).mono hnc.size)⟩
              case measure=>exact MS_
           ·have HM2:=hide (Zgb HM (.inr (.inl (by rw [<-HX.out];omega))));have hxd:decide (0<=x)=false:=by simpa using hx0
            have hxe:decide (x>=0)=false:=by simpa using hx0
            clear HSc;go_wp2
            go_quiet (fail)
            go_wp2;go_roundw
            case rel=>exact ⟨v+1,a,by omega,by omega,ha6,by go_num,rfl,HM2,hide (SB _ (Ze0 _ _)),hnc.trans ((Ze0 _ _).mono hnc.size)⟩
            case measure=>exact MS_
         ·have hv6:¬(v:Int)<=6:=by omega
          have hvv:v=7:=by omega
          subst hvv;by_cases ha:a=0
          ·subst ha;have HA2:=hide (HA.out.none HM);go_wp2;go_roundw
           case rel=>exact ⟨7,F,c,h,hv,by omega,by omega,by go_num,HSc,HA2,hnc⟩
           case measure=>exact MS_
          ·have HMA:=HM.out;have hm2:1<=a/\a<7/\F a=false/\0<=c a:=by
            rcases HMA with ⟨h1,_⟩ | ⟨h1,h2,h3,h4,_⟩
            ·exact absurd h1 ha
            ·exact ⟨h1,h2,h3,h4⟩
           have hai:(0:Int)<=(a:Int):=by omega
           have haj:(a:Int)<7:=by omega
           have hane:((a:Int)==0)=false:=by
            have h1:¬(a:Int)=0:=by omega
            simpa using h1
           have hane2:¬(a:Int)=0:=by omega
           have dd:=HSc.out.done (v:=a) ha6;have fd:=Zae HSc.out.ds;have SD:=hide (HSc.out.setD a);have BD:=hide (hnc.setCell (p:=(U (b+1+1) a)) (by show w0.heap.size<=b+1+1;omega) (.bool true));have HFa:=hide hm2.2.2.1;have hca:=hm2.2.2.2;have HAN:=hide (HA.out.next HLK hrl HM (by omega));have hcb:=HA.out.bnd a;have hcard:Zcn F<=5:=by
            have h1:=Zez (F:=F) (u:=a) ⟨by omega,by omega⟩ hm2.2.2.1;have h2:=ZiX (fun v=>F v||v==a);omega
           have hcb2:c a<=5000:=by omega
           clear HMA HM hm2 hcb hcard;go_wp2;generalize wc.setCell (U (b+1+1) a) (.bool true)=wd at *;clear dd fd HSc hnc
           go_loopw [18] (fun i wr=>∃ (v:Nat) (hw:Nat->Value),1<=v/\v<=7/\i=M (v:Int)/\Hid (SSt wr g b o (fun x=>F x||x==a) (mixC L c a v) (mixH L s c h a v) hw)/\T_ w0 wr) (fun i _=>8-(intOf i).toNat)
           case atStart=>exact ⟨1,hv,by omega,by omega,rfl,hide (by rw [Zmw HLK.out,Zmy HLK.out];exact SD),BD⟩
           case round=>
            rename World=>we
            obtain⟨v,hw,hv1,hv7,rfl,HSe,hne⟩:=hrel;clear SD BD;by_cases hvl:v<7
            ·have hv6:(v:Int)<=6:=by omega
             have hvi:(0:Int)<=(v:Int):=by omega
             have hvj:(v:Int)<7:=by omega
             have hm1:IntKind.i64.wrap ((a:Int)*7)=((a*7:Nat):Int):=by rw [ZaN _ (by omega) (by omega)];omega
             have hm2:IntKind.i64.wrap (((a*7:Nat):Int)+(v:Int))=((a*7+v:Nat):Int):=by rw [ZaN _ (by omega) (by omega)];omega
             have hm3:(0:Int)<=((a*7+v:Nat):Int):=by omega
             have hm4:((a*7+v:Nat):Int)<49:=by omega
             have dl:=HSe.out.link (u:=a) (v:=v) ha6 (by omega);have dd:=HSe.out.done (v:=v) (by omega);have dcv:=HSe.out.cost (v:=v) hv1 (by omega);have dca:=HSe.out.cost (v:=a) (by omega) ha6;have dhv:=HSe.out.hop (v:=v) (by omega);have dha:=HSe.out.hop (v:=a) ha6;rw [HO.out a v (by omega) ha6 hv1 (by omega)] at dl;rw [ZdJ] at dcv;rw [Zo7 hca] at dca;have RV:=HSe.out.rows v;have RA:=HSe.out.rows a;rw [ZfO] at RV;rw [ZlF hca] at RA;have hlv:(h v).length<=6:=by have:=HSe.out.short v;rw [ZfO] at this;exact this
             have hla:(h a).length<=6:=by have:=HSe.out.short a;rw [ZlF hca] at this;exact this
             obtain⟨pv,qv,epv⟩:=Zac RV;obtain⟨pa,qa,epa⟩:=Zac RA;rw [epv] at dhv RV;rw [epa] at dha RA;have hsz:=HSe.out.size;have hgb:=HSe.out.gb;have HRV:=hide RV;have HRA:=hide RA;clear RV RA epv epa;have hl0:=HLK.out.pos a v;have hl1:=HLK.out.le a v;obtain⟨lk,hlk⟩:∃ x,x=L a v:=⟨_,rfl⟩;obtain⟨fd,hfd⟩:∃ x,x=(F v||v==a):=⟨_,rfl⟩;obtain⟨cv,hcv⟩:∃ x,x=c v:=⟨_,rfl⟩;obtain⟨ca,hcae⟩:∃ x,x=c a:=⟨_,rfl⟩;rw [<-hlk] at dl hl0 hl1;rw [<-hfd] at dd;rw [<-hcv] at dcv;rw [<-hcae] at dca;have hca':0<=ca:=by rw [hcae];exact hca
             have hca5:ca<=5000:=by rw [hcae];exact hcb2
             have HLk:=hide hlk;have HFd:=hide hfd;have HCv:=hide hcv;have HCa:=hide hcae;clear hlk hfd hcv hcae;have KEEP:=hide (fun (hk:ZbK L s c h a v=h v/\ZaC L c a v=c v)=>show SSt we g b o (fun x=>F x||x==a) (mixC L c a (v+1)) (mixH L s c h a (v+1)) hw by rw [Zde hk.2,ZfN hk.1];exact HSe);by_cases hlz:lk=0
             ·have HK:=hide (KEEP (Zfn (by rw [<-HLk.out];omega)));subst hlz;clear KEEP HSe;go_wp2;go_roundw
              case rel=>exact ⟨v+1,hw,by omega,by omega,by go_num,HK,hne⟩
              case measure=>exact MS_
             ·have hlb:(lk==0)=false:=by simpa using hlz
              have hlp:0<lk:=by omega
              cases fd
              ·have hw9:IntKind.i64.wrap (ca+lk)=ca+lk:=ZaN _ (by omega) (by omega);have hgl:g<we.heap.size:=by omega
               have hbl:b<we.heap.size:=by omega
               have hbl1:b+1<we.heap.size:=by omega
               have hbl2:b+1+1<we.heap.size:=by omega
               by_cases has:a=s
               ·subst has;have hnw:we.heap.size<(we.alloc (.cells #[M (v:Int)] 3)).heap.size:=by simp
                have S0:=HSe.out.below ((YAC we.heap.size we).alloc (YA _) (.cells #[M (v:Int)] 3));have RW:(we.alloc (.cells #[M (v:Int)] 3)).ownsRow (b+3) 3 1 (.slice (some (U we.heap.size 0)) 1 1) [(v:Int)].length (flat intE [(v:Int)]):=YAe we #[M (v:Int)] 1 hsz (by unfold maxLen;omega) (by simp);have RV0:=Zad HRV ((YAC we.heap.size we).alloc (YA _) (.cells #[M (v:Int)] 3)) (YA _);have BW:T_ w0 (we.alloc (.cells #[M (v:Int)] 3)):=hne.alloc hne.size _;have hwl:wayL a h a v=[(v:Int)]:=by unfold wayL;rw [if_pos rfl]
                have HWL:=hide hwl;have HS0:=hide S0;have HRW:=hide RW;have HRV0:=hide RV0;have HBW:=hide BW;clear S0 RW RV0 BW hwl;by_cases hc0:cv<0
                ·have hrx:=Zdj (L:=L) (src:=a) (c:=c) (h:=h) (u:=a) (v:=v) (by rw [<-HLk.out];exact hlp) (by rw [<-HCv.out];exact .inl hc0);rw [HWL.out, <-HCa.out, <-HLk.out] at hrx;have HRX:=hide hrx;have ez:(we.setCell (U b v) (M (ca+lk))).heap.size=we.heap.size:=by simp
                 have S1:=((HSe.out.setC (v:=v) hv1 (ca+lk)).below ((YAC _ _).alloc (YA _) (.cells #[M (v:Int)] 3))).below ((YAC _ _).alloc (YA _) (.cells #[] 3));have RWx:((we.setCell (U b v) (M (ca+lk))).alloc (.cells #[M (v:Int)] 3)).ownsRow (b+3) 3 1 (.slice (some (U ((we.setCell (U b v) (M (ca+lk))).heap.size) 0)) 1 1) [(v:Int)].length (flat intE [(v:Int)]):=YAe _ #[M (v:Int)] 1 (by rw [ez];exact hsz) (by unfold maxLen;omega) (by simp);rw [ez] at RWx;have R1:=Za9 (Zad RWx ((YAC _ _).alloc (YA _) (.cells #[] 3)) (YA _));have R0:ZaI (((we.setCell (U b v) (M (ca+lk))).alloc (.cells #[M (v:Int)] 3)).alloc (.cells #[] 3)) (.slice (some (U (we.heap.size+1) 0)) 0 0) [] (((we.setCell (U b v) (M (ca+lk))).alloc (.cells #[M (v:Int)] 3)).alloc (.cells #[] 3)).heap.size:=Za9 (Zdw _ _ 0 (by simp) (Nat.zero_le _));have HAD:=hide (ZbU _ _ [] [(v:Int)] _ (by simp) (by simp) R0 R1);have B1:T_ w0 (((we.setCell (U b v) (M (ca+lk))).alloc (.cells #[M (v:Int)] 3)).alloc (.cells #[] 3)):=(((hne.setCell (p:=(U b v)) (by show w0.heap.size<=b;omega) _).alloc (by have:=hne.size;simp;omega) _).alloc (by have:=hne.size;simp;omega) _);clear RWx;have HS1:=hide S1;have HB1:=hide B1;have fc:=Zae HSe.out.cs;clear hrx S1 R1 R0 B1 KEEP HSe HS0 HRW HRV0 HBW
                 go_wp2_with fail
                 refine HAD.out.mono ?_;rintro e w7 ⟨x,rfl,hox,b7⟩;obtain⟨xa,xc,rfl⟩:=Zac hox;have S7:=HS1.out.below b7;have B7:T_ w0 w7:=HB1.out.trans (b7.mono HB1.out.size);have d7:=S7.hop (v:=v) (by omega);have f7:=Zae S7.hs;have S8:=hide (S7.setH v (Zaf hox HS1.out.size) (ZcP _ _));have B8:=hide (B7.setCell (p:=(U (b+1) v)) (by show w0.heap.size<=b+1;omega) (.slice xa (addL [] [(v:Int)]).length xc));clear S7 B7 hox b7 HAD;go_wp2;go_roundw
                 case rel=>exact ⟨v+1,_,by omega,by omega,by go_num,hide (by rw [ZdK,Zcp,HRX.out.1,HRX.out.2];exact S8),B8⟩
                 case measure=>exact MS_
                ·have hc0':0<=cv:=by omega
                 by_cases hcl:ca+lk<cv
                 ·have hrx:=Zdj (L:=L) (src:=a) (c:=c) (h:=h) (u:=a) (v:=v) (by rw [<-HLk.out];exact hlp) (by rw [<-HCv.out, <-HCa.out, <-HLk.out];exact .inr hcl);rw [HWL.out, <-HCa.out, <-HLk.out] at hrx;have HRX:=hide hrx;have ez:(we.setCell (U b v) (M (ca+lk))).heap.size=we.heap.size:=by simp
                  have S1:=((HSe.out.setC (v:=v) hv1 (ca+lk)).below ((YAC _ _).alloc (YA _) (.cells #[M (v:Int)] 3))).below ((YAC _ _).alloc (YA _) (.cells #[] 3));have RWx:((we.setCell (U b v) (M (ca+lk))).alloc (.cells #[M (v:Int)] 3)).ownsRow (b+3) 3 1 (.slice (some (U ((we.setCell (U b v) (M (ca+lk))).heap.size) 0)) 1 1) [(v:Int)].length (flat intE [(v:Int)]):=YAe _ #[M (v:Int)] 1 (by rw [ez];exact hsz) (by unfold maxLen;omega) (by simp);rw [ez] at RWx;have R1:=Za9 (Zad RWx ((YAC _ _).alloc (YA _) (.cells #[] 3)) (YA _));have R0:ZaI (((we.setCell (U b v) (M (ca+lk))).alloc (.cells #[M (v:Int)] 3)).alloc (.cells #[] 3)) (.slice (some (U (we.heap.size+1) 0)) 0 0) [] (((we.setCell (U b v) (M (ca+lk))).alloc (.cells #[M (v:Int)] 3)).alloc (.cells #[] 3)).heap.size:=Za9 (Zdw _ _ 0 (by simp) (Nat.zero_le _));have HAD:=hide (ZbU _ _ [] [(v:Int)] _ (by simp) (by simp) R0 R1);have B1:T_ w0 (((we.setCell (U b v) (M (ca+lk))).alloc (.cells #[M (v:Int)] 3)).alloc (.cells #[] 3)):=(((hne.setCell (p:=(U b v)) (by show w0.heap.size<=b;omega) _).alloc (by have:=hne.size;simp;omega) _).alloc (by have:=hne.size;simp;omega) _);clear RWx;have HS1:=hide S1;have HB1:=hide B1;have fc:=Zae HSe.out.cs;clear hrx S1 R1 R0 B1 KEEP HSe HS0 HRW HRV0 HBW
                  go_wp2_with fail
                  refine HAD.out.mono ?_;rintro e w7 ⟨x,rfl,hox,b7⟩;obtain⟨xa,xc,rfl⟩:=Zac hox;have S7:=HS1.out.below b7;have B7:T_ w0 w7:=HB1.out.trans (b7.mono HB1.out.size);have d7:=S7.hop (v:=v) (by omega);have f7:=Zae S7.hs;have S8:=hide (S7.setH v (Zaf hox HS1.out.size) (ZcP _ _));have B8:=hide (B7.setCell (p:=(U (b+1) v)) (by show w0.heap.size<=b+1;omega) (.slice xa (addL [] [(v:Int)]).length xc));clear S7 B7 hox b7 HAD;go_wp2;go_roundw
                  case rel=>exact ⟨v+1,_,by omega,by omega,by go_num,hide (by rw [ZdK,Zcp,HRX.out.1,HRX.out.2];exact S8),B8⟩
                  case measure=>exact MS_
                 ·by_cases hce:ca+lk=cv
                  ·have hrx:=Zfm (L:=L) (src:=a) (c:=c) (h:=h) (u:=a) (v:=v) (by rw [<-HLk.out];exact hlp) (by rw [<-HCv.out];exact hc0') (by rw [<-HCv.out, <-HCa.out, <-HLk.out];exact hce);rw [HWL.out] at hrx;have HRX:=hide hrx;have HAD:=hide (ZbU _ _ (h v) [(v:Int)] (we.alloc (.cells #[M (v:Int)] 3)) (by omega) (by simp) (Za9 HRV0) (Za9 HRW));have hceb:(ca+lk==cv)=true:=by simpa using hce
                   have hcln:¬ca+lk<cv:=hcl;have HCE:=hide hce;clear hrx KEEP hce HSe
                   go_wp2_with fail
                   refine HAD.out.mono ?_;rintro e w7 ⟨x,rfl,hox,b7⟩;obtain⟨xa,xc,rfl⟩:=Zac hox;have S7:=HS0.out.below b7;have B7:T_ w0 w7:=HBW.out.trans (b7.mono HBW.out.size);have d7:=S7.hop (v:=v) (by omega);have f7:=Zae S7.hs;have S8:=hide (S7.setH v (Zaf hox HS0.out.size) (ZcP _ _));have B8:=hide (B7.setCell (p:=(U (b+1) v)) (by show w0.heap.size<=b+1;omega) (.slice xa (addL (h v) [(v:Int)]).length xc));have HU:=hide (show mixC L c a (v+1)=mixC L c a v from Zde HRX.out.2);clear S7 B7 hox b7 HAD;go_wp2;go_roundw
                   case rel=>exact ⟨v+1,_,by omega,by omega,by go_num,hide (by rw [HU.out,Zcp,HRX.out.1];exact S8),B8⟩
                   case measure=>exact MS_
                  ·have hrx:=Zd3 (L:=L) (src:=a) (c:=c) (h:=h) (u:=a) (v:=v) (by rw [<-HCv.out];exact hc0') (by rw [<-HCv.out, <-HCa.out, <-HLk.out];omega);have HK:=hide (show SSt (we.alloc (.cells #[M (v:Int)] 3)) g b o (fun x=>F x||x==a) (mixC L c a (v+1)) (mixH L a c h a (v+1)) hw by rw [Zde hrx.2,ZfN hrx.1];exact HS0);have hceb:(ca+lk==cv)=false:=by simpa using hce
                   clear hrx KEEP;go_wp2;go_roundw
                   case rel=>exact ⟨v+1,hw,by omega,by omega,by go_num,HK,HBW⟩
                   case measure=>exact MS_
               ·have hasb:((a:Int)==(s:Int))=false:=by
                 have h1:¬(a:Int)=(s:Int):=by omega
                 simpa using h1
                have hasn:¬(a:Int)=(s:Int):=by omega
                have S0:=HSe.out;have RW:=HRA.out;have RV0:=HRV.out;have BW:=hne;have hwl:wayL s h a v=h a:=by unfold wayL;rw [if_neg has]
                have HWL:=hide hwl;have HS0:=hide S0;have HRW:=hide RW;have HRV0:=hide RV0;have HBW:=hide BW;clear S0 RW RV0 BW hwl;by_cases hc0:cv<0
                ·have hrx:=Zdj (L:=L) (src:=s) (c:=c) (h:=h) (u:=a) (v:=v) (by rw [<-HLk.out];exact hlp) (by rw [<-HCv.out];exact .inl hc0);rw [HWL.out, <-HCa.out, <-HLk.out] at hrx;have HRX:=hide hrx;have S1:=(HSe.out.setC (v:=v) hv1 (ca+lk)).below ((YAC _ _).alloc (YA _) (.cells #[] 3));have R1:=Za9 (Zad (Zbk (p:=b) (j:=v) (u:=M (ca+lk)) HRW (by omega)) ((YAC _ _).alloc (YA _) (.cells #[] 3)) (YA _));have R0:ZaI ((we.setCell (U b v) (M (ca+lk))).alloc (.cells #[] 3)) (.slice (some (U we.heap.size 0)) 0 0) [] ((we.setCell (U b v) (M (ca+lk))).alloc (.cells #[] 3)).heap.size:=Za9 (Zdw _ _ 0 (by simp) (Nat.zero_le _));have HAD:=hide (ZbU _ _ [] (h a) _ (by simp) (by omega) R0 R1);have B1:T_ w0 ((we.setCell (U b v) (M (ca+lk))).alloc (.cells #[] 3)):=((hne.setCell (p:=(U b v)) (by show w0.heap.size<=b;omega) _).alloc (by have:=hne.size;simp;omega) _);have HS1:=hide S1;have HB1:=hide B1;have fc:=Zae HSe.out.cs;clear hrx S1 R1 R0 B1 KEEP HSe HS0 HRW HRV0 HBW
                 go_wp2_with fail
                 refine HAD.out.mono ?_;rintro e w7 ⟨x,rfl,hox,b7⟩;obtain⟨xa,xc,rfl⟩:=Zac hox;have S7:=HS1.out.below b7;have B7:T_ w0 w7:=HB1.out.trans (b7.mono HB1.out.size);have d7:=S7.hop (v:=v) (by omega);have f7:=Zae S7.hs;have S8:=hide (S7.setH v (Zaf hox HS1.out.size) (ZcP _ _));have B8:=hide (B7.setCell (p:=(U (b+1) v)) (by show w0.heap.size<=b+1;omega) (.slice xa (addL [] (h a)).length xc));clear S7 B7 hox b7 HAD;go_wp2;go_roundw
                 case rel=>exact ⟨v+1,_,by omega,by omega,by go_num,hide (by rw [ZdK,Zcp,HRX.out.1,HRX.out.2];exact S8),B8⟩
                 case measure=>exact MS_
                ·have hc0':0<=cv:=by omega
                 by_cases hcl:ca+lk<cv
                 ·have hrx:=Zdj (L:=L) (src:=s) (c:=c) (h:=h) (u:=a) (v:=v) (by rw [<-HLk.out];exact hlp) (by rw [<-HCv.out, <-HCa.out, <-HLk.out];exact .inr hcl);rw [HWL.out, <-HCa.out, <-HLk.out] at hrx;have HRX:=hide hrx;have S1:=(HSe.out.setC (v:=v) hv1 (ca+lk)).below ((YAC _ _).alloc (YA _) (.cells #[] 3));have R1:=Za9 (Zad (Zbk (p:=b) (j:=v) (u:=M (ca+lk)) HRW (by omega)) ((YAC _ _).alloc (YA _) (.cells #[] 3)) (YA _));have R0:ZaI ((we.setCell (U b v) (M (ca+lk))).alloc (.cells #[] 3)) (.slice (some (U we.heap.size 0)) 0 0) [] ((we.setCell (U b v) (M (ca+lk))).alloc (.cells #[] 3)).heap.size:=Za9 (Zdw _ _ 0 (by simp) (Nat.zero_le _));have HAD:=hide (ZbU _ _ [] (h a) _ (by simp) (by omega) R0 R1);have B1:T_ w0 ((we.setCell (U b v) (M (ca+lk))).alloc (.cells #[] 3)):=((hne.setCell (p:=(U b v)) (by show w0.heap.size<=b;omega) _).alloc (by have:=hne.size;simp;omega) _);have HS1:=hide S1;have HB1:=hide B1;have fc:=Zae HSe.out.cs;clear hrx S1 R1 R0 B1 KEEP HSe HS0 HRW HRV0 HBW
                  go_wp2_with fail
                  refine HAD.out.mono ?_;rintro e w7 ⟨x,rfl,hox,b7⟩;obtain⟨xa,xc,rfl⟩:=Zac hox;have S7:=HS1.out.below b7;have B7:T_ w0 w7:=HB1.out.trans (b7.mono HB1.out.size);have d7:=S7.hop (v:=v) (by omega);have f7:=Zae S7.hs;have S8:=hide (S7.setH v (Zaf hox HS1.out.size) (ZcP _ _));have B8:=hide (B7.setCell (p:=(U (b+1) v)) (by show w0.heap.size<=b+1;omega) (.slice xa (addL [] (h a)).length xc));clear S7 B7 hox b7 HAD;go_wp2;go_roundw
                  case rel=>exact ⟨v+1,_,by omega,by omega,by go_num,hide (by rw [ZdK,Zcp,HRX.out.1,HRX.out.2];exact S8),B8⟩
                  case measure=>exact MS_
                 ·by_cases hce:ca+lk=cv
                  ·have hrx:=Zfm (L:=L) (src:=s) (c:=c) (h:=h) (u:=a) (v:=v) (by rw [<-HLk.out];exact hlp) (by rw [<-HCv.out];exact hc0') (by rw [<-HCv.out, <-HCa.out, <-HLk.out];exact hce);rw [HWL.out] at hrx;have HRX:=hide hrx;have HAD:=hide (ZbU _ _ (h v) (h a) we (by omega) (by omega) (Za9 HRV0) (Za9 HRW));have hceb:(ca+lk==cv)=true:=by simpa using hce
                   have hcln:¬ca+lk<cv:=hcl;have HCE:=hide hce;clear hrx KEEP hce HSe
                   go_wp2_with fail
                   refine HAD.out.mono ?_;rintro e w7 ⟨x,rfl,hox,b7⟩;obtain⟨xa,xc,rfl⟩:=Zac hox;have S7:=HS0.out.below b7;have B7:T_ w0 w7:=HBW.out.trans (b7.mono HBW.out.size);have d7:=S7.hop (v:=v) (by omega);have f7:=Zae S7.hs;have S8:=hide (S7.setH v (Zaf hox HS0.out.size) (ZcP _ _));have B8:=hide (B7.setCell (p:=(U (b+1) v)) (by show w0.heap.size<=b+1;omega) (.slice xa (addL (h v) (h a)).length xc));have HU:=hide (show mixC L c a (v+1)=mixC L c a v from Zde HRX.out.2);clear S7 B7 hox b7 HAD;go_wp2;go_roundw
                   case rel=>exact ⟨v+1,_,by omega,by omega,by go_num,hide (by rw [HU.out,Zcp,HRX.out.1];exact S8),B8⟩
                   case measure=>exact MS_
                  ·have hrx:=Zd3 (L:=L) (src:=s) (c:=c) (h:=h) (u:=a) (v:=v) (by rw [<-HCv.out];exact hc0') (by rw [<-HCv.out, <-HCa.out, <-HLk.out];omega);have HK:=hide (show SSt we g b o (fun x=>F x||x==a) (mixC L c a (v+1)) (mixH L s c h a (v+1)) hw by rw [Zde hrx.2,ZfN hrx.1];exact HS0);have hceb:(ca+lk==cv)=false:=by simpa using hce
                   clear hrx KEEP;go_wp2;go_roundw
                   case rel=>exact ⟨v+1,hw,by omega,by omega,by go_num,HK,HBW⟩
                   case measure=>exact MS_
              ·have HK:=hide (KEEP (by
                have h1:=HFd.out;have h2:F v=true\/v=a:=by
                 cases e:F v with
                 | true=>exact .inl rfl
                 | false=>rw [e] at h1;simp at h1;exact .inr h1
                rcases h2 with h2 | h2
                ·exact Zfl (HA.out.inv.fnode v h2).2 (HA.out.inv.mono v a h2 HFa hca)
                ·subst h2;exact Zfl hca (Int.le_refl _)))
               clear KEEP HSe;go_wp2;go_roundw
               case rel=>exact ⟨v+1,hw,by omega,by omega,by go_num,HK,hne⟩
               case measure=>exact MS_
            ·have hv6:¬(v:Int)<=6:=by omega
             have hvv:v=7:=by omega
             subst hvv;have S9:=HSe.out;rw [Zmv HLK.out,Zmx HLK.out] at S9;have HS9:=hide S9;clear S9;go_wp2;go_roundw
             case rel=>exact ⟨r+1,_,_,_,_,by omega,by omega,by go_num,HS9,HAN,hne⟩
             case measure=>exact MS_
       ·have hr6:¬(r:Int)<=6:=by omega
        have hrr:r=7:=by omega
        subst hrr;have hfin:=HA.out.fin;have HW5:=hide (FIN c h hfin.1);have HF5:=hide hfin.2;have BWB:T_ w wb:=BW0.trans (hnx.mono (by omega));have WOB:=hide ((WO.out.below hnx (YA _)).wide (YA _) hnx.size);clear hfin HA FIN WO hnx;go_wp2
        go_loopw [22,7] (fun i o' wr=>∃ (v:Nat) (qs:List WP) (u:Value),1<=v/\v<=7/\i=M (v:Int)/\o'=u/\Hid (Zag qs=Zdb c h (v-1))/\Hid (WaysOwn wr w.heap.size wr.heap.size u qs)/\Hid (SSt wr g b o F c h hv)/\T_ w wr) (fun i _ _=>8-(intOf i).toNat)
        case atStart=>exact ⟨1,[],_,by omega,by omega,rfl,rfl,hide rfl,WOB,HS,BWB⟩
        case round=>
         rename World=>wf
         obtain⟨v,qs,u,hv1,hv7,rfl,rfl,HQ,HWO,HSf,hnf⟩:=hrel;obtain⟨ua2,uc2,rfl⟩:=Zac HWO.out.row;clear HS WOB BWB;by_cases hvl:v<7
         ·have hv6:(v:Int)<=6:=by omega
          have hvi:(0:Int)<=(v:Int):=by omega
          have hvj:(v:Int)<7:=by omega
          have dd:=HSf.out.done (v:=v) (by omega);cases hF:F v with
          | false=>
           rw [hF] at dd;have HQ2:=hide (show Zag qs=Zdb c h (v+1-1) by
            rw [Nat.add_sub_cancel,ZfA c h hv1,if_neg (fun hc=>by have:=(HF5.out v).2 hc;rw [hF] at this;cases this),List.append_nil];exact HQ)
           go_wp2;go_roundw
           case rel=>exact ⟨v+1,qs,_,by omega,by omega,by go_num,rfl,HQ2,HWO,HSf,hnf⟩
           case measure=>exact MS_
          | true=>
           rw [hF] at dd;have hc0:=(HF5 v).1 hF;have hql:qs.length<=6:=by
            have h1:=congrArg List.length HQ;have h2:=Zme c h (v-1);simp only [Zag,List.length_map] at h1;omega
           go_wp2;refine wp_region_noPanic ?_;have SQ:SSt wf.drew g b o F c h hv:=HSf.out.below ⟨rfl,rfl,rfl,YA _,fun _ _=>rfl⟩;have d1:=SQ.cost (v:=v) hv1 (by omega);have d2:=SQ.hop (v:=v) (by omega);have RV:=SQ.rows v;have hlv:=SQ.short v;obtain⟨pv,qv,epv⟩:=Zac RV;rw [epv] at d2 RV;have WQ:WaysOwn wf.drew w.heap.size wf.drew.heap.size (.slice ua2 qs.length uc2) qs:=HWO.out.keep (fun _ _ _ _=>rfl);refine Zah (S:=fun W=>W.cell? (U b v)=some (M (c v))/\W.cell? (U (b+1) v)=some (.slice pv (h v).length qv)) (by kernel_rfl) 16 rfl ⟨d1,d2⟩ ?_;intro ops hops _;refine Zsv _ _ _ _ _ _ _ _ _ _ _ _ _ _ _ _ _ _ _ _ _ _ _ _ _ _ _ _ _ _ _ _ _ _ _ _ _ _ _ _ _ _ _ _ _ _ _ _ _ _ _ _ _ _ _ _ _ _ _ _ _ _ _ _ _ _ _ _ _ _ _ _ _ _ _ _ _ _ _ _ _ _ _ _ _ _ _ _ _ _ _ _ _ _ _ _ _ _ _ _ _ _ _ _ _ _ _ _ _ _ _ _ _ _ _ _ _ _ _ _ _ _ _ _ _ _ _ _ _ _ _ _ _ _ _ _ _ _ _ _ _ _ _ _ _ _ _ _ _ _ _ _ _ _ _ _ _ _ _ _ _ _ _ _ _ _ _ _ _ _ _ _ _ _ _ _ _ _ _ _ _ _ _ _ _ _ _ _ _ _ _ _ _ wf.drew w.heap.size b v (c v) (h v) pv qv ua2 uc2 qs _ _ _ ops hops (fun _ _ _ _ h=>h) (by omega) hlv hql hnf.size SQ.cs SQ.hs d1 d2 (Zaf RV (Nat.zero_le _)) WQ ?_;intro W4 xa xc na nc NN ow k4 B4;refine NoPanic.normal ?_;have HQ2:=hide (show Zag (qs++[(⟨(v:Int),c v,h v⟩,.slice na (h v).length nc)])=Zdb c h (v+1-1) by
            rw [Nat.add_sub_cancel,ZfA c h hv1,if_pos hc0, <-HQ.out];simp [Zag])
           have S4:=hide (SQ.grow WQ.row k4);have OW4:=hide ow;have B5:T_ w W4:=(drewB hnf).trans B4;clear ow k4 B4 hops ops d1 d2 RV WQ SQ HSf HWO;go_wp2;go_roundw
           case rel=>exact ⟨v+1,_,_,by omega,by omega,by go_num,rfl,HQ2,OW4,S4,B5⟩
           case measure=>exact MS_
         ·have hv6:¬(v:Int)<=6:=by omega
          have hvv:v=7:=by omega
          subst hvv;have HEND:=hide (show Zbn (fsts ps) area (s:Int) (Zag qs) by rw [HQ.out];exact HW5);go_wp2;go_ret;exact⟨_,rfl,qs,HEND,HWO,hnf⟩
theorem bdrM (n:Nat)(w:World):T_ w (w.drewN n):=⟨rfl,rfl,rfl,YA _,fun _ _=>rfl⟩
theorem bdr1 (w:World):T_ w w.drew:=⟨rfl,rfl,rfl,YA _,fun _ _=>rfl⟩
def ZjL (W:World)(lo z:Nat)(u:Value)(n:Nat)(q:Nat->Nat)(bp:Nat->Option Nat)(wd:Nat->WayD)(wv:Nat->Value)(t:Nat)(x:WayD)(v:Value)(k:Nat)(W':World):Prop:=
 Below lo W W'/\(((bp t=none\/∃ kn,bp t=some kn/\x.cost<(wd kn).cost)/\∃ u' q',FS W' lo z u' (n+1) q' (upd bp t (some k)) (upd wd k x) (upd wv k v)/\Shuf (fun y=>if y=n then k else q y) q' (n+1))
  \/ (∃ kn vy,bp t=some kn/\¬x.cost<(wd kn).cost/\FS W' lo z u n q bp (upd wd kn (togI (wd kn) x)) (upd wv kn vy)))
theorem Zkb (W:World)(lo z:Nat)(u:Value)(n:Nat)(q:Nat->Nat)(bp:Nat->Option Nat)(wd:Nat->WayD)(wv:Nat->Value)(t:Nat)(x:WayD)(v:Value)(s:FS W lo z u n q bp wd wv)(hn:n<=500)(ht:1<=t/\t<=6)(hx:x.to=(t:Int))(hrow:W.ownsRow lo 3 1 v x.hops.length (flat intE x.hops))(hxl:x.hops.length<=6)
  (hfr:∀ v' k' b,bp v'=some k'->(wv k').ownBlock=some b->v.ownBlock≠some b) (hjl:∀ kn,bp t=some kn->¬x.cost<(wd kn).cost->(togI (wd kn) x).hops.length<=6/\(togI (wd kn) x).cost=(wd kn).cost/\(togI (wd kn) x).to=(wd kn).to):
  Calls Tryz.prog 238 #[.pointer (some (U z 0)),.agg (wayC x v)] W fun e W'=>e=.returned (.tuple #[])/\ZjL W lo z u n q bp wd wv t x v W.heap.size W':=by
 obtain⟨xa,xc,rfl⟩:=Zac hrow;have hlo:=s.size;have BA:T_ W (W.alloc (.cells #[M (t:Int),M x.cost,.slice xa x.hops.length xc] 193)):=(YAC _ _).alloc (YA _) _;have hkn:=YAE W (.cells #[M (t:Int),M x.cost,.slice xa x.hops.length xc] 193);obtain⟨W1,hW1⟩:∃ V,V=W.alloc (.cells #[M (t:Int),M x.cost,.slice xa x.hops.length xc] 193):=⟨_,rfl⟩;rw [<-hW1] at BA hkn;have s1:=s.below BA;have hrow1:=Zad hrow BA (YA _);have hqk:∀ i,i<n->q i≠W.heap.size:=fun i hi e=>by have:=Zab (s.hb.hq.way i hi);omega
 have hbk:∀ v,bp v≠some W.heap.size:=fun v e=>by have:=Zab (s.way v _ e).1;omega
 have hsz1:=BA.size;obtain⟨P,hP⟩:∃ P,P=ZjL W lo z u n q bp wd wv t x (.slice xa x.hops.length xc) W.heap.size:=⟨_,rfl⟩;rw [<-hP];obtain⟨k,hk⟩:∃ k,k=W.heap.size:=⟨_,rfl⟩;rw [<-hk] at hkn hqk hbk hP;have hlk:lo<=k:=by omega
 have hwc:wayC x (.slice xa x.hops.length xc)=#[M (t:Int),M x.cost,.slice xa x.hops.length xc]:=by unfold wayC;rw [hx]
 have hknc:W1.heap[k]? = some (.cells (wayC x (.slice xa x.hops.length xc)) 193):=by rw [hwc];exact hkn
 have HPC:=hide (show ∀ W2 W3,T_ W1 W2->Below (W2.setCell (U z t) (.pointer (some (U k 0)))).heap.size (W2.setCell (U z t) (.pointer (some (U k 0)))) W3->(bp t=none\/∃ kn,bp t=some kn/\x.cost<(wd kn).cost)->Calls Tryz.prog 261 #[.iface 295 (.pointer (some (U z 7))),.iface 272 (.pointer (some (U k 0)))] W3 fun e W'=>e=.returned (.tuple #[])/\P W' by
  intro W2 W3 b2 b3 hcase;have s2:=s1.below b2;have hk2:=(b2.block _ (Zab hknc)).trans hknc;obtain⟨p1,p2,p3⟩:=s2.put ht x (.slice xa x.hops.length xc) hqk hk2;have hlo3:lo<=W3.heap.size:=by have h1:=b3.size;have h2:=b2.size;simp at h1;omega
  refine (Zke W3 lo z n _ u q _ _ k (p1.below b3) hlo3 (by omega) rfl s.lz ((b3.block _ (Zab p2)).trans p2) ⟨xa,x.hops.length,xc,Zau _ _ _⟩ ?_).mono ?_
  ·intro i h0 hi;have h1:=ZdO h0;show (upd wd k x (q (par i))).cost<=(upd wd k x (q i)).cost;rw [Zao _ _ (hqk i hi),Zao _ _ (hqk _ (by omega))];exact s.hp i h0 hi
  ·rintro e W' ⟨u',q',rfl,hi,hsh,hb',f'⟩;rw [Zg1] at hb';have fs:=s2.pushed ht hx hxl hk2 hlk hbk (Zad hrow1 b2 (YA _)) hfr (p3.trans (FK.of_below b3 (by have h2:=b2.size;simp;omega))) f' hb' hi;refine⟨rfl,?_⟩;rw [hP];exact⟨((BA.mono hlo).trans (b2.mono (by omega))).trans ((p3.trans (FK.of_below b3 (by have h2:=b2.size;simp;omega))).trans f').below,.inl ⟨hcase,u',q',fs,hsh⟩⟩)
 have ka0:=Zaa hkn 0;have ka1:=Zaa hkn 1;have ka2:=Zaa hkn 2;simp at ka0 ka1 ka2;have kz:=s1.known ht;have lk1:=Zab hkn;have lz1:=Zab s1.hb.box;have fz1:=Zae s1.hb.box;have hti:(0:Int)<=(t:Int):=by omega
 have htj:(t:Int)<7:=by omega
 cases hbt:bp t with
 | none=>
  rw [hbt] at kz;unfold ptrO at kz;have HPC:=hide (fun W2 W3 a b=>HPC W2 W3 a b (.inl hbt));rw [hwc];clear hbt hP hjl s s1 hrow hrow1 hfr hxl hx hwc hknc hkn
  go_enter Tryz.func238,Tryz.ntmps238
  go_wp2;rw [<-hW1, <-hk];clear hW1 hk
  go_quiet (fail)
  have B2:=bdrM nq W1;have ka0:(W1.drewN nq).cell? (U k 0)=some (M (t:Int)):=ka0;have kz:(W1.drewN nq).cell? (U z t)=some (.pointer none):=kz;have fz1:∀ j,(W1.drewN nq).frozen? (U z j)=false:=fz1;generalize W1.drewN nq=W2 at *;go_wp2
  go_quiet (fail)
  have B3:=B2.trans ((bdrM nq W2).mono B2.size);have ka0:(W2.drewN nq).cell? (U k 0)=some (M (t:Int)):=ka0;have kz:(W2.drewN nq).cell? (U z t)=some (.pointer none):=kz;have fz1:∀ j,(W2.drewN nq).frozen? (U z j)=false:=fz1;generalize W2.drewN nq=W3 at *;have ft:=fz1 t;go_wp2
  go_region
  go_wp2_with fail
  refine (HPC W3 _ B3 (bdr1 _)).mono ?_;rintro e w9 ⟨rfl,hPP⟩;have HPP:=hide hPP;clear hPP;go_wp2
  go_returns
  exact⟨rfl,HPP⟩
 | some kn=>
  rw [hbt] at kz;unfold ptrO at kz;obtain⟨y,hy⟩:∃ y,y=wd kn:=⟨_,rfl⟩;have hway1:=(s1.way t kn hbt).1;have hrowk:=s1.row t kn hbt;obtain⟨ya,yc,hyv⟩:=Zac hrowk;rw [hyv, <-hy] at hway1;rw [hyv, <-hy] at hrowk;have hyl:y.hops.length<=6:=by rw [hy];exact s1.short t kn hbt
  have hkl:=(s1.way t kn hbt).2;have ln1:=Zab hway1;have hkk:kn≠k:=fun e=>hbk t (by rw [hbt,e]);have kb0:=Zaa hway1 0;have kb1:=Zaa hway1 1;have kb2:=Zaa hway1 2;simp [wayC] at kb0 kb1 kb2;have HBT:=hide (fun W=>Zcz (.slice xa x.hops.length xc) (.slice ya y.hops.length yc) x y W);rw [hwc] at HBT;unfold wayC Zbp at HBT;have HTG:=hide (fun V (hb:T_ W1 V)=>Zmp y x (.slice ya y.hops.length yc) (.slice xa x.hops.length xc) lo lo V (Zad hrowk hb (YA _)) (Zad hrow1 hb (YA _)) (by omega) (by omega));rw [hwc] at HTG;obtain⟨r,hr⟩:∃ r,r=togI y x:=⟨_,rfl⟩;rw [<-hr] at HTG;unfold wayC at HTG;have HJN:=hide (show ¬x.cost<y.cost->∀ W2 V va vc,T_ W1 V->T_ V W2->W2.ownsRow V.heap.size 3 1 (.slice va r.hops.length vc) r.hops.length (flat intE r.hops)->P (((W2.setCell (U kn 0) (M r.to)).setCell (U kn 1) (M r.cost)).setCell (U kn 2) (.slice va r.hops.length vc)) by
   intro hnc W2 V va vc hbV hb2 ho;have hj:=hjl kn hbt (by rw [<-hy];exact hnc);rw [<-hy, <-hr] at hj;have hbW2:T_ W1 W2:=hbV.trans (hb2.mono hbV.size);have fs:=s1.joined (y:=r) (vy:=.slice va r.hops.length vc) hbt (by rw [hj.2.1,hy]) (by rw [hj.2.2,hy]) hj.1 hbW2 hbV.size ho;rw [hP];refine⟨((BA.mono hlo).trans (hbW2.mono (by omega))).trans ⟨rfl,rfl,rfl,by simp,fun j hj'=>by
    have G:=Za7 W2 kn r (.slice va r.hops.length vc);exact G.block j (by have:=hbW2.size;omega) (by simp;omega)⟩,.inr ⟨kn,.slice va r.hops.length vc,hbt,by rw [<-hy];exact hnc,?_⟩⟩
   rw [<-hy, <-hr];exact fs)
  have HPC:=hide (fun (hc:x.cost<y.cost) W2 W3 a b=>HPC W2 W3 a b (.inr ⟨kn,hbt,by rw [<-hy];exact hc⟩));rw [hwc];have HWY:=hide hway1;clear hbt hP hjl s s1 hrow hrow1 hfr hxl hx hwc hknc hkn hy hr hyv hrowk hway1;have hS1:W1.cell? (U k 0)=some (M (t:Int))/\W1.cell? (U k 1)=some (M x.cost)/\W1.cell? (U k 2)=some (.slice xa x.hops.length xc)/\W1.cell? (U kn 0)=some (M y.to)/\W1.cell? (U kn 1)=some (M y.cost)/\W1.cell? (U kn 2)=some (.slice ya y.hops.length yc):=⟨ka0,ka1,ka2,kb0,kb1,kb2⟩;clear ka0 ka1 ka2 kb0 kb1 kb2;have ka0:=hS1.1
  go_enter Tryz.func238,Tryz.ntmps238
  go_wp2;rw [<-hW1, <-hk];clear hW1 hk
  go_quiet (fail)
  have B2:=bdrM nq W1;have hS2:(W1.drewN nq).cell? (U k 0)=some (M (t:Int))/\(W1.drewN nq).cell? (U k 1)=some (M x.cost)/\(W1.drewN nq).cell? (U k 2)=some (.slice xa x.hops.length xc)/\(W1.drewN nq).cell? (U kn 0)=some (M y.to)/\(W1.drewN nq).cell? (U kn 1)=some (M y.cost)/\(W1.drewN nq).cell? (U kn 2)=some (.slice ya y.hops.length yc):=hS1;have kz:(W1.drewN nq).cell? (U z t)=some (.pointer (some (U kn 0))):=kz;have fz1:∀ j,(W1.drewN nq).frozen? (U z j)=false:=fz1;have lk2:k<(W1.drewN nq).heap.size:=lk1;have ln2:kn<(W1.drewN nq).heap.size:=ln1;have lz2:z<(W1.drewN nq).heap.size:=lz1;clear ka0 hS1;generalize W1.drewN nq=W2 at *;go_wp2;refine wp_region_noPanic ?_;have hS0:W2.drew.cell? (U k 0)=some (M (t:Int))/\W2.drew.cell? (U k 1)=some (M x.cost)/\W2.drew.cell? (U k 2)=some (.slice xa x.hops.length xc)/\W2.drew.cell? (U kn 0)=some (M y.to)/\W2.drew.cell? (U kn 1)=some (M y.cost)/\W2.drew.cell? (U kn 2)=some (.slice ya y.hops.length yc):=hS2;have lk3:k<W2.drew.heap.size:=lk2;have ln3:kn<W2.drew.heap.size:=ln2;refine Zah (S:=fun W=>W.cell? (U k 0)=some (M (t:Int))/\W.cell? (U k 1)=some (M x.cost)/\W.cell? (U k 2)=some (.slice xa x.hops.length xc)/\W.cell? (U kn 0)=some (M y.to)/\W.cell? (U kn 1)=some (M y.cost)/\W.cell? (U kn 2)=some (.slice ya y.hops.length yc)) (by kernel_rfl) 9 rfl hS0 ?_;intro ops hops _;show wpAnyH Tryz.prog .any ops _ _ 9 #[false,false,false,false,false,false,false,false,false] _ W2.drew
  iterate 7
   refine ZhJ 9 ?_ ?_ ?_ (by rw [hops.out];kernel_rfl) ?_ ?_ (by assumption) ?_
   rotate_left 2
   ·rw [hops.out];simp only [getS,Nat.reduceSub,Nat.reduceAdd];rfl
   ·intro W hW;obtain⟨k1,k2,k3,k4,k5,k6⟩:=hW;go_simp <;> with_reducible rfl
   ·exact fun _ _ _=>id
   try simp only [putS]
  refine TC 7 ?_;intro K hK;go_simp;refine (HBT _).mono ?_;rintro e w4 ⟨rfl,b4⟩;have hK4:w4.cell? (U k 0)=some (M (t:Int))/\w4.cell? (U k 1)=some (M x.cost)/\w4.cell? (U k 2)=some (.slice xa x.hops.length xc)/\w4.cell? (U kn 0)=some (M y.to)/\w4.cell? (U kn 1)=some (M y.cost)/\w4.cell? (U kn 2)=some (.slice ya y.hops.length yc):=by
   refine⟨?_,?_,?_,?_,?_,?_⟩ <;> (rw [b4.cell (by first | exact lk3 | exact ln3)];first | exact hS0.1 | exact hS0.2.1 | exact hS0.2.2.1 | exact hS0.2.2.2.1 | exact hS0.2.2.2.2.1 | exact hS0.2.2.2.2.2)
  refine hK _ _ hK4 (fun _=>?_);clear hK K
  try simp only [putS]
  refine ZbA 8 ?_ ?_ ?_ (by rw [hops.out];kernel_rfl) ?_ ?_ (by assumption) ?_
  rotate_left 2
  ·rw [hops.out];simp only [getS];rfl
  ·intro W hW;obtain⟨k1,k2,k3,k4,k5,k6⟩:=hW;go_simp <;> with_reducible rfl
  ·exact fun _ _ _=>id
  try simp only [putS]
  refine wpAnyH_done (by rw [hops.out];kernel_rfl) ?_ _;clear hops ops;refine NoPanic.normal ?_;have B4:T_ W1 w4:=(B2.trans ((bdr1 W2).mono B2.size)).trans (b4.mono B2.size);by_cases hcc:x.cost<y.cost
  ·rw [YAc hcc];have kz4:w4.cell? (U z t)=some (.pointer (some (U kn 0))):=(b4.cell lz2).trans kz;have fz4:w4.frozen? (U z t)=false:=(b4.frozen lz2).trans (fz1 t);have ka4:=hK4.1;have HPC:=hide (HPC hcc);clear hK4 hS0 hS2 HJN HTG HBT b4;go_wp2
   go_region
   go_wp2_with fail
   refine (HPC w4 _ B4 (bdr1 _)).mono ?_;rintro e w9 ⟨rfl,hPP⟩;have HPP:=hide hPP;clear hPP;go_wp2
   go_returns
   exact⟨rfl,HPP⟩
  ·rw [YAZ hcc];have HJN:=hide (HJN (by omega));have hkn4:=(B4.block _ ln1).trans HWY;have hB5d:T_ W1 w4.drew:=B4.trans ((bdr1 w4).mono B4.size);have ln5d:kn<w4.drew.heap.size:=Zab hkn4;have hkn5:w4.drew.heap[kn]? = some (.cells (wayC y (.slice ya y.hops.length yc)) 193):=hkn4;unfold wayC at hkn5;clear hS0 hS2 HPC HBT b4 hkn4;go_wp2;refine wp_region_noPanic ?_;refine Zah (S:=fun _=>True) (by kernel_rfl) 8 rfl trivial ?_;intro ops hops _;have a0:w4.drew.cell? (U k 0)=some (M (t:Int)):=hK4.1;have a1:w4.drew.cell? (U k 1)=some (M x.cost):=hK4.2.1;have a2:w4.drew.cell? (U k 2)=some (.slice xa x.hops.length xc):=hK4.2.2.1;have a3:w4.drew.cell? (U kn 0)=some (M y.to):=hK4.2.2.2.1;have a4:w4.drew.cell? (U kn 1)=some (M y.cost):=hK4.2.2.2.2.1;have a5:w4.drew.cell? (U kn 2)=some (.slice ya y.hops.length yc):=hK4.2.2.2.2.2;show wpAnyH Tryz.prog .any ops _ (fun _=>True) 8 #[false,false,false,false,false,false,false,false] _ w4.drew
   iterate 3
    refine ZhJ 8 ?_ ?_ ?_ (by rw [hops.out];kernel_rfl) ?_ ?_ trivial ?_
    rotate_left 2
    ·rw [hops.out];simp only [getS,Nat.reduceSub,Nat.reduceAdd];rfl
    ·intro W _;go_simp <;> with_reducible rfl
    ·exact fun _ _ _=>id
    try simp only [putS]
   refine wpAnyH_ready (rs:=[3,4]) (by rw [hops.out];kernel_rfl) (by simp) ?_;refine AllReadyH.cons (o:=?_) ?_ (fun K hK=>?_) ?_
   rotate_left 1
   ·rw [hops.out];simp only [getS];rfl
   ·rw [if_pos (by rfl)];go_simp;refine hK _ _ trivial (fun _=>?_);clear hK K
    try simp only [putS]
    refine wpAnyH_ready (rs:=[4]) (by rw [hops.out];kernel_rfl) (by simp) ?_;refine AllReadyH.cons (o:=?_) ?_ (fun K hK=>?_) ?_
    rotate_left 1
    ·rw [hops.out];simp only [getS];rfl
    ·rw [if_pos (by rfl)];go_simp;refine hK _ _ trivial (fun _=>?_);clear hK K
     try simp only [putS]
     refine TC 5 ?_;intro K hK;go_simp;refine (HTG w4.drew hB5d).mono ?_;rintro e w6 ⟨vy,rfl,hoy,b6⟩;obtain⟨va,vc,rfl⟩:=Zac hoy;refine hK _ _ trivial (fun _=>?_);clear hK K
     try simp only [putS]
     refine ZbA 6 ?_ ?_ ?_ (by rw [hops.out];kernel_rfl) ?_ ?_ trivial ?_
     rotate_left 2
     ·rw [hops.out];simp only [getS];rfl
     ·intro W _;go_simp <;> with_reducible rfl
     ·exact fun _ _ _=>id
     try simp only [putS]
     have hz6:=(b6.block _ ln5d).trans hkn5;have u0:=Zaa hz6 0;have u1:=Zaa hz6 1;have u2:=Zaa hz6 2;simp at u0 u1 u2;have fu:=Zae hz6;have FIN:=hide (HJN w6 w4.drew va vc hB5d b6 hoy);clear hz6 hoy b6;refine TC 7 ?_;intro K hK;go_simp;refine hK _ _ trivial (fun _=>?_);clear hK K
     try simp only [putS]
     refine wpAnyH_done (by rw [hops.out];kernel_rfl) ?_ _;clear hops ops;refine NoPanic.normal ?_;go_wp2
     go_returns
     exact⟨rfl,FIN⟩
    exact AllReadyH.nil
   refine AllReadyH.cons (o:=?_) ?_ (fun K hK=>?_) ?_
   rotate_left 1
   ·rw [hops.out];simp only [getS];rfl
   ·rw [if_pos (by rfl)];go_simp;refine hK _ _ trivial (fun _=>?_);clear hK K
    try simp only [putS]
    refine wpAnyH_ready (rs:=[3]) (by rw [hops.out];kernel_rfl) (by simp) ?_;refine AllReadyH.cons (o:=?_) ?_ (fun K hK=>?_) ?_
    rotate_left 1
    ·rw [hops.out];simp only [getS];rfl
    ·rw [if_pos (by rfl)];go_simp;refine hK _ _ trivial (fun _=>?_);clear hK K
     try simp only [putS]
     refine TC 5 ?_;intro K hK;go_simp;refine (HTG w4.drew hB5d).mono ?_;rintro e w6 ⟨vy,rfl,hoy,b6⟩;obtain⟨va,vc,rfl⟩:=Zac hoy;refine hK _ _ trivial (fun _=>?_);clear hK K
     try simp only [putS]
     refine ZbA 6 ?_ ?_ ?_ (by rw [hops.out];kernel_rfl) ?_ ?_ trivial ?_
     rotate_left 2
     ·rw [hops.out];simp only [getS];rfl
     ·intro W _;go_simp <;> with_reducible rfl
     ·exact fun _ _ _=>id
     try simp only [putS]
     have hz6:=(b6.block _ ln5d).trans hkn5;have u0:=Zaa hz6 0;have u1:=Zaa hz6 1;have u2:=Zaa hz6 2;simp at u0 u1 u2;have fu:=Zae hz6;have FIN:=hide (HJN w6 w4.drew va vc hB5d b6 hoy);clear hz6 hoy b6;refine TC 7 ?_;intro K hK;go_simp;refine hK _ _ trivial (fun _=>?_);clear hK K
     try simp only [putS]
     refine wpAnyH_done (by rw [hops.out];kernel_rfl) ?_ _;clear hops ops;refine NoPanic.normal ?_;go_wp2
     go_returns
     exact⟨rfl,FIN⟩
    exact AllReadyH.nil
   exact AllReadyH.nil
def Zcx (bp:Nat->Option Nat)(wd:Nat->WayD)(wv:Nat->Value):Nat->List WP
 | 0=>[]
 | t+1=>Zcx bp wd wv t++(match bp t with
  | some k=>[(wd k,wv k)]
  | none=>[])
theorem ZdG {k:Nat}(h:bp t=some k):Zcx bp wd wv (t+1)=Zcx bp wd wv t++[(wd k,wv k)]:=by
 show Zcx bp wd wv t++(match bp t with
  | some k=>[(wd k,wv k)]
  | none=>[])=_
 rw [h]
theorem Zc5 (h:bp t=none):Zcx bp wd wv (t+1)=Zcx bp wd wv t:=by
 show Zcx bp wd wv t++(match bp t with
  | some k=>[(wd k,wv k)]
  | none=>[])=_
 rw [h];simp
theorem Zfz {p:WP}:∀ {t:Nat},p∈Zcx bp wd wv t->∃ v k,v<t/\bp v=some k/\p=(wd k,wv k)
 | 0,h=>by cases h
 | t+1,h=>by
  cases e:bp t with
  | none=>
   rw [Zc5 e] at h;obtain⟨v,k,h1,h2⟩:=Zfz h;exact⟨v,k,by omega,h2⟩
  | some k=>
   rw [ZdG e] at h;rcases YAF.1 h with h1 | h1
   ·obtain ⟨v,k,h1,h2⟩:=Zfz h1;exact⟨v,k,by omega,h2⟩
   ·exact ⟨t,k,by omega,e,by simpa using h1⟩
theorem Zj0 (bp:Nat->Option Nat)(wd:Nat->WayD)(wv:Nat->Value):∀ t,(Zcx bp wd wv t).length<=t
 | 0=>by simp [Zcx]
 | t+1=>by
  have:=Zj0 bp wd wv t;cases e:bp t with
  | none=>rw [Zc5 e];omega
  | some k=>rw [ZdG e];simp;omega
theorem Zfa (h:∀ v v' k k',v≠v'->bp v=some k->bp v'=some k'->∀ b,(wv k).ownBlock=some b->(wv k').ownBlock≠some b):∀ t,(Zcx bp wd wv t).Pairwise ZcX
 | 0=>by simp [Zcx]
 | t+1=>by
  cases e:bp t with
  | none=>rw [Zc5 e];exact Zfa h t
  | some k=>
   rw [ZdG e,YAQ];refine⟨Zfa h t,by simp,fun p hp q hq=>?_⟩;obtain⟨v,k',hv,e2,rfl⟩:=Zfz hp;have:q=(wd k,wv k):=by simpa using hq
   subst this;intro b hb;exact h v t k' k (by omega) e2 e b hb
theorem Zid {bp:Nat->Option Nat}{wd:Nat->WayD}{wv:Nat->Value}{c:Nat->Int}{h:Nat->List Int}(h0:bp 0=none)(hc:∀ v,cOf bp wd v=c v)(hh:∀ v,hOf bp wd v=h v)(hto:∀ v k,bp v=some k->(wd k).to=(v:Int))(hnn:∀ v k,bp v=some k->0<=(wd k).cost):∀ t,Zag (Zcx bp wd wv (t+1))=Zdb c h t
 | 0=>by rw [Zc5 h0];rfl
 | t+1=>by
  have ih:=Zid h0 hc hh hto hnn t (wv:=wv);have e1:=hc (t+1);have e2:=hh (t+1);unfold Zdb;cases e:bp (t+1) with
  | none=>
   rw [ZgH e] at e1;rw [Zc5 e,ih,if_neg (by omega),List.append_nil]
  | some k=>
   rw [ZcK e] at e1;rw [ZeC e] at e2;have h1:=hnn (t+1) k e;have h2:=hto (t+1) k e;rw [ZdG e,if_pos (by omega), <-ih, <-e1, <-e2, <-h2];simp [Zag]
theorem Zrf (f:Nat->Value)(W:World)(ht:t<=6):(Instr.index 273 (.agg #[f 0,f 1,f 2,f 3,f 4,f 5,f 6]) (M (t:Int))).run Tryz.prog W=.ok (f t) W:=by
 have h:t=0\/t=1\/t=2\/t=3\/t=4\/t=5\/t=6:=by omega
 rcases h with rfl | rfl | rfl | rfl | rfl | rfl | rfl <;> rfl
theorem Zrx (W:World)(lo z:Nat)(u:Value)(n:Nat)(q:Nat->Nat)(bp:Nat->Option Nat)(wd:Nat->WayD)(wv:Nat->Value)(s:FS W lo z u n q bp wd wv):
  Calls Tryz.prog 240 #[.pointer (some (U z 0))] W fun e W'=>∃ x,e=.returned x/\WaysOwn W' lo W'.heap.size x (Zcx bp wd wv 7)/\Below lo W W':=by
 have hlo:=s.size;have lz:=Zab s.hb.box;have B0:T_ W (W.alloc (.cells #[] 193)):=(YAC _ _).alloc (YA _) _;have O0:(W.alloc (.cells #[] 193)).ownsRow W.heap.size 193 3 (.slice (some (U W.heap.size 0)) 0 0) 0 (flat encW []):=YAe W #[] 0 (YA _) (by unfold maxLen;omega) (by simp);obtain⟨W0,hW0⟩:∃ V,V=W.alloc (.cells #[] 193):=⟨_,rfl⟩;rw [<-hW0] at B0 O0;have bx:=s.hb.box;unfold finC at bx;have d0:=Zaa bx 0;have d1:=Zaa bx 1;have d2:=Zaa bx 2;have d3:=Zaa bx 3;have d4:=Zaa bx 4;have d5:=Zaa bx 5;have d6:=Zaa bx 6;simp at d0 d1 d2 d3 d4 d5 d6;have FIN:=hide (fun (W':World) (x:Value) (hb:T_ W W') (ho:W'.ownsRow W.heap.size 193 3 x (Zcx bp wd wv 7).length (flat encW (Zcx bp wd wv 7)))=>show WaysOwn W' lo W'.heap.size x (Zcx bp wd wv 7) from
  {row:=Zaf ho hlo
   top:=fun k hk=>(ho.lt k hk).2
   nears:=fun p hp=>by
    obtain⟨v,k,_,e,rfl⟩:=Zfz hp;have hr:=Zad (s.row v k e) hb (YA _);exact⟨hr,fun b hb=>(hr.lt b hb).2⟩
   apart:=Zfa s.apart 7 })
 have HWY:=hide (fun v k (e:bp v=some k)=>(s.way v k e).1);have HSL:=hide (fun v k (e:bp v=some k)=>Zac (s.row v k e));obtain⟨f,hf⟩:∃ f:Nat->Value,f=fun t=>ptrO (bp t):=⟨_,rfl⟩;have HF:=hide hf;rw [show ptrO (bp 0)=f 0 by rw [hf]] at d0;rw [show ptrO (bp 1)=f 1 by rw [hf]] at d1;rw [show ptrO (bp 2)=f 2 by rw [hf]] at d2;rw [show ptrO (bp 3)=f 3 by rw [hf]] at d3;rw [show ptrO (bp 4)=f 4 by rw [hf]] at d4;rw [show ptrO (bp 5)=f 5 by rw [hf]] at d5;rw [show ptrO (bp 6)=f 6 by rw [hf]] at d6;have HO0:=hide O0;clear hf s bx O0
 go_enter Tryz.func240,Tryz.ntmps240
 go_wp2;rw [<-hW0];clear hW0 d0 d1 d2 d3 d4 d5 d6
 go_loopw [11,3] (fun i o wr=>∃ (t:Nat) (x:Value),t<=7/\i=M (t:Int)/\o=x/\wr.ownsRow W.heap.size 193 3 x (Zcx bp wd wv t).length (flat encW (Zcx bp wd wv t))/\T_ W wr) (fun i _ _=>8-(intOf i).toNat)
 case atStart=>exact ⟨0,_,by omega,rfl,rfl,HO0,B0⟩
 case round=>
  obtain⟨t,x,ht,rfl,rfl,hown,hb⟩:=hrel;clear HO0 B0;obtain⟨xa,xc,rfl⟩:=Zac hown;have hsz:=hb.size;have OW:=hide hown;have hcl:=Zj0 bp wd wv t;clear hown;by_cases htl:t<7
  ·have ht6:(t:Int)<7:=by omega
   have hix:=fun V=>Zrf f V (t:=t) (by omega);cases e:bp t with
   | none=>
    have hft:f t=.pointer none:=by rw [HF.out];show ptrO (bp t)=_;rw [e];rfl
    rw [hft] at hix;have HOW:=hide (show wr.ownsRow W.heap.size 193 3 (.slice xa (Zcx bp wd wv t).length xc) (Zcx bp wd wv (t+1)).length (flat encW (Zcx bp wd wv (t+1))) by rw [Zc5 e];exact OW);clear e hft;go_wp2;go_roundw
    case rel=>exact ⟨t+1,_,by omega,by go_num,rfl,HOW,hb⟩
    case measure=>exact MS_
   | some k=>
    have hft:f t=.pointer (some (U k 0)):=by rw [HF.out];show ptrO (bp t)=_;rw [e];rfl
    rw [hft] at hix;obtain⟨ya,yc,hyv⟩:=HSL.out t k e;have hw:=HWY.out t k e;rw [hyv] at hw;obtain⟨y,hy⟩:∃ y,y=wd k:=⟨_,rfl⟩;rw [<-hy] at hw hyv;have lk:=Zab hw;have hw2:=(hb.block _ lk).trans hw;have s0:=Zaa hw2 0;have s1:=Zaa hw2 1;have s2:=Zaa hw2 2;simp [wayC] at s0 s1 s2;have HSP:=hide (ZdG e (wd:=wd) (wv:=wv));rw [hyv, <-hy] at HSP;obtain⟨C,hC⟩:∃ C,C=Zcx bp wd wv t:=⟨_,rfl⟩;rw [<-hC] at OW HSP hcl |-;clear e hft hw hw2 hy hyv hC
    go_wp2_with (first
     | (at_builtin;refine ZaQ Zbj (by omega) (by omega) _ rfl _ _ 187 rfl W.heap.size 193 Tryz.underlying187 (.agg (wayC Zbo (.slice none 0 0))) rfl Tryz.infoWay _ C (y,.slice ya y.hops.length yc) (Zdr _ _ _ _) rfl (OW.out.alloc _) (U wr.heap.size 0) 1 rfl (Zar (cs:=encW (y,.slice ya y.hops.length yc))) (by omega) (by simp;omega) ?_))
    intro v' w4 hown' hgrow;have B4:T_ W w4:=(hb.alloc hsz _).grown hgrow (by simp;omega) (fun j hj=>(OW.out.lt j hj).1);have O4:=hide (show w4.ownsRow W.heap.size 193 3 v' (Zcx bp wd wv (t+1)).length (flat encW (Zcx bp wd wv (t+1))) by rw [HSP.out];simpa using hown');obtain⟨va,vc,rfl⟩:=Zac hown';clear hown' hgrow;go_wp2;go_roundw
    case rel=>exact ⟨t+1,_,by omega,by go_num,rfl,O4,B4⟩
    case measure=>exact MS_
  ·have ht6:¬(t:Int)<7:=by omega
   have htt:t=7:=by omega
   subst htt;have HE:=hide (FIN wr _ hb OW);have HBB:=hide (hb.mono hlo);obtain⟨C,hC⟩:∃ C,C=Zcx bp wd wv 7:=⟨_,rfl⟩;rw [<-hC] at HE |-;have HCC:=hide hC;clear hC OW FIN;go_wp2;go_ret;exact⟨_,rfl,by rw [<-HCC.out];exact HE,HBB⟩
theorem Zgo {w:World}(h:Below B w W)(hB:w.heap.size<=B)(row:Option Nat):w.grownBy W row:=⟨h.os,h.tape,h.output,h.size,fun k hk _=>h.block k (by omega)⟩
theorem Zls (lo i vb:Nat)(v:Value)(ps:List RP)(r:RP)(w:World)(hv:RecsOwn w lo w.heap.size v ps)(hlo:lo<=w.heap.size)(hi:i<=ps.length)(hn:ps.length<=1048576)(hvb:w.heap[vb]? = some (.cells (encP r).toArray 39 (0,0)))(hne:some vb≠v.ownBlock)(hr1:∀ u∈encP r,u.oneCell'=true):
  Calls Tryz.prog 191 #[v,M (i:Int),.slice (some (U vb 0)) 1 1] w fun e w'=>∃ v',e=.returned v'/\w'.ownsRow lo 39 8 v' (ps.length+1) (flat encP (ps.take i++[r]++ps.drop i))/\w.grownBy w' v.ownBlock/\(v'.ownBlock=v.ownBlock\/v'.ownBlock=some w.heap.size):=by
 by_cases he:i=ps.length
 ·rw [he];exact ZqD lo ps.length 1 vb v ps r w rfl rfl hlo hn hv.row hvb hr1
 ·have hone:∀ p∈ps,∃ a k c,p.2=.slice a k c:=fun p hp=>by
   obtain⟨a,c,e⟩:=Zac (hv.nears p hp).1;exact⟨a,_,c,e⟩
  rcases hv.row.2 with ⟨_,h0⟩ | ⟨g,cap,cur,hve,_⟩
  ·omega
  ·subst hve;have hne2:vb≠g:=fun e=>hne (by rw [e];rfl);by_cases hroom:ps.length+1<=cap
   ·exact Zni lo g cap ps.length 1 i vb ps r w rfl rfl hv.row (by omega) hroom hvb hne2 hone hr1
   ·exact ZoU lo g cap ps.length 1 i vb ps r w rfl rfl hlo hn hv.row (by omega) (by omega) hvb hone hr1
theorem ZoX (v:Value)(ps:List RP)(lo:Nat)(r:RP)(w:World)(hv:RecsOwn w lo w.heap.size v ps)(hlo:lo<=w.heap.size)(hn:tot ps<=1048576)(hasc:Asc (fsts ps))(hr:ZaH w lo w.heap.size r)(hap:∀ p∈ps,ZeS p r):
  Calls Tryz.prog 136 #[v,.agg (recC r.1 r.2)] w fun e w'=>∃ x qs,e=.returned x/\fsts qs=putD (fsts ps) r.1/\RecsOwn w' lo w'.heap.size x qs/\(∀ k,x.ownBlock=some k->v.ownBlock=some k\/w.heap.size<=k)/\w.grownBy w' v.ownBlock:=by
 have hnl:=Zby ps;have hfl:(fsts ps).length=ps.length:=by simp [fsts]
 obtain⟨a1,vc,hve⟩:=Zac hv.row;obtain⟨ra,rc,hrn⟩:=Zac hr.1;have BX:T_ w (w.alloc (.cells #[M r.1.area,M r.1.kind,M r.1.owner,M r.1.key,M r.1.seq,.slice ra r.1.near.length rc,M r.1.cost,.bool r.1.far] 39)):=(YAC _ _).alloc (YA _) _;have hx:=YAE w (.cells #[M r.1.area,M r.1.kind,M r.1.owner,M r.1.key,M r.1.seq,.slice ra r.1.near.length rc,M r.1.cost,.bool r.1.far] 39);obtain⟨w0,hw0⟩:∃ w0,w0=w.alloc (.cells #[M r.1.area,M r.1.kind,M r.1.owner,M r.1.key,M r.1.seq,.slice ra r.1.near.length rc,M r.1.cost,.bool r.1.far] 39):=⟨_,rfl⟩;rw [<-hw0] at BX hx;have hs0:=Zab hx;have hv0:=hv.below BX (YA _);have hr0:=hr.keep (W':=w0) (fun k _ _ h3=>BX.block k h3);have HS:=Ziy v ps w.heap.size r w0 hv0.in BX.size hn (hr0.wide (Nat.zero_le _) (YA _)) (by rw [<-hfl];exact ZiO hasc r.1);have d0:=Zaa hx 0;have d1:=Zaa hx 1;have d2:=Zaa hx 2;have d3:=Zaa hx 3;have d4:=Zaa hx 4;have d5:=Zaa hx 5;have d6:=Zaa hx 6;have d7:=Zaa hx 7;simp at d0 d1 d2 d3 d4 d5 d6 d7;have HV:=hide hv0;have HR:=hide hr0;have HA:=hide hasc;have HP:=hide hap;have H1:=hide hr;have HFL:=hide hfl;have HRN:=hide hrn;have HVE:=hide hve;unfold recC at *;rw [hrn] at HS |-;subst hve;have HSS:=hide HS;clear HS hv0 hr0 hasc hap hr hrn hv hfl
 go_enter Tryz.func136,Tryz.ntmps136
 go_wp2_with fail
 rw [<-hw0];clear hw0;refine HSS.out.mono ?_;rintro e w1 ⟨i,f,rfl,hil,q1,q2,q3,b1⟩;have b1s:=b1.size;have hx1:=(b1.block _ hs0).trans hx;have B1:T_ w w1:=BX.trans (b1.mono BX.size);have hv1:=(HV.out.below b1 (by omega)).wide (YA _) (show w.heap.size<=w1.heap.size by omega);have hr1:=((HR).keep (W':=w1) (fun k _ _ h3=>b1.block k h3)).wide (YA _) (show w.heap.size<=w1.heap.size by omega);have Q1:=hide q1;have Q2:=hide q2;have Q3:=hide q3;clear q1 q2 q3 d0 d1 d2 d3 d4 d5 d6 d7 hx b1;have d0:=Zaa hx1 0;have d1:=Zaa hx1 1;have d2:=Zaa hx1 2;have d3:=Zaa hx1 3;have d4:=Zaa hx1 4;have d5:=Zaa hx1 5;have d6:=Zaa hx1 6;have d7:=Zaa hx1 7;simp at d0 d1 d2 d3 d4 d5 d6 d7;have hii:(0:Int)<=(i:Int):=by omega
 cases f with
 | true=>
  have hil2:i<ps.length:=by
   obtain⟨x,hx,_⟩:=Q3.out.1 rfl;have:=(YAD.1 hx).1;rw [HFL.out] at this;exact this
  have hij:(i:Int)<(ps.length:Int):=by omega
  rcases hv1.row.2 with ⟨_,h0⟩ | ⟨g,cap,cur,hve,_⟩
  ·omega
  ·cases hve;have hpr:r=(r.1,.slice ra r.1.near.length rc):=by rw [<-HRN.out]
   have hfin:=hv1.put (i:=i) rfl hr1 HP hil2;have hg:=ZeM w1 g (i*8) r;have hgl:=hv1.row.lt g rfl;have hB:=Zaj (Zgo B1 (YA _) (some g)) hg;have hl:fsts (ps.set i r)=putD (fsts ps) r.1:=by
    obtain⟨x,hx,h0⟩:=Q3.out.1 rfl;obtain⟨hi2,ex⟩:=YAD.1 hx;rw [Zmi,ZmN HA.out hi2 Q1.out (by rw [HFL.out];exact Q2.out) (by rw [ex];exact h0)]
   obtain⟨y0,f0⟩:=ZaM hv1.row (i*8) (by omega);obtain⟨y1,f1⟩:=ZaM hv1.row (i*8+1) (by omega);obtain⟨y2,f2⟩:=ZaM hv1.row (i*8+2) (by omega);obtain⟨y3,f3⟩:=ZaM hv1.row (i*8+3) (by omega);obtain⟨y4,f4⟩:=ZaM hv1.row (i*8+4) (by omega);obtain⟨y5,f5⟩:=ZaM hv1.row (i*8+5) (by omega);obtain⟨y6,f6⟩:=ZaM hv1.row (i*8+6) (by omega);obtain⟨y7,f7⟩:=ZaM hv1.row (i*8+7) (by omega);have fz:=fun j=>hv1.row.frozenAt j;have hne:g≠w.heap.size:=by
    intro e;have h5:=HV.out.top g rfl;omega
   rw [hpr] at hfin hB hl;have HF:=hide hfin;have HB:=hide hB;have HL:=hide hl;clear hfin hB hl hpr hg hv1 hr1;go_wp2;go_ret
   first
    | exact ⟨_,ps.set i (r.1,.slice ra r.1.near.length rc),rfl,HL,HF,fun k hk=>.inl hk,HB⟩
    | exact ⟨_,rfl,ps.set i (r.1,.slice ra r.1.near.length rc),HL,HF,fun k hk=>.inl hk,HB⟩
 | false=>
  have hl:fsts (ps.take i++[r]++ps.drop i)=putD (fsts ps) r.1:=by
   rw [Zmh,ZmM HA.out (by rw [HFL.out];exact hil) Q1.out (by rw [HFL.out];exact Q2.out) (fun h=>by have:=Q3.out.2 h;cases this)]
  have HL:=hide hl;clear hl;have BY:T_ w1 (w1.alloc (.cells #[M r.1.area,M r.1.kind,M r.1.owner,M r.1.key,M r.1.seq,.slice ra r.1.near.length rc,M r.1.cost,.bool r.1.far] 39)):=(YAC _ _).alloc (YA _) _;have hy:=YAE w1 (.cells #[M r.1.area,M r.1.kind,M r.1.owner,M r.1.key,M r.1.seq,.slice ra r.1.near.length rc,M r.1.cost,.bool r.1.far] 39);obtain⟨w2,hw2⟩:∃ w2,w2=w1.alloc (.cells #[M r.1.area,M r.1.kind,M r.1.owner,M r.1.key,M r.1.seq,.slice ra r.1.near.length rc,M r.1.cost,.bool r.1.far] 39):=⟨_,rfl⟩;rw [<-hw2] at BY hy;have hv2:=(hv1.below BY (YA _)).wide (YA _) BY.size;have hr2:=(hr1.keep (W':=w2) (fun k _ _ h3=>BY.block k h3)).wide (YA _) BY.size;have HI:=Zls lo i w1.heap.size _ ps r w2 hv2 (by have:=BY.size;omega) hil (by omega) (by
   rw [hy];unfold encP;rw [HRN.out]) (fun e=>by
    have h6:=hv1.top _ e.symm;omega) (ZmB hr2)
  have HII:=hide HI;have HV2:=hide hv2;have HR2:=hide hr2;have B2:T_ w w2:=B1.trans (BY.mono (by omega));have hb2:=BY.size;clear HI hv1 hr1 hv2 hr2
  go_wp2_with fail
  rw [<-hw2];clear hw2;refine HII.out.mono ?_;rintro e w3 ⟨x,rfl,hrow,hg,hblk⟩;have hfin:=HV2.out.ins HR2 HP hil hrow hg;have hB:=Zaj (Zgo B2 (YA _) _) hg;have hbk:∀ k,x.ownBlock=some k->(Value.slice a1 ps.length vc).ownBlock=some k\/w.heap.size<=k:=fun k hk=>by
   rcases hblk with h1 | h1
   ·exact .inl (by rw [<-h1];exact hk)
   ·right;rw [h1] at hk;cases hk;omega
  have HBK:=hide hbk;clear hbk hblk;obtain⟨xa,xc,rfl⟩:=Zac hrow;have HF:=hide hfin;have HB:=hide hB;clear hfin hB hrow hg;go_wp2;go_ret
  first
   | exact ⟨_,_,rfl,HL,HF,HBK,HB⟩
   | exact ⟨_,rfl,_,HL,HF,HBK,HB⟩
end Go.Proofs.YtcnjnibnecpddaaGreat
