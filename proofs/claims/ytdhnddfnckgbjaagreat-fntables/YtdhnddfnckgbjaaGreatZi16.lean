/-
  Parts.
-/
import Derived.Test.YtdhnddfnckgbjaaGreatZi15
namespace Go.Proofs.YtdhnddfnckgbjaaGreat
open Go.RowKit
set_option linter.unusedSimpArgs false
set_option linter.unusedVariables false
set_option maxRecDepth 100000
set_option maxHeartbeats 8000000
variable {to:Int}{a ds:List WayD}{c:Nat->Int}{h:Nat->List Int}{o:Option WayD}{w:WayD}{S:WayD->Prop}
def Hop6 (l:List Int):Prop:=∀ z∈l,1<=z/\z<=6
structure GoodW (x:WayD):Prop where
 node:1<=x.to/\x.to<=6
 cost:0<=x.cost/\x.cost<=60000
 asc:x.hops.Pairwise (· < ·)
 hop6:Hop6 x.hops
theorem Zfb :∀ {l:List Int}{a:Int},l.Pairwise (· < ·)->(∀ z∈l,a<=z/\z<=6)->(l.length:Int)<=7-a\/l=[]
 | [],_,_,_=>.inr rfl
 | x::xs,a,h,hr=>by
  have h':=YAh.1 h;have hx:=hr x (by simp);rcases Zfb (a:=x+1) h'.2 (fun z hz=>⟨by have:=h'.1 z hz;omega,(hr z (by simp [hz])).2⟩) with h1 | h1
  ·left;simp;omega
  ·left;subst h1;simp;omega
theorem ZdK {l:List Int}(h:l.Pairwise (· < ·))(h6:Hop6 l):l.length<=6:=by
 rcases Zfb (a:=1) h h6 with h1 | h1
 ·omega
 ·subst h1;simp
theorem GoodW.len {x:WayD}(h:GoodW x):x.hops.length<=6:=ZdK h.asc h.hop6
def AscW (ds:List WayD):Prop:=ds.Pairwise (fun x y=>x.to<y.to)
theorem ZjI :∀ {a b:List WayD},AscW a->AscW b->(∀ x,x∈a↔x∈b)->a=b
 | [],[],_,_,_=>rfl
 | [],y::ys,_,_,h=>by have:=(h y).2 (by simp);cases this
 | x::xs,[],_,_,h=>by have:=(h x).1 (by simp);cases this
 | x::xs,y::ys,ha,hb,h=>by
  have ha':=YAh.1 ha;have hb':=YAh.1 hb;have hxy:x=y:=by
   have h1:=(h x).1 (by simp);have h2:=(h y).2 (by simp);rcases YAR.1 h1 with e | e
   ·exact e
   ·rcases YAR.1 h2 with e2 | e2
    ·exact e2.symm
    ·have:=ha'.1 y e2;have:=hb'.1 x e;omega
  subst hxy;have:xs=ys:=by
   refine ZjI ha'.2 hb'.2 (fun z=>?_);have hz:=h z;constructor
   ·intro hm;have h1:=hz.1 (YAe _ hm);rcases YAR.1 h1 with e | e
    ·have:=ha'.1 z hm;subst e;omega
    ·exact e
   ·intro hm;have h1:=hz.2 (YAe _ hm);rcases YAR.1 h1 with e | e
    ·have:=hb'.1 z hm;subst e;omega
    ·exact e
  rw [this]
theorem Za2 (h:ZaR ds to=some w):w∈ds/\w.to=to:=by
 unfold ZaR at h;exact⟨List.mem_of_find?_eq_some h,by have:=List.find?_some h;simpa using this⟩
theorem ZeP (h:ZaR ds to=none):∀ w∈ds,w.to≠to:=by
 unfold ZaR at h;rw [List.find?_eq_none] at h;intro w hw;simpa using h w hw
theorem Zh0 (h:AscW ds){x y:WayD}(hx:x∈ds)(hy:y∈ds)(e:x.to=y.to):x=y:=by
 induction ds with
 | nil=>cases hx
 | cons a ds ih=>
  have h':=YAh.1 h;rcases YAR.1 hx with e1 | e1
  ·rcases YAR.1 hy with e2 | e2
   ·rw [e1,e2]
   ·have:=h'.1 y e2;subst e1;omega
  ·rcases YAR.1 hy with e2 | e2
   ·have:=h'.1 x e1;subst e2;omega
   ·exact ih h'.2 e1 e2
theorem Zc6 (h:AscW ds)(hw:w∈ds):ZaR ds w.to=some w:=by
 cases e:ZaR ds w.to with
 | none=>exact absurd rfl (ZeP e w hw)
 | some x=>
  have h1:=Za2 e;rw [Zh0 h h1.1 hw h1.2]
theorem Zlg {b:List WayD}(ha:AscW a)(hb:AscW b)(h:∀ to,ZaR a to=ZaR b to):a=b:=by
 refine ZjI ha hb (fun x=>⟨fun hx=>?_,fun hx=>?_⟩)
 ·have:=Zc6 ha hx;rw [h] at this;exact (Za2 this).1
 ·have:=Zc6 hb hx;rw [<-h] at this;exact (Za2 this).1
def Zav (to:Int)(S:WayD->Prop):Option WayD->Prop
 | none=>∀ w,¬S w
 | some b=>b.to=to/\(∃ w,S w/\w.cost=b.cost)/\(∀ w,S w->b.cost<=w.cost)/\b.hops.Pairwise (· < ·)/\∀ x,x∈b.hops↔∃ w,S w/\w.cost=b.cost/\x∈w.hops
theorem Zav.unique {o':Option WayD}(h:Zav to S o)(h':Zav to S o'):o=o':=by
 cases o with
 | none=>
  cases o' with
  | none=>rfl
  | some b=>
   obtain⟨_,⟨w,hw,_⟩,_⟩:=h';exact absurd hw (h w)
 | some a=>
  cases o' with
  | none=>
   obtain⟨_,⟨w,hw,_⟩,_⟩:=h;exact absurd hw (h' w)
  | some b=>
   obtain⟨h1,⟨w,hw,e1⟩,h3,h4,h5⟩:=h;obtain⟨k1,⟨v,hv,e2⟩,k3,k4,k5⟩:=h';have hc:a.cost=b.cost:=by
    have:=h3 v hv;have:=k3 w hw;omega
   have hh:a.hops=b.hops:=Zhj h4 k4 (fun x=>by rw [h5,k5,hc]);cases a;cases b;simp at *;exact⟨by rw [h1,k1],hc,hh⟩
theorem Zav.congr {T:WayD->Prop}(h:Zav to S o)(e:∀ w,S w↔T w):Zav to T o:=by
 have:S=T:=funext fun w=>propext (e w);rw [<-this];exact h
def ZiP (tog:WayD->WayD->WayD):Prop:=∀ x y:WayD,Hop6 x.hops->Hop6 y.hops->(x.cost<y.cost->tog x y=x)/\(y.cost<x.cost->tog x y=y) /\
 (x.cost=y.cost->(tog x y).to=x.to/\(tog x y).cost=x.cost/\(tog x y).hops.Pairwise (· < ·)/\∀ z,z∈(tog x y).hops↔z∈x.hops\/z∈y.hops)
theorem Ze8 :ZiP togD:=by
 intro x y hx hy;unfold togD ZbQ;refine⟨fun h=>by simp [h],fun h=>?_,fun h=>?_⟩
 ·rw [if_neg (by simp;omega),if_pos (by simpa using h)]
 ·rw [if_neg (by simp;omega),if_neg (by simp;omega)];refine⟨rfl,rfl,Zfn _ _,fun z=>?_⟩;show z∈addL x.hops y.hops↔_;rw [Zfp];constructor
  ·exact fun h=>h.2.2
  ·rintro (h1 | h1)
   ·exact ⟨(hx z h1).1,(hx z h1).2,.inl h1⟩
   ·exact ⟨(hy z h1).1,(hy z h1).2,.inr h1⟩
theorem Zjy :ZiP togI:=by
 intro x y hx hy;unfold togI ZbQ;refine⟨fun h=>by simp [h],fun h=>?_,fun h=>?_⟩
 ·rw [if_neg (by simp;omega),if_pos (by simpa using h)]
 ·rw [if_neg (by simp;omega),if_neg (by simp;omega)];exact⟨rfl,rfl,Zif _ _,fun z=>Zig⟩
theorem Zav.hop6 {b:WayD}(h:Zav to S (some b))(hS:∀ w,S w->Hop6 w.hops):Hop6 b.hops:=by
 intro z hz;obtain⟨w,hw,_,hm⟩:=(h.2.2.2.2 z).1 hz;exact hS w hw z hm
theorem Zav.add {tog:WayD->WayD->WayD}(ht:ZiP tog)(h:Zav to S o)(hS:∀ w,S w->Hop6 w.hops)(hto:w.to=to)(hasc:w.hops.Pairwise (· < ·))(h6:Hop6 w.hops):Zav to (fun x=>S x\/x=w) (ZeZ tog o (some w)):=by
 cases o with
 | none=>
  refine⟨hto,⟨w,.inr rfl,rfl⟩,fun x hx=>?_,hasc,fun x=>⟨fun hx=>⟨w,.inr rfl,rfl,hx⟩,?_⟩⟩
  ·rcases hx with h1 | rfl
   ·exact absurd h1 (h x)
   ·exact Int.le_refl _
  ·rintro ⟨v,h1 | rfl,_,hm⟩
   ·exact absurd h1 (h v)
   ·exact hm
 | some b=>
  have hb6:=h.hop6 hS;obtain⟨h1,⟨u,hu,e1⟩,h3,h4,h5⟩:=h;obtain⟨t1,t2,t3⟩:=ht b w hb6 h6;show Zav to _ (some (tog b w));rcases Int.lt_trichotomy b.cost w.cost with hl | hl | hl
  ·rw [t1 hl];refine⟨h1,⟨u,.inl hu,e1⟩,fun x hx=>?_,h4,fun x=>?_⟩
   ·rcases hx with hx | rfl
    ·exact h3 x hx
    ·omega
   ·rw [h5];constructor
    ·rintro ⟨v,hv,e,hm⟩;exact⟨v,.inl hv,e,hm⟩
    ·rintro ⟨v,hv | rfl,e,hm⟩
     ·exact ⟨v,hv,e,hm⟩
     ·omega
  ·obtain ⟨s1,s2,s3,s4⟩:=t3 hl;refine⟨by rw [s1,h1],⟨w,.inr rfl,by rw [s2,hl]⟩,fun x hx=>?_,s3,fun x=>?_⟩
   ·rw [s2];rcases hx with hx | rfl
    ·exact h3 x hx
    ·omega
   ·rw [s4,h5,s2];constructor
    ·rintro (⟨v,hv,e,hm⟩ | hm)
     ·exact ⟨v,.inl hv,e,hm⟩
     ·exact ⟨w,.inr rfl,hl.symm,hm⟩
    ·rintro ⟨v,hv | rfl,e,hm⟩
     ·exact .inl ⟨v,hv,e,hm⟩
     ·exact .inr hm
  ·rw [t2 hl];refine⟨hto,⟨w,.inr rfl,rfl⟩,fun x hx=>?_,hasc,fun x=>⟨fun hx=>⟨w,.inr rfl,rfl,hx⟩,?_⟩⟩
   ·rcases hx with hx | rfl
    ·have:=h3 x hx;omega
    ·exact Int.le_refl _
   ·rintro ⟨v,hv | rfl,e,hm⟩
    ·have:=h3 v hv;omega
    ·exact hm
theorem Zav.good {b:WayD}(h:Zav to S (some b))(hS:∀ w,S w->GoodW w/\w.to=to):GoodW b:=by
 have h6:=h.hop6 (fun w hw=>(hS w hw).1.hop6);obtain⟨h1,⟨u,hu,e1⟩,h3,h4,h5⟩:=h;have hg:=hS u hu;exact⟨by rw [h1, <-hg.2];exact hg.1.node,by rw [<-e1];exact hg.1.cost,h4,h6⟩
def ZaA (S:Int->WayD->Prop)(ds:List WayD):Prop:=AscW ds/\∀ to,Zav to (S to) (ZaR ds to)
theorem ZaA.unique {S:Int->WayD->Prop}{b:List WayD}(ha:ZaA S a)(hb:ZaA S b):a=b:=
 Zlg ha.1 hb.1 (fun to=>(ha.2 to).unique (hb.2 to))
theorem ZaA.congr {S T:Int->WayD->Prop}(ha:ZaA S a)(e:∀ to w,S to w↔T to w):ZaA T a:=
 ⟨ha.1,fun to=>(ha.2 to).congr (e to)⟩
theorem ZaA.good {S:Int->WayD->Prop}(h:ZaA S ds)(hS:∀ to w,S to w->GoodW w/\w.to=to):∀ w∈ds,GoodW w:=by
 intro w hw;have h1:=h.2 w.to;rw [Zc6 h.1 hw] at h1;exact h1.good (hS w.to)
theorem ZeJ (h:AscW ds)(hg:∀ w∈ds,1<=w.to/\w.to<=6):ds.length<=6:=by
 have h1:(ds.map (·.to)).Pairwise (· < ·):=by rw [YAY];exact h
 have:=ZdK h1 (fun z hz=>by
  obtain⟨w,hw,rfl⟩:=YAV.1 hz;exact hg w hw)
 simpa using this
theorem ZaA.put {tog:WayD->WayD->WayD}(ht:ZiP tog){S:Int->WayD->Prop}{es:List WayD}(h:ZaA S ds)(hS:∀ to w,S to w->GoodW w/\w.to=to)(hw:GoodW w)(he:AscW es)(hf:∀ to,ZaR es to=if to=w.to then ZeZ tog (ZaR ds to) (some w) else ZaR ds to):ZaA (fun to x=>S to x\/(x=w/\w.to=to)) es:=by
 refine⟨he,fun to=>?_⟩;rw [hf];by_cases e:to=w.to
 ·rw [if_pos e];refine ((h.2 to).add ht (fun v hv=>(hS to v hv).1.hop6) e.symm hw.asc hw.hop6).congr (fun x=>?_);constructor
  ·rintro (h1 | h1)
   ·exact .inl h1
   ·exact .inr ⟨h1,e.symm⟩
  ·rintro (h1 | h1)
   ·exact .inl h1
   ·exact .inr h1.1
 ·rw [if_neg e];refine (h.2 to).congr (fun x=>⟨.inl,?_⟩);rintro (h1 | h1)
  ·exact h1
  ·exact absurd h1.2.symm e
theorem Zhp {c:Nat->Int}{h:Nat->List Int}{w:WayD}:∀ k:Nat,w∈ZcR c h k↔∃ v:Nat,1<=v/\v<=k/\0<=c v/\w=⟨(v:Int),c v,h v⟩
 | 0=>by simp [ZcR];omega
 | k+1=>by
  have ih:=Zhp (c:=c) (h:=h) (w:=w) k;rw [Zel c h (by omega)];simp only [Nat.add_sub_cancel,YAH];rw [ih];constructor
  ·rintro (⟨v,h1,h2,h3⟩ | h4)
   ·exact ⟨v,h1,by omega,h3⟩
   ·split at h4
    ·rename_i h0
     exact⟨k+1,by omega,by omega,h0,by simpa using h4⟩
    ·simp at h4
  ·rintro ⟨v,h1,h2,h3,h4⟩;by_cases e:v=k+1
   ·subst e;right;rw [if_pos h3,h4];simp
   ·exact .inl ⟨v,h1,by omega,h3,h4⟩
theorem ZjP (c:Nat->Int)(h:Nat->List Int):∀ k:Nat,AscW (ZcR c h k)
 | 0=>by simp [ZcR,AscW]
 | k+1=>by
  have ih:=ZjP c h k;rw [Zel c h (by omega)];simp only [Nat.add_sub_cancel];unfold AscW;rw [YAP];refine⟨ih,by split <;> simp,fun a ha b hb=>?_⟩;obtain⟨v,h1,h2,_,rfl⟩:=(Zhp k).1 ha
  split at hb
  ·have hb':b=⟨((k+1:Nat):Int),c (k+1),h (k+1)⟩:=by simpa using hb
   subst hb';show (v:Int)<((k+1:Nat):Int);omega
  ·simp at hb
theorem Zlp {F G:Nat->Bool}(h:∀ u,F u=true->G u=true):Zdm F<=Zdm G:=by
 have h1:∀ u,(F u).toNat<=(G u).toNat:=fun u=>by
  cases e:F u
  ·simp
  ·rw [h u e];exact YA _
 unfold Zdm;have:=h1 1;have:=h1 2;have:=h1 3;have:=h1 4;have:=h1 5;have:=h1 6;omega
theorem Fix.bound {L:Nat->Nat->Int}{src:Nat}(A:Fix L src c h)(hL:Links L 1000):∀ (n v:Nat),0<=c v->(c v).toNat<=n->c v<=1000*(Zdm (fun x=>decide (0<=c x/\c x<c v)):Int):=by
 obtain⟨F,I,hF⟩:=A;intro n
 induction n with
 | zero=>
  intro v h0 hn;have:c v=0:=by omega
  omega
 | succ n ih=>
  intro v h0 hn;by_cases hv:v=src
  ·subst hv;rw [I.start];omega
  ·obtain ⟨u,hu,hl,hc⟩:=I.pred v hv h0;have h1:=(I.fnode u hu).2;have h2:=ih u h1 (by omega);have hle:=hL.le u v;have hcard:Zdm (fun x=>decide (0<=c x/\c x<c u))+1<=Zdm (fun x=>decide (0<=c x/\c x<c v)):=by
    rw [<-Zfq (F:=fun x=>decide (0<=c x/\c x<c u)) (u:=u) (I.fnode u hu).1 (by simp)];refine Zlp (fun x hx=>?_);simp only [Bool.or_eq_true,YAk,beq_iff_eq] at hx |-
    rcases hx with hx | rfl
    ·omega
    ·omega
   omega
theorem Fix.bound6 {L:Nat->Nat->Int}{src:Nat}(A:Fix L src c h)(hL:Links L 1000)(v:Nat)(h0:0<=c v):c v<=6000:=by
 have h1:=A.bound hL _ v h0 (YA _);have h2:=ZiX (fun x=>decide (0<=c x/\c x<c v));omega
theorem ZbS.asc {xs:List RecD}{area src:Int}(h:ZbS xs area src ds):AscW ds/\∀ w∈ds,GoodW w/\w.cost<=6000:=by
 unfold ZbS at h
 split at h
 ·rename_i e
  have hst:ZaN xs=true:=by
   simp only [YAO] at e;exact e.1.1
  obtain⟨c,g,A,rfl⟩:=h;refine⟨ZjP c g 6,fun w hw=>?_⟩;obtain⟨v,h1,h2,h3,rfl⟩:=(Zhp 6).1 hw;have hb:=A.bound6 (ZfX hst) v h3;obtain⟨F,I,_⟩:=A;exact⟨⟨⟨by show 1<=(v:Int);omega,by show (v:Int)<=6;omega⟩,⟨h3,by show c v<=60000;omega⟩,I.asc v,fun z hz=>I.rng v z hz⟩,hb⟩
 ·subst h;exact⟨by simp [AscW],by simp⟩
theorem ZcD (xs:List RecD)(area src:Int):AscW (Zcd xs area src)/\∀ w∈Zcd xs area src,GoodW w/\w.cost<=6000:=by
 by_cases h:∃ ds,ZbS xs area src ds
 ·obtain ⟨ds,hd⟩:=h;rw [<-hd.eq];exact hd.asc
 ·unfold Zcd;rw [dif_neg h];exact⟨by simp [AscW],by simp⟩
theorem ZjU {ps:List WP}(hl:ps.length<=6)(hg:∀ w∈Zam ps,w.hops.length<=6):totW ps<=42:=by
 have:∀ qs:List WP,(∀ w∈Zam qs,w.hops.length<=6)->totW qs<=7*qs.length:=by
  intro qs
  induction qs with
  | nil=>intro _;simp [totW]
  | cons q qs ih=>
   intro h;rw [Zgo,YAd];have h1:=h q.1 (by simp [Zam]);have h2:=ih (fun w hw=>h w (by simp only [Zam,List.map_cons,YAR] at hw |-;exact .inr hw));omega
 have:=this ps hg;omega
theorem Tryz.infoI :(Tryz.prog.info? 37).map (fun i=>(i.zero,i.size,i.bytes))=some (some (.slice none 0 0),1,24):=by kernel_rfl
theorem Tryz.infoBl :(Tryz.prog.info? 4).map (fun i=>(i.zero,i.size,i.bytes))=some (some (.bool false),1,1):=by kernel_rfl
theorem drewB {B:Nat}{w W:World}(h:Below B w W):Below B w W.drew:=h.trans ⟨rfl,rfl,rfl,YA _,fun _ _=>rfl⟩
theorem ZdU (n:Nat)(w:World):Below w.heap.size w (w.drewN n):=⟨rfl,rfl,rfl,YA _,fun _ _=>rfl⟩
theorem SSt.grow {W W':World}{g b lo n:Nat}{o:Nat->Nat->Int}{F:Nat->Bool}{hv:Nat->Value}{u:Value}{xs:List Value}(s:SSt W g b o F c h hv)(hr:W.ownsRow lo 144 3 u n xs)(hk:∀ k,k<W.heap.size->some k≠u.ownBlock->W'.heap[k]? = W.heap[k]?):SSt W' g b o F c h hv:=
 ⟨s.gb,(hk g (Zab s.ln) (Zas hr s.ln (by decide))).trans s.ln,(hk b (Zab s.cs) (Zas hr s.cs (by decide))).trans s.cs,(hk (b+1) (Zab s.hs) (Zas hr s.hs (by decide))).trans s.hs,(hk (b+1+1) (Zab s.ds) (Zas hr s.ds (by decide))).trans s.ds,fun v=>Zai (s.rows v) (fun k hk2=>hk k ((s.rows v).lt k hk2).2 (by
  rcases (s.rows v).2 with ⟨e1,_⟩ | ⟨g2,cap,cur,e1,_,hh,_⟩
  ·rw [e1] at hk2;cases hk2
  ·rw [e1] at hk2;simp [Value.ownBlock] at hk2;subst hk2;exact Zas hr hh (by decide))),s.short⟩
theorem Zee (v:Value)(ps:List RP)(hi:Nat)(area src:Int)(w:World)(hv:RecsIn w hi v ps)(hhi:hi<=w.heap.size)(hn:tot ps<=1048576):
  Calls Tryz.prog 107 #[v,.int .i64 area,.int .i64 src] w fun e w'=>∃ u qs,e=.returned u/\ZbS (fsts ps) area src (Zam qs)/\WaysOwn w' w.heap.size w'.heap.size u qs/\Below w.heap.size w w':=by
 obtain⟨a1,c1,rfl⟩:=Zac hv.row;have BW0:Below w.heap.size w (w.alloc (.cells #[] 144)):=(YAB _ _).alloc (YA _) _;have WO0:=ZhR w w.heap.size (YA _);have hs0:(w.alloc (.cells #[] 144)).heap.size=w.heap.size+1:=by simp
 obtain⟨w0,hw0⟩:∃ W,W=w.alloc (.cells #[] 144):=⟨_,rfl⟩;rw [<-hw0] at BW0 WO0 hs0;have hv0:=hv.below BW0 hhi;have hh0:hi<=w0.heap.size:=by omega
 have HN:=hide (fun W (hb:Below w0.heap.size w0 W)=>Zgg (.slice a1 ps.length c1) ps hi area src W (hv0.below hb hh0) (YAG hh0 hb.size) hn);have HS:=hide (fun W (hb:Below w0.heap.size w0 W)=>ZcM (.slice a1 ps.length c1) ps W hn (ZbT.more ((hv0.below hb hh0).at) (YAG hh0 hb.size)));have HL:=hide (fun W (hb:Below w0.heap.size w0 W)=>ZkT (.slice a1 ps.length c1) ps hi area W (hv0.below hb hh0) (YAG hh0 hb.size) hn);have WO:=hide WO0;clear hv hv0 WO0;obtain⟨D,hD⟩:∃ D,D=ZdR (fsts ps) area src:=⟨_,rfl⟩;obtain⟨NB,hNB⟩:∃ b,b=ZkI (fsts ps) area src:=⟨_,rfl⟩;obtain⟨SB,hSB⟩:∃ b,b=ZaN (fsts ps):=⟨_,rfl⟩;obtain⟨IB,hIB⟩:∃ b,b=inB src 1 6:=⟨_,rfl⟩;rw [<-hD, <-hNB] at HN;rw [<-hSB] at HS;have HNB:=hide hNB;have HSB:=hide hSB;have HIB:=hide hIB;clear hD hNB hSB hIB;unfold recC at HN
 go_enter Tryz.func107,Tryz.ntmps107
 go_wp2_with fail
 rw [<-hw0];clear hw0;refine (HN.out _ (YAB _ _)).mono ?_;rintro e w1 ⟨u,rfl,hu,hul,b1⟩;obtain⟨ua,uc,rfl⟩:=ZaJ.shape hu;have BX:Below w0.heap.size w0 (w1.alloc (.cells #[.int .i64 D.area,.int .i64 D.kind,.int .i64 D.owner,.int .i64 D.key,.int .i64 D.seq,.slice ua D.near.length uc,.int .i64 D.cost,.bool D.far] 132)):=b1.alloc b1.size _;obtain⟨w2,hw2⟩:∃ W,W=w1.alloc (.cells #[.int .i64 D.area,.int .i64 D.kind,.int .i64 D.owner,.int .i64 D.key,.int .i64 D.seq,.slice ua D.near.length uc,.int .i64 D.cost,.bool D.far] 132):=⟨_,rfl⟩;rw [<-hw2] at BX;clear hu hul HN
 go_wp2_with fail
 rw [<-hw2];clear hw2 b1;refine (HS.out _ BX).mono ?_;rintro e w3 ⟨rfl,b3⟩;have B3:Below w0.heap.size w0 w3:=BX.trans (b3.mono BX.size);have B3w:Below w.heap.size w w3:=BW0.trans (B3.mono (by omega));have EMP:=hide (fun (e:(SB&&IB&&NB)=false)=>show ZbS (fsts ps) area src (Zam []) by unfold ZbS;rw [<-HSB.out, <-HIB.out, <-HNB.out,e];rfl);have WO3:=hide ((WO.out.below B3 (YA _)).wide (YA _) B3.size);clear HS b3;cases SB
 ·go_wp2;go_ret;exact⟨_,[],rfl,EMP.out rfl,WO3.out,B3w⟩
 ·go_wp2_with fail
  refine (Zbs _ _ _ _).mono ?_;rintro e w4 ⟨rfl,rfl⟩;rw [<-HIB.out];cases IB
  ·go_wp2;go_ret;exact⟨_,[],rfl,EMP.out rfl,WO3.out,B3w⟩
  ·cases NB
   ·go_wp2;go_ret;exact⟨_,[],rfl,EMP.out rfl,WO3.out,B3w⟩
   ·go_wp2_with fail
    refine (HL.out _ B3).mono ?_;rintro e w4 ⟨o,rfl,hg,ho,b4⟩;obtain⟨s,rfl⟩:∃ s:Nat,src=(s:Int):=⟨src.toNat,by have:=ZfU.1 HIB.out.symm;omega⟩;have hs6:=ZfU.1 HIB.out.symm;have hs1:1<=s:=by omega
    have hs7:s<=6:=by omega
    have HLK:=hide (ZfX (area:=area) HSB.out.symm);have HO:=hide (show ∀ u v,1<=u->u<=6->1<=v->v<=6->o u v=Zhx (fsts ps) area u v by
     intro u v h1 h2 h3 h4;rw [ho u v h1 h2 h3 h4];unfold Zhx;rw [if_pos ⟨⟨h1,h2⟩,h3,h4⟩])
    have FIN:=hide (fun c h (hf:Fix (Zhx (fsts ps) area) s c h)=>show ZbS (fsts ps) area (s:Int) (ZcR c h 6) by
     unfold ZbS;rw [<-HSB.out, <-HIB.out, <-HNB.out];exact⟨c,h,by simpa using hf,rfl⟩)
    obtain⟨L,hLL⟩:∃ L,L=Zhx (fsts ps) area:=⟨_,rfl⟩;rw [<-hLL] at HLK HO FIN;clear hLL ho EMP HSB HIB HNB;obtain⟨g,hgg⟩:∃ g,g=w3.heap.size:=⟨_,rfl⟩;rw [<-hgg] at hg |-;have B4:Below w0.heap.size w0 w4:=B3.trans (b4.mono B3.size);have S5:=SSt.start hg;have B5:Below w0.heap.size w0 (((w4.alloc (.cells (rowA (fun _=>.int .i64 0) 7) 3)).alloc (.cells (rowA (fun _=>.slice none 0 0) 7) 37)).alloc (.cells (rowA (fun _=>.bool false) 7) 4)):=((B4.alloc B4.size _).alloc (by have:=B4.size;simp;omega) _).alloc (by have:=B4.size;simp;omega) _;have hb4:=B4.size;have hgz:w0.heap.size<=g:=by rw [hgg];exact B3.size
    clear b4 B3 B3w WO3 hg BX hgg HL
    go_wp2_with (first | (at_make;first | refine Za4 _ rfl _ _ 37 rfl 3 (.int .i64 0) 8 Tryz.underlying37 Tryz.info3 rfl 7 rfl rfl (by omega) (by omega) ?_ | refine Za4 _ rfl _ _ 182 rfl 37 (.slice none 0 0) 24 Tryz.underlying182 Tryz.infoI rfl 7 rfl rfl (by omega) (by omega) ?_ | refine Za4 _ rfl _ _ 83 rfl 4 (.bool false) 1 Tryz.underlying83 Tryz.infoBl rfl 7 rfl rfl (by omega) (by omega) ?_))
    generalize (((w4.alloc (.cells (rowA (fun _=>.int .i64 0) 7) 3)).alloc (.cells (rowA (fun _=>.slice none 0 0) 7) 37)).alloc (.cells (rowA (fun _=>.bool false) 7) 4))=w5 at *;obtain⟨b,hb⟩:∃ b,b=w4.heap.size:=⟨_,rfl⟩;go_wp2;rw [<-hb] at S5 hb4 |-;clear hb B4;have HS5:=hide S5;clear S5
    go_loopw [14] (fun i wr=>∃ k:Nat,1<=k/\k<=7/\i=.int .i64 (k:Int)/\SSt wr g b o (fun _=>false) (fun v=>if v<k then -1 else 0) (fun _=>[]) (fun _=>.slice none 0 0)/\Below w0.heap.size w0 wr) (fun i _=>8-(intOf i).toNat)
    case atStart=>exact ⟨1,by omega,by omega,rfl,HS5.out.congr (fun v h1 h2=>by rw [if_neg (by omega)]),B5⟩
    case round=>
     rename World=>wa
     obtain⟨k,hk1,hk,rfl,hst,hnx⟩:=hrel;have HST:=hide hst;clear hst HS5 B5;by_cases hlt:k<7
     ·have hk6:(k:Int)<=6:=by omega
      have hj1:(0:Int)<=(k:Int):=by omega
      have hj2:(k:Int)<7:=by omega
      obtain⟨x1,d1⟩:∃ x,wa.cell? ⟨b,k,none⟩=some (.int .i64 x):=⟨_,HST.out.cost (v:=k) (by omega) (by omega)⟩;have f1:=Zae HST.out.cs;have S6:=hide ((HST.out.setC (v:=k) (by omega) (-1)).congr (d:=fun v=>if v<k+1 then -1 else 0) (fun v h1 h2=>by
       show (if v<k+1 then (-1:Int) else 0)=if v=k then -1 else if v<k then -1 else 0
       by_cases e:v=k
       ·rw [if_pos e,if_pos (by omega)]
       ·rw [if_neg e];by_cases e2:v<k
        ·rw [if_pos e2,if_pos (by omega)]
        ·rw [if_neg (by omega),if_neg (by omega)]))
      have B6:=hide (hnx.setCell (p:=⟨b,k,none⟩) (by show w0.heap.size<=b;omega) (.int .i64 (-1)));go_wp2;go_roundw
      case rel=>exact ⟨k+1,by omega,by omega,by go_num,S6.out,B6.out⟩
      case measure=>simp [intOf];omega
     ·have hk6:¬(k:Int)<=6:=by omega
      have hkk:k=7:=by omega
      subst hkk;obtain⟨x1,d1⟩:∃ x,wa.cell? ⟨b,s,none⟩=some (.int .i64 x):=⟨_,HST.out.cost (v:=s) (by omega) (by omega)⟩;have f1:=Zae HST.out.cs;have hj1:(0:Int)<=(s:Int):=by omega
      have hj2:(s:Int)<7:=by omega
      have S6:=hide ((HST.out.setC (v:=s) (by omega) 0).congr (d:=fun v=>if v=s then 0 else -1) (fun v h1 h2=>by
       show (if v=s then (0:Int) else -1)=if v=s then 0 else if v<7 then -1 else 0
       by_cases e:v=s
       ·rw [if_pos e,if_pos e]
       ·rw [if_neg e,if_neg e,if_pos (by omega)]))
      have B6:=hide (hnx.setCell (p:=⟨b,s,none⟩) (by show w0.heap.size<=b;omega) (.int .i64 0));go_wp2;generalize wa.setCell ⟨b,s,none⟩ (.int .i64 0)=w6 at *;clear HST d1 f1 hnx hk6
      go_loopw [15] (fun i wr=>∃ (r:Nat) (F:Nat->Bool) (c:Nat->Int) (h:Nat->List Int) (hv:Nat->Value),1<=r/\r<=7/\i=.int .i64 (r:Int)/\Hid (SSt wr g b o F c h hv)/\Hid (AtRound L s F c h r)/\Below w0.heap.size w0 wr) (fun i _=>8-(intOf i).toNat)
      case atStart=>exact ⟨1,_,_,_,_,by omega,by omega,rfl,S6,hide (AtRound.init ⟨hs1,hs7⟩),B6.out⟩
      case round=>
       rename World=>wb
       obtain⟨r,F,c,h,hv,hr1,hr7,rfl,HS,HA,hnx⟩:=hrel;clear S6 B6;by_cases hrl:r<7
       ·have hr6:(r:Int)<=6:=by omega
        go_wp2
        go_loopw [17,16] (fun i a' wr=>∃ (v a:Nat),1<=v/\v<=7/\a<=6/\i=.int .i64 (v:Int)/\a'=.int .i64 (a:Int)/\Hid (ZiN F c v a)/\Hid (SSt wr g b o F c h hv)/\Below w0.heap.size w0 wr) (fun i _ _=>8-(intOf i).toNat)
        case atStart=>exact ⟨1,0,by omega,by omega,by omega,rfl,rfl,hide (.inl ⟨rfl,fun x h1 h2=>by omega⟩),HS,hnx⟩
        case round=>
         rename World=>wc
         obtain⟨v,a,hv1,hv7,ha6,rfl,rfl,HM,HSc,hnc⟩:=hrel;clear HS hnx;by_cases hvl:v<7
         ·have hv6:(v:Int)<=6:=by omega
          have hvi:(0:Int)<=(v:Int):=by omega
          have hvj:(v:Int)<7:=by omega
          have dd:=HSc.out.done (v:=v) (by omega);have dc:=HSc.out.cost (v:=v) hv1 (by omega);have SB:=hide (fun W (hb:Below wc.heap.size wc W)=>HSc.out.below hb);obtain⟨x,hx⟩:∃ x,x=c v:=⟨_,rfl⟩;rw [<-hx] at dc;have HX:=hide hx;clear hx;cases hF:F v with
          | true=>
           rw [hF] at dd;have HM2:=hide (ZeY HM.out (.inl hF));clear HSc;go_wp2
           go_quiet (fail)
           go_wp2;go_roundw
           case rel=>exact ⟨v+1,a,by omega,by omega,ha6,by go_num,rfl,HM2,hide (SB.out _ (ZdU _ _)),hnc.trans ((ZdU _ _).mono hnc.size)⟩
           case measure=>simp [intOf];omega
          | false=>
           rw [hF] at dd;by_cases hx0:0<=x
           ·by_cases ha:a=0
            ·subst ha;have HM2:=hide (ZgS HM.out hv1 hF (by rw [<-HX.out];exact hx0) (.inl rfl));clear HSc;go_wp2
             go_quiet (fail)
             go_wp2;go_roundw
             case rel=>exact ⟨v+1,v,by omega,by omega,by omega,by go_num,rfl,HM2,hide (SB.out _ (ZdU _ _)),hnc.trans ((ZdU _ _).mono hnc.size)⟩
             case measure=>simp [intOf];omega
            ·obtain ⟨y,hy⟩:∃ y,y=c a:=⟨_,rfl⟩;have da:=HSc.out.cost (v:=a) (by omega) ha6;rw [<-hy] at da;have HY:=hide hy;have hai:(0:Int)<=(a:Int):=by omega
             have haj:(a:Int)<7:=by omega
             have hane:((a:Int)==0)=false:=by simpa using (show ¬(a:Int)=0 by omega)
             have hane2:¬(a:Int)=0:=by omega
             clear hy HSc;by_cases hxy:x<y
             ·have HM2:=hide (ZgS HM.out hv1 hF (by rw [<-HX.out];exact hx0) (.inr (by rw [<-HX.out, <-HY.out];exact hxy)));go_wp2
              go_quiet (fail)
              go_wp2;go_roundw
              case rel=>exact ⟨v+1,v,by omega,by omega,by omega,by go_num,rfl,HM2,hide (SB.out _ (ZdU _ _)),hnc.trans ((ZdU _ _).mono hnc.size)⟩
              case measure=>simp [intOf];omega
             ·have HM2:=hide (ZeY HM.out (.inr (.inr ⟨by omega,by rw [<-HX.out, <-HY.out];omega⟩)));go_wp2
              go_quiet (fail)
              go_wp2;go_roundw
              case rel=>exact ⟨v+1,a,by omega,by omega,ha6,by go_num,rfl,HM2,hide (SB.out _ (ZdU _ _)),hnc.trans ((ZdU _ _).mono hnc.size)⟩
              case measure=>simp [intOf];omega
           ·have HM2:=hide (ZeY HM.out (.inr (.inl (by rw [<-HX.out];omega))));have hxd:decide (0<=x)=false:=by simpa using hx0
            have hxe:decide (x>=0)=false:=by simpa using hx0
            clear HSc;go_wp2
            go_quiet (fail)
            go_wp2;go_roundw
            case rel=>exact ⟨v+1,a,by omega,by omega,ha6,by go_num,rfl,HM2,hide (SB.out _ (ZdU _ _)),hnc.trans ((ZdU _ _).mono hnc.size)⟩
            case measure=>simp [intOf];omega
         ·have hv6:¬(v:Int)<=6:=by omega
          have hvv:v=7:=by omega
          subst hvv;by_cases ha:a=0
          ·subst ha;have HA2:=hide (HA.out.none HM.out);go_wp2;go_roundw
           case rel=>exact ⟨7,F,c,h,hv,by omega,by omega,by go_num,HSc,HA2,hnc⟩
           case measure=>simp [intOf];omega
          ·have HMA:=HM.out;have hm2:1<=a/\a<7/\F a=false/\0<=c a:=by
            rcases HMA with ⟨h1,_⟩ | ⟨h1,h2,h3,h4,_⟩
            ·exact absurd h1 ha
            ·exact ⟨h1,h2,h3,h4⟩
           have hai:(0:Int)<=(a:Int):=by omega
           have haj:(a:Int)<7:=by omega
           have hane:((a:Int)==0)=false:=by
            have h1:¬(a:Int)=0:=by omega
            simpa using h1
           have hane2:¬(a:Int)=0:=by omega
           have dd:=HSc.out.done (v:=a) ha6;have fd:=Zae HSc.out.ds;have SD:=hide (HSc.out.setD a);have BD:=hide (hnc.setCell (p:=⟨b+1+1,a,none⟩) (by show w0.heap.size<=b+1+1;omega) (.bool true));have HFa:=hide hm2.2.2.1;have hca:=hm2.2.2.2;have HAN:=hide (HA.out.next HLK.out hrl HM.out (by omega));have hcb:=HA.out.bnd a;have hcard:Zdm F<=5:=by
            have h1:=Zfq (F:=F) (u:=a) ⟨by omega,by omega⟩ hm2.2.2.1;have h2:=ZiX (fun v=>F v||v==a);omega
           have hcb2:c a<=5000:=by omega
           clear HMA HM hm2 hcb hcard;go_wp2;generalize wc.setCell ⟨b+1+1,a,none⟩ (.bool true)=wd at *;clear dd fd HSc hnc
           go_loopw [18] (fun i wr=>∃ (v:Nat) (hw:Nat->Value),1<=v/\v<=7/\i=.int .i64 (v:Int)/\Hid (SSt wr g b o (fun x=>F x||x==a) (mixC L c a v) (mixH L s c h a v) hw)/\Below w0.heap.size w0 wr) (fun i _=>8-(intOf i).toNat)
           case atStart=>exact ⟨1,hv,by omega,by omega,rfl,hide (by rw [Zna HLK.out,Znc HLK.out];exact SD.out),BD.out⟩
           case round=>
            rename World=>we
            obtain⟨v,hw,hv1,hv7,rfl,HSe,hne⟩:=hrel;clear SD BD;by_cases hvl:v<7
            ·have hv6:(v:Int)<=6:=by omega
             have hvi:(0:Int)<=(v:Int):=by omega
             have hvj:(v:Int)<7:=by omega
             have hm1:IntKind.i64.wrap ((a:Int)*7)=((a*7:Nat):Int):=by rw [ZbF _ (by omega) (by omega)];omega
             have hm2:IntKind.i64.wrap (((a*7:Nat):Int)+(v:Int))=((a*7+v:Nat):Int):=by rw [ZbF _ (by omega) (by omega)];omega
             have hm3:(0:Int)<=((a*7+v:Nat):Int):=by omega
             have hm4:((a*7+v:Nat):Int)<49:=by omega
             have dl:=HSe.out.link (u:=a) (v:=v) ha6 (by omega);have dd:=HSe.out.done (v:=v) (by omega);have dcv:=HSe.out.cost (v:=v) hv1 (by omega);have dca:=HSe.out.cost (v:=a) (by omega) ha6;have dhv:=HSe.out.hop (v:=v) (by omega);have dha:=HSe.out.hop (v:=a) ha6;rw [HO.out a v (by omega) ha6 hv1 (by omega)] at dl;rw [Zij] at dcv;rw [Zol hca] at dca;have RV:=HSe.out.rows v;have RA:=HSe.out.rows a;rw [Zf1] at RV;rw [ZlV hca] at RA;have hlv:(h v).length<=6:=by have:=HSe.out.short v;rw [Zf1] at this;exact this
             have hla:(h a).length<=6:=by have:=HSe.out.short a;rw [ZlV hca] at this;exact this
             obtain⟨pv,qv,epv⟩:=Zac RV;obtain⟨pa,qa,epa⟩:=Zac RA;rw [epv] at dhv RV;rw [epa] at dha RA;have hsz:=HSe.out.size;have hgb:=HSe.out.gb;have HRV:=hide RV;have HRA:=hide RA;clear RV RA epv epa;have hl0:=HLK.out.pos a v;have hl1:=HLK.out.le a v;obtain⟨lk,hlk⟩:∃ x,x=L a v:=⟨_,rfl⟩;obtain⟨fd,hfd⟩:∃ x,x=(F v||v==a):=⟨_,rfl⟩;obtain⟨cv,hcv⟩:∃ x,x=c v:=⟨_,rfl⟩;obtain⟨ca,hcae⟩:∃ x,x=c a:=⟨_,rfl⟩;rw [<-hlk] at dl hl0 hl1;rw [<-hfd] at dd;rw [<-hcv] at dcv;rw [<-hcae] at dca;have hca':0<=ca:=by rw [hcae];exact hca
             have hca5:ca<=5000:=by rw [hcae];exact hcb2
             have HLk:=hide hlk;have HFd:=hide hfd;have HCv:=hide hcv;have HCa:=hide hcae;clear hlk hfd hcv hcae;have KEEP:=hide (fun (hk:ZbG L s c h a v=h v/\Zar L c a v=c v)=>show SSt we g b o (fun x=>F x||x==a) (mixC L c a (v+1)) (mixH L s c h a (v+1)) hw by rw [ZdB hk.2,Zf0 hk.1];exact HSe.out);by_cases hlz:lk=0
             ·have HK:=hide (KEEP.out (Zga (by rw [<-HLk.out];omega)));subst hlz;clear KEEP HSe;go_wp2;go_roundw
              case rel=>exact ⟨v+1,hw,by omega,by omega,by go_num,HK,hne⟩
              case measure=>simp [intOf];omega
             ·have hlb:(lk==0)=false:=by simpa using hlz
              have hlp:0<lk:=by omega
              cases fd
              ·have hw9:IntKind.i64.wrap (ca+lk)=ca+lk:=ZbF _ (by omega) (by omega);have hgl:g<we.heap.size:=by omega
               have hbl:b<we.heap.size:=by omega
               have hbl1:b+1<we.heap.size:=by omega
               have hbl2:b+1+1<we.heap.size:=by omega
               by_cases has:a=s
               ·subst has;have hnw:we.heap.size<(we.alloc (.cells #[.int .i64 (v:Int)] 3)).heap.size:=by simp
                have S0:=HSe.out.below ((YAB we.heap.size we).alloc (YA _) (.cells #[.int .i64 (v:Int)] 3));have RW:(we.alloc (.cells #[.int .i64 (v:Int)] 3)).ownsRow (b+3) 3 1 (.slice (some ⟨we.heap.size,0,none⟩) 1 1) [(v:Int)].length (flat intE [(v:Int)]):=YAU we #[.int .i64 (v:Int)] 1 hsz (by unfold maxLen;omega) (by simp);have RV0:=Zad HRV.out ((YAB we.heap.size we).alloc (YA _) (.cells #[.int .i64 (v:Int)] 3)) (YA _);have BW:Below w0.heap.size w0 (we.alloc (.cells #[.int .i64 (v:Int)] 3)):=hne.alloc hne.size _;have hwl:wayL a h a v=[(v:Int)]:=by unfold wayL;rw [if_pos rfl]
                have HWL:=hide hwl;have HS0:=hide S0;have HRW:=hide RW;have HRV0:=hide RV0;have HBW:=hide BW;clear S0 RW RV0 BW hwl;by_cases hc0:cv<0
                ·have hrx:=Zdf (L:=L) (src:=a) (c:=c) (h:=h) (u:=a) (v:=v) (by rw [<-HLk.out];exact hlp) (by rw [<-HCv.out];exact .inl hc0);rw [HWL.out, <-HCa.out, <-HLk.out] at hrx;have HRX:=hide hrx;have ez:(we.setCell ⟨b,v,none⟩ (.int .i64 (ca+lk))).heap.size=we.heap.size:=by simp
                 have S1:=((HSe.out.setC (v:=v) hv1 (ca+lk)).below ((YAB _ _).alloc (YA _) (.cells #[.int .i64 (v:Int)] 3))).below ((YAB _ _).alloc (YA _) (.cells #[] 3));have RWx:((we.setCell ⟨b,v,none⟩ (.int .i64 (ca+lk))).alloc (.cells #[.int .i64 (v:Int)] 3)).ownsRow (b+3) 3 1 (.slice (some ⟨(we.setCell ⟨b,v,none⟩ (.int .i64 (ca+lk))).heap.size,0,none⟩) 1 1) [(v:Int)].length (flat intE [(v:Int)]):=YAU _ #[.int .i64 (v:Int)] 1 (by rw [ez];exact hsz) (by unfold maxLen;omega) (by simp);rw [ez] at RWx;have R1:=ZaM (Zad RWx ((YAB _ _).alloc (YA _) (.cells #[] 3)) (YA _));have R0:Zal (((we.setCell ⟨b,v,none⟩ (.int .i64 (ca+lk))).alloc (.cells #[.int .i64 (v:Int)] 3)).alloc (.cells #[] 3)) (.slice (some ⟨we.heap.size+1,0,none⟩) 0 0) [] (((we.setCell ⟨b,v,none⟩ (.int .i64 (ca+lk))).alloc (.cells #[.int .i64 (v:Int)] 3)).alloc (.cells #[] 3)).heap.size:=ZaM (Zck _ _ 0 (by simp) (Nat.zero_le _));have HAD:=hide (Zbt _ _ [] [(v:Int)] _ (by simp) (by simp) R0 R1);have B1:Below w0.heap.size w0 (((we.setCell ⟨b,v,none⟩ (.int .i64 (ca+lk))).alloc (.cells #[.int .i64 (v:Int)] 3)).alloc (.cells #[] 3)):=(((hne.setCell (p:=⟨b,v,none⟩) (by show w0.heap.size<=b;omega) _).alloc (by have:=hne.size;simp;omega) _).alloc (by have:=hne.size;simp;omega) _);clear RWx;have HS1:=hide S1;have HB1:=hide B1;have fc:=Zae HSe.out.cs;clear hrx S1 R1 R0 B1 KEEP HSe HS0 HRW HRV0 HBW
                 go_wp2_with fail
                 refine HAD.out.mono ?_;rintro e w7 ⟨x,rfl,hox,b7⟩;obtain⟨xa,xc,rfl⟩:=Zac hox;have S7:=HS1.out.below b7;have B7:Below w0.heap.size w0 w7:=HB1.out.trans (b7.mono HB1.out.size);have d7:=S7.hop (v:=v) (by omega);have f7:=Zae S7.hs;have S8:=hide (S7.setH v (Zaf hox HS1.out.size) (ZcP _ _));have B8:=hide (B7.setCell (p:=⟨b+1,v,none⟩) (by show w0.heap.size<=b+1;omega) (.slice xa (addL [] [(v:Int)]).length xc));clear S7 B7 hox b7 HAD;go_wp2;go_roundw
                 case rel=>exact ⟨v+1,_,by omega,by omega,by go_num,hide (by rw [ZdC,Zcu,HRX.out.1,HRX.out.2];exact S8.out),B8.out⟩
                 case measure=>simp [intOf];omega
                ·have hc0':0<=cv:=by omega
                 by_cases hcl:ca+lk<cv
                 ·have hrx:=Zdf (L:=L) (src:=a) (c:=c) (h:=h) (u:=a) (v:=v) (by rw [<-HLk.out];exact hlp) (by rw [<-HCv.out, <-HCa.out, <-HLk.out];exact .inr hcl);rw [HWL.out, <-HCa.out, <-HLk.out] at hrx;have HRX:=hide hrx;have ez:(we.setCell ⟨b,v,none⟩ (.int .i64 (ca+lk))).heap.size=we.heap.size:=by simp
                  have S1:=((HSe.out.setC (v:=v) hv1 (ca+lk)).below ((YAB _ _).alloc (YA _) (.cells #[.int .i64 (v:Int)] 3))).below ((YAB _ _).alloc (YA _) (.cells #[] 3));have RWx:((we.setCell ⟨b,v,none⟩ (.int .i64 (ca+lk))).alloc (.cells #[.int .i64 (v:Int)] 3)).ownsRow (b+3) 3 1 (.slice (some ⟨(we.setCell ⟨b,v,none⟩ (.int .i64 (ca+lk))).heap.size,0,none⟩) 1 1) [(v:Int)].length (flat intE [(v:Int)]):=YAU _ #[.int .i64 (v:Int)] 1 (by rw [ez];exact hsz) (by unfold maxLen;omega) (by simp);rw [ez] at RWx;have R1:=ZaM (Zad RWx ((YAB _ _).alloc (YA _) (.cells #[] 3)) (YA _));have R0:Zal (((we.setCell ⟨b,v,none⟩ (.int .i64 (ca+lk))).alloc (.cells #[.int .i64 (v:Int)] 3)).alloc (.cells #[] 3)) (.slice (some ⟨we.heap.size+1,0,none⟩) 0 0) [] (((we.setCell ⟨b,v,none⟩ (.int .i64 (ca+lk))).alloc (.cells #[.int .i64 (v:Int)] 3)).alloc (.cells #[] 3)).heap.size:=ZaM (Zck _ _ 0 (by simp) (Nat.zero_le _));have HAD:=hide (Zbt _ _ [] [(v:Int)] _ (by simp) (by simp) R0 R1);have B1:Below w0.heap.size w0 (((we.setCell ⟨b,v,none⟩ (.int .i64 (ca+lk))).alloc (.cells #[.int .i64 (v:Int)] 3)).alloc (.cells #[] 3)):=(((hne.setCell (p:=⟨b,v,none⟩) (by show w0.heap.size<=b;omega) _).alloc (by have:=hne.size;simp;omega) _).alloc (by have:=hne.size;simp;omega) _);clear RWx;have HS1:=hide S1;have HB1:=hide B1;have fc:=Zae HSe.out.cs;clear hrx S1 R1 R0 B1 KEEP HSe HS0 HRW HRV0 HBW
                  go_wp2_with fail
                  refine HAD.out.mono ?_;rintro e w7 ⟨x,rfl,hox,b7⟩;obtain⟨xa,xc,rfl⟩:=Zac hox;have S7:=HS1.out.below b7;have B7:Below w0.heap.size w0 w7:=HB1.out.trans (b7.mono HB1.out.size);have d7:=S7.hop (v:=v) (by omega);have f7:=Zae S7.hs;have S8:=hide (S7.setH v (Zaf hox HS1.out.size) (ZcP _ _));have B8:=hide (B7.setCell (p:=⟨b+1,v,none⟩) (by show w0.heap.size<=b+1;omega) (.slice xa (addL [] [(v:Int)]).length xc));clear S7 B7 hox b7 HAD;go_wp2;go_roundw
                  case rel=>exact ⟨v+1,_,by omega,by omega,by go_num,hide (by rw [ZdC,Zcu,HRX.out.1,HRX.out.2];exact S8.out),B8.out⟩
                  case measure=>simp [intOf];omega
                 ·by_cases hce:ca+lk=cv
                  ·have hrx:=Zf9 (L:=L) (src:=a) (c:=c) (h:=h) (u:=a) (v:=v) (by rw [<-HLk.out];exact hlp) (by rw [<-HCv.out];exact hc0') (by rw [<-HCv.out, <-HCa.out, <-HLk.out];exact hce);rw [HWL.out] at hrx;have HRX:=hide hrx;have HAD:=hide (Zbt _ _ (h v) [(v:Int)] (we.alloc (.cells #[.int .i64 (v:Int)] 3)) (by omega) (by simp) (ZaM HRV0.out) (ZaM HRW.out));have hceb:(ca+lk==cv)=true:=by simpa using hce
                   have hcln:¬ca+lk<cv:=hcl;have HCE:=hide hce;clear hrx KEEP hce HSe
                   go_wp2_with fail
                   refine HAD.out.mono ?_;rintro e w7 ⟨x,rfl,hox,b7⟩;obtain⟨xa,xc,rfl⟩:=Zac hox;have S7:=HS0.out.below b7;have B7:Below w0.heap.size w0 w7:=HBW.out.trans (b7.mono HBW.out.size);have d7:=S7.hop (v:=v) (by omega);have f7:=Zae S7.hs;have S8:=hide (S7.setH v (Zaf hox HS0.out.size) (ZcP _ _));have B8:=hide (B7.setCell (p:=⟨b+1,v,none⟩) (by show w0.heap.size<=b+1;omega) (.slice xa (addL (h v) [(v:Int)]).length xc));have HU:=hide (show mixC L c a (v+1)=mixC L c a v from ZdB HRX.out.2);clear S7 B7 hox b7 HAD;go_wp2;go_roundw
                   case rel=>exact ⟨v+1,_,by omega,by omega,by go_num,hide (by rw [HU.out,Zcu,HRX.out.1];exact S8.out),B8.out⟩
                   case measure=>simp [intOf];omega
                  ·have hrx:=Zeb (L:=L) (src:=a) (c:=c) (h:=h) (u:=a) (v:=v) (by rw [<-HCv.out];exact hc0') (by rw [<-HCv.out, <-HCa.out, <-HLk.out];omega);have HK:=hide (show SSt (we.alloc (.cells #[.int .i64 (v:Int)] 3)) g b o (fun x=>F x||x==a) (mixC L c a (v+1)) (mixH L a c h a (v+1)) hw by rw [ZdB hrx.2,Zf0 hrx.1];exact HS0.out);have hceb:(ca+lk==cv)=false:=by simpa using hce
                   clear hrx KEEP;go_wp2;go_roundw
                   case rel=>exact ⟨v+1,hw,by omega,by omega,by go_num,HK,HBW.out⟩
                   case measure=>simp [intOf];omega
               ·have hasb:((a:Int)==(s:Int))=false:=by
                 have h1:¬(a:Int)=(s:Int):=by omega
                 simpa using h1
                have hasn:¬(a:Int)=(s:Int):=by omega
                have S0:=HSe.out;have RW:=HRA.out;have RV0:=HRV.out;have BW:=hne;have hwl:wayL s h a v=h a:=by unfold wayL;rw [if_neg has]
                have HWL:=hide hwl;have HS0:=hide S0;have HRW:=hide RW;have HRV0:=hide RV0;have HBW:=hide BW;clear S0 RW RV0 BW hwl;by_cases hc0:cv<0
                ·have hrx:=Zdf (L:=L) (src:=s) (c:=c) (h:=h) (u:=a) (v:=v) (by rw [<-HLk.out];exact hlp) (by rw [<-HCv.out];exact .inl hc0);rw [HWL.out, <-HCa.out, <-HLk.out] at hrx;have HRX:=hide hrx;have S1:=(HSe.out.setC (v:=v) hv1 (ca+lk)).below ((YAB _ _).alloc (YA _) (.cells #[] 3));have R1:=ZaM (Zad (ZaH (p:=b) (j:=v) (u:=.int .i64 (ca+lk)) HRW.out (by omega)) ((YAB _ _).alloc (YA _) (.cells #[] 3)) (YA _));have R0:Zal ((we.setCell ⟨b,v,none⟩ (.int .i64 (ca+lk))).alloc (.cells #[] 3)) (.slice (some ⟨we.heap.size,0,none⟩) 0 0) [] ((we.setCell ⟨b,v,none⟩ (.int .i64 (ca+lk))).alloc (.cells #[] 3)).heap.size:=ZaM (Zck _ _ 0 (by simp) (Nat.zero_le _));have HAD:=hide (Zbt _ _ [] (h a) _ (by simp) (by omega) R0 R1);have B1:Below w0.heap.size w0 ((we.setCell ⟨b,v,none⟩ (.int .i64 (ca+lk))).alloc (.cells #[] 3)):=((hne.setCell (p:=⟨b,v,none⟩) (by show w0.heap.size<=b;omega) _).alloc (by have:=hne.size;simp;omega) _);have HS1:=hide S1;have HB1:=hide B1;have fc:=Zae HSe.out.cs;clear hrx S1 R1 R0 B1 KEEP HSe HS0 HRW HRV0 HBW
                 go_wp2_with fail
                 refine HAD.out.mono ?_;rintro e w7 ⟨x,rfl,hox,b7⟩;obtain⟨xa,xc,rfl⟩:=Zac hox;have S7:=HS1.out.below b7;have B7:Below w0.heap.size w0 w7:=HB1.out.trans (b7.mono HB1.out.size);have d7:=S7.hop (v:=v) (by omega);have f7:=Zae S7.hs;have S8:=hide (S7.setH v (Zaf hox HS1.out.size) (ZcP _ _));have B8:=hide (B7.setCell (p:=⟨b+1,v,none⟩) (by show w0.heap.size<=b+1;omega) (.slice xa (addL [] (h a)).length xc));clear S7 B7 hox b7 HAD;go_wp2;go_roundw
                 case rel=>exact ⟨v+1,_,by omega,by omega,by go_num,hide (by rw [ZdC,Zcu,HRX.out.1,HRX.out.2];exact S8.out),B8.out⟩
                 case measure=>simp [intOf];omega
                ·have hc0':0<=cv:=by omega
                 by_cases hcl:ca+lk<cv
                 ·have hrx:=Zdf (L:=L) (src:=s) (c:=c) (h:=h) (u:=a) (v:=v) (by rw [<-HLk.out];exact hlp) (by rw [<-HCv.out, <-HCa.out, <-HLk.out];exact .inr hcl);rw [HWL.out, <-HCa.out, <-HLk.out] at hrx;have HRX:=hide hrx;have S1:=(HSe.out.setC (v:=v) hv1 (ca+lk)).below ((YAB _ _).alloc (YA _) (.cells #[] 3));have R1:=ZaM (Zad (ZaH (p:=b) (j:=v) (u:=.int .i64 (ca+lk)) HRW.out (by omega)) ((YAB _ _).alloc (YA _) (.cells #[] 3)) (YA _));have R0:Zal ((we.setCell ⟨b,v,none⟩ (.int .i64 (ca+lk))).alloc (.cells #[] 3)) (.slice (some ⟨we.heap.size,0,none⟩) 0 0) [] ((we.setCell ⟨b,v,none⟩ (.int .i64 (ca+lk))).alloc (.cells #[] 3)).heap.size:=ZaM (Zck _ _ 0 (by simp) (Nat.zero_le _));have HAD:=hide (Zbt _ _ [] (h a) _ (by simp) (by omega) R0 R1);have B1:Below w0.heap.size w0 ((we.setCell ⟨b,v,none⟩ (.int .i64 (ca+lk))).alloc (.cells #[] 3)):=((hne.setCell (p:=⟨b,v,none⟩) (by show w0.heap.size<=b;omega) _).alloc (by have:=hne.size;simp;omega) _);have HS1:=hide S1;have HB1:=hide B1;have fc:=Zae HSe.out.cs;clear hrx S1 R1 R0 B1 KEEP HSe HS0 HRW HRV0 HBW
                  go_wp2_with fail
                  refine HAD.out.mono ?_;rintro e w7 ⟨x,rfl,hox,b7⟩;obtain⟨xa,xc,rfl⟩:=Zac hox;have S7:=HS1.out.below b7;have B7:Below w0.heap.size w0 w7:=HB1.out.trans (b7.mono HB1.out.size);have d7:=S7.hop (v:=v) (by omega);have f7:=Zae S7.hs;have S8:=hide (S7.setH v (Zaf hox HS1.out.size) (ZcP _ _));have B8:=hide (B7.setCell (p:=⟨b+1,v,none⟩) (by show w0.heap.size<=b+1;omega) (.slice xa (addL [] (h a)).length xc));clear S7 B7 hox b7 HAD;go_wp2;go_roundw
                  case rel=>exact ⟨v+1,_,by omega,by omega,by go_num,hide (by rw [ZdC,Zcu,HRX.out.1,HRX.out.2];exact S8.out),B8.out⟩
                  case measure=>simp [intOf];omega
                 ·by_cases hce:ca+lk=cv
                  ·have hrx:=Zf9 (L:=L) (src:=s) (c:=c) (h:=h) (u:=a) (v:=v) (by rw [<-HLk.out];exact hlp) (by rw [<-HCv.out];exact hc0') (by rw [<-HCv.out, <-HCa.out, <-HLk.out];exact hce);rw [HWL.out] at hrx;have HRX:=hide hrx;have HAD:=hide (Zbt _ _ (h v) (h a) we (by omega) (by omega) (ZaM HRV0.out) (ZaM HRW.out));have hceb:(ca+lk==cv)=true:=by simpa using hce
                   have hcln:¬ca+lk<cv:=hcl;have HCE:=hide hce;clear hrx KEEP hce HSe
                   go_wp2_with fail
                   refine HAD.out.mono ?_;rintro e w7 ⟨x,rfl,hox,b7⟩;obtain⟨xa,xc,rfl⟩:=Zac hox;have S7:=HS0.out.below b7;have B7:Below w0.heap.size w0 w7:=HBW.out.trans (b7.mono HBW.out.size);have d7:=S7.hop (v:=v) (by omega);have f7:=Zae S7.hs;have S8:=hide (S7.setH v (Zaf hox HS0.out.size) (ZcP _ _));have B8:=hide (B7.setCell (p:=⟨b+1,v,none⟩) (by show w0.heap.size<=b+1;omega) (.slice xa (addL (h v) (h a)).length xc));have HU:=hide (show mixC L c a (v+1)=mixC L c a v from ZdB HRX.out.2);clear S7 B7 hox b7 HAD;go_wp2;go_roundw
                   case rel=>exact ⟨v+1,_,by omega,by omega,by go_num,hide (by rw [HU.out,Zcu,HRX.out.1];exact S8.out),B8.out⟩
                   case measure=>simp [intOf];omega
                  ·have hrx:=Zeb (L:=L) (src:=s) (c:=c) (h:=h) (u:=a) (v:=v) (by rw [<-HCv.out];exact hc0') (by rw [<-HCv.out, <-HCa.out, <-HLk.out];omega);have HK:=hide (show SSt we g b o (fun x=>F x||x==a) (mixC L c a (v+1)) (mixH L s c h a (v+1)) hw by rw [ZdB hrx.2,Zf0 hrx.1];exact HS0.out);have hceb:(ca+lk==cv)=false:=by simpa using hce
                   clear hrx KEEP;go_wp2;go_roundw
                   case rel=>exact ⟨v+1,hw,by omega,by omega,by go_num,HK,HBW.out⟩
                   case measure=>simp [intOf];omega
              ·have HK:=hide (KEEP.out (by
                have h1:=HFd.out;have h2:F v=true\/v=a:=by
                 cases e:F v with
                 | true=>exact .inl rfl
                 | false=>rw [e] at h1;simp at h1;exact .inr h1
                rcases h2 with h2 | h2
                ·exact Zec (HA.out.inv.fnode v h2).2 (HA.out.inv.mono v a h2 HFa.out hca)
                ·subst h2;exact Zec hca (Int.le_refl _)))
               clear KEEP HSe;go_wp2;go_roundw
               case rel=>exact ⟨v+1,hw,by omega,by omega,by go_num,HK,hne⟩
               case measure=>simp [intOf];omega
            ·have hv6:¬(v:Int)<=6:=by omega
             have hvv:v=7:=by omega
             subst hvv;have S9:=HSe.out;rw [Zm9 HLK.out,Znb HLK.out] at S9;have HS9:=hide S9;clear S9;go_wp2;go_roundw
             case rel=>exact ⟨r+1,_,_,_,_,by omega,by omega,by go_num,HS9,HAN,hne⟩
             case measure=>simp [intOf];omega
       ·have hr6:¬(r:Int)<=6:=by omega
        have hrr:r=7:=by omega
        subst hrr;have hfin:=HA.out.fin;have HW5:=hide (FIN.out c h hfin.1);have HF5:=hide hfin.2;have BWB:Below w.heap.size w wb:=BW0.trans (hnx.mono (by omega));have WOB:=hide ((WO.out.below hnx (YA _)).wide (YA _) hnx.size);clear hfin HA FIN WO hnx;go_wp2
        go_loopw [22,7] (fun i o' wr=>∃ (v:Nat) (qs:List WP) (u:Value),1<=v/\v<=7/\i=.int .i64 (v:Int)/\o'=u/\Hid (Zam qs=ZcR c h (v-1))/\Hid (WaysOwn wr w.heap.size wr.heap.size u qs)/\Hid (SSt wr g b o F c h hv)/\Below w.heap.size w wr) (fun i _ _=>8-(intOf i).toNat)
        case atStart=>exact ⟨1,[],_,by omega,by omega,rfl,rfl,hide rfl,WOB,HS,BWB⟩
        case round=>
         rename World=>wf
         obtain⟨v,qs,u,hv1,hv7,rfl,rfl,HQ,HWO,HSf,hnf⟩:=hrel;obtain⟨ua2,uc2,rfl⟩:=Zac HWO.out.row;clear HS WOB BWB;by_cases hvl:v<7
         ·have hv6:(v:Int)<=6:=by omega
          have hvi:(0:Int)<=(v:Int):=by omega
          have hvj:(v:Int)<7:=by omega
          have dd:=HSf.out.done (v:=v) (by omega);cases hF:F v with
          | false=>
           rw [hF] at dd;have HQ2:=hide (show Zam qs=ZcR c h (v+1-1) by
            rw [Nat.add_sub_cancel,Zel c h hv1,if_neg (fun hc=>by have:=(HF5.out v).2 hc;rw [hF] at this;cases this),List.append_nil];exact HQ.out)
           go_wp2;go_roundw
           case rel=>exact ⟨v+1,qs,_,by omega,by omega,by go_num,rfl,HQ2,HWO,HSf,hnf⟩
           case measure=>simp [intOf];omega
          | true=>
           rw [hF] at dd;have hc0:=(HF5.out v).1 hF;have hql:qs.length<=6:=by
            have h1:=congrArg List.length HQ.out;have h2:=ZjQ c h (v-1);simp only [Zam,YAb] at h1;omega
           go_wp2;refine wp_region_noPanic ?_;have SQ:SSt wf.drew g b o F c h hv:=HSf.out.below ⟨rfl,rfl,rfl,YA _,fun _ _=>rfl⟩;have d1:=SQ.cost (v:=v) hv1 (by omega);have d2:=SQ.hop (v:=v) (by omega);have RV:=SQ.rows v;have hlv:=SQ.short v;obtain⟨pv,qv,epv⟩:=Zac RV;rw [epv] at d2 RV;have WQ:WaysOwn wf.drew w.heap.size wf.drew.heap.size (.slice ua2 qs.length uc2) qs:=HWO.out.keep (fun _ _ _ _=>rfl);refine Zah (S:=fun W=>W.cell? ⟨b,v,none⟩=some (.int .i64 (c v))/\W.cell? ⟨b+1,v,none⟩=some (.slice pv (h v).length qv)) (by kernel_rfl) 16 rfl ⟨d1,d2⟩ ?_;intro ops hops _;refine ZoJ _ _ _ _ _ _ _ _ _ _ _ _ _ _ _ _ _ _ _ _ _ _ _ _ _ _ _ _ _ _ _ _ _ _ _ _ _ _ _ _ _ _ _ _ _ _ _ _ _ _ _ _ _ _ _ _ _ _ _ _ _ _ _ _ _ _ _ _ _ _ _ _ _ _ _ _ _ _ _ _ _ _ _ _ _ _ _ _ _ _ _ _ _ _ _ _ _ _ _ _ _ _ _ _ _ _ _ _ _ _ _ _ _ _ _ _ _ _ _ _ _ _ _ _ _ _ _ _ _ _ _ _ _ _ _ _ _ _ _ _ _ _ _ _ _ _ _ _ _ _ _ _ _ _ _ _ _ _ _ _ _ _ _ _ _ _ _ _ _ _ _ _ _ _ _ _ _ _ _ _ _ _ _ _ _ _ _ _ _ _ _ _ _ wf.drew w.heap.size b v (c v) (h v) pv qv ua2 uc2 qs _ _ _ ops hops (fun _ _ _ _ h=>h) (by omega) hlv hql hnf.size SQ.cs SQ.hs d1 d2 (Zaf RV (Nat.zero_le _)) WQ ?_;intro W4 xa xc na nc NN ow k4 B4;refine NoPanic.normal ?_;have HQ2:=hide (show Zam (qs++[(⟨(v:Int),c v,h v⟩,.slice na (h v).length nc)])=ZcR c h (v+1-1) by
            rw [Nat.add_sub_cancel,Zel c h hv1,if_pos hc0, <-HQ.out];simp [Zam])
           have S4:=hide (SQ.grow WQ.row k4);have OW4:=hide ow;have B5:Below w.heap.size w W4:=(drewB hnf).trans B4;clear ow k4 B4 hops ops d1 d2 RV WQ SQ HSf HWO;go_wp2;go_roundw
           case rel=>exact ⟨v+1,_,_,by omega,by omega,by go_num,rfl,HQ2,OW4,S4,B5⟩
           case measure=>simp [intOf];omega
         ·have hv6:¬(v:Int)<=6:=by omega
          have hvv:v=7:=by omega
          subst hvv;have HEND:=hide (show ZbS (fsts ps) area (s:Int) (Zam qs) by rw [HQ.out];exact HW5.out);go_wp2;go_ret;exact⟨_,rfl,qs,HEND.out,HWO.out,hnf⟩
theorem Zj9 :∀ (xs acc:List LnD),Zcg (xs.foldl tabS acc)<=Zcg acc+Zcg xs
 | [],acc=>by simp [Zcg]
 | x::xs,acc=>by
  have h:=Zj9 xs (tabS acc x);rw [List.foldl_cons,Zg9];have h2:Zcg (tabS acc x)<=Zcg acc+(1+x.hops.length):=by
   unfold tabS
   split
   ·rw [ZiH,Zg9];simp [Zcg]
   ·omega
  omega
theorem ZnI (xs:List LnD):Zcg (tabD xs)<=Zcg xs:=by
 have h:=Zj9 xs [];have h0:Zcg []=0:=rfl;unfold tabD;omega
theorem Zoi (ps:List QP):Zcg ((ZaY ps).map lnR)=totQ ps:=by
 rw [Zn6];unfold Zcg ZhL;rw [YAa];rfl
end Go.Proofs.YtdhnddfnckgbjaaGreat
namespace Go.Proofs.YtdhnddfnckgbjaaGreat
open Go.RowKit
open Go.ChangeMaps (setBlock)

set_option linter.unusedSimpArgs false
set_option linter.unusedVariables false

abbrev BE:=Nat × PlP × Value

def Za6 (es:List BE):List MapEntry:=es.map (fun x=>⟨kV x.2.1.2.1.thing x.2.1.2.1.to,x.2.2,x.1⟩)
def ksG (es:List BE):List (Bool × Int):=es.map (fun x=>(x.2.1.2.1.thing,x.2.1.2.1.to))
def lnsG (es:List BE):List LnD:=es.map (fun x=>x.2.1.2.1)
def stG (es:List BE):List (Int × LnD):=es.map (fun x=>(x.2.1.1,x.2.1.2.1))

theorem Zep (es:List BE):(Za6 es).map (·.key)=(ksG es).map (fun k=>kV k.1 k.2):=by
 unfold Za6 ksG;rw [YAa,YAa];rfl

theorem ZnX (es:List BE)(t:Bool)(z:Int):Zbe (ksG es) t z=(lnsG es).findIdx? (isLn t z):=by
 unfold Zbe ksG lnsG;rw [List.findIdx?_map,List.findIdx?_map];rfl

theorem Zoy (t:Bool)(z:Int):Instr.sameBits 10000 (kV t z) (kV t z)=true:=by
 unfold kV;simp [Instr.sameBits]

theorem Zot (w:World)(m:Nat)(es:Array MapEntry)(clock:Nat)(ks:List (Bool × Int))(t:Bool)(z:Int)(v:Value)(j:Nat)(hm:w.heap[m]? = some (.map es clock))(h:es.toList.map (·.key)=ks.map (fun k=>kV k.1 k.2))(hj:Zbe ks t z=some j):
  (Instr.mapUpdate 43 (.map (some m)) (kV t z) v).run Tryz.prog w=.ok () (setBlock w m (.map (es.modify j fun e => { e with key:=kV t z,val:=v }) clock)):=by
 have hlk:es.toList.length=ks.length:=by
  have:=congrArg List.length h;simpa using this
 unfold Zbe at hj;have hjl:j<ks.length:=(List.findIdx?_eq_some_iff_getElem.1 hj).1;have hje:j<es.toList.length:=by omega
 unfold Instr.mapUpdate;simp only [Sem.run_bind,run_underlying Tryz.underlying43,Result.andThen,MapKept.run_getObj_map hm,Sem.run_pure,Zev,Zfv w t z es.toList ks h];rw [show Zbe ks t z=some j from hj];simp only [Option.bind_some,YAA hje,Option.map_some];have hkj:es.toList[j].key=kV t z:=by
  have h1:=congrArg (fun l=>l[j]?) h;simp only [YAZ,YAA hje,YAA hjl,Option.map_some,Option.some.injEq] at h1;have h2:=(List.findIdx?_eq_some_iff_getElem.1 hj).2.1;simp only [YAO,beq_iff_eq] at h2;rw [h1,h2.1,h2.2]
 have hja:j<es.size:=by simpa using hje
 have he:(es[j]?.map (·.key)).getD (kV t z)=kV t z:=by
  rw [Array.getElem?_eq_getElem hja];simpa using hkj
 rw [he];unfold Instr.keyThatStays;rw [if_pos (Zoy t z)];simp [setObj,Sem.run,hm,setBlock]

theorem Zoc (w:World)(m:Nat)(es:Array MapEntry)(clock:Nat)(ks:List (Bool × Int))(t:Bool)(z:Int)(ty:TypeId)(hm:w.heap[m]? = some (.map es clock))(h:es.toList.map (·.key)=ks.map (fun k=>kV k.1 k.2)):
  (Builtin.delete_ #[43,46] ty #[.map (some m),kV t z]).run Tryz.prog w=.ok (.tuple #[]) (setBlock w m (.map (match Zbe ks t z with | some j=>es.eraseIdxIfInBounds j | none=>es) clock)):=by
 have hlk:es.toList.length=ks.length:=by
  have:=congrArg List.length h;simpa using this
 unfold Builtin.delete_;simp only [YAN,YAL,YAK];simp only [Sem.run_bind,run_underlying Tryz.underlying43,Result.andThen,MapKept.run_getObj_map hm,Sem.run_pure,Zev,Zfv w t z es.toList ks h];cases hj:Zbe ks t z with
 | none=>simp [setObj,Sem.run,hm,setBlock]
 | some j=>
  have hjl:j<ks.length:=by
   unfold Zbe at hj;exact (List.findIdx?_eq_some_iff_getElem.1 hj).1
  have hje:j<es.toList.length:=by omega
  simp only [Option.bind_some,YAA hje,Option.map_some];simp [setObj,Sem.run,hm,setBlock]
structure LgAt (W:World) (lo hi m:Nat) (es:List BE) (clk:Nat):Prop where
 map:W.heap[m]? = some (.map (Za6 es).toArray clk)
 low:lo<=m
 high:m<hi
 rows:∀ x∈es,W.ownsRow lo 68 4 x.2.2 1 (Zbu x.2.1)/\∀ k,x.2.2.ownBlock=some k->k<hi
 up:es.Pairwise (fun a b=>a.1<b.1)
 born:∀ x∈es,x.1<clk

theorem LgAt.below {W W':World}{lo hi m B clk:Nat}{es:List BE}(h:LgAt W lo hi m es clk)(hb:Below B W W')(hB:hi<=B):LgAt W' lo hi m es clk:=
 ⟨(hb.block m (by have:=h.high;omega)).trans h.map,h.low,h.high,fun x hx=>⟨Zai (h.rows x hx).1 (fun k e=>hb.block k (by have:=(h.rows x hx).2 k e;omega)),(h.rows x hx).2⟩,h.up,h.born⟩

theorem LgAt.wide {W:World}{lo hi hi' m clk:Nat}{es:List BE}(h:LgAt W lo hi m es clk)(hh:hi<=hi'):LgAt W lo hi' m es clk:=
 ⟨h.map,h.low,YAC h.high hh,fun x hx=>⟨(h.rows x hx).1,fun k e=>YAC ((h.rows x hx).2 k e) hh⟩,h.up,h.born⟩

def ZdZ:Nat->List (PlP × Value)->List BE
 | _,[]=>[]
 | i,x::xs=>(i,x.1,x.2)::ZdZ (i+1) xs

theorem ZgF:∀ (i:Nat)(es:List (PlP × Value)),Za6 (ZdZ i es)=Zbv i es
 | _,[]=>rfl
 | i,x::xs=>by
  have ih:=ZgF (i+1) xs;simp only [ZdZ,Zbv,Za6,List.map_cons] at ih |-
  rw [ih]

theorem Zdr:∀ (i:Nat)(es:List (PlP × Value))(x:BE),x∈ZdZ i es->x.2∈es/\i<=x.1/\x.1<i+es.length
 | _,[],x,h=>by simp [ZdZ] at h
 | i,y::ys,x,h=>by
  simp only [ZdZ,YAR] at h;rcases h with rfl | h
  ·exact ⟨by simp,by simp,by simp⟩
  ·have ih:=Zdr (i+1) ys x h;exact⟨YAe _ ih.1,by omega,by simp only [YAd];omega⟩

theorem ZjM:∀ (i:Nat)(es:List (PlP × Value)),(ZdZ i es).Pairwise (fun a b=>a.1<b.1)
 | _,[]=>by simp [ZdZ]
 | i,x::xs=>by
  simp only [ZdZ,YAh];exact⟨fun y hy=>by have:=(Zdr (i+1) xs y hy).2.1;omega,ZjM (i+1) xs⟩

theorem Zh3:∀ (i:Nat)(es:List (PlP × Value)),(ZdZ i es).map (·.2)=es
 | _,[]=>rfl
 | i,x::xs=>by simp only [ZdZ,List.map_cons];rw [Zh3 (i+1) xs]

theorem LmAt.gen {W:World}{lo hi m:Nat}{es:List (PlP × Value)}(h:LmAt W lo hi m es):LgAt W lo hi m (ZdZ 0 es) es.length where
 map:=by rw [ZgF];exact h.map
 low:=h.low
 high:=h.high
 rows:=fun x hx=>h.rows x.2 (Zdr 0 es x hx).1
 up:=ZjM 0 es
 born:=fun x hx=>by have:=(Zdr 0 es x hx).2.2;omega

theorem Zdx (es:List BE)(t:Bool)(z:Int):(idxZ (lnsG es) t z = -1/\Zbe (ksG es) t z=none)\/∃ (k:Nat) (y:BE),es[k]? = some y/\idxZ (lnsG es) t z=(k:Int)/\Zbe (ksG es) t z=some k/\y.2.1.2.1.thing=t/\y.2.1.2.1.to=z:=by
 rw [ZnX];unfold idxZ;cases e:(lnsG es).findIdx? (isLn t z) with
 | none=>exact .inl ⟨rfl,rfl⟩
 | some k=>
  obtain⟨hk,h1,_⟩:=List.findIdx?_eq_some_iff_getElem.1 e;have hk2:k<es.length:=by simpa [lnsG] using hk
  refine .inr ⟨k,es[k],YAA hk2,rfl,rfl,?_⟩;simp only [lnsG,List.getElem_map,isLn,YAO,beq_iff_eq] at h1;exact h1

theorem LgAt.look {W:World}{lo hi m clk:Nat}{es:List BE}(h:LgAt W lo hi m es clk)(t:Bool)(z:Int):
  (idxZ (lnsG es) t z = -1/\Zbe (ksG es) t z=none/\(Instr.lookup 43 (.map (some m)) (.agg #[.bool t,.int .i64 z]) false).run Tryz.prog W=.ok (.slice none 0 0) W) \/
  ∃ (k:Nat) (y:BE),es[k]? = some y/\idxZ (lnsG es) t z=(k:Int)/\Zbe (ksG es) t z=some k/\y.2.1.2.1.thing=t/\y.2.1.2.1.to=z/\(Instr.lookup 43 (.map (some m)) (.agg #[.bool t,.int .i64 z]) false).run Tryz.prog W=.ok y.2.2 W:=by
 have h1:=Zey W m (Za6 es).toArray clk (ksG es) t z h.map (Zep es);unfold kV at h1;rw [h1];rcases Zdx es t z with ⟨e1,e2⟩ | ⟨k,y,hy,e1,e2,e3,e4⟩
 ·rw [e2];exact .inl ⟨e1,rfl,rfl⟩
 ·rw [e2];have h9:(Za6 es)[k]? = some ⟨kV y.2.1.2.1.thing y.2.1.2.1.to,y.2.2,y.1⟩:=by
   unfold Za6;rw [YAZ,hy];rfl
  simp only [Option.bind_some,List.toList_toArray,h9,Option.map_some];exact .inr ⟨k,y,hy,e1,rfl,e3,e4,rfl⟩

set_option maxRecDepth 100000 in
set_option maxHeartbeats 2000000 in
theorem ZkG (lo m clk:Nat)(es:List BE)(t:Bool)(z:Int)(w:World)(h:LgAt w lo w.heap.size m es clk):
  Calls Tryz.prog 26 #[.map (some m),kV t z] w fun e w'=>e=.returned (.bool (decide (0<=idxZ (lnsG es) t z)))/\Below w.heap.size w w':=by
 have hb:=(YAB w.heap.size w).alloc (YA _) (.cells #[.bool t,.int .i64 z] 46);have hl:=(h.below hb (YA _)).look t z;have HB:=hide hb;have HR:=hide h.rows;unfold kV;clear h hb;rcases hl with ⟨h1,_,hl⟩ | ⟨k,y,hy,h1,_,_,_,hl⟩
 ·rw [YAo (show ¬0<=idxZ (lnsG es) t z by omega)];clear h1
  go_enter Tryz.func26,Tryz.ntmps26
  go_wp2;go_ret;exact⟨rfl,HB.out⟩
 ·rw [YAi (show 0<=idxZ (lnsG es) t z by omega)];obtain⟨va,vc,hv⟩:=Zac (HR.out y (YAF hy)).1;rw [hv] at hl;clear h1 hy hv
  go_enter Tryz.func26,Tryz.ntmps26
  go_wp2;go_ret;exact⟨rfl,HB.out⟩
theorem Zfd {α:Type}{p:α->Bool}:∀ (l:List α) (j:Nat),l.findIdx? p=some j->(∀ i x,l[i]? = some x->p x=true->i=j)->l.eraseIdx j=l.filter (fun x => !p x)
 | [],j,h,_=>by simp at h
 | a::l,j,h,hu=>by
  rw [List.findIdx?_cons] at h;cases hp:p a with
  | true=>
   rw [hp] at h;simp at h;subst h;rw [List.eraseIdx_cons_zero,List.filter_cons_of_neg (by simp [hp])]
   symm
   rw [List.filter_eq_self];intro x hx;cases hq:p x with
   | false=>rfl
   | true=>
    obtain⟨i,hi,e⟩:=List.getElem_of_mem hx;have:=hu (i+1) x (by rw [YAK,YAA hi,e]) hq;omega
  | false=>
   rw [hp] at h;simp only [Bool.false_eq_true,if_false,Option.map_eq_some_iff] at h;obtain⟨k,hk,rfl⟩:=h;rw [List.eraseIdx_cons_succ,List.filter_cons_of_pos (by simp [hp]),Zfd l k hk (fun i x hi hx=>by have:=hu (i+1) x (by rw [YAK];exact hi) hx;omega)]

theorem Zjq {α:Type}{p:α->Bool}(y:α):∀ (l:List α) (j:Nat),l.findIdx? p=some j->(∀ i x,l[i]? = some x->p x=true->i=j)->l.set j y=l.map (fun q=>if p q then y else q)
 | [],j,h,_=>by simp at h
 | a::l,j,h,hu=>by
  rw [List.findIdx?_cons] at h;cases hp:p a with
  | true=>
   rw [hp] at h;simp at h;subst h;rw [YAm,List.map_cons,if_pos hp];congr 1
   symm
   rw [List.map_eq_iff];intro i;cases hx:l[i]? with
   | none=>rfl
   | some x=>
    cases hq:p x with
    | false=>simp [hq]
    | true=>
     have:=hu (i+1) x (by rw [YAK];exact hx) hq;omega
  | false=>
   rw [hp] at h;simp only [Bool.false_eq_true,if_false,Option.map_eq_some_iff] at h;obtain⟨k,hk,rfl⟩:=h;rw [YAn,List.map_cons,if_neg (by simp [hp]),Zjq y l k hk (fun i x hi hx=>by have:=hu (i+1) x (by rw [YAK];exact hi) hx;omega)]

theorem Zi1 (es:List BE)(j:Nat):Za6 (es.eraseIdx j)=(Za6 es).eraseIdx j:=by
 unfold Za6
 induction es generalizing j with
 | nil=>simp
 | cons a l ih=>cases j with
  | zero=>simp
  | succ j=>simp [ih]

theorem ZlB (es:List BE)(j:Nat)(y x:BE)(v:Value)(hj:es[j]? = some y)(hb:x.1=y.1)(hv:x.2.2=v):Za6 (es.set j x)=(Za6 es).modify j (fun e => { e with key:=kV x.2.1.2.1.thing x.2.1.2.1.to,val:=v }):=by
 unfold Za6
 induction es generalizing j with
 | nil=>simp at hj
 | cons a l ih=>cases j with
  | zero=>
   simp at hj;subst hj;simp [hb,hv]
  | succ j=>
   simp at hj;simp [ih j hj]

theorem Ziz {W:World}{m b0:Nat}{r:Value}{xs:List Value}{ents:Array MapEntry}{c:Nat}(hm:W.heap[m]? = some (.map ents c))(hr:W.ownsRow b0 68 4 r 1 xs):∀ j,r.ownBlock=some j->j≠m:=by
 intro j hj e9;subst e9;rcases hr.2 with ⟨e1,_⟩ | ⟨g2,cap,cur,e1,_,hh2,_⟩
 ·rw [e1] at hj;cases hj
 ·rw [e1] at hj;simp [Value.ownBlock] at hj;subst hj;rw [hm] at hh2;cases hh2
end Go.Proofs.YtdhnddfnckgbjaaGreat
