/-
  RtsK OffM RtsL OrdQ PushW AppAt INodes SortQ
-/
import Derived.Test.YtnndlmodjkplnaaGreatDoorFw3
import Derived.Test.YtnndlmodjkplnaaGreatDoorFw16
import Derived.Test.YtnndlmodjkplnaaGreatDoorFw5
import Derived.Shelf.SlSortCmp.WholeK
import Derived.Test.YtnndlmodjkplnaaGreatDoorFw4
import Derived.Maps.AppendAt
import Derived.Test.YtnndlmodjkplnaaGreatDoorFw15
import Derived.Test.YtnndlmodjkplnaaGreatDoorShelfG
import Derived.Shelf.SlSortCmp.NoneTotal
namespace Go.Proofs.YtnndlmodjkplnaaGreatDoor
open Go.RowKit
set_option linter.unusedSimpArgs false
set_option linter.unusedVariables false
set_option maxRecDepth 100000
set_option maxHeartbeats 8000000
abbrev QP:=RtD × Value
def encQ (p:QP):List Value:=[.bool p.1.thing,.int .i64 p.1.to,.int .i64 p.1.kind,.int .i64 p.1.cost,.int .i64 p.1.far,p.2]
def Zby:RtD:=⟨false,0,0,0,0,[]⟩
theorem Zbu (p:QP):(encQ p).length=6:=rfl
def ZdB (W:World)(v:Value)(ps:List QP)(B:Nat):Prop:=ZaD encQ 6 W v ps B/\∀ p∈ps,ZaG W p.2 p.1.hops B
theorem ZdB.shape {W:World}{v:Value}{ps:List QP}{B:Nat}(h:ZdB W v ps B):∃ a cap,v=.slice a ps.length cap:=by
 obtain⟨⟨a,cap,h,_⟩,_⟩:=h;exact⟨a,cap,h⟩
theorem ZdB.later {W W':World}{v:Value}{ps:List QP}{B C:Nat}(h:ZdB W v ps B)(hb:Below C W W')(hBC:B<=C):ZdB W' v ps B:=
 ⟨ZaL.later h.1 hb hBC,fun p hp=>ZaL.later (h.2 p hp) hb hBC⟩
theorem ZdB.more {W:World}{v:Value}{ps:List QP}{B C:Nat}(h:ZdB W v ps B)(hBC:B<=C):ZdB W v ps C:=
 ⟨ZaL.more h.1 hBC,fun p hp=>ZaL.more (h.2 p hp) hBC⟩
theorem ZdB.then {W W':World}{v:Value}{ps:List QP}(h:ZdB W v ps W.heap.size)(hb:Below W.heap.size W W'):ZdB W' v ps W'.heap.size:=(h.later hb (Nat.le_refl _)).more hb.size
def Zbj (W:World)(lo hi:Nat)(p:QP):Prop:=W.ownsRow lo 3 1 p.2 p.1.hops.length (flat intE p.1.hops)/\∀ k,p.2.ownBlock=some k->k<hi
def Zc5 (p q:QP):Prop:=∀ k,p.2.ownBlock=some k->q.2.ownBlock≠some k
structure RtsOwn (W:World) (lo hi:Nat) (v:Value) (ps:List QP):Prop where
 row:W.ownsRow lo 75 6 v ps.length (flat encQ ps)
 top:∀ k,v.ownBlock=some k->k<hi
 nears:∀ p∈ps,Zbj W lo hi p
 apart:ps.Pairwise Zc5
theorem Zbj.keep {W W':World}{lo hi:Nat}{p:QP}(h:Zbj W lo hi p)(hk:∀ k,lo<=k->k<hi->k<W.heap.size->W'.heap[k]? = W.heap[k]?):Zbj W' lo hi p:=
 ⟨Zal h.1 (fun k e=>hk k (h.1.lt k e).1 (h.2 k e) (h.1.lt k e).2),h.2⟩
theorem Zbj.wide {W:World}{lo hi lo' hi':Nat}{p:QP}(h:Zbj W lo hi p)(hl:lo'<=lo)(hh:hi<=hi'):Zbj W lo' hi' p:=
 ⟨Zah h.1 hl,fun k e=>Nat.lt_of_lt_of_le (h.2 k e) hh⟩
theorem Zbj.at {W:World}{lo hi:Nat}{p:QP}(h:Zbj W lo hi p):ZaG W p.2 p.1.hops hi:=by
 have h1:=ZaU h.1;obtain⟨a,cap,hv,h2⟩:=h1;refine⟨a,cap,hv,?_⟩
 rcases h2 with h0 | ⟨b,off,ha,hb1,hx⟩
 ·exact .inl h0
 ·exact .inr ⟨b,off,ha,h.2 b (by rw [hv,ha];rfl),hx⟩
theorem RtsOwn.keep {W W':World}{lo hi:Nat}{v:Value}{ps:List QP}(h:RtsOwn W lo hi v ps)(hk:∀ k,lo<=k->k<hi->k<W.heap.size->W'.heap[k]? = W.heap[k]?):RtsOwn W' lo hi v ps where
 row:=Zal h.row (fun k e=>hk k (h.row.lt k e).1 (h.top k e) (h.row.lt k e).2)
 top:=h.top
 nears:=fun p hp=>(h.nears p hp).keep hk
 apart:=h.apart
theorem RtsOwn.below {W W':World}{lo hi B:Nat}{v:Value}{ps:List QP}(h:RtsOwn W lo hi v ps)(hb:Below B W W')(hB:hi<=B):RtsOwn W' lo hi v ps:=h.keep (fun k _ h2 _=>hb.block k (by omega))
theorem RtsOwn.wide {W:World}{lo hi lo' hi':Nat}{v:Value}{ps:List QP}(h:RtsOwn W lo hi v ps)(hl:lo'<=lo)(hh:hi<=hi'):RtsOwn W lo' hi' v ps where
 row:=Zah h.row hl
 top:=fun k e=>Nat.lt_of_lt_of_le (h.top k e) hh
 nears:=fun p hp=>(h.nears p hp).wide hl hh
 apart:=h.apart
theorem RtsOwn.at {W:World}{lo hi:Nat}{v:Value}{ps:List QP}(h:RtsOwn W lo hi v ps):ZdB W v ps hi:=by
 refine⟨?_,fun p hp=>(h.nears p hp).at⟩
 have h1:=ZaU h.row;obtain⟨a,cap,hv,h2⟩:=h1;refine⟨a,cap,hv,?_⟩
 rcases h2 with h0 | ⟨b,off,ha,hb1,hx⟩
 ·exact .inl h0
 ·exact .inr ⟨b,off,ha,h.top b (by rw [hv,ha];rfl),hx⟩
theorem RtsOwn.frame {W W':World}{lo hi l2 h2:Nat}{v:Value}{ps:List QP}(h:RtsOwn W lo hi v ps)(hb:Frame l2 h2 W W')(hB:hi<=l2\/h2<=lo):RtsOwn W' lo hi v ps:=h.keep (fun k h1 h2 h3=>hb.block k h3 (by omega))
def totQ (ps:List QP):Nat:=(ps.map (fun p=>1+p.1.hops.length)).sum
theorem ZgF (p:QP)(ps:List QP):totQ (p::ps)=1+p.1.hops.length+totQ ps:=by simp [totQ]
theorem ZkC (a b:List QP):totQ (a++b)=totQ a+totQ b:=by simp [totQ]
theorem Zie (ps:List QP):ps.length<=totQ ps:=by
 induction ps with
 | nil=>simp [totQ]
 | cons p ps ih=>rw [ZgF,List.length_cons];omega
theorem Zif {ps:List QP}{p:QP}(h:p∈ps):p.1.hops.length<=totQ ps:=by
 induction ps with
 | nil=>simp at h
 | cons q ps ih=>
  rw [ZgF]
  rcases List.mem_cons.1 h with rfl | h1
  ·omega
  ·have:=ih h1;omega
theorem ZdB.cells {W:World}{v:Value}{ps:List QP}{B:Nat}(h:ZdB W v ps B)(i:Nat)(p:QP)(hp:ps[i]? = some p):
  ∃ b off cap,v=.slice (some ⟨b,off,none⟩) ps.length cap/\b<B/\W.cell? ⟨b,off+i*6,none⟩=some (.bool p.1.thing)/\W.cell? ⟨b,off+i*6+1,none⟩=some (.int .i64 p.1.to)/\W.cell? ⟨b,off+i*6+2,none⟩=some (.int .i64 p.1.kind)/\W.cell? ⟨b,off+i*6+3,none⟩=some (.int .i64 p.1.cost)/\W.cell? ⟨b,off+i*6+4,none⟩=some (.int .i64 p.1.far)/\W.cell? ⟨b,off+i*6+5,none⟩=some p.2/\ZaG W p.2 p.1.hops B:=by
 obtain⟨b,off,cap,hv,hb,hc⟩:=ZaD.cell h.1 Zbu i p hp;exact⟨b,off,cap,hv,hb,hc 0 _ rfl,hc 1 _ rfl,hc 2 _ rfl,hc 3 _ rfl,hc 4 _ rfl,hc 5 _ rfl,h.2 p (List.mem_of_getElem? hp)⟩
def ordQ (a b:RtD):Int:=
 if orN [cmpN a.to b.to,cmpN a.kind b.kind]=0 then
  (if a.kind=4 then orN [cmpN a.far b.far,cmpN a.cost b.cost] else if a.kind=3 then orN [0,cmpN a.cost b.cost] else 0)
 else orN [cmpN a.to b.to,cmpN a.kind b.kind]
theorem ZnH (x y:Int):orN [x,y]=if x=0 then y else x:=by
 unfold orN orN orN
 split
 ·split
  ·rename_i h;exact h.symm
  ·rfl
 ·rfl
def farQ (a:RtD):Int:=if a.kind=4 then a.far else 0
def ZiC (a:RtD):Int:=if a.kind=4\/a.kind=3 then a.cost else 0
theorem ZhK (a b:Int):cmpN a b<0↔a<b:=by
 unfold cmpN
 split
 ·omega
 ·split <;> omega
theorem Zei (a b:Int):cmpN a b=0↔a=b:=by
 unfold cmpN
 split
 ·omega
 ·split <;> omega
theorem Zh6 (a b:RtD):ordQ a b<0↔a.to<b.to\/(a.to=b.to/\(a.kind<b.kind\/(a.kind=b.kind/\(farQ a<farQ b\/(farQ a=farQ b/\ZiC a<ZiC b))))):=by
 unfold ordQ;simp only [ZnH]
 have t1:=ZhK a.to b.to;have t2:=Zei a.to b.to;have k1:=ZhK a.kind b.kind;have k2:=Zei a.kind b.kind;have f1:=ZhK a.far b.far;have f2:=Zei a.far b.far;have c1:=ZhK a.cost b.cost;by_cases e1:cmpN a.to b.to=0
 ·have e1':=t2.1 e1
  simp only [e1,if_true]
  by_cases e2:cmpN a.kind b.kind=0
  ·have e2':=k2.1 e2
   simp only [e2,if_true]
   unfold farQ ZiC;rw [<-e2'];by_cases h4:a.kind=4
   ·simp only [h4,if_true,true_or,true_and]
    by_cases e3:cmpN a.far b.far=0
    ·have e3':=f2.1 e3
     simp only [e3,if_true]
     omega
    ·have:a.far≠b.far:=fun h=>e3 (f2.2 h)
     simp only [e3,if_false]
     omega
   ·simp only [h4,if_false,false_or]
    by_cases h3:a.kind=3
    ·simp only [h3,if_true,true_and]
     omega
    ·simp only [h3,if_false]
     omega
  ·have:a.kind≠b.kind:=fun h=>e2 (k2.2 h)
   simp only [e2,if_false]
   omega
 ·have:a.to≠b.to:=fun h=>e1 (t2.2 h)
  simp only [e1,if_false]
  omega
theorem ZpL (a b:RtD):ordQ a b=0↔a.to=b.to/\a.kind=b.kind/\farQ a=farQ b/\ZiC a=ZiC b:=by
 unfold ordQ;simp only [ZnH]
 have t2:=Zei a.to b.to;have k2:=Zei a.kind b.kind;have f2:=Zei a.far b.far;have c1:=Zei a.cost b.cost;by_cases e1:cmpN a.to b.to=0
 ·have e1':=t2.1 e1
  simp only [e1,if_true]
  by_cases e2:cmpN a.kind b.kind=0
  ·have e2':=k2.1 e2
   simp only [e2,if_true]
   unfold farQ ZiC;rw [<-e2'];by_cases h4:a.kind=4
   ·simp only [h4,if_true,true_or,true_and]
    by_cases e3:cmpN a.far b.far=0
    ·have e3':=f2.1 e3
     simp only [e3,if_true]
     omega
    ·have e3':a.far≠b.far:=fun h=>e3 (f2.2 h)
     simp only [e3,if_false]
     exact⟨fun h=>h.elim,fun h=>e3' (by omega)⟩
   ·simp only [h4,if_false,false_or]
    by_cases h3:a.kind=3
    ·simp only [h3,if_true,true_and]
     omega
    ·simp only [h3,if_false]
     simp [e1']
  ·have e2':a.kind≠b.kind:=fun h=>e2 (k2.2 h)
   simp only [e2,if_false]
   exact⟨fun h=>h.elim,fun h=>e2' h.2.1⟩
 ·have e1':a.to≠b.to:=fun h=>e1 (t2.2 h)
  simp only [e1,if_false]
  exact⟨fun h=>h.elim,fun h=>e1' h.1⟩
abbrev QS:=RtD × Option Addr × Nat × Nat
instance:Inhabited QS:=⟨(Zby,none,0,0)⟩
def qsP (p:QS):QP:=(p.1,.slice p.2.1 p.2.2.1 p.2.2.2)
def encS (p:QS):List Value:=encQ (qsP p)
def cfS (p q:QS):Int:=ordQ p.1 q.1
theorem swoS:Go.Sort.SWO (Go.Proofs.ltOf cfS) where
 irrefl x:=by unfold Go.Proofs.ltOf cfS;rw [decide_eq_false_iff_not,Zh6];omega
 trans x y z h1 h2:=by
  unfold Go.Proofs.ltOf cfS at *;rw [decide_eq_true_eq,Zh6] at *;omega
 ntrans x y z h1 h2:=by
  unfold Go.Proofs.ltOf cfS at *;rw [decide_eq_false_iff_not,Zh6] at *;omega
def wOf (q:RtD):WayD:=⟨q.to,if q.kind=4 then 4000000000000+q.far*1000000+q.cost else 3000000000000+q.cost,q.hops⟩
structure OffR (q:RtD):Prop where
 thing:q.thing=true
 kind:q.kind=3/\q.far=0\/q.kind=4
 cost:0<=q.cost/\q.cost<=61000
 far:0<=q.far/\q.far<=1000
 asc:q.hops.Pairwise (· < ·)
 hop6:Hop6 q.hops
 node:1<=q.to/\q.to<=9
theorem OffR.rt {q:RtD}(h:OffR q):rtOf (wOf q)=q:=by
 obtain⟨h1,h3,h4,h5,_,_,_⟩:=h;obtain⟨th,to,kind,cost,fa,hops⟩:=q;simp only at h1 h3 h4 h5
 subst h1;unfold rtOf wOf
 rcases h3 with ⟨h3,h6⟩ | h3
 ·subst h3
  subst h6;simp only [show ¬((3:Int)=4) by omega,if_false]
  rw [if_pos (by omega)]
  congr 1
  omega
 ·subst h3
  simp only [if_true]
  rw [if_neg (by omega)]
  congr 1 <;> omega
theorem OffR.lt {a b:RtD}(ha:OffR a)(hb:OffR b):ordQ a b<0↔a.to<b.to\/(a.to=b.to/\(wOf a).cost<(wOf b).cost):=by
 rw [Zh6];unfold wOf farQ ZiC;have h1:=ha.kind;have h2:=hb.kind;have h3:=ha.cost;have h4:=hb.cost;have h5:=ha.far;have h6:=hb.far
 rcases h1 with ⟨h1,g1⟩ | h1 <;> rcases h2 with ⟨h2,g2⟩ | h2 <;> simp only [h1,h2,if_true,show ¬((3:Int)=4) by omega,show ¬((4:Int)=3) by omega,if_false,or_true,true_or,true_and,false_and,or_false,and_false] <;> first | omega | (constructor <;> intro h <;> first | exact h.elim | omega)
theorem OffR.eq {a b:RtD}(ha:OffR a)(hb:OffR b):ordQ a b=0↔a.to=b.to/\(wOf a).cost=(wOf b).cost:=by
 rw [ZpL];unfold wOf farQ ZiC;have h1:=ha.kind;have h2:=hb.kind;have h3:=ha.cost;have h4:=hb.cost;have h5:=ha.far;have h6:=hb.far
 rcases h1 with ⟨h1,g1⟩ | h1 <;> rcases h2 with ⟨h2,g2⟩ | h2 <;> simp only [h1,h2,if_true,show ¬((3:Int)=4) by omega,show ¬((4:Int)=3) by omega,if_false,or_true,true_or,true_and,false_and,or_false,and_false] <;> first | omega | (constructor <;> intro h <;> first | exact h.elim | omega)
def Ze5 (qs:List RtD):Prop:=qs.Pairwise (fun a b=>¬ordQ b a<0)
def ZcB (qs:List RtD)(bs:List RtD):Prop:=Zax (fun to d=>∃ q∈qs,d=wOf q/\q.to=to) (bs.map wOf)
theorem ZlD {ds:List WayD}{d:WayD}(h:∀ x∈ds,x.to<d.to)(to:Int):ZaN (ds++[d]) to=if to=d.to then Zd7 togI (ZaN ds to) (some d) else ZaN ds to:=by
 rw [Zcq];by_cases e:to=d.to
 ·rw [if_pos e]
  subst e;have h1:ZaN ds d.to=none:=by
   cases e:ZaN ds d.to with
   | none=>rfl
   | some x=>have:=ZaT e;have:=h x this.1;omega
  rw [h1];simp [ZaN,Zd7]
 ·rw [if_neg e]
  have h2:ZaN [d] to=none:=by simp [ZaN];omega
  rw [h2];simp
theorem Ze8 {ds:List WayD}{d:WayD}(h:AscW (ds++[d])):ZaN (ds++[d]) d.to=some d:=ZbW h (by simp)
theorem ZmQ {ds:List WayD}{d e:WayD}(h:AscW (ds++[d]))(he:e.to=d.to):AscW (ds++[e]):=by
 unfold AscW at *;rw [List.pairwise_append] at *;refine⟨h.1,by simp,fun x hx y hy=>?_⟩
 have:y=e:=by simpa using hy
 subst this;rw [he];exact h.2.2 x hx d (by simp)
theorem ZlE {ds:List WayD}{d e:WayD}(he:e.to=d.to){to:Int}(hn:to≠d.to):ZaN (ds++[e]) to=ZaN (ds++[d]) to:=by
 rw [Zcq,Zcq];have h1:ZaN [d] to=none:=by simp [ZaN];omega
 have h2:ZaN [e] to=none:=by simp [ZaN];omega
 rw [h1,h2]
theorem Zii {qs:List RtD}(hq:∀ q∈qs,OffR q):∀ to w,(∃ q∈qs,w=wOf q/\q.to=to)->Hop6 w.hops:=by
 rintro to w ⟨q,hq',rfl,_⟩;exact (hq q hq').hop6
theorem Zeh {qs:List RtD}{q:RtD}{ds:List WayD} (h:Zax (fun to d=>(∃ x∈qs,d=wOf x/\x.to=to)\/(d=wOf q/\(wOf q).to=to)) ds):Zax (fun to d=>∃ x∈qs++[q],d=wOf x/\x.to=to) ds:=
 h.congr (fun to d=>by
  constructor
  ·rintro (⟨x,h1,h2⟩ | ⟨h1,h2⟩)
   ·exact ⟨x,List.mem_append.2 (.inl h1),h2⟩
   ·exact ⟨q,by simp,h1,h2⟩
  ·rintro ⟨x,h1,h2⟩
   rcases List.mem_append.1 h1 with h3 | h3
   ·exact .inl ⟨x,h3,h2⟩
   ·have:x=q:=by simpa using h3
    subst this;exact .inr h2)
theorem ZcB.push {qs bs:List RtD}{q:RtD}(h:ZcB qs bs)(hq:∀ x∈qs,OffR x)(ho:OffR q)(hlt:∀ b∈bs,b.to<q.to):ZcB (qs++[q]) (bs++[q]):=by
 unfold ZcB at *;refine Zeh (h.putT Zic (Zii hq) ho.asc ho.hop6 ?_ ?_)
 ·rw [List.map_append]
  unfold AscW;rw [List.pairwise_append];refine⟨h.1,by simp,fun x hx y hy=>?_⟩
  obtain⟨b,hb,rfl⟩:=List.mem_map.1 hx;have:y=wOf q:=by simpa using hy
  subst this;exact hlt b hb
 ·intro to
  rw [List.map_append];exact ZlD (fun x hx=>by
   obtain⟨b,hb,rfl⟩:=List.mem_map.1 hx;exact hlt b hb) to
theorem ZcB.join {qs bs:List RtD}{b q:RtD}(h:ZcB qs (bs++[b]))(hq:∀ x∈qs,OffR x)(hb:OffR b)(ho:OffR q)(he:ordQ b q=0):ZcB (qs++[q]) (bs++[{ b with hops:=Zch b.hops q.hops }]):=by
 have e:=(hb.eq ho).1 he;unfold ZcB at *;rw [List.map_append] at h |-;simp only [List.map_cons,List.map_nil] at h |-
 obtain⟨j,hj⟩:∃ j,j=wOf { b with hops:=Zch b.hops q.hops }:=⟨_,rfl⟩
 have hjt:j.to=(wOf b).to:=by rw [hj];rfl
 have hl:j=togI (wOf b) (wOf q):=by
  rw [hj];unfold togI Zbg;rw [if_neg (by simp;omega),if_neg (by simp;omega)]
  rfl
 rw [<-hj];have hA:=ZmQ h.1 hjt;refine Zeh (h.putT Zic (Zii hq) ho.asc ho.hop6 hA ?_)
 intro to;by_cases e2:to=(wOf q).to
 ·rw [if_pos e2]
  have h1:to=(wOf b).to:=e2.trans e.1.symm;subst h1;rw [Ze8 h.1, <-hjt,Ze8 hA,hl]
  rfl
 ·rw [if_neg e2]
  exact ZlE hjt (by rw [show (wOf b).to=(wOf q).to from e.1];exact e2)
theorem ZcB.pass {qs bs:List RtD}{b q:RtD}(h:ZcB qs (bs++[b]))(hq:∀ x∈qs,OffR x)(hb:OffR b)(ho:OffR q)(ht:b.to=q.to)(he:ordQ b q<0):ZcB (qs++[q]) (bs++[b]):=by
 have e:=(hb.lt ho).1 he;unfold ZcB at *;have hA:=h.1;refine Zeh (h.putT Zic (Zii hq) ho.asc ho.hop6 hA ?_)
 intro to;by_cases e2:to=(wOf q).to
 ·rw [if_pos e2]
  subst e2;have h1:(wOf q).to=(wOf b).to:=ht.symm;rw [List.map_append] at hA |-;simp only [List.map_cons,List.map_nil] at hA |-
  rw [h1,Ze8 hA]
  show some (wOf b)=some (togI (wOf b) (wOf q))
  unfold togI Zbg;rw [if_pos (by simp;omega)]
 ·rw [if_neg e2]
theorem Tryz.infoRoute:(Tryz.prog.info? 75).map (fun i=>(i.zero,i.size,i.bytes))=some (some (.agg (rtC Zby (.slice none 0 0))),6,64):=by kernel_rfl
def ZaF (ps:List QP):List RtD:=ps.map (·.1)
theorem ZkN {ps:List QP}{i:Nat}{p:QP}(h:ps[i]? = some p):(ZaF ps)[i]? = some p.1:=by simp [ZaF,h]
theorem ZiH (v1 v2:Value)(ps qs:List QP)(w:World)(h1:ZdB w v1 ps w.heap.size)(h2:ZdB w v2 qs w.heap.size)(hn:ps.length<=1048576)(hns:∀ p∈ps,p.1.hops.length<=1048576):
  Calls Tryz.prog 12 #[v1,v2] w fun e w'=>e=.returned (.bool (decide (ZaF ps=ZaF qs)))/\Below w.heap.size w w':=by
 obtain⟨a1,c1,rfl⟩:=h1.shape;obtain⟨a2,c2,rfl⟩:=h2.shape;by_cases hl:ps.length=qs.length
 ·have K1:=hide h1
  have K2:=hide h2;have HLN:=hide hl;have HNS:=hide hns;rw [<-hl];clear h1 h2 hl hns
  go_enter Tryz.func12,Tryz.ntmps12
  go_wp2
  go_loopw [5] (fun i wr=>∃ k:Nat,k<=ps.length/\i=.int .i64 k/\(∀ j,j<k->(ZaF ps)[j]? = (ZaF qs)[j]?)/\Below w.heap.size w wr) (fun i _=>ps.length-(intOf i).toNat)
  case atStart=>exact ⟨0,by omega,rfl,by omega,Below.refl _ _⟩
  case round=>
   obtain⟨k,hk,rfl,hall,hnx⟩:=hrel;have HALL:=hide hall;clear hall;by_cases hlt:k<ps.length
   ·obtain ⟨p,hp⟩:∃ l,ps[k]? = some l:=⟨ps[k],List.getElem?_eq_getElem hlt⟩
    obtain⟨r,hr⟩:∃ l,qs[k]? = some l:=⟨qs[k],List.getElem?_eq_getElem (by have:=HLN.out;omega)⟩
    obtain⟨b1,o1,cp1,hv1,hb1,c0,c1',c2',c3',c4',c5',n1⟩:=K1.out.cells k p hp;obtain⟨b2,o2,cp2,hv2,hb2,d0,d1,d2,d3,d4,d5,n2⟩:=K2.out.cells k r hr;cases hv1
    cases hv2
    rw [<-hnx.cell (p:=⟨b1,o1+k*6,none⟩) hb1] at c0;rw [<-hnx.cell (p:=⟨b1,o1+k*6+1,none⟩) hb1] at c1';rw [<-hnx.cell (p:=⟨b1,o1+k*6+2,none⟩) hb1] at c2';rw [<-hnx.cell (p:=⟨b1,o1+k*6+3,none⟩) hb1] at c3';rw [<-hnx.cell (p:=⟨b1,o1+k*6+4,none⟩) hb1] at c4';rw [<-hnx.cell (p:=⟨b1,o1+k*6+5,none⟩) hb1] at c5';rw [<-hnx.cell (p:=⟨b2,o2+k*6,none⟩) hb2] at d0;rw [<-hnx.cell (p:=⟨b2,o2+k*6+1,none⟩) hb2] at d1;rw [<-hnx.cell (p:=⟨b2,o2+k*6+2,none⟩) hb2] at d2;rw [<-hnx.cell (p:=⟨b2,o2+k*6+3,none⟩) hb2] at d3;rw [<-hnx.cell (p:=⟨b2,o2+k*6+4,none⟩) hb2] at d4;rw [<-hnx.cell (p:=⟨b2,o2+k*6+5,none⟩) hb2] at d5;have hzr:=hnx.size;have hb1':b1<wr.heap.size:=by omega
    have hb2':b2<wr.heap.size:=by omega
    have hki:(0:Int)<=(k:Int):=by omega
    have hkj:(k:Int)<(ps.length:Int):=by omega
    have hkd:Below w.heap.size w wr.drew:=hnx.drew;have m1:=(ZaL.later n1 hkd (Nat.le_refl _)).more hkd.size;have m2:=(ZaL.later n2 hkd (Nat.le_refl _)).more hkd.size;have hq:=ZjT (.agg (rtC p.1 p.2)) (.agg (rtC r.1 r.2)) p.1 r.1 wr.drew ⟨_,rfl,m1⟩ ⟨_,rfl,m2⟩ (HNS.out p (List.mem_of_getElem? hp));unfold rtC at hq;obtain⟨q,hqq⟩:∃ q,q=decide (p.1=r.1):=⟨_,rfl⟩;rw [<-hqq] at hq;have HQ:=hide hq;have HQQ:=hide hqq;have HX:=hide (ZkN hp);have HY:=hide (ZkN hr);clear hq hqq hp hr n1 n2 m1 m2;cases q
    ·go_wp2
     go_region_held3 (fun W=>W.cell? ⟨b1,o1+k*6,none⟩=some (.bool p.1.thing)/\W.cell? ⟨b1,o1+k*6+1,none⟩=some (.int .i64 p.1.to)/\W.cell? ⟨b1,o1+k*6+2,none⟩=some (.int .i64 p.1.kind)/\W.cell? ⟨b1,o1+k*6+3,none⟩=some (.int .i64 p.1.cost)/\W.cell? ⟨b1,o1+k*6+4,none⟩=some (.int .i64 p.1.far)/\W.cell? ⟨b1,o1+k*6+5,none⟩=some (p.2)/\W.cell? ⟨b2,o2+k*6,none⟩=some (.bool r.1.thing)/\W.cell? ⟨b2,o2+k*6+1,none⟩=some (.int .i64 r.1.to)/\W.cell? ⟨b2,o2+k*6+2,none⟩=some (.int .i64 r.1.kind)/\W.cell? ⟨b2,o2+k*6+3,none⟩=some (.int .i64 r.1.cost)/\W.cell? ⟨b2,o2+k*6+4,none⟩=some (.int .i64 r.1.far)/\W.cell? ⟨b2,o2+k*6+5,none⟩=some (r.2)) (first | go_keep | (refine ⟨?_,?_,?_,?_,?_,?_,?_,?_,?_,?_,?_,?_⟩ <;> (rw [hbc.cell (by assumption)];assumption))) (first | (go_at_call 35;refine HQ.out.mono ?_;rintro e w1 ⟨rfl,hbc⟩))
     go_wp2
     go_ret
     exact⟨ZaA (ZlY HX.out HY.out (of_decide_eq_false HQQ.out.symm)),hnx.trans ((Below.refl _ _).drew.trans (hbc.mono hzr))⟩
    ·go_wp2
     go_region_held3 (fun W=>W.cell? ⟨b1,o1+k*6,none⟩=some (.bool p.1.thing)/\W.cell? ⟨b1,o1+k*6+1,none⟩=some (.int .i64 p.1.to)/\W.cell? ⟨b1,o1+k*6+2,none⟩=some (.int .i64 p.1.kind)/\W.cell? ⟨b1,o1+k*6+3,none⟩=some (.int .i64 p.1.cost)/\W.cell? ⟨b1,o1+k*6+4,none⟩=some (.int .i64 p.1.far)/\W.cell? ⟨b1,o1+k*6+5,none⟩=some (p.2)/\W.cell? ⟨b2,o2+k*6,none⟩=some (.bool r.1.thing)/\W.cell? ⟨b2,o2+k*6+1,none⟩=some (.int .i64 r.1.to)/\W.cell? ⟨b2,o2+k*6+2,none⟩=some (.int .i64 r.1.kind)/\W.cell? ⟨b2,o2+k*6+3,none⟩=some (.int .i64 r.1.cost)/\W.cell? ⟨b2,o2+k*6+4,none⟩=some (.int .i64 r.1.far)/\W.cell? ⟨b2,o2+k*6+5,none⟩=some (r.2)) (first | go_keep | (refine ⟨?_,?_,?_,?_,?_,?_,?_,?_,?_,?_,?_,?_⟩ <;> (rw [hbc.cell (by assumption)];assumption))) (first | (go_at_call 35;refine HQ.out.mono ?_;rintro e w1 ⟨rfl,hbc⟩))
     go_wp2
     go_roundw
     case rel=>exact ⟨k+1,by omega,by go_num,(fun j hj=>by
      by_cases e:j=k
      ·subst e;rw [HX.out,HY.out,of_decide_eq_true HQQ.out.symm]
      ·exact HALL.out j (by omega)),hnx.trans ((Below.refl _ _).drew.trans (hbc.mono hzr))⟩
     case measure=>simp [intOf];omega
   ·have hkn:k=ps.length:=by omega
    have KN:=hide hkn;clear hkn
    go_wp2
    go_ret
    exact⟨ZaV (Zg2 (by simp [ZaF,HLN.out]) (by have:=HALL.out;rw [KN.out] at this;simpa [ZaF] using this)),hnx⟩
 ·clear h1 h2
  have hd:((ps.length:Int) != (qs.length:Int))=true:=by simp;omega
  go_enter Tryz.func12,Tryz.ntmps12
  go_wp2
  go_ret
  exact⟨ZaA (fun h=>hl (by have:=congrArg List.length h;simpa [ZaF] using this)),Below.refl _ _⟩
theorem ZoH {W W':World}(hb:Below W.heap.size W W')(hd:W.drawn<=W'.drawn):∃ q os',W'=Go.Sort.grow (W.drewN q) os':=by
 refine⟨W'.drawn-W.drawn,W'.heap.extract W.heap.size W'.heap.size,?_⟩
 have hh:W'.heap=W.heap++W'.heap.extract W.heap.size W'.heap.size:=by
  apply Array.ext_getElem?
  intro i;by_cases hi:i<W.heap.size
  ·rw [Array.getElem?_append_left hi]
   exact hb.block i hi
  ·rw [Array.getElem?_append_right (by omega),Array.getElem?_extract]
   have:=hb.size;by_cases h2:i<W'.heap.size
   ·rw [if_pos (by omega)]
    congr 1
    omega
   ·rw [if_neg (by omega),Array.getElem?_eq_none (by omega)]
 obtain⟨h1,h2,h3,h4,h5⟩:=W';have e1:=hb.os;have e2:=hb.tape;have e3:=hb.output;simp only at e1 e2 e3 hh hd
 subst e1 e2 e3;unfold Go.Sort.grow;simp only [World.drewN]
 congr 1
 omega
theorem ZeO (w1:World)(cs:Array Value)(t:TypeId)(j:Nat)(v:Value)(h:cs[j]? = some v):(w1.alloc (.cells cs t)).cell? ⟨w1.heap.size,j,none⟩=some v:=by
 have:=Zaa (heap_alloc_new w1 (.cells cs t)) j;rw [h] at this;exact this
theorem Zk0 (a b:RtD)(ua va:Option Addr)(un uc vn vc:Nat)(w:World):
  Calls Tryz.prog 154 #[.agg (rtC a (.slice ua un uc)),.agg (rtC b (.slice va vn vc))] w fun e w'=>e=.returned (.int .i64 (ordQ a b))/\Below w.heap.size w w'/\w.drawn<=w'.drawn:=by
 obtain⟨R,hR⟩:∃ R,R=ordQ a b:=⟨_,rfl⟩;rw [<-hR];unfold ordQ at hR;have HR:=hide hR;clear hR;unfold rtC
 go_enter Tryz.func154,Tryz.ntmps154
 go_wp2
 obtain⟨w1,hw1⟩:∃ w1,w1=(w.alloc (.cells #[.bool a.thing,.int .i64 a.to,.int .i64 a.kind,.int .i64 a.cost,.int .i64 a.far,.slice ua un uc] 75)).alloc (.cells #[.bool b.thing,.int .i64 b.to,.int .i64 b.kind,.int .i64 b.cost,.int .i64 b.far,.slice va vn vc] 75):=⟨_,rfl⟩;have B1:Below w.heap.size w w1:=by rw [hw1];exact Zan _ _
 have D1:w.drawn<=w1.drawn:=by rw [hw1];exact Nat.le_refl _
 have p0:w1.heap[w.heap.size]? = some (.cells #[.bool a.thing,.int .i64 a.to,.int .i64 a.kind,.int .i64 a.cost,.int .i64 a.far,.slice ua un uc] 75):=by rw [hw1,Below.heap_alloc _ _ _ (by simp),heap_alloc_new]
 have q0:w1.heap[w.heap.size+1]? = some (.cells #[.bool b.thing,.int .i64 b.to,.int .i64 b.kind,.int .i64 b.cost,.int .i64 b.far,.slice va vn vc] 75):=by
  rw [hw1];have:=heap_alloc_new (w.alloc (.cells #[.bool a.thing,.int .i64 a.to,.int .i64 a.kind,.int .i64 a.cost,.int .i64 a.far,.slice ua un uc] 75)) (.cells #[.bool b.thing,.int .i64 b.to,.int .i64 b.kind,.int .i64 b.cost,.int .i64 b.far,.slice va vn vc] 75)
  simpa using this
 rw [<-hw1];clear hw1;have s1:=Zaa p0 1;have t1:=Zaa q0 1;have s2:=Zaa p0 2;have t2:=Zaa q0 2;have s3:=Zaa p0 3;have t3:=Zaa q0 3;have s4:=Zaa p0 4;have t4:=Zaa q0 4;have hz0:=Zab p0;have hz1:=Zab q0;simp at s1 s2 s3 s4 t1 t2 t3 t4
 have S3:=hide s3;have S4:=hide s4;have T3:=hide t3;have T4:=hide t4;clear s3 s4 t3 t4;have P0:=hide p0;have Q0:=hide q0;clear p0 q0;have hz2:=B1.size
 go_region_held3 (fun W=>W.cell? ⟨w.heap.size,1,none⟩=some (.int .i64 a.to)/\W.cell? ⟨w.heap.size,2,none⟩=some (.int .i64 a.kind)/\W.cell? ⟨w.heap.size+1,1,none⟩=some (.int .i64 b.to)/\W.cell? ⟨w.heap.size+1,2,none⟩=some (.int .i64 b.kind)) (first | go_keep | assumption) (first | (go_at_call 163;refine (Za5 _ _ _).mono ?_;rintro e w' ⟨rfl,rfl⟩) | (go_at_call 162;refine (Zjb _ (cmpN a.to b.to) (cmpN a.kind b.kind) _ ?_ ?_).mono ?_;(exact ZcF _ _ _ _ _ rfl);(exact ZcF _ _ _ _ _ rfl);rintro e w' ⟨rfl,rfl⟩))
 rename_i hheld
 clear hheld s1 s2 t1 t2 S3 S4 T3 T4;have B2:Below w.heap.size w (w1.alloc (.cells #[.int .i64 (cmpN a.to b.to),.int .i64 (cmpN a.kind b.kind)] 3)).drew:=(B1.alloc B1.size (.cells #[.int .i64 (cmpN a.to b.to),.int .i64 (cmpN a.kind b.kind)] 3)).drew;have D2:w.drawn<=(w1.alloc (.cells #[.int .i64 (cmpN a.to b.to),.int .i64 (cmpN a.kind b.kind)] 3)).drew.drawn:=Nat.le_trans D1 (Nat.le_succ _);have BL:Below w1.heap.size w1 (w1.alloc (.cells #[.int .i64 (cmpN a.to b.to),.int .i64 (cmpN a.kind b.kind)] 3)).drew:=((Below.refl w1.heap.size w1).alloc (Nat.le_refl _) (.cells #[.int .i64 (cmpN a.to b.to),.int .i64 (cmpN a.kind b.kind)] 3)).drew;have p2:=(BL.block _ hz0).trans P0.out;have q2:=(BL.block _ hz1).trans Q0.out;obtain⟨w2,hw2⟩:∃ W,W=(w1.alloc (.cells #[.int .i64 (cmpN a.to b.to),.int .i64 (cmpN a.kind b.kind)] 3)).drew:=⟨_,rfl⟩;rw [<-hw2] at B2 D2 p2 q2 |-;clear hw2 BL P0 Q0 B1 D1;have s2:=Zaa p2 2;have t2:=Zaa q2 2;have s3:=Zaa p2 3;have t3:=Zaa q2 3;have s4:=Zaa p2 4;have t4:=Zaa q2 4;simp at s2 s3 s4 t2 t3 t4
 have hy0:=Zab p2;have hy1:=Zab q2;have hw2s:=B2.size;clear p2 q2;obtain⟨O,hO⟩:∃ O,O=orN [cmpN a.to b.to,cmpN a.kind b.kind]:=⟨_,rfl⟩;rw [<-hO] at HR |-;clear hO;by_cases h0:O=0
 ·have hd:(O != 0)=false:=by simpa using h0
  have hR:=HR.out;rw [if_pos h0] at hR;have HO:=hide h0;clear HR h0;by_cases h4:a.kind=4
  ·rw [if_pos h4] at hR
   have HRR:=hide hR;have hd4:(a.kind==4)=true:=by simpa using h4
   clear hR h4
   go_wp2_with fail
   refine (Za5 _ _ _).mono ?_
   rintro e w3 ⟨rfl,rfl⟩
   go_wp2_with fail
   refine (Za5 _ _ _).mono ?_
   rintro e w3 ⟨rfl,rfl⟩
   go_wp2_with fail
   refine (Zjb _ (cmpN a.far b.far) (cmpN a.cost b.cost) _ ?_ ?_).mono ?_
   ·exact ZeO _ _ _ _ _ rfl
   ·exact ZeO _ _ _ _ _ rfl
   rintro e w3 ⟨rfl,rfl⟩
   go_wp2
   go_ret
   exact⟨by rw [HRR.out];rfl,B2.alloc hw2s _,D2⟩
  ·rw [if_neg h4] at hR
   have hd4:(a.kind==4)=false:=by simpa using h4
   clear h4;by_cases h3:a.kind=3
   ·rw [if_pos h3] at hR
    have HRR:=hide hR;have hd3:(a.kind==3)=true:=by simpa using h3
    clear hR h3
    go_wp2_with fail
    refine (Za5 _ _ _).mono ?_
    rintro e w3 ⟨rfl,rfl⟩
    go_wp2_with fail
    refine (Zjb _ O (cmpN a.cost b.cost) _ ?_ ?_).mono ?_
    ·exact ZeO _ _ _ _ _ rfl
    ·exact ZeO _ _ _ _ _ rfl
    rintro e w3 ⟨rfl,rfl⟩
    go_wp2
    go_ret
    exact⟨by rw [HRR.out,HO.out];rfl,B2.alloc hw2s _,D2⟩
   ·rw [if_neg h3] at hR
    have HRR:=hide hR;have hd3:(a.kind==3)=false:=by simpa using h3
    clear hR h3
    go_wp2
    go_ret
    exact⟨by rw [HRR.out,HO.out];rfl,B2,D2⟩
 ·have hd:(O != 0)=true:=by simpa using h0
  have HRR:=hide (HR.out.trans (if_neg h0));clear HR h0
  go_wp2
  go_ret
  exact⟨by rw [HRR.out];rfl,B2,D2⟩
theorem Zoy (blk off size:Nat)(w:World):CmpLays Tryz.prog 154 #[] encS 6 cfS blk off size w:=
 fun _ _ _ _ x y=>(Zk0 x.1 y.1 x.2.1 y.2.1 x.2.2.1 x.2.2.2 y.2.2.1 y.2.2.2 _).mono fun _ _ ⟨h1,h2,h3⟩=>⟨h1,ZoH h2 h3⟩
theorem ZcU (x:WayD)(a:Option Addr)(n c:Nat):∀ u∈encW (x,.slice a n c),u.oneCell'=true:=by
 intro u hu;simp only [encW,List.mem_cons,List.not_mem_nil,or_false] at hu
 rcases hu with rfl | rfl | rfl <;> rfl
theorem Zg9 {W:World}{lo lo2 hi n size2:Nat}{v:Value}{xs:List Value}{q:WP}(hq:Zbz W lo hi q)(hr:W.ownsRow lo2 104 size2 v n xs)(j:Nat)(hj:q.2.ownBlock=some j):some j≠v.ownBlock:=by
 intro e
 rcases hr.2 with ⟨h0,_⟩ | ⟨g,cap,cur,hv,_,hh,_⟩
 ·rw [h0] at e;simp [Value.ownBlock] at e
 ·rw [hv] at e
  simp [Value.ownBlock] at e
  subst e;exact Zap hq.1 hh (by decide) hj.symm
theorem WaysOwn.push {W Wa W2:World}{lo:Nat}{v v':Value}{qs:List WP}{p:WP}(h:WaysOwn W lo W.heap.size v qs)(hb:Below W.heap.size W Wa)(hlo:lo<=W.heap.size)(hp:Zbz Wa W.heap.size Wa.heap.size p)
  (row:W2.ownsRow lo 104 3 v' (qs.length+1) (flat encW (qs++[p]))) (hg:Wa.grownBy W2 v.ownBlock):WaysOwn W2 lo W2.heap.size v' (qs++[p]) where
 row:=by simpa using row
 top:=fun k hk=>(row.lt k hk).2
 apart:=Zlj h.apart h.nears (fun k hk=>(hp.1.lt k hk).1)
 nears:=by
  have rowa:=Zaf h.row hb (Nat.le_refl _);have key:∀ q,Zbz Wa lo Wa.heap.size q->Zbz W2 lo W2.heap.size q:=fun q hq=>
   ⟨Zal hq.1 (fun j hj=>hg.block j (hq.2 j hj) (Zg9 hq rowa j hj)),fun k hk=>Nat.lt_of_lt_of_le (hq.2 k hk) hg.size⟩
  intro q hq
  rcases List.mem_append.1 hq with h1 | h1
  ·exact key q (((h.nears q h1).keep (W':=Wa) (fun j _ h2 _=>hb.block j h2)).wide (Nat.le_refl _) hb.size)
  ·have:q=p:=by simpa using h1
   subst this;exact key q (hp.wide hlo (Nat.le_refl _))
theorem ZaY {α:Type}{enc:α->List Value}{sz bytes:Nat}(hlen:∀ a,(enc a).length=sz)(hpos:0<sz)(hbb:bytes<=100){P:Program}(w:World){ops:Array Oper}{rest:List Oper}{o:Oper}{a:Act}{Q:Exit->Act->World->Prop}(hgd:o.guard=none)(s x:Operand)(t:TypeId)
  (ho:o.op=.call { callee:=.builtin .append,args:=#[s,x],argTypes:=#[t,t] }) (base:Nat) (e:TypeId) (ht:P.underlying t=some (.slice e)) (zv:Value) (hzv:zv.cells.size=sz)
  (hinfo:(P.info? e).map (fun i=>(i.zero,i.size,i.bytes))=some (some zv,sz,bytes))
  (v:Value) (l:List α) (y:α) (hone:∀ u∈enc y,u.oneCell'=true) (hs:a.eval s=v) (hown:w.ownsRow base e sz v l.length (flat enc l))
  (ad:Addr) (c:Nat) (hx:a.eval x=.slice (some ad) 1 c) (hnews:∀ j u,(enc y)[j]? = some u->w.cell? (ad.add j)=some u)
  (hl:l.length+1<=1000000000) (hbase:base<=w.heap.size)
  (h:∀ v' w',w'.ownsRow base e sz v' (l++[y]).length (flat enc (l++[y]))->w.grownBy w' v.ownBlock->(v'.ownBlock=v.ownBlock\/v'.ownBlock=some w.heap.size)->wpList P ops Q rest (a.put o.dst v') w'):wpList P ops Q (o::rest) a w:=by
 obtain⟨i0,hi,hz0,hz1,hz2⟩:=info_parts hinfo;refine wpList_append_own_at w hgd s x t ho base e i0 zv sz bytes ht hi hz0 hz1 hz2 hzv hpos v l.length (flat enc l) hs hown ad 1 c (enc y) hx (by rw [hlen];omega) hnews hone (by unfold maxLen;omega) ?_ hbase ?_
 ·have:(l.length+1)*bytes<=1000000000*100:=Nat.mul_le_mul hl hbb
  omega
 ·intro v' w' h1 h2 _ h4
  have e1:flat enc l++enc y=flat enc (l++[y]):=by rw [ZaK];simp [flat]
  rw [e1] at h1;exact h v' w' (by simpa using h1) h2 h4
theorem Zcm (x:RtD)(a:Option Addr)(n c:Nat):∀ u∈encQ (x,.slice a n c),u.oneCell'=true:=by
 intro u hu;simp only [encQ,List.mem_cons,List.not_mem_nil,or_false] at hu
 rcases hu with rfl | rfl | rfl | rfl | rfl | rfl <;> rfl
def ZbR (kind:Int)(p:WP):QP:=(⟨false,p.1.to,kind,p.1.cost,0,p.1.hops⟩,p.2)
def ZaI (kind src:Int)(ws:List WP):List QP:=(ws.filter (fun p=>p.1.to != src)).map (ZbR kind)
theorem Zd0 (kind src:Int)(ws:List WP):ZaF (ZaI kind src ws)=ZdA kind src (Zak ws):=by
 unfold ZaF ZaI ZdA Zak;rw [List.filter_map,List.map_map,List.map_map]
 rfl
theorem Zd1 (kind src:Int)(ws:List WP):(ZaI kind src ws).length<=ws.length:=by
 unfold ZaI;rw [List.length_map];exact List.length_filter_le _ _
theorem Zfj {kind src:Int}{ws:List WP}{k:Nat}{p:WP}(h:ws[k]? = some p)(hn:p.1.to≠src):ZaI kind src (ws.take (k+1))=ZaI kind src (ws.take k)++[ZbR kind p]:=by
 obtain⟨hk,e⟩:=List.getElem?_eq_some_iff.1 h;unfold ZaI;rw [List.take_succ_eq_append_getElem hk,e,List.filter_append,List.map_append];simp [hn]
theorem Zgi {kind src:Int}{ws:List WP}{k:Nat}{p:WP}(h:ws[k]? = some p)(hn:p.1.to=src):ZaI kind src (ws.take (k+1))=ZaI kind src (ws.take k):=by
 obtain⟨hk,e⟩:=List.getElem?_eq_some_iff.1 h;unfold ZaI;rw [List.take_succ_eq_append_getElem hk,e,List.filter_append,List.map_append];simp [hn]
theorem Zb5 {W:World}{lo hi:Nat}{v:Value}{ws:List WP}(h:WaysOwn W lo hi v ws)(kind src:Int):∀ q∈ZaI kind src ws,Zbj W lo hi q:=by
 intro q hq;unfold ZaI at hq;obtain⟨p,hp,rfl⟩:=List.mem_map.1 hq;exact h.nears p (List.mem_filter.1 hp).1
theorem ZcY {W:World}{lo hi:Nat}{v:Value}{ws:List WP}(h:WaysOwn W lo hi v ws)(kind src:Int):(ZaI kind src ws).Pairwise Zc5:=by
 unfold ZaI;rw [List.pairwise_map];exact (h.apart.sublist (List.filter_sublist)).imp (fun h=>h)
theorem Zhd (v:Value)(ws:List WP)(lo hi:Nat)(kind src:Int)(w:World)(hv:WaysOwn w lo hi v ws)(hhi:hi<=w.heap.size)(hn:ws.length<=1000):
  Calls Tryz.prog 70 #[.int .i64 kind,v,.int .i64 src] w fun e w'=>∃ x,e=.returned x/\w'.ownsRow w.heap.size 75 6 x (ZaI kind src ws).length (flat encQ (ZaI kind src ws))/\Below w.heap.size w w':=by
 obtain⟨a1,c1,rfl⟩:=Zac hv.row;have HV:=hide hv;clear hv
 go_enter Tryz.func70,Tryz.ntmps70
 go_wp2
 go_loopw [12,7] (fun i o wr=>∃ (k:Nat) (x:Value) (qs:List QP),k<=ws.length/\i=.int .i64 (k:Int)/\o=x/\Hid (qs=ZaI kind src (ws.take k))/\qs.length<=k/\wr.ownsRow w.heap.size 75 6 x qs.length (flat encQ qs)/\Below w.heap.size w wr) (fun i _ _=>ws.length-(intOf i).toNat)
 case atStart=>exact ⟨0,_,[],by omega,rfl,rfl,hide (by simp [ZaI]),by simp,World.ownsRow_nil _ _ _ _,Below.refl _ _⟩
 case round=>
  obtain⟨k,x,qs,hk,rfl,rfl,HQ,hql,hown,hnx⟩:=hrel;obtain⟨xa,xc,rfl⟩:=Zac hown;have hsz:=hnx.size;by_cases hlt:k<ws.length
  ·obtain ⟨p,hp⟩:∃ p,ws[k]? = some p:=⟨ws[k],List.getElem?_eq_getElem hlt⟩
   obtain⟨bb,off,cp,hve,hbb,c0,c1,c2,_⟩:=HV.out.at.cells k p hp;cases hve
   have hbw:bb<w.heap.size:=by omega
   obtain⟨pa,pc,hpn⟩:=Zac (HV.out.nears p (List.mem_of_getElem? hp)).1;rw [hpn] at c2;rw [<-hnx.cell (p:=⟨bb,off+k*3,none⟩) hbw] at c0;rw [<-hnx.cell (p:=⟨bb,off+k*3+1,none⟩) hbw] at c1;rw [<-hnx.cell (p:=⟨bb,off+k*3+2,none⟩) hbw] at c2;have hki:(0:Int)<=(k:Int):=by omega
   have hkj:(k:Int)<(ws.length:Int):=by omega
   have HP:=hide hp;have HPN:=hide hpn;have BA:Below wr.heap.size wr (wr.alloc (.cells #[.int .i64 p.1.to,.int .i64 p.1.cost,.slice pa p.1.hops.length pc] 104)):=(Below.refl _ _).alloc (Nat.le_refl _) _;by_cases ht:p.1.to=src
   ·have hd:(p.1.to != src)=false:=by simpa using ht
    have HN:=hide (show qs=ZaI kind src (ws.take (k+1)) from HQ.out.trans (Zgi HP.out ht).symm)
    have N1:=hide (Zaf hown BA (Nat.le_refl _));have N2:=hide (hnx.trans (BA.mono hsz));clear hp hpn hown hnx BA ht HQ HP HPN
    go_wp2
    go_roundw
    case rel=>exact ⟨k+1,_,qs,by omega,by go_num,rfl,HN,by omega,N1.out,N2.out⟩
    case measure=>simp [intOf];omega
   ·have hd:(p.1.to != src)=true:=by simpa using ht
    have HN:=hide (show qs++[ZbR kind (p.1,.slice pa p.1.hops.length pc)]=ZaI kind src (ws.take (k+1)) from by
     rw [Zfj HP.out ht,HQ.out, <-HPN.out])
    have hs1:(wr.alloc (.cells #[.int .i64 p.1.to,.int .i64 p.1.cost,.slice pa p.1.hops.length pc] 104)).heap.size=wr.heap.size+1:=by simp
    have HS1:=hide hs1;have B2:=hide (hnx.trans ((BA.trans (((Below.refl (wr.alloc (.cells #[.int .i64 p.1.to,.int .i64 p.1.cost,.slice pa p.1.hops.length pc] 104)).heap.size (wr.alloc (.cells #[.int .i64 p.1.to,.int .i64 p.1.cost,.slice pa p.1.hops.length pc] 104))).alloc (Nat.le_refl _) (.cells (encQ (ZbR kind (p.1,.slice pa p.1.hops.length pc))).toArray 75)).mono BA.size)).mono hsz));have OW:=hide ((hown.alloc (.cells #[.int .i64 p.1.to,.int .i64 p.1.cost,.slice pa p.1.hops.length pc] 104)).alloc (.cells (encQ (ZbR kind (p.1,.slice pa p.1.hops.length pc))).toArray 75));have HOB:=hide (fun j (hj:(Value.slice xa qs.length xc).ownBlock=some j)=>(hown.lt j hj).1)
    clear hp hpn hown hnx BA ht HQ HP HPN hs1
    go_wp2_with (first
     | (at_builtin;refine ZaY Zbu (by omega) (by omega) _ rfl _ _ 48 rfl w.heap.size 75 Tryz.underlying48 (.agg (rtC Zby (.slice none 0 0))) rfl Tryz.infoRoute _ qs (ZbR kind (p.1,.slice pa p.1.hops.length pc)) (Zcm _ _ _ _) rfl OW.out ⟨wr.heap.size+1,0,none⟩ 1 rfl (fun j u hj=>by
       have h:=Zaz (w:=(wr.alloc (.cells #[.int .i64 p.1.to,.int .i64 p.1.cost,.slice pa p.1.hops.length pc] 104))) (cs:=encQ (ZbR kind (p.1,.slice pa p.1.hops.length pc))) (t:=75) j u hj;rw [HS1.out] at h;exact h) (by omega) (by simp;omega) ?_))
    intro v' w6 hown' hgrow hat;have N1:=hide (show w6.ownsRow w.heap.size 75 6 v' (qs++[ZbR kind (p.1,.slice pa p.1.hops.length pc)]).length (flat encQ (qs++[ZbR kind (p.1,.slice pa p.1.hops.length pc)])) by simpa using hown')
    have N2:=hide (B2.out.grown hgrow (by have:=B2.out.size;omega) HOB.out)
    obtain⟨va,vc,rfl⟩:=Zac hown';clear hown' hgrow hat OW HOB B2 HS1
    go_wp2
    go_roundw
    case rel=>exact ⟨k+1,_,qs++[ZbR kind (p.1,.slice pa p.1.hops.length pc)],by omega,by go_num,rfl,HN,by simp;omega,N1.out,N2.out⟩
    case measure=>simp [intOf];omega
  ·have hkn:¬(k:Int)<(ws.length:Int):=by omega
   have HE:=hide (show qs=ZaI kind src ws from by rw [HQ.out,List.take_of_length_le (by omega)])
   have HO:=hide hown;have HN:=hide hnx;clear hown hnx HQ
   go_wp2
   go_ret
   rw [<-HE.out];exact⟨_,rfl,HO.out,HN.out⟩
theorem Zl5 {W:World}{g cap n sz base:Nat}{e:TypeId}{cur:Array Value}{xs:List Value}(hg:W.heap[g]? = some (.cells cur e (0,0)))(hb:base<=g)(hn:n<=cap)(hm:cap<=maxLen)(hs:cur.size=cap*sz)(hx:xs.length=n*sz)(hc:∀ j,j<n*sz->W.cell? ⟨g,j,none⟩=xs[j]?):W.ownsRow base e sz (.slice (some ⟨g,0,none⟩) n cap) n xs:=by
 refine⟨hx,.inr ⟨g,cap,cur,rfl,hb,hg,hn,hm,hs,?_⟩⟩
 apply List.ext_getElem?
 intro j;rw [List.getElem?_take];by_cases hj:j<n*sz
 ·rw [if_pos hj,Array.getElem?_toList, <-hc j hj]
  simp [World.cell?,hg]
 ·rw [if_neg hj,List.getElem?_eq_none (by omega)]
theorem Zgy {α:Type} [Inhabited α]{enc:α->List Value}{k:Nat}{w:World}{g m:Nat}{dk:Array α}{os:Array Obj}{cur:Array Value}{e:TypeId}(hg:w.heap[g]? = some (.cells cur e (0,0))):∃ cur',(Go.Proofs.sortWorldK enc k w g 0 m dk os).heap[g]? = some (.cells cur' e (0,0))/\cur'.size=cur.size:=by
 have hl:=Zab hg;refine⟨Go.Sort.putCells id 0 (Go.Sort.flatK enc k dk) cur,?_,by simp [Go.Sort.putCells]⟩
 unfold Go.Proofs.sortWorldK Go.Sort.grow Go.Sort.putRowK;rw [Array.getElem?_append_left (by simpa [Go.Sort.putRow,Go.Sort.mapBlock,Go.Sort.ahead] using hl)]
 simp [Go.Sort.putRow,Go.Sort.mapBlock,Go.Sort.ahead,Array.getElem?_modify,hg,Go.Sort.onCells]
theorem Zgz {α:Type} [Inhabited α]{enc:α->List Value}{k:Nat}{w:World}{g m:Nat}{dk:Array α}{os:Array Obj}:w.grownBy (Go.Proofs.sortWorldK enc k w g 0 m dk os) (some g):=by
 refine⟨rfl,rfl,rfl,by unfold Go.Proofs.sortWorldK Go.Sort.grow Go.Sort.putRowK;simp [Go.Sort.putRow,Go.Sort.mapBlock,Go.Sort.ahead],fun j hj hne=>?_⟩
 have hne':g≠j:=fun e=>hne (by rw [e])
 unfold Go.Proofs.sortWorldK Go.Sort.grow Go.Sort.putRowK;rw [Array.getElem?_append_left (by simpa [Go.Sort.putRow,Go.Sort.mapBlock,Go.Sort.ahead] using hj)]
 simp [Go.Sort.putRow,Go.Sort.mapBlock,Go.Sort.ahead,Array.getElem?_modify,hne']
theorem as_qs:∀ {os:List QP},(∀ q∈os,∃ a n c,q.2=.slice a n c)->∃ ss:List QS,ss.map qsP=os
 | [],_=>⟨[],rfl⟩
 | q::os,h=>by
  obtain⟨ss,hs⟩:=as_qs (os:=os) (fun x hx=>h x (by simp [hx]))
  obtain⟨a,n,c,e⟩:=h q (by simp)
  refine⟨(q.1,a,n,c)::ss,?_⟩
  rw [List.map_cons,hs]
  congr 1
  unfold qsP;rw [<-e]
theorem Tryz.aggRoute:∀ w,(isAgg 75).run Tryz.prog w=.ok true w:=fun w=>by kernel_rfl
theorem Tryz.sizeRoute:∀ w,(Go.sizeOf 75).run Tryz.prog w=.ok 6 w:=fun w=>by kernel_rfl
theorem Zn1 (v:Value)(os:List QP)(base:Nat)(w:World)(h:w.ownsRow base 75 6 v os.length (flat encQ os))(hsl:∀ q∈os,∃ a n c,q.2=.slice a n c)(hlen:os.length<=1000000):
  Calls Tryz.prog 153 #[v,.func (.func 154) #[] #[]] w fun e w'=>e=.returned (.tuple #[])/\∃ qs:List QP,qs.Perm os/\Ze5 (ZaF qs)/\w'.ownsRow base 75 6 v qs.length (flat encQ qs)/\w.grownBy w' v.ownBlock:=by
 obtain⟨ss,hss⟩:=as_qs hsl
 rcases h.2 with ⟨e0,hn0⟩ | ⟨g,cap,cur,e0,hb,hg,hn,hm,hs,ht⟩
 ·subst e0
  have hos:os=[]:=List.length_eq_zero_iff.1 hn0;subst hos;have hc:=Go.Proofs.AnyF.slices_SortFunc_none Tryz.sortQ none 0 (.func (.func 154) #[] #[]) w
  change Calls Tryz.prog 153 _ _ _ at hc
  refine hc.mono fun e w' ⟨h1,h2⟩=>⟨h1,[],List.Perm.refl _,by simp [Ze5,ZaF],?_,?_⟩
  ·exact World.ownsRow_nil _ _ _ _
  ·rw [h2]
   exact⟨rfl,rfl,rfl,Nat.le_refl _,fun _ _ _=>rfl⟩
 ·subst e0
  have hsl2:ss.length=os.length:=by rw [<-hss,List.length_map]
  have hflat:flat encQ os=flat encS ss:=by
   rw [<-hss];unfold flat encS;rw [List.flatMap_map]
  have hcell:∀ i c,i<ss.length->c<6->(flat encS ss)[i*6+c]? = (encS ss[i]!)[c]? := fun i c hi hc=>by
   exact ZbF (sz:=6) (fun _=>rfl) ss i c ss[i]! (by rw [getElem!_pos _ i hi];exact List.getElem?_eq_getElem hi) hc
  have hgl:=Zab hg;have hH:Go.Sort.HoldsK encS 6 w g 0 ss.toArray:=by
   intro j hj;rw [Go.Sort.size_flatK] at hj;simp only [List.size_toArray] at hj
   refine⟨?_,by simp [World.frozen?,hg]⟩
   rw [Go.Sort.get_flatK _ _ _ j (by simpa using hj)]
   have hd:j / 6<ss.length:=by omega
   have e1:(flat encQ os)[j]? = (encS ss[j / 6]!)[j%6]? := by
    rw [hflat, <-hcell (j / 6) (j%6) hd (by omega)]
    congr 1
    omega
   have e2:cur[j]? = (flat encQ os)[j]? := by
    rw [<-ht,List.getElem?_take,if_pos (by omega),Array.getElem?_toList]
   simp only [World.cell?,hg,Nat.zero_add]
   simp only [Option.isSome_none,Bool.false_eq_true,if_false]
   rw [e2,e1];have e3:(ss.toArray[j / 6]! : QS)=ss[j / 6]! := by simp
   rw [e3,List.getElem?_eq_getElem (show j%6<(encS ss[j / 6]!).length by show j%6<6;omega),getElem!_pos _ (j%6) (show j%6<(encS ss[j / 6]!).length by show j%6<6;omega)]
   rfl
  have hc:=Go.Proofs.AnyQ.slices_SortFunc Tryz.sortQ 6 Tryz.aggRoute Tryz.sizeRoute encS (fun _=>rfl) (fun x u hu=>Zcm _ _ _ _ u hu) cfS swoS 154 #[] g 0 cap ss.toArray w (enters_of Tryz.func154 (by kernel_rfl) rfl) (Zoy g 0 ss.toArray.size w) hH hgl (by simp;omega)
  change Calls Tryz.prog 153 _ _ _ at hc
  rw [show ss.toArray.size=os.length by simp [hsl2]] at hc
  refine hc.mono fun e w' ⟨h1,d',n,os',hp,hso,hw⟩=>⟨h1,d'.toList.map qsP,?_,?_,?_,?_⟩
  ·have hpp:=hp.2.2
   have hds:d'.size=os.length:=by rw [hp.1];simp [hsl2]
   rw [Array.extract_eq_self_of_le (by omega),Array.extract_eq_self_of_le (by simp [hsl2])] at hpp
   have:=hpp.map qsP;rw [hss] at this;exact this
  ·have hds:d'.size=os.length:=by rw [hp.1];simp [hsl2]
   unfold Ze5 ZaF;rw [List.map_map,List.pairwise_map,List.pairwise_iff_getElem];intro i j hi hj hij;simp only [Array.length_toList] at hi hj
   have h3:=hso i j (by omega) hij (by omega)
   rw [getElem!_pos d' i hi,getElem!_pos d' j hj] at h3;unfold Go.Proofs.ltOf cfS at h3;have h4:¬ordQ d'[j].1 d'[i].1<0:=by simpa using h3
   exact h4
  ·have hds:d'.size=os.length:=by rw [hp.1];simp [hsl2]
   obtain⟨cur',hg',hs'⟩:=Zgy (enc:=encS) (k:=6) (m:=n) (dk:=d') (os:=os') hg;have hH':=Go.Proofs.holdsK_sortWorldK_c encS 6 w g 0 ss.toArray d' n os' hH hgl (by rw [hds];simp [hsl2])
   rw [hw];have hlm:(d'.toList.map qsP).length=os.length:=by simp [hds]
   rw [hlm];refine Zl5 hg' hb hn hm (by rw [hs',hs]) (by rw [ZbG Zbu,hlm]) (fun j hj=>?_)
   have hd:j / 6<d'.size:=by omega
   have h6:=hH'.cell (i:=j / 6) (c:=j%6) hd (by omega)
   rw [show 0+j / 6*6+j%6=j by omega] at h6
   rw [h6.1];have e1:(flat encQ (d'.toList.map qsP))[j / 6*6+j%6]? = (encQ (qsP d'[j / 6]!))[j%6]? := ZbF Zbu _ _ _ _ (by rw [List.getElem?_map,Array.getElem?_toList,Array.getElem?_eq_getElem hd,getElem!_pos d' _ hd];rfl) (by omega)
   rw [show j / 6*6+j%6=j by omega] at e1
   rw [e1]
   show some (encS d'[j / 6]!)[j%6]! = (encS d'[j / 6]!)[j%6]?
   rw [List.getElem?_eq_getElem (show j%6<(encS d'[j / 6]!).length by show j%6<6;omega),getElem!_pos _ (j%6) (show j%6<(encS d'[j / 6]!).length by show j%6<6;omega)]
  ·rw [hw]
   exact Zgz
end Go.Proofs.YtnndlmodjkplnaaGreatDoor
