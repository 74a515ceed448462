/-
  OffM SortG OrdQ INodes SortQ
-/
import Derived.Test.YtgdgkgmjpnbbcaaGreatOn21
import Derived.Test.YtgdgkgmjpnbbcaaGreatOn18
import Derived.Shelf.SlSortCmp.WholeK
import Derived.Test.YtgdgkgmjpnbbcaaGreatOn1
import Derived.Test.YtgdgkgmjpnbbcaaGreatOn12
import Derived.Test.YtgdgkgmjpnbbcaaGreatOn10
import Derived.Test.YtgdgkgmjpnbbcaaGreatShelfG
import Derived.Shelf.SlSortCmp.NoneTotal
namespace Go.Proofs.YtgdgkgmjpnbbcaaGreat
open Go.RowKit
set_option linter.unusedSimpArgs false
set_option linter.unusedVariables false
set_option maxRecDepth 100000
set_option maxHeartbeats 8000000
def ordQ (a b:RtD):Int:=
 if orN [cmpN a.to b.to,cmpN a.kind b.kind]=0 then
  (if a.kind=4 then orN [cmpN a.far b.far,cmpN a.cost b.cost] else if a.kind=3 then orN [0,cmpN a.cost b.cost] else 0)
 else orN [cmpN a.to b.to,cmpN a.kind b.kind]
theorem ZmF (x y:Int):orN [x,y]=if x=0 then y else x:=by
 unfold orN orN orN
 split
 ·split
  ·rename_i h;exact h.symm
  ·rfl
 ·rfl
def farQ (a:RtD):Int:=if a.kind=4 then a.far else 0
def ZiF (a:RtD):Int:=if a.kind=4\/a.kind=3 then a.cost else 0
theorem ZhP (a b:Int):cmpN a b<0↔a<b:=by
 unfold cmpN
 split
 ·omega
 ·split <;> omega
theorem Zev (a b:Int):cmpN a b=0↔a=b:=by
 unfold cmpN
 split
 ·omega
 ·split <;> omega
theorem Zh9 (a b:RtD):ordQ a b<0↔a.to<b.to\/(a.to=b.to/\(a.kind<b.kind\/(a.kind=b.kind/\(farQ a<farQ b\/(farQ a=farQ b/\ZiF a<ZiF b))))):=by
 unfold ordQ;simp only [ZmF]
 have t1:=ZhP a.to b.to;have t2:=Zev a.to b.to;have k1:=ZhP a.kind b.kind;have k2:=Zev a.kind b.kind;have f1:=ZhP a.far b.far;have f2:=Zev a.far b.far;have c1:=ZhP a.cost b.cost;by_cases e1:cmpN a.to b.to=0
 ·have e1':=t2.1 e1
  simp only [e1,if_true]
  by_cases e2:cmpN a.kind b.kind=0
  ·have e2':=k2.1 e2
   simp only [e2,if_true]
   unfold farQ ZiF;rw [<-e2'];by_cases h4:a.kind=4
   ·simp only [h4,if_true,true_or,true_and]
    by_cases e3:cmpN a.far b.far=0
    ·have e3':=f2.1 e3
     simp only [e3,if_true]
     omega
    ·have:a.far≠b.far:=fun h=>e3 (f2.2 h)
     simp only [e3,if_false]
     omega
   ·simp only [h4,if_false,false_or]
    by_cases h3:a.kind=3
    ·simp only [h3,if_true,true_and]
     omega
    ·simp only [h3,if_false]
     omega
  ·have:a.kind≠b.kind:=fun h=>e2 (k2.2 h)
   simp only [e2,if_false]
   omega
 ·have:a.to≠b.to:=fun h=>e1 (t2.2 h)
  simp only [e1,if_false]
  omega
theorem Zo9 (a b:RtD):ordQ a b=0↔a.to=b.to/\a.kind=b.kind/\farQ a=farQ b/\ZiF a=ZiF b:=by
 unfold ordQ;simp only [ZmF]
 have t2:=Zev a.to b.to;have k2:=Zev a.kind b.kind;have f2:=Zev a.far b.far;have c1:=Zev a.cost b.cost;by_cases e1:cmpN a.to b.to=0
 ·have e1':=t2.1 e1
  simp only [e1,if_true]
  by_cases e2:cmpN a.kind b.kind=0
  ·have e2':=k2.1 e2
   simp only [e2,if_true]
   unfold farQ ZiF;rw [<-e2'];by_cases h4:a.kind=4
   ·simp only [h4,if_true,true_or,true_and]
    by_cases e3:cmpN a.far b.far=0
    ·have e3':=f2.1 e3
     simp only [e3,if_true]
     omega
    ·have e3':a.far≠b.far:=fun h=>e3 (f2.2 h)
     simp only [e3,if_false]
     exact⟨fun h=>h.elim,fun h=>e3' (by omega)⟩
   ·simp only [h4,if_false,false_or]
    by_cases h3:a.kind=3
    ·simp only [h3,if_true,true_and]
     omega
    ·simp only [h3,if_false]
     simp [e1']
  ·have e2':a.kind≠b.kind:=fun h=>e2 (k2.2 h)
   simp only [e2,if_false]
   exact⟨fun h=>h.elim,fun h=>e2' h.2.1⟩
 ·have e1':a.to≠b.to:=fun h=>e1 (t2.2 h)
  simp only [e1,if_false]
  exact⟨fun h=>h.elim,fun h=>e1' h.1⟩
abbrev QS:=RtD × Option Addr × Nat × Nat
instance:Inhabited QS:=⟨(ZbB,none,0,0)⟩
def qsP (p:QS):QP:=(p.1,.slice p.2.1 p.2.2.1 p.2.2.2)
def encS (p:QS):List Value:=encQ (qsP p)
def cfS (p q:QS):Int:=ordQ p.1 q.1
theorem swoS:Go.Sort.SWO (Go.Proofs.ltOf cfS) where
 irrefl x:=by unfold Go.Proofs.ltOf cfS;rw [decide_eq_false_iff_not,Zh9];omega
 trans x y z h1 h2:=by
  unfold Go.Proofs.ltOf cfS at *;rw [decide_eq_true_eq,Zh9] at *;omega
 ntrans x y z h1 h2:=by
  unfold Go.Proofs.ltOf cfS at *;rw [decide_eq_false_iff_not,Zh9] at *;omega
def wOf (q:RtD):WayD:=⟨q.to,if q.kind=4 then 4000000000000+q.far*1000000+q.cost else 3000000000000+q.cost,q.hops⟩
structure OffR (q:RtD):Prop where
 thing:q.thing=true
 kind:q.kind=3/\q.far=0\/q.kind=4
 cost:0<=q.cost/\q.cost<=61000
 far:0<=q.far/\q.far<=1000
 asc:q.hops.Pairwise (· < ·)
 hop6:Hop6 q.hops
 node:1<=q.to/\q.to<=9
theorem OffR.rt {q:RtD}(h:OffR q):rtOf (wOf q)=q:=by
 obtain⟨h1,h3,h4,h5,_,_,_⟩:=h;obtain⟨th,to,kind,cost,fa,hops⟩:=q;simp only at h1 h3 h4 h5
 subst h1;unfold rtOf wOf
 rcases h3 with ⟨h3,h6⟩ | h3
 ·subst h3
  subst h6;simp only [show ¬((3:Int)=4) by omega,if_false]
  rw [if_pos (by omega)]
  congr 1
  omega
 ·subst h3
  simp only [if_true]
  rw [if_neg (by omega)]
  congr 1 <;> omega
theorem OffR.lt {a b:RtD}(ha:OffR a)(hb:OffR b):ordQ a b<0↔a.to<b.to\/(a.to=b.to/\(wOf a).cost<(wOf b).cost):=by
 rw [Zh9];unfold wOf farQ ZiF;have h1:=ha.kind;have h2:=hb.kind;have h3:=ha.cost;have h4:=hb.cost;have h5:=ha.far;have h6:=hb.far
 rcases h1 with ⟨h1,g1⟩ | h1 <;> rcases h2 with ⟨h2,g2⟩ | h2 <;> simp only [h1,h2,if_true,show ¬((3:Int)=4) by omega,show ¬((4:Int)=3) by omega,if_false,or_true,true_or,true_and,false_and,or_false,and_false] <;> first | omega | (constructor <;> intro h <;> first | exact h.elim | omega)
theorem OffR.eq {a b:RtD}(ha:OffR a)(hb:OffR b):ordQ a b=0↔a.to=b.to/\(wOf a).cost=(wOf b).cost:=by
 rw [Zo9];unfold wOf farQ ZiF;have h1:=ha.kind;have h2:=hb.kind;have h3:=ha.cost;have h4:=hb.cost;have h5:=ha.far;have h6:=hb.far
 rcases h1 with ⟨h1,g1⟩ | h1 <;> rcases h2 with ⟨h2,g2⟩ | h2 <;> simp only [h1,h2,if_true,show ¬((3:Int)=4) by omega,show ¬((4:Int)=3) by omega,if_false,or_true,true_or,true_and,false_and,or_false,and_false] <;> first | omega | (constructor <;> intro h <;> first | exact h.elim | omega)
def Zfp (qs:List RtD):Prop:=qs.Pairwise (fun a b=>¬ordQ b a<0)
def ZcC (qs:List RtD)(bs:List RtD):Prop:=Zay (fun to d=>∃ q∈qs,d=wOf q/\q.to=to) (bs.map wOf)
theorem Zk0 {ds:List WayD}{d:WayD}(h:∀ x∈ds,x.to<d.to)(to:Int):ZaQ (ds++[d]) to=if to=d.to then Zel togI (ZaQ ds to) (some d) else ZaQ ds to:=by
 rw [Zcu];by_cases e:to=d.to
 ·rw [if_pos e]
  subst e;have h1:ZaQ ds d.to=none:=by
   cases e:ZaQ ds d.to with
   | none=>rfl
   | some x=>have:=ZaM e;have:=h x this.1;omega
  rw [h1];simp [ZaQ,Zel]
 ·rw [if_neg e]
  have h2:ZaQ [d] to=none:=by simp [ZaQ];omega
  rw [h2];simp
theorem Zfs {ds:List WayD}{d:WayD}(h:AscW (ds++[d])):ZaQ (ds++[d]) d.to=some d:=Zbw h (by simp)
theorem ZlO {ds:List WayD}{d e:WayD}(h:AscW (ds++[d]))(he:e.to=d.to):AscW (ds++[e]):=by
 unfold AscW at *;rw [List.pairwise_append] at *;refine⟨h.1,by simp,fun x hx y hy=>?_⟩
 have:y=e:=by simpa using hy
 subst this;rw [he];exact h.2.2 x hx d (by simp)
theorem Zk1 {ds:List WayD}{d e:WayD}(he:e.to=d.to){to:Int}(hn:to≠d.to):ZaQ (ds++[e]) to=ZaQ (ds++[d]) to:=by
 rw [Zcu,Zcu];have h1:ZaQ [d] to=none:=by simp [ZaQ];omega
 have h2:ZaQ [e] to=none:=by simp [ZaQ];omega
 rw [h1,h2]
theorem Zil {qs:List RtD}(hq:∀ q∈qs,OffR q):∀ to w,(∃ q∈qs,w=wOf q/\q.to=to)->Hop6 w.hops:=by
 rintro to w ⟨q,hq',rfl,_⟩;exact (hq q hq').hop6
theorem Zeu {qs:List RtD}{q:RtD}{ds:List WayD} (h:Zay (fun to d=>(∃ x∈qs,d=wOf x/\x.to=to)\/(d=wOf q/\(wOf q).to=to)) ds):Zay (fun to d=>∃ x∈qs++[q],d=wOf x/\x.to=to) ds:=
 h.congr (fun to d=>by
  constructor
  ·rintro (⟨x,h1,h2⟩ | ⟨h1,h2⟩)
   ·exact ⟨x,List.mem_append.2 (.inl h1),h2⟩
   ·exact ⟨q,by simp,h1,h2⟩
  ·rintro ⟨x,h1,h2⟩
   rcases List.mem_append.1 h1 with h3 | h3
   ·exact .inl ⟨x,h3,h2⟩
   ·have:x=q:=by simpa using h3
    subst this;exact .inr h2)
theorem ZcC.push {qs bs:List RtD}{q:RtD}(h:ZcC qs bs)(hq:∀ x∈qs,OffR x)(ho:OffR q)(hlt:∀ b∈bs,b.to<q.to):ZcC (qs++[q]) (bs++[q]):=by
 unfold ZcC at *;refine Zeu (h.putT Zih (Zil hq) ho.asc ho.hop6 ?_ ?_)
 ·rw [List.map_append]
  unfold AscW;rw [List.pairwise_append];refine⟨h.1,by simp,fun x hx y hy=>?_⟩
  obtain⟨b,hb,rfl⟩:=List.mem_map.1 hx;have:y=wOf q:=by simpa using hy
  subst this;exact hlt b hb
 ·intro to
  rw [List.map_append];exact Zk0 (fun x hx=>by
   obtain⟨b,hb,rfl⟩:=List.mem_map.1 hx;exact hlt b hb) to
theorem ZcC.join {qs bs:List RtD}{b q:RtD}(h:ZcC qs (bs++[b]))(hq:∀ x∈qs,OffR x)(hb:OffR b)(ho:OffR q)(he:ordQ b q=0):ZcC (qs++[q]) (bs++[{ b with hops:=Zck b.hops q.hops }]):=by
 have e:=(hb.eq ho).1 he;unfold ZcC at *;rw [List.map_append] at h |-;simp only [List.map_cons,List.map_nil] at h |-
 obtain⟨j,hj⟩:∃ j,j=wOf { b with hops:=Zck b.hops q.hops }:=⟨_,rfl⟩
 have hjt:j.to=(wOf b).to:=by rw [hj];rfl
 have hl:j=togI (wOf b) (wOf q):=by
  rw [hj];unfold togI Zbi;rw [if_neg (by simp;omega),if_neg (by simp;omega)]
  rfl
 rw [<-hj];have hA:=ZlO h.1 hjt;refine Zeu (h.putT Zih (Zil hq) ho.asc ho.hop6 hA ?_)
 intro to;by_cases e2:to=(wOf q).to
 ·rw [if_pos e2]
  have h1:to=(wOf b).to:=e2.trans e.1.symm;subst h1;rw [Zfs h.1, <-hjt,Zfs hA,hl]
  rfl
 ·rw [if_neg e2]
  exact Zk1 hjt (by rw [show (wOf b).to=(wOf q).to from e.1];exact e2)
theorem ZcC.pass {qs bs:List RtD}{b q:RtD}(h:ZcC qs (bs++[b]))(hq:∀ x∈qs,OffR x)(hb:OffR b)(ho:OffR q)(ht:b.to=q.to)(he:ordQ b q<0):ZcC (qs++[q]) (bs++[b]):=by
 have e:=(hb.lt ho).1 he;unfold ZcC at *;have hA:=h.1;refine Zeu (h.putT Zih (Zil hq) ho.asc ho.hop6 hA ?_)
 intro to;by_cases e2:to=(wOf q).to
 ·rw [if_pos e2]
  subst e2;have h1:(wOf q).to=(wOf b).to:=ht.symm;rw [List.map_append] at hA |-;simp only [List.map_cons,List.map_nil] at hA |-
  rw [h1,Zfs hA]
  show some (wOf b)=some (togI (wOf b) (wOf q))
  unfold togI Zbi;rw [if_pos (by simp;omega)]
 ·rw [if_neg e2]
theorem ZnE {W W':World}(hb:Below W.heap.size W W')(hd:W.drawn<=W'.drawn):∃ q os',W'=Go.Sort.grow (W.drewN q) os':=by
 refine⟨W'.drawn-W.drawn,W'.heap.extract W.heap.size W'.heap.size,?_⟩
 have hh:W'.heap=W.heap++W'.heap.extract W.heap.size W'.heap.size:=by
  apply Array.ext_getElem?
  intro i;by_cases hi:i<W.heap.size
  ·rw [Array.getElem?_append_left hi]
   exact hb.block i hi
  ·rw [Array.getElem?_append_right (by omega),Array.getElem?_extract]
   have:=hb.size;by_cases h2:i<W'.heap.size
   ·rw [if_pos (by omega)]
    congr 1
    omega
   ·rw [if_neg (by omega),Array.getElem?_eq_none (by omega)]
 obtain⟨h1,h2,h3,h4,h5⟩:=W';have e1:=hb.os;have e2:=hb.tape;have e3:=hb.output;simp only at e1 e2 e3 hh hd
 subst e1 e2 e3;unfold Go.Sort.grow;simp only [World.drewN]
 congr 1
 omega
theorem Zlk {W:World}{g cap n sz base:Nat}{e:TypeId}{cur:Array Value}{xs:List Value}(hg:W.heap[g]? = some (.cells cur e (0,0)))(hb:base<=g)(hn:n<=cap)(hm:cap<=maxLen)(hs:cur.size=cap*sz)(hx:xs.length=n*sz)(hc:∀ j,j<n*sz->W.cell? ⟨g,j,none⟩=xs[j]?):W.ownsRow base e sz (.slice (some ⟨g,0,none⟩) n cap) n xs:=by
 refine⟨hx,.inr ⟨g,cap,cur,rfl,hb,hg,hn,hm,hs,?_⟩⟩
 apply List.ext_getElem?
 intro j;rw [List.getElem?_take];by_cases hj:j<n*sz
 ·rw [if_pos hj,Array.getElem?_toList, <-hc j hj]
  simp [World.cell?,hg]
 ·rw [if_neg hj,List.getElem?_eq_none (by omega)]
theorem ZgS {α:Type} [Inhabited α]{enc:α->List Value}{k:Nat}{w:World}{g m:Nat}{dk:Array α}{os:Array Obj}{cur:Array Value}{e:TypeId}(hg:w.heap[g]? = some (.cells cur e (0,0))):∃ cur',(Go.Proofs.sortWorldK enc k w g 0 m dk os).heap[g]? = some (.cells cur' e (0,0))/\cur'.size=cur.size:=by
 have hl:=Zab hg;refine⟨Go.Sort.putCells id 0 (Go.Sort.flatK enc k dk) cur,?_,by simp [Go.Sort.putCells]⟩
 unfold Go.Proofs.sortWorldK Go.Sort.grow Go.Sort.putRowK;rw [Array.getElem?_append_left (by simpa [Go.Sort.putRow,Go.Sort.mapBlock,Go.Sort.ahead] using hl)]
 simp [Go.Sort.putRow,Go.Sort.mapBlock,Go.Sort.ahead,Array.getElem?_modify,hg,Go.Sort.onCells]
theorem ZgT {α:Type} [Inhabited α]{enc:α->List Value}{k:Nat}{w:World}{g m:Nat}{dk:Array α}{os:Array Obj}:w.grownBy (Go.Proofs.sortWorldK enc k w g 0 m dk os) (some g):=by
 refine⟨rfl,rfl,rfl,by unfold Go.Proofs.sortWorldK Go.Sort.grow Go.Sort.putRowK;simp [Go.Sort.putRow,Go.Sort.mapBlock,Go.Sort.ahead],fun j hj hne=>?_⟩
 have hne':g≠j:=fun e=>hne (by rw [e])
 unfold Go.Proofs.sortWorldK Go.Sort.grow Go.Sort.putRowK;rw [Array.getElem?_append_left (by simpa [Go.Sort.putRow,Go.Sort.mapBlock,Go.Sort.ahead] using hj)]
 simp [Go.Sort.putRow,Go.Sort.mapBlock,Go.Sort.ahead,Array.getElem?_modify,hne']
theorem Ze8 (w1:World)(cs:Array Value)(t:TypeId)(j:Nat)(v:Value)(h:cs[j]? = some v):(w1.alloc (.cells cs t)).cell? ⟨w1.heap.size,j,none⟩=some v:=by
 have:=Zaa (heap_alloc_new w1 (.cells cs t)) j;rw [h] at this;exact this
theorem ZkD (a b:RtD)(ua va:Option Addr)(un uc vn vc:Nat)(w:World):
  Calls Tryz.prog 101 #[.agg (rtC a (.slice ua un uc)),.agg (rtC b (.slice va vn vc))] w fun e w'=>e=.returned (.int .i64 (ordQ a b))/\Below w.heap.size w w'/\w.drawn<=w'.drawn:=by
 obtain⟨R,hR⟩:∃ R,R=ordQ a b:=⟨_,rfl⟩;rw [<-hR];unfold ordQ at hR;have HR:=hide hR;clear hR;unfold rtC
 go_enter Tryz.func101,Tryz.ntmps101
 go_wp2
 obtain⟨w1,hw1⟩:∃ w1,w1=(w.alloc (.cells #[.bool a.thing,.int .i64 a.to,.int .i64 a.kind,.int .i64 a.cost,.int .i64 a.far,.slice ua un uc] 44)).alloc (.cells #[.bool b.thing,.int .i64 b.to,.int .i64 b.kind,.int .i64 b.cost,.int .i64 b.far,.slice va vn vc] 44):=⟨_,rfl⟩;have B1:Below w.heap.size w w1:=by rw [hw1];exact Za6 _ _
 have D1:w.drawn<=w1.drawn:=by rw [hw1];exact Nat.le_refl _
 have p0:w1.heap[w.heap.size]? = some (.cells #[.bool a.thing,.int .i64 a.to,.int .i64 a.kind,.int .i64 a.cost,.int .i64 a.far,.slice ua un uc] 44):=by rw [hw1,Below.heap_alloc _ _ _ (by simp),heap_alloc_new]
 have q0:w1.heap[w.heap.size+1]? = some (.cells #[.bool b.thing,.int .i64 b.to,.int .i64 b.kind,.int .i64 b.cost,.int .i64 b.far,.slice va vn vc] 44):=by
  rw [hw1];have:=heap_alloc_new (w.alloc (.cells #[.bool a.thing,.int .i64 a.to,.int .i64 a.kind,.int .i64 a.cost,.int .i64 a.far,.slice ua un uc] 44)) (.cells #[.bool b.thing,.int .i64 b.to,.int .i64 b.kind,.int .i64 b.cost,.int .i64 b.far,.slice va vn vc] 44)
  simpa using this
 rw [<-hw1];clear hw1;have s1:=Zaa p0 1;have t1:=Zaa q0 1;have s2:=Zaa p0 2;have t2:=Zaa q0 2;have s3:=Zaa p0 3;have t3:=Zaa q0 3;have s4:=Zaa p0 4;have t4:=Zaa q0 4;have hz0:=Zab p0;have hz1:=Zab q0;simp at s1 s2 s3 s4 t1 t2 t3 t4
 have S3:=hide s3;have S4:=hide s4;have T3:=hide t3;have T4:=hide t4;clear s3 s4 t3 t4;have P0:=hide p0;have Q0:=hide q0;clear p0 q0;have hz2:=B1.size
 go_region_held3 (fun W=>W.cell? ⟨w.heap.size,1,none⟩=some (.int .i64 a.to)/\W.cell? ⟨w.heap.size,2,none⟩=some (.int .i64 a.kind)/\W.cell? ⟨w.heap.size+1,1,none⟩=some (.int .i64 b.to)/\W.cell? ⟨w.heap.size+1,2,none⟩=some (.int .i64 b.kind)) (first | go_keep | assumption) (first | (go_at_call 106;refine (Zbt _ _ _).mono ?_;rintro e w' ⟨rfl,rfl⟩) | (go_at_call 121;refine (ZmG _ (cmpN a.to b.to) (cmpN a.kind b.kind) _ ?_ ?_).mono ?_;(exact ZkB _ _ _ _ _ rfl);(exact ZkB _ _ _ _ _ rfl);rintro e w' ⟨rfl,rfl⟩))
 rename_i hheld
 clear hheld s1 s2 t1 t2 S3 S4 T3 T4;have B2:Below w.heap.size w (w1.alloc (.cells #[.int .i64 (cmpN a.to b.to),.int .i64 (cmpN a.kind b.kind)] 3)).drew:=(B1.alloc B1.size (.cells #[.int .i64 (cmpN a.to b.to),.int .i64 (cmpN a.kind b.kind)] 3)).drew;have D2:w.drawn<=(w1.alloc (.cells #[.int .i64 (cmpN a.to b.to),.int .i64 (cmpN a.kind b.kind)] 3)).drew.drawn:=Nat.le_trans D1 (Nat.le_succ _);have BL:Below w1.heap.size w1 (w1.alloc (.cells #[.int .i64 (cmpN a.to b.to),.int .i64 (cmpN a.kind b.kind)] 3)).drew:=((Below.refl w1.heap.size w1).alloc (Nat.le_refl _) (.cells #[.int .i64 (cmpN a.to b.to),.int .i64 (cmpN a.kind b.kind)] 3)).drew;have p2:=(BL.block _ hz0).trans P0.out;have q2:=(BL.block _ hz1).trans Q0.out;obtain⟨w2,hw2⟩:∃ W,W=(w1.alloc (.cells #[.int .i64 (cmpN a.to b.to),.int .i64 (cmpN a.kind b.kind)] 3)).drew:=⟨_,rfl⟩;rw [<-hw2] at B2 D2 p2 q2 |-;clear hw2 BL P0 Q0 B1 D1;have s2:=Zaa p2 2;have t2:=Zaa q2 2;have s3:=Zaa p2 3;have t3:=Zaa q2 3;have s4:=Zaa p2 4;have t4:=Zaa q2 4;simp at s2 s3 s4 t2 t3 t4
 have hy0:=Zab p2;have hy1:=Zab q2;have hw2s:=B2.size;clear p2 q2;obtain⟨O,hO⟩:∃ O,O=orN [cmpN a.to b.to,cmpN a.kind b.kind]:=⟨_,rfl⟩;rw [<-hO] at HR |-;clear hO;by_cases h0:O=0
 ·have hd:(O != 0)=false:=by simpa using h0
  have hR:=HR.out;rw [if_pos h0] at hR;have HO:=hide h0;clear HR h0;by_cases h4:a.kind=4
  ·rw [if_pos h4] at hR
   have HRR:=hide hR;have hd4:(a.kind==4)=true:=by simpa using h4
   clear hR h4
   go_wp2_with fail
   refine (Zbt _ _ _).mono ?_
   rintro e w3 ⟨rfl,rfl⟩
   go_wp2_with fail
   refine (Zbt _ _ _).mono ?_
   rintro e w3 ⟨rfl,rfl⟩
   go_wp2_with fail
   refine (ZmG _ (cmpN a.far b.far) (cmpN a.cost b.cost) _ ?_ ?_).mono ?_
   ·exact Ze8 _ _ _ _ _ rfl
   ·exact Ze8 _ _ _ _ _ rfl
   rintro e w3 ⟨rfl,rfl⟩
   go_wp2
   go_ret
   exact⟨by rw [HRR.out];rfl,B2.alloc hw2s _,D2⟩
  ·rw [if_neg h4] at hR
   have hd4:(a.kind==4)=false:=by simpa using h4
   clear h4;by_cases h3:a.kind=3
   ·rw [if_pos h3] at hR
    have HRR:=hide hR;have hd3:(a.kind==3)=true:=by simpa using h3
    clear hR h3
    go_wp2_with fail
    refine (Zbt _ _ _).mono ?_
    rintro e w3 ⟨rfl,rfl⟩
    go_wp2_with fail
    refine (ZmG _ O (cmpN a.cost b.cost) _ ?_ ?_).mono ?_
    ·exact Ze8 _ _ _ _ _ rfl
    ·exact Ze8 _ _ _ _ _ rfl
    rintro e w3 ⟨rfl,rfl⟩
    go_wp2
    go_ret
    exact⟨by rw [HRR.out,HO.out];rfl,B2.alloc hw2s _,D2⟩
   ·rw [if_neg h3] at hR
    have HRR:=hide hR;have hd3:(a.kind==3)=false:=by simpa using h3
    clear hR h3
    go_wp2
    go_ret
    exact⟨by rw [HRR.out,HO.out];rfl,B2,D2⟩
 ·have hd:(O != 0)=true:=by simpa using h0
  have HRR:=hide (HR.out.trans (if_neg h0));clear HR h0
  go_wp2
  go_ret
  exact⟨by rw [HRR.out];rfl,B2,D2⟩
theorem Zns (blk off size:Nat)(w:World):CmpLays Tryz.prog 101 #[] encS 6 cfS blk off size w:=
 fun _ _ _ _ x y=>(ZkD x.1 y.1 x.2.1 y.2.1 x.2.2.1 x.2.2.2 y.2.2.1 y.2.2.2 _).mono fun _ _ ⟨h1,h2,h3⟩=>⟨h1,ZnE h2 h3⟩
theorem Zcp (x:RtD)(a:Option Addr)(n c:Nat):∀ u∈encQ (x,.slice a n c),u.oneCell'=true:=by
 intro u hu;simp only [encQ,List.mem_cons,List.not_mem_nil,or_false] at hu
 rcases hu with rfl | rfl | rfl | rfl | rfl | rfl <;> rfl
def ZbS (kind:Int)(p:WP):QP:=(⟨false,p.1.to,kind,p.1.cost,0,p.1.hops⟩,p.2)
def ZaK (kind src:Int)(ws:List WP):List QP:=(ws.filter (fun p=>p.1.to != src)).map (ZbS kind)
theorem Zee (kind src:Int)(ws:List WP):ZaU (ZaK kind src ws)=ZdI kind src (Zag ws):=by
 unfold ZaU ZaK ZdI Zag;rw [List.filter_map,List.map_map,List.map_map]
 rfl
theorem Zef (kind src:Int)(ws:List WP):(ZaK kind src ws).length<=ws.length:=by
 unfold ZaK;rw [List.length_map];exact List.length_filter_le _ _
theorem ZfA {kind src:Int}{ws:List WP}{k:Nat}{p:WP}(h:ws[k]? = some p)(hn:p.1.to≠src):ZaK kind src (ws.take (k+1))=ZaK kind src (ws.take k)++[ZbS kind p]:=by
 obtain⟨hk,e⟩:=List.getElem?_eq_some_iff.1 h;unfold ZaK;rw [List.take_succ_eq_append_getElem hk,e,List.filter_append,List.map_append];simp [hn]
theorem ZgD {kind src:Int}{ws:List WP}{k:Nat}{p:WP}(h:ws[k]? = some p)(hn:p.1.to=src):ZaK kind src (ws.take (k+1))=ZaK kind src (ws.take k):=by
 obtain⟨hk,e⟩:=List.getElem?_eq_some_iff.1 h;unfold ZaK;rw [List.take_succ_eq_append_getElem hk,e,List.filter_append,List.map_append];simp [hn]
theorem Zb5 {W:World}{lo hi:Nat}{v:Value}{ws:List WP}(h:WaysOwn W lo hi v ws)(kind src:Int):∀ q∈ZaK kind src ws,Zbl W lo hi q:=by
 intro q hq;unfold ZaK at hq;obtain⟨p,hp,rfl⟩:=List.mem_map.1 hq;exact h.nears p (List.mem_filter.1 hp).1
theorem Zc5 {W:World}{lo hi:Nat}{v:Value}{ws:List WP}(h:WaysOwn W lo hi v ws)(kind src:Int):(ZaK kind src ws).Pairwise Zdg:=by
 unfold ZaK;rw [List.pairwise_map];exact (h.apart.sublist (List.filter_sublist)).imp (fun h=>h)
theorem Zhj (v:Value)(ws:List WP)(lo hi:Nat)(kind src:Int)(w:World)(hv:WaysOwn w lo hi v ws)(hhi:hi<=w.heap.size)(hn:ws.length<=1000):
  Calls Tryz.prog 32 #[.int .i64 kind,v,.int .i64 src] w fun e w'=>∃ x,e=.returned x/\w'.ownsRow w.heap.size 44 6 x (ZaK kind src ws).length (flat encQ (ZaK kind src ws))/\Below w.heap.size w w':=by
 obtain⟨a1,c1,rfl⟩:=Zac hv.row;have HV:=hide hv;clear hv
 go_enter Tryz.func32,Tryz.ntmps32
 go_wp2
 go_loopw [12,7] (fun i o wr=>∃ (k:Nat) (x:Value) (qs:List QP),k<=ws.length/\i=.int .i64 (k:Int)/\o=x/\Hid (qs=ZaK kind src (ws.take k))/\qs.length<=k/\wr.ownsRow w.heap.size 44 6 x qs.length (flat encQ qs)/\Below w.heap.size w wr) (fun i _ _=>ws.length-(intOf i).toNat)
 case atStart=>exact ⟨0,_,[],by omega,rfl,rfl,hide (by simp [ZaK]),by simp,World.ownsRow_nil _ _ _ _,Below.refl _ _⟩
 case round=>
  obtain⟨k,x,qs,hk,rfl,rfl,HQ,hql,hown,hnx⟩:=hrel;obtain⟨xa,xc,rfl⟩:=Zac hown;have hsz:=hnx.size;by_cases hlt:k<ws.length
  ·obtain ⟨p,hp⟩:∃ p,ws[k]? = some p:=⟨ws[k],List.getElem?_eq_getElem hlt⟩
   obtain⟨bb,off,cp,hve,hbb,c0,c1,c2,_⟩:=HV.out.at.cells k p hp;cases hve
   have hbw:bb<w.heap.size:=by omega
   obtain⟨pa,pc,hpn⟩:=Zac (HV.out.nears p (List.mem_of_getElem? hp)).1;rw [hpn] at c2;rw [<-hnx.cell (p:=⟨bb,off+k*3,none⟩) hbw] at c0;rw [<-hnx.cell (p:=⟨bb,off+k*3+1,none⟩) hbw] at c1;rw [<-hnx.cell (p:=⟨bb,off+k*3+2,none⟩) hbw] at c2;have hki:(0:Int)<=(k:Int):=by omega
   have hkj:(k:Int)<(ws.length:Int):=by omega
   have HP:=hide hp;have HPN:=hide hpn;have BA:Below wr.heap.size wr (wr.alloc (.cells #[.int .i64 p.1.to,.int .i64 p.1.cost,.slice pa p.1.hops.length pc] 48)):=(Below.refl _ _).alloc (Nat.le_refl _) _;by_cases ht:p.1.to=src
   ·have hd:(p.1.to != src)=false:=by simpa using ht
    have HN:=hide (show qs=ZaK kind src (ws.take (k+1)) from HQ.out.trans (ZgD HP.out ht).symm)
    have N1:=hide (Zaf hown BA (Nat.le_refl _));have N2:=hide (hnx.trans (BA.mono hsz));clear hp hpn hown hnx BA ht HQ HP HPN
    go_wp2
    go_roundw
    case rel=>exact ⟨k+1,_,qs,by omega,by go_num,rfl,HN,by omega,N1.out,N2.out⟩
    case measure=>simp [intOf];omega
   ·have hd:(p.1.to != src)=true:=by simpa using ht
    have HN:=hide (show qs++[ZbS kind (p.1,.slice pa p.1.hops.length pc)]=ZaK kind src (ws.take (k+1)) from by
     rw [ZfA HP.out ht,HQ.out, <-HPN.out])
    have hs1:(wr.alloc (.cells #[.int .i64 p.1.to,.int .i64 p.1.cost,.slice pa p.1.hops.length pc] 48)).heap.size=wr.heap.size+1:=by simp
    have HS1:=hide hs1;have B2:=hide (hnx.trans ((BA.trans (((Below.refl (wr.alloc (.cells #[.int .i64 p.1.to,.int .i64 p.1.cost,.slice pa p.1.hops.length pc] 48)).heap.size (wr.alloc (.cells #[.int .i64 p.1.to,.int .i64 p.1.cost,.slice pa p.1.hops.length pc] 48))).alloc (Nat.le_refl _) (.cells (encQ (ZbS kind (p.1,.slice pa p.1.hops.length pc))).toArray 44)).mono BA.size)).mono hsz));have OW:=hide ((hown.alloc (.cells #[.int .i64 p.1.to,.int .i64 p.1.cost,.slice pa p.1.hops.length pc] 48)).alloc (.cells (encQ (ZbS kind (p.1,.slice pa p.1.hops.length pc))).toArray 44));have HOB:=hide (fun j (hj:(Value.slice xa qs.length xc).ownBlock=some j)=>(hown.lt j hj).1)
    clear hp hpn hown hnx BA ht HQ HP HPN hs1
    go_wp2_with (first
     | (at_builtin;refine ZaL ZbR (by omega) (by omega) _ rfl _ _ 39 rfl w.heap.size 44 Tryz.underlying39 (.agg (rtC ZbB (.slice none 0 0))) rfl Tryz.infoRoute _ qs (ZbS kind (p.1,.slice pa p.1.hops.length pc)) (Zcp _ _ _ _) rfl OW.out ⟨wr.heap.size+1,0,none⟩ 1 rfl (fun j u hj=>by
       have h:=Zap (w:=(wr.alloc (.cells #[.int .i64 p.1.to,.int .i64 p.1.cost,.slice pa p.1.hops.length pc] 48))) (cs:=encQ (ZbS kind (p.1,.slice pa p.1.hops.length pc))) (t:=44) j u hj;rw [HS1.out] at h;exact h) (by omega) (by simp;omega) ?_))
    intro v' w6 hown' hgrow hat;have N1:=hide (show w6.ownsRow w.heap.size 44 6 v' (qs++[ZbS kind (p.1,.slice pa p.1.hops.length pc)]).length (flat encQ (qs++[ZbS kind (p.1,.slice pa p.1.hops.length pc)])) by simpa using hown')
    have N2:=hide (B2.out.grown hgrow (by have:=B2.out.size;omega) HOB.out)
    obtain⟨va,vc,rfl⟩:=Zac hown';clear hown' hgrow hat OW HOB B2 HS1
    go_wp2
    go_roundw
    case rel=>exact ⟨k+1,_,qs++[ZbS kind (p.1,.slice pa p.1.hops.length pc)],by omega,by go_num,rfl,HN,by simp;omega,N1.out,N2.out⟩
    case measure=>simp [intOf];omega
  ·have hkn:¬(k:Int)<(ws.length:Int):=by omega
   have HE:=hide (show qs=ZaK kind src ws from by rw [HQ.out,List.take_of_length_le (by omega)])
   have HO:=hide hown;have HN:=hide hnx;clear hown hnx HQ
   go_wp2
   go_ret
   rw [<-HE.out];exact⟨_,rfl,HO.out,HN.out⟩
theorem as_qs:∀ {os:List QP},(∀ q∈os,∃ a n c,q.2=.slice a n c)->∃ ss:List QS,ss.map qsP=os
 | [],_=>⟨[],rfl⟩
 | q::os,h=>by
  obtain⟨ss,hs⟩:=as_qs (os:=os) (fun x hx=>h x (by simp [hx]))
  obtain⟨a,n,c,e⟩:=h q (by simp)
  refine⟨(q.1,a,n,c)::ss,?_⟩
  rw [List.map_cons,hs]
  congr 1
  unfold qsP;rw [<-e]
theorem Tryz.aggRoute:∀ w,(isAgg 44).run Tryz.prog w=.ok true w:=fun w=>by kernel_rfl
theorem Tryz.sizeRoute:∀ w,(Go.sizeOf 44).run Tryz.prog w=.ok 6 w:=fun w=>by kernel_rfl
theorem Zm0 (v:Value)(os:List QP)(base:Nat)(w:World)(h:w.ownsRow base 44 6 v os.length (flat encQ os))(hsl:∀ q∈os,∃ a n c,q.2=.slice a n c)(hlen:os.length<=1000000):
  Calls Tryz.prog 100 #[v,.func (.func 101) #[] #[]] w fun e w'=>e=.returned (.tuple #[])/\∃ qs:List QP,qs.Perm os/\Zfp (ZaU qs)/\w'.ownsRow base 44 6 v qs.length (flat encQ qs)/\w.grownBy w' v.ownBlock:=by
 obtain⟨ss,hss⟩:=as_qs hsl
 rcases h.2 with ⟨e0,hn0⟩ | ⟨g,cap,cur,e0,hb,hg,hn,hm,hs,ht⟩
 ·subst e0
  have hos:os=[]:=List.length_eq_zero_iff.1 hn0;subst hos;have hc:=Go.Proofs.AnyF.slices_SortFunc_none Tryz.sortQ none 0 (.func (.func 101) #[] #[]) w
  change Calls Tryz.prog 100 _ _ _ at hc
  refine hc.mono fun e w' ⟨h1,h2⟩=>⟨h1,[],List.Perm.refl _,by simp [Zfp,ZaU],?_,?_⟩
  ·exact World.ownsRow_nil _ _ _ _
  ·rw [h2]
   exact⟨rfl,rfl,rfl,Nat.le_refl _,fun _ _ _=>rfl⟩
 ·subst e0
  have hsl2:ss.length=os.length:=by rw [<-hss,List.length_map]
  have hflat:flat encQ os=flat encS ss:=by
   rw [<-hss];unfold flat encS;rw [List.flatMap_map]
  have hcell:∀ i c,i<ss.length->c<6->(flat encS ss)[i*6+c]? = (encS ss[i]!)[c]? := fun i c hi hc=>by
   exact ZdB (sz:=6) (fun _=>rfl) ss i c ss[i]! (by rw [getElem!_pos _ i hi];exact List.getElem?_eq_getElem hi) hc
  have hgl:=Zab hg;have hH:Go.Sort.HoldsK encS 6 w g 0 ss.toArray:=by
   intro j hj;rw [Go.Sort.size_flatK] at hj;simp only [List.size_toArray] at hj
   refine⟨?_,by simp [World.frozen?,hg]⟩
   rw [Go.Sort.get_flatK _ _ _ j (by simpa using hj)]
   have hd:j / 6<ss.length:=by omega
   have e1:(flat encQ os)[j]? = (encS ss[j / 6]!)[j%6]? := by
    rw [hflat, <-hcell (j / 6) (j%6) hd (by omega)]
    congr 1
    omega
   have e2:cur[j]? = (flat encQ os)[j]? := by
    rw [<-ht,List.getElem?_take,if_pos (by omega),Array.getElem?_toList]
   simp only [World.cell?,hg,Nat.zero_add]
   simp only [Option.isSome_none,Bool.false_eq_true,if_false]
   rw [e2,e1];have e3:(ss.toArray[j / 6]! : QS)=ss[j / 6]! := by simp
   rw [e3,List.getElem?_eq_getElem (show j%6<(encS ss[j / 6]!).length by show j%6<6;omega),getElem!_pos _ (j%6) (show j%6<(encS ss[j / 6]!).length by show j%6<6;omega)]
   rfl
  have hc:=Go.Proofs.AnyQ.slices_SortFunc Tryz.sortQ 6 Tryz.aggRoute Tryz.sizeRoute encS (fun _=>rfl) (fun x u hu=>Zcp _ _ _ _ u hu) cfS swoS 101 #[] g 0 cap ss.toArray w (enters_of Tryz.func101 (by kernel_rfl) rfl) (Zns g 0 ss.toArray.size w) hH hgl (by simp;omega)
  change Calls Tryz.prog 100 _ _ _ at hc
  rw [show ss.toArray.size=os.length by simp [hsl2]] at hc
  refine hc.mono fun e w' ⟨h1,d',n,os',hp,hso,hw⟩=>⟨h1,d'.toList.map qsP,?_,?_,?_,?_⟩
  ·have hpp:=hp.2.2
   have hds:d'.size=os.length:=by rw [hp.1];simp [hsl2]
   rw [Array.extract_eq_self_of_le (by omega),Array.extract_eq_self_of_le (by simp [hsl2])] at hpp
   have:=hpp.map qsP;rw [hss] at this;exact this
  ·have hds:d'.size=os.length:=by rw [hp.1];simp [hsl2]
   unfold Zfp ZaU;rw [List.map_map,List.pairwise_map,List.pairwise_iff_getElem];intro i j hi hj hij;simp only [Array.length_toList] at hi hj
   have h3:=hso i j (by omega) hij (by omega)
   rw [getElem!_pos d' i hi,getElem!_pos d' j hj] at h3;unfold Go.Proofs.ltOf cfS at h3;have h4:¬ordQ d'[j].1 d'[i].1<0:=by simpa using h3
   exact h4
  ·have hds:d'.size=os.length:=by rw [hp.1];simp [hsl2]
   obtain⟨cur',hg',hs'⟩:=ZgS (enc:=encS) (k:=6) (m:=n) (dk:=d') (os:=os') hg;have hH':=Go.Proofs.holdsK_sortWorldK_c encS 6 w g 0 ss.toArray d' n os' hH hgl (by rw [hds];simp [hsl2])
   rw [hw];have hlm:(d'.toList.map qsP).length=os.length:=by simp [hds]
   rw [hlm];refine Zlk hg' hb hn hm (by rw [hs',hs]) (by rw [ZaX ZbR,hlm]) (fun j hj=>?_)
   have hd:j / 6<d'.size:=by omega
   have h6:=hH'.cell (i:=j / 6) (c:=j%6) hd (by omega)
   rw [show 0+j / 6*6+j%6=j by omega] at h6
   rw [h6.1];have e1:(flat encQ (d'.toList.map qsP))[j / 6*6+j%6]? = (encQ (qsP d'[j / 6]!))[j%6]? := ZdB ZbR _ _ _ _ (by rw [List.getElem?_map,Array.getElem?_toList,Array.getElem?_eq_getElem hd,getElem!_pos d' _ hd];rfl) (by omega)
   rw [show j / 6*6+j%6=j by omega] at e1
   rw [e1]
   show some (encS d'[j / 6]!)[j%6]! = (encS d'[j / 6]!)[j%6]?
   rw [List.getElem?_eq_getElem (show j%6<(encS d'[j / 6]!).length by show j%6<6;omega),getElem!_pos _ (j%6) (show j%6<(encS d'[j / 6]!).length by show j%6<6;omega)]
  ·rw [hw]
   exact ZgT
end Go.Proofs.YtgdgkgmjpnbbcaaGreat
