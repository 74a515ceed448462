/-
  Parts.
-/
import Derived.Test.YtdhnddfnckgbjaaGreatZi4
namespace Go.Proofs.YtdhnddfnckgbjaaGreat
open Go.RowKit
set_option linter.unusedSimpArgs false
set_option linter.unusedVariables false
set_option maxRecDepth 100000
set_option maxHeartbeats 8000000
variable {l:List Int}{B hi hi' lo lo':Nat}{v:Value}{W W':World}
def atZ (xs:List RecD)(r:RecD):Int:=match xs.findIdx? (fun x=>Zbc x r) with
 | some i=>(i:Int)
 | none => -1
theorem Zli {xs:List RecD}{r x:RecD}{k:Nat}(hk:xs[k]? = some x)(hs:Zbc x r=true)(hall:∀ j,j<k->∀ y,xs[j]? = some y->Zbc y r=false):atZ xs r=(k:Int):=by
 obtain⟨h1,e1⟩:=YAD.1 hk;have:xs.findIdx? (fun x=>Zbc x r)=some k:=by
  rw [List.findIdx?_eq_some_iff_getElem];refine⟨h1,by rw [e1];exact hs,fun j hj=>?_⟩;have:=hall j hj xs[j] (YAA (by omega));simp [this]
 unfold atZ;rw [this]
theorem ZmM {xs:List RecD}{r:RecD}(hall:∀ j,j<xs.length->∀ y,xs[j]? = some y->Zbc y r=false):atZ xs r = -1:=by
 have:xs.findIdx? (fun x=>Zbc x r)=none:=by
  rw [List.findIdx?_eq_none_iff];intro x hx;obtain⟨i,hi,e⟩:=List.getElem_of_mem hx;exact hall i hi x (by rw [<-e];exact YAA hi)
 unfold atZ;rw [this]
theorem ZfD (xs:List RecD)(r:RecD):atZ xs r = -1\/∃ (k:Nat) (x:RecD),atZ xs r=(k:Int)/\xs[k]? = some x/\Zbc x r=true:=by
 unfold atZ;cases h:xs.findIdx? (fun x=>Zbc x r) with
 | none=>exact .inl rfl
 | some i=>
  obtain⟨h1,h2,_⟩:=List.findIdx?_eq_some_iff_getElem.1 h;exact .inr ⟨i,xs[i],rfl,YAA h1,h2⟩
theorem Zhu (x:WayD)(a:Option Addr)(n c:Nat):∀ u∈encW (x,.slice a n c),u.oneCell'=true:=by
 intro u hu;simp only [encW,YAR,List.not_mem_nil,or_false] at hu;rcases hu with rfl | rfl | rfl <;> rfl
theorem Zky {lo2 n size2:Nat}{xs:List Value}{q:WP}(hq:Zch W lo hi q)(hr:W.ownsRow lo2 144 size2 v n xs)(j:Nat)(hj:q.2.ownBlock=some j):some j≠v.ownBlock:=by
 intro e;rcases hr.2 with ⟨h0,_⟩ | ⟨g,cap,cur,hv,_,hh,_⟩
 ·rw [h0] at e;simp [Value.ownBlock] at e
 ·rw [hv] at e;simp [Value.ownBlock] at e;subst e;exact Zas hq.1 hh (by decide) hj.symm
theorem WaysOwn.push {Wa W2:World}{v':Value}{qs:List WP}{p:WP}(h:WaysOwn W lo W.heap.size v qs)(hb:Below W.heap.size W Wa)(hlo:lo<=W.heap.size)(hp:Zch Wa W.heap.size Wa.heap.size p)
  (row:W2.ownsRow lo 144 3 v' (qs.length+1) (flat encW (qs++[p]))) (hg:Wa.grownBy W2 v.ownBlock):WaysOwn W2 lo W2.heap.size v' (qs++[p]) where
 row:=by simpa using row
 top:=fun k hk=>(row.lt k hk).2
 apart:=Zki h.apart h.nears (fun k hk=>(hp.1.lt k hk).1)
 nears:=by
  have rowa:=Zad h.row hb (YA _);have key:∀ q,Zch Wa lo Wa.heap.size q->Zch W2 lo W2.heap.size q:=fun q hq=>
   ⟨Zai hq.1 (fun j hj=>hg.block j (hq.2 j hj) (Zky hq rowa j hj)),fun k hk=>YAC (hq.2 k hk) hg.size⟩
  intro q hq;rcases YAH.1 hq with h1 | h1
  ·exact key q (((h.nears q h1).keep (W':=Wa) (fun j _ h2 _=>hb.block j h2)).wide (YA _) hb.size)
  ·have:q=p:=by simpa using h1
   subst this;exact key q (hp.wide hlo (YA _))
structure IntsOwn (W:World) (lo hi:Nat) (v:Value) (l:List Int):Prop where
 row:W.ownsRow lo 3 1 v l.length (flat intE l)
 top:∀ k,v.ownBlock=some k->k<hi
theorem IntsOwn.keep (h:IntsOwn W lo hi v l)(hk:∀ k,lo<=k->k<hi->k<W.heap.size->W'.heap[k]? = W.heap[k]?):IntsOwn W' lo hi v l:=
 ⟨Zai h.row (fun k e=>hk k (h.row.lt k e).1 (h.top k e) (h.row.lt k e).2),h.top⟩
theorem IntsOwn.below (h:IntsOwn W lo hi v l)(hb:Below B W W')(hB:hi<=B):IntsOwn W' lo hi v l:=h.keep (fun k _ h2 _=>hb.block k (by omega))
theorem IntsOwn.frame {l2 h2:Nat}(h:IntsOwn W lo hi v l)(hb:Frame l2 h2 W W')(hB:hi<=l2\/h2<=lo):IntsOwn W' lo hi v l:=h.keep (fun k h1 h2 h3=>hb.block k h3 (by omega))
theorem IntsOwn.wide (h:IntsOwn W lo hi v l)(hl:lo'<=lo)(hh:hi<=hi'):IntsOwn W lo' hi' v l:=⟨Zaf h.row hl,fun k e=>YAC (h.top k e) hh⟩
theorem IntsOwn.at (h:IntsOwn W lo hi v l):Zal W v l hi:=by
 obtain⟨a,cap,hv,h2⟩:=Zan h.row;refine⟨a,cap,hv,?_⟩;rcases h2 with h0 | ⟨b,off,ha,hb1,hx⟩
 ·exact .inl h0
 ·exact .inr ⟨b,off,ha,h.top b (by rw [hv,ha];rfl),hx⟩
theorem IntsOwn.of (h:W.ownsRow lo 3 1 v l.length (flat intE l)):IntsOwn W lo W.heap.size v l:=⟨h,fun k e=>(h.lt k e).2⟩

abbrev QP:=RtD × Value
def encQ (p:QP):List Value:=[.bool p.1.thing,.int .i64 p.1.to,.int .i64 p.1.kind,.int .i64 p.1.cost,.int .i64 p.1.far,p.2]
def ZbM:RtD:=⟨false,0,0,0,0,[]⟩
theorem ZdL (p:QP):(encQ p).length=6:=rfl
def ZdX (W:World)(v:Value)(ps:List QP)(B:Nat):Prop:=Zaw encQ 6 W v ps B/\∀ p∈ps,Zal W p.2 p.1.hops B
theorem ZdX.shape {ps:List QP}(h:ZdX W v ps B):∃ a cap,v=.slice a ps.length cap:=by
 obtain⟨⟨a,cap,h,_⟩,_⟩:=h;exact⟨a,cap,h⟩
theorem ZdX.later {ps:List QP}{C:Nat}(h:ZdX W v ps B)(hb:Below C W W')(hBC:B<=C):ZdX W' v ps B:=
 ⟨Zau.later h.1 hb hBC,fun p hp=>Zau.later (h.2 p hp) hb hBC⟩
theorem ZdX.more {ps:List QP}{C:Nat}(h:ZdX W v ps B)(hBC:B<=C):ZdX W v ps C:=
 ⟨Zau.more h.1 hBC,fun p hp=>Zau.more (h.2 p hp) hBC⟩
theorem ZdX.then {ps:List QP}(h:ZdX W v ps W.heap.size)(hb:Below W.heap.size W W'):ZdX W' v ps W'.heap.size:=(h.later hb (YA _)).more hb.size
def Za0 (W:World)(lo hi:Nat)(p:QP):Prop:=W.ownsRow lo 3 1 p.2 p.1.hops.length (flat intE p.1.hops)/\∀ k,p.2.ownBlock=some k->k<hi
def Zdn (p q:QP):Prop:=∀ k,p.2.ownBlock=some k->q.2.ownBlock≠some k
structure RtsOwn (W:World) (lo hi:Nat) (v:Value) (ps:List QP):Prop where
 row:W.ownsRow lo 57 6 v ps.length (flat encQ ps)
 top:∀ k,v.ownBlock=some k->k<hi
 nears:∀ p∈ps,Za0 W lo hi p
 apart:ps.Pairwise Zdn
theorem Za0.keep {p:QP}(h:Za0 W lo hi p)(hk:∀ k,lo<=k->k<hi->k<W.heap.size->W'.heap[k]? = W.heap[k]?):Za0 W' lo hi p:=
 ⟨Zai h.1 (fun k e=>hk k (h.1.lt k e).1 (h.2 k e) (h.1.lt k e).2),h.2⟩
theorem Za0.wide {p:QP}(h:Za0 W lo hi p)(hl:lo'<=lo)(hh:hi<=hi'):Za0 W lo' hi' p:=
 ⟨Zaf h.1 hl,fun k e=>YAC (h.2 k e) hh⟩
theorem Za0.at {p:QP}(h:Za0 W lo hi p):Zal W p.2 p.1.hops hi:=by
 have h1:=Zan h.1;obtain⟨a,cap,hv,h2⟩:=h1;refine⟨a,cap,hv,?_⟩;rcases h2 with h0 | ⟨b,off,ha,hb1,hx⟩
 ·exact .inl h0
 ·exact .inr ⟨b,off,ha,h.2 b (by rw [hv,ha];rfl),hx⟩
theorem RtsOwn.keep {ps:List QP}(h:RtsOwn W lo hi v ps)(hk:∀ k,lo<=k->k<hi->k<W.heap.size->W'.heap[k]? = W.heap[k]?):RtsOwn W' lo hi v ps where
 row:=Zai h.row (fun k e=>hk k (h.row.lt k e).1 (h.top k e) (h.row.lt k e).2)
 top:=h.top
 nears:=fun p hp=>(h.nears p hp).keep hk
 apart:=h.apart
theorem RtsOwn.below {ps:List QP}(h:RtsOwn W lo hi v ps)(hb:Below B W W')(hB:hi<=B):RtsOwn W' lo hi v ps:=h.keep (fun k _ h2 _=>hb.block k (by omega))
theorem RtsOwn.wide {ps:List QP}(h:RtsOwn W lo hi v ps)(hl:lo'<=lo)(hh:hi<=hi'):RtsOwn W lo' hi' v ps where
 row:=Zaf h.row hl
 top:=fun k e=>YAC (h.top k e) hh
 nears:=fun p hp=>(h.nears p hp).wide hl hh
 apart:=h.apart
theorem RtsOwn.at {ps:List QP}(h:RtsOwn W lo hi v ps):ZdX W v ps hi:=by
 refine⟨?_,fun p hp=>(h.nears p hp).at⟩;have h1:=Zan h.row;obtain⟨a,cap,hv,h2⟩:=h1;refine⟨a,cap,hv,?_⟩;rcases h2 with h0 | ⟨b,off,ha,hb1,hx⟩
 ·exact .inl h0
 ·exact .inr ⟨b,off,ha,h.top b (by rw [hv,ha];rfl),hx⟩
theorem RtsOwn.frame {l2 h2:Nat}{ps:List QP}(h:RtsOwn W lo hi v ps)(hb:Frame l2 h2 W W')(hB:hi<=l2\/h2<=lo):RtsOwn W' lo hi v ps:=h.keep (fun k h1 h2 h3=>hb.block k h3 (by omega))
def totQ (ps:List QP):Nat:=(ps.map (fun p=>1+p.1.hops.length)).sum
theorem Zgn (p:QP)(ps:List QP):totQ (p::ps)=1+p.1.hops.length+totQ ps:=by simp [totQ]
theorem ZhM (ps:List QP):ps.length<=totQ ps:=by
 induction ps with
 | nil=>simp [totQ]
 | cons p ps ih=>rw [Zgn,YAd];omega
theorem Zkb {ps:List QP}{p:QP}(h:p∈ps):p.1.hops.length<=totQ ps:=by
 induction ps with
 | nil=>simp at h
 | cons q ps ih=>
  rw [Zgn];rcases YAR.1 h with rfl | h1
  ·omega
  ·have:=ih h1;omega
theorem ZdX.cells {ps:List QP}(h:ZdX W v ps B)(i:Nat)(p:QP)(hp:ps[i]? = some p):
  ∃ b off cap,v=.slice (some ⟨b,off,none⟩) ps.length cap/\b<B/\W.cell? ⟨b,off+i*6,none⟩=some (.bool p.1.thing)/\W.cell? ⟨b,off+i*6+1,none⟩=some (.int .i64 p.1.to)/\W.cell? ⟨b,off+i*6+2,none⟩=some (.int .i64 p.1.kind)/\W.cell? ⟨b,off+i*6+3,none⟩=some (.int .i64 p.1.cost)/\W.cell? ⟨b,off+i*6+4,none⟩=some (.int .i64 p.1.far)/\W.cell? ⟨b,off+i*6+5,none⟩=some p.2/\Zal W p.2 p.1.hops B:=by
 obtain⟨b,off,cap,hv,hb,hc⟩:=Zaw.cell h.1 ZdL i p hp;exact⟨b,off,cap,hv,hb,hc 0 _ rfl,hc 1 _ rfl,hc 2 _ rfl,hc 3 _ rfl,hc 4 _ rfl,hc 5 _ rfl,h.2 p (YAF hp)⟩
def Zcg (xs:List LnD):Nat:=(xs.map (fun x=>1+x.hops.length)).sum
theorem ZiI (ps:List JP):totJ ps=Zcg (Zag ps):=by simp [totJ,Zcg,Zag,YAa,Function.comp_def]
theorem Zg9 (x:LnD)(xs:List LnD):Zcg (x::xs)=1+x.hops.length+Zcg xs:=by simp [Zcg]
theorem ZiH (a b:List LnD):Zcg (a++b)=Zcg a+Zcg b:=by simp [Zcg]
theorem Zfs (x:LnD)(a:Option Addr)(n c:Nat):∀ u∈encJ (x,.slice a n c),u.oneCell'=true:=by
 intro u hu;simp only [encJ,YAR,List.not_mem_nil,or_false] at hu;rcases hu with rfl | rfl | rfl <;> rfl
theorem ZfT {lo2 n size2:Nat}{xs:List Value}{q:JP}(hq:ZaW W lo hi q)(hr:W.ownsRow lo2 39 size2 v n xs)(j:Nat)(hj:q.2.ownBlock=some j):some j≠v.ownBlock:=by
 intro e;rcases hr.2 with ⟨h0,_⟩ | ⟨g,cap,cur,hv,_,hh,_⟩
 ·rw [h0] at e;simp [Value.ownBlock] at e
 ·rw [hv] at e;simp [Value.ownBlock] at e;subst e;exact Zas hq.1 hh (by decide) hj.symm
theorem LnsOwn.push {Wa W2:World}{v':Value}{qs:List JP}{p:JP}(h:LnsOwn W lo W.heap.size v qs)(hb:Below W.heap.size W Wa)(hlo:lo<=W.heap.size)(hp:ZaW Wa W.heap.size Wa.heap.size p)
  (row:W2.ownsRow lo 39 3 v' (qs.length+1) (flat encJ (qs++[p]))) (hg:Wa.grownBy W2 v.ownBlock):LnsOwn W2 lo W2.heap.size v' (qs++[p]) where
 row:=by simpa using row
 top:=fun k hk=>(row.lt k hk).2
 apart:=Zkh h.apart h.nears (fun k hk=>(hp.1.lt k hk).1)
 nears:=by
  have rowa:=Zad h.row hb (YA _);have key:∀ q,ZaW Wa lo Wa.heap.size q->ZaW W2 lo W2.heap.size q:=fun q hq=>
   ⟨Zai hq.1 (fun j hj=>hg.block j (hq.2 j hj) (ZfT hq rowa j hj)),fun k hk=>YAC (hq.2 k hk) hg.size⟩
  intro q hq;rcases YAH.1 hq with h1 | h1
  ·exact key q (((h.nears q h1).keep (W':=Wa) (fun j _ h2 _=>hb.block j h2)).wide (YA _) hb.size)
  ·have:q=p:=by simpa using h1
   subst this;exact key q (hp.wide hlo (YA _))
end Go.Proofs.YtdhnddfnckgbjaaGreat
