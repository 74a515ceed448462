/-
  Parts.
-/
import Derived.Test.YtcnjnibnecpddaaGreatTr5
import Derived.Shelf.Spec.SlicesInsertGrow
namespace Go.Proofs.YtcnjnibnecpddaaGreat
open Go.RowKit
set_option linter.unusedSimpArgs false
set_option linter.unusedVariables false
set_option maxRecDepth 100000
set_option maxHeartbeats 8000000
variable {l:List Int}{hi lo:Nat}{v:Value}{W W':World}
def atZ (xs:List RecD)(r:RecD):Int:=match xs.findIdx? (fun x=>Zat x r) with
 | some i=>(i:Int)
 | none => -1
theorem Zok {xs:List RecD}{r x:RecD}{k:Nat}(hk:xs[k]? = some x)(hs:Zat x r=true)(hall:∀ j,j<k->∀ y,xs[j]? = some y->Zat y r=false):atZ xs r=(k:Int):=by
 obtain⟨h1,e1⟩:=YAD.1 hk;have:xs.findIdx? (fun x=>Zat x r)=some k:=by
  rw [List.findIdx?_eq_some_iff_getElem];refine⟨h1,by rw [e1];exact hs,fun j hj=>?_⟩;have:=hall j hj xs[j] (YAA (by omega));simp [this]
 unfold atZ;rw [this]
theorem Zqc {xs:List RecD}{r:RecD}(hall:∀ j,j<xs.length->∀ y,xs[j]? = some y->Zat y r=false):atZ xs r = -1:=by
 have:xs.findIdx? (fun x=>Zat x r)=none:=by
  rw [List.findIdx?_eq_none_iff];intro x hx;obtain⟨i,hi,e⟩:=List.getElem_of_mem hx;exact hall i hi x (by rw [<-e];exact YAA hi)
 unfold atZ;rw [this]
theorem Zea (xs:List RecD)(r:RecD):atZ xs r = -1\/∃ (k:Nat) (x:RecD),atZ xs r=(k:Int)/\xs[k]? = some x/\Zat x r=true:=by
 unfold atZ;cases h:xs.findIdx? (fun x=>Zat x r) with
 | none=>exact .inl rfl
 | some i=>
  obtain⟨h1,h2,_⟩:=List.findIdx?_eq_some_iff_getElem.1 h;exact .inr ⟨i,xs[i],rfl,YAA h1,h2⟩
theorem Zdr (x:WayD)(a:Option Addr)(n c:Nat):∀ u∈encW (x,.slice a n c),u.oneCell'=true:=by
 intro u hu;simp only [encW,YAg,List.not_mem_nil,or_false] at hu;rcases hu with rfl | rfl | rfl <;> rfl
theorem Zf9 {lo2 n size2:Nat}{xs:List Value}{q:WP}(hq:ZbD W lo hi q)(hr:W.ownsRow lo2 193 size2 v n xs)(j:Nat)(hj:q.2.ownBlock=some j):some j≠v.ownBlock:=by
 intro e;rcases hr.2 with ⟨h0,_⟩ | ⟨g,cap,cur,hv,_,hh,_⟩
 ·rw [h0] at e;simp [Value.ownBlock] at e
 ·rw [hv] at e;simp [Value.ownBlock] at e;subst e;exact Zaq hq.1 hh (by decide) hj.symm
theorem WaysOwn.push {Wa W2:World}{v':Value}{qs:List WP}{p:WP}(h:WaysOwn W lo W.heap.size v qs)(hb:T_ W Wa)(hlo:lo<=W.heap.size)(hp:ZbD Wa W.heap.size Wa.heap.size p)
  (row:W2.ownsRow lo 193 3 v' (qs.length+1) (flat encW (qs++[p]))) (hg:Wa.grownBy W2 v.ownBlock):WaysOwn W2 lo W2.heap.size v' (qs++[p]) where
 row:=by simpa using row
 top:=fun k hk=>(row.lt k hk).2
 apart:=Zm0 h.apart h.nears (fun k hk=>(hp.1.lt k hk).1)
 nears:=by
  have rowa:=Zad h.row hb (YA _);have key:∀ q,ZbD Wa lo Wa.heap.size q->ZbD W2 lo W2.heap.size q:=fun q hq=>
   ⟨Zal hq.1 (fun j hj=>hg.block j (hq.2 j hj) (Zf9 hq rowa j hj)),fun k hk=>YAB (hq.2 k hk) hg.size⟩
  intro q hq;rcases YAF.1 hq with h1 | h1
  ·exact key q (((h.nears q h1).keep (W':=Wa) (fun j _ h2 _=>hb.block j h2)).wide (YA _) hb.size)
  ·have:q=p:=by simpa using h1
   subst this;exact key q (hp.wide hlo (YA _))
structure IntsOwn (W:World) (lo hi:Nat) (v:Value) (l:List Int):Prop where
 row:W.ownsRow lo 3 1 v l.length (flat intE l)
 top:∀ k,v.ownBlock=some k->k<hi
theorem IntsOwn.keep (h:IntsOwn W lo hi v l)(hk:∀ k,lo<=k->k<hi->k<W.heap.size->W'.heap[k]? = W.heap[k]?):IntsOwn W' lo hi v l:=
 ⟨Zal h.row (fun k e=>hk k (h.row.lt k e).1 (h.top k e) (h.row.lt k e).2),h.top⟩
theorem IntsOwn.below {B:Nat}(h:IntsOwn W lo hi v l)(hb:Below B W W')(hB:hi<=B):IntsOwn W' lo hi v l:=h.keep (fun k _ h2 _=>hb.block k (by omega))
theorem IntsOwn.frame {l2 h2:Nat}(h:IntsOwn W lo hi v l)(hb:Frame l2 h2 W W')(hB:hi<=l2\/h2<=lo):IntsOwn W' lo hi v l:=h.keep (fun k h1 h2 h3=>hb.block k h3 (by omega))
theorem IntsOwn.wide {lo' hi':Nat}(h:IntsOwn W lo hi v l)(hl:lo'<=lo)(hh:hi<=hi'):IntsOwn W lo' hi' v l:=⟨Zaf h.row hl,fun k e=>YAB (h.top k e) hh⟩
theorem IntsOwn.at (h:IntsOwn W lo hi v l):ZaI W v l hi:=by
 obtain⟨a,cap,hv,h2⟩:=Zan h.row;refine⟨a,cap,hv,?_⟩;rcases h2 with h0 | ⟨b,off,ha,hb1,hx⟩
 ·exact .inl h0
 ·exact .inr ⟨b,off,ha,h.top b (by rw [hv,ha];rfl),hx⟩
theorem IntsOwn.of (h:W.ownsRow lo 3 1 v l.length (flat intE l)):IntsOwn W lo W.heap.size v l:=⟨h,fun k e=>(h.lt k e).2⟩
theorem ZaY {P:Program}(w:World)(dT sT ty elem:TypeId)(g o dLen dCap:Nat)(a:Addr)(sLen sCap sz:Nat)(cur:Array Value)(t:TypeId)(cs:List Value)
  (hu:P.underlying dT=some (.slice elem)) (hs:(P.info? elem).map (·.size)=some sz)
  (hg:w.heap[g]? = some (.cells cur t (0,0))) (hn:cs.length=Nat.min sLen dLen*sz)
  (hsrc:∀ j v,cs[j]? = some v->w.cell? (a.add j)=some v) (hfit:o+cs.length<=cur.size) (h1:∀ v∈cs,v.oneCell'=true):
  (Builtin.copy_ #[dT,sT] ty #[.slice (some (U g o)) dLen dCap,.slice (some a) sLen sCap]).run P w =
   .ok (goInt (Nat.min sLen dLen)) (w.setRow g (cur.toList.take o++cs++cur.toList.drop (o+cs.length)).toArray):=by
 have hl:=run_loadCells_list (P:=P) w a cs hsrc;have hst:=run_storeCells_at P g o t cs 0 cur w hg (by simpa using hfit) h1;cases hq:P.info? elem with
 | none=>simp [hq] at hs
 | some i=>
  have hi:i.size=sz:=by simpa [hq] using hs
  simp [Builtin.copy_,run_underlying hu,Builtin.lenOf,Builtin.firstCells,sizeOf,typeInfo,hq,hi, <-hn,hl,hst]
theorem Zd9 {P:Program}(w:World)(t t2 ty e:TypeId)(i:TypeInfo)(ht:P.underlying t=some (.slice e))(ht2:P.underlying t2=some (.slice e))(hi:P.info? e=some i)(b:Option Addr)(n c:Nat)(x:Value):
  (Builtin.append_ #[t,t2] ty #[.slice b n c,x]).run P w=(Builtin.append_ #[t,t] ty #[.slice b n c,x]).run P w:=by
 simp [Builtin.append_,run_underlying ht,run_underlying ht2,sizeOf,typeInfo,hi]
theorem ZpF (cur D R:List Value)(a d:Nat)(hD:D.length=d)(hR:R.length=8)(hc:a+8+d<=cur.length):
  ((cur.take (a+8)++D++cur.drop (a+8+D.length)).take a++R++(cur.take (a+8)++D++cur.drop (a+8+D.length)).drop (a+R.length))=cur.take a++R++D++cur.drop (a+8+d):=by
 have e1:(cur.take (a+8)++D++cur.drop (a+8+D.length)).take a=cur.take a:=by
  rw [YAW,List.take_append_of_le_length (by simp;omega),List.take_take,YAR (by omega)]
 have e2:(cur.take (a+8)++D++cur.drop (a+8+D.length)).drop (a+R.length)=D++cur.drop (a+8+d):=by
  rw [hR,YAW,List.drop_append_of_le_length (by simp;omega),List.drop_of_length_le (by simp;omega),List.nil_append,hD]
 rw [e1,e2,YAW,YAW,YAW]
theorem Zb6 {A B C D:List Value}{n:Nat}(h:A.length+B.length+C.length=n):(A++B++C++D).take n=A++B++C:=by
 rw [List.take_append_of_le_length (by simp;omega),YAP (by simp;omega)]
theorem Zee (ps:List RP)(i:Nat)(h:i<=ps.length):(flat encP ps).take (i*8)=flat encP (ps.take i):=by
 conv=>lhs;rw [<-YAa i ps,ZaF]
 have e:(flat encP (ps.take i)).length=i*8:=by rw [ZaD Zax,YAS,YAR h]
 rw [<-e,List.take_left]
theorem ZfH (ps:List RP)(i:Nat)(h:i<=ps.length):(flat encP ps).drop (i*8)=flat encP (ps.drop i):=by
 conv=>lhs;rw [<-YAa i ps,ZaF]
 have e:(flat encP (ps.take i)).length=i*8:=by rw [ZaD Zax,YAS,YAR h]
 rw [<-e,List.drop_left]
theorem Zqr (r:RP):flat encP [r]=encP r:=by simp [flat]
theorem ZeA (ps:List RP)(r:RP)(i:Nat):flat encP (ps.take i++[r]++ps.drop i)=flat encP (ps.take i)++encP r++flat encP (ps.drop i):=by
 rw [ZaF,ZaF,Zqr]
theorem Zg9 (ps:List RP)(r:RP)(i:Nat)(h:i<=ps.length):(ps.take i++[r]++ps.drop i).length=ps.length+1:=by
 simp;omega
theorem Zds (ps:List RP)(h:∀ p∈ps,∃ a n c,p.2=.slice a n c):∀ u∈flat encP ps,u.oneCell'=true:=by
 intro u hu;simp only [flat,YAs] at hu;obtain⟨p,hp,hu⟩:=hu;obtain⟨a,n,c,e⟩:=h p hp;obtain⟨x,v⟩:=p;simp only at e;subst e;exact Zb2 x a n c u hu
end Go.Proofs.YtcnjnibnecpddaaGreat
