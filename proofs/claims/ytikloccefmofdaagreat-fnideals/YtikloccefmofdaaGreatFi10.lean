/-
  Parts.
-/
import Derived.Test.YtikloccefmofdaaGreatFi7
import Derived.Shelf.Spec.SlicesInsertGrow
namespace Go.Proofs.YtikloccefmofdaaGreat
open Go.RowKit
set_option linter.unusedSimpArgs false
set_option linter.unusedVariables false
set_option maxRecDepth 100000
set_option maxHeartbeats 8000000
variable {l:List Int}{B hi hi' lo lo' n:Nat}{v:Value}{W W':World}
def atZ (xs:List RecD)(r:RecD):Int:=match xs.findIdx? (fun x=>Zap x r) with
 | some i=>(i:Int)
 | none => -1
theorem Zn5 {xs:List RecD}{r x:RecD}{k:Nat}(hk:xs[k]? = some x)(hs:Zap x r=true)(hall:∀ j,j<k->∀ y,xs[j]? = some y->Zap y r=false):atZ xs r=(k:Int):=by
 obtain⟨h1,e1⟩:=YAD.1 hk;have:xs.findIdx? (fun x=>Zap x r)=some k:=by
  rw [List.findIdx?_eq_some_iff_getElem];refine⟨h1,by rw [e1];exact hs,fun j hj=>?_⟩;have:=hall j hj xs[j] (YAA (by omega));simp [this]
 unfold atZ;rw [this]
theorem ZpZ {xs:List RecD}{r:RecD}(hall:∀ j,j<xs.length->∀ y,xs[j]? = some y->Zap y r=false):atZ xs r = -1:=by
 have:xs.findIdx? (fun x=>Zap x r)=none:=by
  rw [List.findIdx?_eq_none_iff];intro x hx;obtain⟨i,hi,e⟩:=List.getElem_of_mem hx;exact hall i hi x (by rw [<-e];exact YAA hi)
 unfold atZ;rw [this]
theorem ZcY (xs:List RecD)(r:RecD):atZ xs r = -1\/∃ (k:Nat) (x:RecD),atZ xs r=(k:Int)/\xs[k]? = some x/\Zap x r=true:=by
 unfold atZ;cases h:xs.findIdx? (fun x=>Zap x r) with
 | none=>exact .inl rfl
 | some i=>
  obtain⟨h1,h2,_⟩:=List.findIdx?_eq_some_iff_getElem.1 h;exact .inr ⟨i,xs[i],rfl,YAA h1,h2⟩
theorem Zdh (x:WayD)(a:Option Addr)(n c:Nat):∀ u∈encW (x,.slice a n c),u.oneCell'=true:=by
 intro u hu;simp only [encW,YAb,List.not_mem_nil,or_false] at hu;rcases hu with rfl | rfl | rfl <;> rfl
theorem Zgb {lo2 size2:Nat}{xs:List Value}{q:WP}(hq:ZbA W lo hi q)(hr:W.ownsRow lo2 108 size2 v n xs)(j:Nat)(hj:q.2.ownBlock=some j):some j≠v.ownBlock:=by
 intro e;rcases hr.2 with ⟨h0,_⟩ | ⟨g,cap,cur,hv,_,hh,_⟩
 ·rw [h0] at e;simp [Value.ownBlock] at e
 ·rw [hv] at e;simp [Value.ownBlock] at e;subst e;exact Zar hq.1 hh (by decide) hj.symm
theorem WaysOwn.push {Wa W2:World}{v':Value}{qs:List WP}{p:WP}(h:WaysOwn W lo W.heap.size v qs)(hb:Below W.heap.size W Wa)(hlo:lo<=W.heap.size)(hp:ZbA Wa W.heap.size Wa.heap.size p)
  (row:W2.ownsRow lo 108 3 v' (qs.length+1) (flat encW (qs++[p]))) (hg:Wa.grownBy W2 v.ownBlock):WaysOwn W2 lo W2.heap.size v' (qs++[p]) where
 row:=by simpa using row
 top:=fun k hk=>(row.lt k hk).2
 apart:=ZmS h.apart h.nears (fun k hk=>(hp.1.lt k hk).1)
 nears:=by
  have rowa:=Zad h.row hb (YA _);have key:∀ q,ZbA Wa lo Wa.heap.size q->ZbA W2 lo W2.heap.size q:=fun q hq=>
   ⟨Zal hq.1 (fun j hj=>hg.block j (hq.2 j hj) (Zgb hq rowa j hj)),fun k hk=>YAB (hq.2 k hk) hg.size⟩
  intro q hq;rcases YAF.1 hq with h1 | h1
  ·exact key q (((h.nears q h1).keep (W':=Wa) (fun j _ h2 _=>hb.block j h2)).wide (YA _) hb.size)
  ·have:q=p:=by simpa using h1
   subst this;exact key q (hp.wide hlo (YA _))
structure IntsOwn (W:World) (lo hi:Nat) (v:Value) (l:List Int):Prop where
 row:W.ownsRow lo 3 1 v l.length (flat intE l)
 top:∀ k,v.ownBlock=some k->k<hi
theorem IntsOwn.keep (h:IntsOwn W lo hi v l)(hk:∀ k,lo<=k->k<hi->k<W.heap.size->W'.heap[k]? = W.heap[k]?):IntsOwn W' lo hi v l:=
 ⟨Zal h.row (fun k e=>hk k (h.row.lt k e).1 (h.top k e) (h.row.lt k e).2),h.top⟩
theorem IntsOwn.below (h:IntsOwn W lo hi v l)(hb:Below B W W')(hB:hi<=B):IntsOwn W' lo hi v l:=h.keep (fun k _ h2 _=>hb.block k (by omega))
theorem IntsOwn.frame {l2 h2:Nat}(h:IntsOwn W lo hi v l)(hb:Frame l2 h2 W W')(hB:hi<=l2\/h2<=lo):IntsOwn W' lo hi v l:=h.keep (fun k h1 h2 h3=>hb.block k h3 (by omega))
theorem IntsOwn.wide (h:IntsOwn W lo hi v l)(hl:lo'<=lo)(hh:hi<=hi'):IntsOwn W lo' hi' v l:=⟨Zaf h.row hl,fun k e=>YAB (h.top k e) hh⟩
theorem IntsOwn.at (h:IntsOwn W lo hi v l):ZaI W v l hi:=by
 obtain⟨a,cap,hv,h2⟩:=Zam h.row;refine⟨a,cap,hv,?_⟩;rcases h2 with h0 | ⟨b,off,ha,hb1,hx⟩
 ·exact .inl h0
 ·exact .inr ⟨b,off,ha,h.top b (by rw [hv,ha];rfl),hx⟩
theorem IntsOwn.of (h:W.ownsRow lo 3 1 v l.length (flat intE l)):IntsOwn W lo W.heap.size v l:=⟨h,fun k e=>(h.lt k e).2⟩
theorem ZaT {P:Program}(w:World)(dT sT ty elem:TypeId)(g o dLen dCap:Nat)(a:Addr)(sLen sCap sz:Nat)(cur:Array Value)(t:TypeId)(cs:List Value)
  (hu:P.underlying dT=some (.slice elem)) (hs:(P.info? elem).map (·.size)=some sz)
  (hg:w.heap[g]? = some (.cells cur t (0,0))) (hn:cs.length=Nat.min sLen dLen*sz)
  (hsrc:∀ j v,cs[j]? = some v->w.cell? (a.add j)=some v) (hfit:o+cs.length<=cur.size) (h1:∀ v∈cs,v.oneCell'=true):
  (Builtin.copy_ #[dT,sT] ty #[.slice (some ⟨g,o,none⟩) dLen dCap,.slice (some a) sLen sCap]).run P w =
   .ok (goInt (Nat.min sLen dLen)) (w.setRow g (cur.toList.take o++cs++cur.toList.drop (o+cs.length)).toArray):=by
 have hl:=run_loadCells_list (P:=P) w a cs hsrc;have hst:=run_storeCells_at P g o t cs 0 cur w hg (by simpa using hfit) h1;cases hq:P.info? elem with
 | none=>simp [hq] at hs
 | some i=>
  have hi:i.size=sz:=by simpa [hq] using hs
  simp [Builtin.copy_,run_underlying hu,Builtin.lenOf,Builtin.firstCells,sizeOf,typeInfo,hq,hi, <-hn,hl,hst]
theorem Zd1 {P:Program}(w:World)(t t2 ty e:TypeId)(i:TypeInfo)(ht:P.underlying t=some (.slice e))(ht2:P.underlying t2=some (.slice e))(hi:P.info? e=some i)(b:Option Addr)(n c:Nat)(x:Value):
  (Builtin.append_ #[t,t2] ty #[.slice b n c,x]).run P w=(Builtin.append_ #[t,t] ty #[.slice b n c,x]).run P w:=by
 simp [Builtin.append_,run_underlying ht,run_underlying ht2,sizeOf,typeInfo,hi]
theorem Zpw (cur D R:List Value)(a d:Nat)(hD:D.length=d)(hR:R.length=8)(hc:a+8+d<=cur.length):
  ((cur.take (a+8)++D++cur.drop (a+8+D.length)).take a++R++(cur.take (a+8)++D++cur.drop (a+8+D.length)).drop (a+R.length))=cur.take a++R++D++cur.drop (a+8+d):=by
 have e1:(cur.take (a+8)++D++cur.drop (a+8+D.length)).take a=cur.take a:=by
  rw [YAY,List.take_append_of_le_length (by simp;omega),List.take_take,YAQ (by omega)]
 have e2:(cur.take (a+8)++D++cur.drop (a+8+D.length)).drop (a+R.length)=D++cur.drop (a+8+d):=by
  rw [hR,YAY,List.drop_append_of_le_length (by simp;omega),List.drop_of_length_le (by simp;omega),List.nil_append,hD]
 rw [e1,e2,YAY,YAY,YAY]
theorem Zb0 {A B C D:List Value}(h:A.length+B.length+C.length=n):(A++B++C++D).take n=A++B++C:=by
 rw [List.take_append_of_le_length (by simp;omega),YAL (by simp;omega)]
theorem Zd4 (ps:List RP)(i:Nat)(h:i<=ps.length):(flat encP ps).take (i*8)=flat encP (ps.take i):=by
 conv=>lhs;rw [<-YAc i ps,ZaC]
 have e:(flat encP (ps.take i)).length=i*8:=by rw [ZaD Zay,YAV,YAQ h]
 rw [<-e,List.take_left]
theorem Zfx (ps:List RP)(i:Nat)(h:i<=ps.length):(flat encP ps).drop (i*8)=flat encP (ps.drop i):=by
 conv=>lhs;rw [<-YAc i ps,ZaC]
 have e:(flat encP (ps.take i)).length=i*8:=by rw [ZaD Zay,YAV,YAQ h]
 rw [<-e,List.drop_left]
theorem Zqf (r:RP):flat encP [r]=encP r:=by simp [flat]
theorem Zer (ps:List RP)(r:RP)(i:Nat):flat encP (ps.take i++[r]++ps.drop i)=flat encP (ps.take i)++encP r++flat encP (ps.drop i):=by
 rw [ZaC,ZaC,Zqf]
theorem Zhg (ps:List RP)(r:RP)(i:Nat)(h:i<=ps.length):(ps.take i++[r]++ps.drop i).length=ps.length+1:=by
 simp;omega
theorem Zdi (ps:List RP)(h:∀ p∈ps,∃ a n c,p.2=.slice a n c):∀ u∈flat encP ps,u.oneCell'=true:=by
 intro u hu;simp only [flat,YAp] at hu;obtain⟨p,hp,hu⟩:=hu;obtain⟨a,n,c,e⟩:=h p hp;obtain⟨x,v⟩:=p;simp only at e;subst e;exact ZbY x a n c u hu
theorem ZeH.symm {p q:RP}(h:ZeH p q):ZeH q p:=fun k hk hp=>h k hp hk
theorem Zid {W2:World}{ps:List RP}(h:RecsOwn W lo W.heap.size v ps)(hg:W.grownBy W2 v.ownBlock){q:RP}(hq:ZaF W lo W.heap.size q):ZaF W2 lo W2.heap.size q:=
 ⟨Zal hq.1 (fun j hj=>hg.block j (hq.2 j hj) (Zc4 hq h.row j hj)),fun k hk=>YAB (hq.2 k hk) hg.size⟩
theorem RecsOwn.put {i g cap:Nat}{ps:List RP}{r:RP}(h:RecsOwn W lo W.heap.size (.slice (some ⟨g,0,none⟩) n cap) ps)(hn:n=ps.length)(hr:ZaF W lo W.heap.size r)(hap:∀ p∈ps,ZeH p r)(hi:i<ps.length):RecsOwn (putP W g (i*8) r) lo (putP W g (i*8) r).heap.size (.slice (some ⟨g,0,none⟩) n cap) (ps.set i r):=by
 subst hn;have hst:=Zpm (p:=r) h.row hi;have hg:W.grownBy (putP W g (i*8) r) (Value.slice (some ⟨g,0,none⟩) ps.length cap).ownBlock:=ZeD W g (i*8) r;refine⟨by simpa using hst,fun k hk=>(hst.lt k hk).2,?_,?_⟩
 ·intro q hq;refine Zid h hg ?_;rcases List.mem_or_eq_of_mem_set hq with h1 | h1
  ·exact h.nears q h1
  ·subst h1;exact hr
 ·have hp:=h.apart;rw [YAa] at hp |-;intro a b ha hb hab;simp only [List.length_set] at ha hb;rw [List.getElem_set,List.getElem_set];by_cases e1:i=a
  ·rw [if_pos e1,if_neg (by omega)];exact (hap _ (YAt hb)).symm
  ·rw [if_neg e1];by_cases e2:i=b
   ·rw [if_pos e2];exact hap _ (YAt ha)
   ·rw [if_neg e2];exact hp a b ha hb hab
theorem Zl9 (ps:List RP)(r:RP)(i:Nat):fsts (ps.take i++[r]++ps.drop i)=(fsts ps).take i++[r.1]++(fsts ps).drop i:=by simp [fsts]
theorem Zma (ps:List RP)(r:RP)(i:Nat):fsts (ps.set i r)=(fsts ps).set i r.1:=by simp [fsts,List.map_set]
abbrev QP:=RtD × Value
def encQ (p:QP):List Value:=[.bool p.1.thing,.int .i64 p.1.to,.int .i64 p.1.kind,.int .i64 p.1.cost,.int .i64 p.1.far,p.2]
def Zf3:RtD:=⟨false,0,0,0,0,[]⟩
theorem Zcg (p:QP):(encQ p).length=6:=rfl
def Zfl (W:World)(v:Value)(ps:List QP)(B:Nat):Prop:=ZaU encQ 6 W v ps B/\∀ p∈ps,ZaI W p.2 p.1.hops B
theorem Zfl.shape {ps:List QP}(h:Zfl W v ps B):∃ a cap,v=.slice a ps.length cap:=by
 obtain⟨⟨a,cap,h,_⟩,_⟩:=h;exact⟨a,cap,h⟩
theorem Zfl.later {ps:List QP}{C:Nat}(h:Zfl W v ps B)(hb:Below C W W')(hBC:B<=C):Zfl W' v ps B:=
 ⟨Zav.later h.1 hb hBC,fun p hp=>Zav.later (h.2 p hp) hb hBC⟩
theorem Zfl.more {ps:List QP}{C:Nat}(h:Zfl W v ps B)(hBC:B<=C):Zfl W v ps C:=
 ⟨Zav.more h.1 hBC,fun p hp=>Zav.more (h.2 p hp) hBC⟩
theorem Zfl.then {ps:List QP}(h:Zfl W v ps W.heap.size)(hb:Below W.heap.size W W'):Zfl W' v ps W'.heap.size:=(h.later hb (YA _)).more hb.size
def Zbv (W:World)(lo hi:Nat)(p:QP):Prop:=W.ownsRow lo 3 1 p.2 p.1.hops.length (flat intE p.1.hops)/\∀ k,p.2.ownBlock=some k->k<hi
def ZdX (p q:QP):Prop:=∀ k,p.2.ownBlock=some k->q.2.ownBlock≠some k
structure RtsOwn (W:World) (lo hi:Nat) (v:Value) (ps:List QP):Prop where
 row:W.ownsRow lo 42 6 v ps.length (flat encQ ps)
 top:∀ k,v.ownBlock=some k->k<hi
 nears:∀ p∈ps,Zbv W lo hi p
 apart:ps.Pairwise ZdX
theorem Zbv.keep {p:QP}(h:Zbv W lo hi p)(hk:∀ k,lo<=k->k<hi->k<W.heap.size->W'.heap[k]? = W.heap[k]?):Zbv W' lo hi p:=
 ⟨Zal h.1 (fun k e=>hk k (h.1.lt k e).1 (h.2 k e) (h.1.lt k e).2),h.2⟩
theorem Zbv.wide {p:QP}(h:Zbv W lo hi p)(hl:lo'<=lo)(hh:hi<=hi'):Zbv W lo' hi' p:=
 ⟨Zaf h.1 hl,fun k e=>YAB (h.2 k e) hh⟩
theorem Zbv.at {p:QP}(h:Zbv W lo hi p):ZaI W p.2 p.1.hops hi:=by
 have h1:=Zam h.1;obtain⟨a,cap,hv,h2⟩:=h1;refine⟨a,cap,hv,?_⟩;rcases h2 with h0 | ⟨b,off,ha,hb1,hx⟩
 ·exact .inl h0
 ·exact .inr ⟨b,off,ha,h.2 b (by rw [hv,ha];rfl),hx⟩
theorem RtsOwn.keep {ps:List QP}(h:RtsOwn W lo hi v ps)(hk:∀ k,lo<=k->k<hi->k<W.heap.size->W'.heap[k]? = W.heap[k]?):RtsOwn W' lo hi v ps where
 row:=Zal h.row (fun k e=>hk k (h.row.lt k e).1 (h.top k e) (h.row.lt k e).2)
 top:=h.top
 nears:=fun p hp=>(h.nears p hp).keep hk
 apart:=h.apart
theorem RtsOwn.below {ps:List QP}(h:RtsOwn W lo hi v ps)(hb:Below B W W')(hB:hi<=B):RtsOwn W' lo hi v ps:=h.keep (fun k _ h2 _=>hb.block k (by omega))
theorem RtsOwn.wide {ps:List QP}(h:RtsOwn W lo hi v ps)(hl:lo'<=lo)(hh:hi<=hi'):RtsOwn W lo' hi' v ps where
 row:=Zaf h.row hl
 top:=fun k e=>YAB (h.top k e) hh
 nears:=fun p hp=>(h.nears p hp).wide hl hh
 apart:=h.apart
theorem RtsOwn.at {ps:List QP}(h:RtsOwn W lo hi v ps):Zfl W v ps hi:=by
 refine⟨?_,fun p hp=>(h.nears p hp).at⟩;have h1:=Zam h.row;obtain⟨a,cap,hv,h2⟩:=h1;refine⟨a,cap,hv,?_⟩;rcases h2 with h0 | ⟨b,off,ha,hb1,hx⟩
 ·exact .inl h0
 ·exact .inr ⟨b,off,ha,h.top b (by rw [hv,ha];rfl),hx⟩
theorem RtsOwn.frame {l2 h2:Nat}{ps:List QP}(h:RtsOwn W lo hi v ps)(hb:Frame l2 h2 W W')(hB:hi<=l2\/h2<=lo):RtsOwn W' lo hi v ps:=h.keep (fun k h1 h2 h3=>hb.block k h3 (by omega))
theorem Zfl.cells {ps:List QP}(h:Zfl W v ps B)(i:Nat)(p:QP)(hp:ps[i]? = some p):
  ∃ b off cap,v=.slice (some ⟨b,off,none⟩) ps.length cap/\b<B/\W.cell? ⟨b,off+i*6,none⟩=some (.bool p.1.thing)/\W.cell? ⟨b,off+i*6+1,none⟩=some (.int .i64 p.1.to)/\W.cell? ⟨b,off+i*6+2,none⟩=some (.int .i64 p.1.kind)/\W.cell? ⟨b,off+i*6+3,none⟩=some (.int .i64 p.1.cost)/\W.cell? ⟨b,off+i*6+4,none⟩=some (.int .i64 p.1.far)/\W.cell? ⟨b,off+i*6+5,none⟩=some p.2/\ZaI W p.2 p.1.hops B:=by
 obtain⟨b,off,cap,hv,hb,hc⟩:=ZaU.cell h.1 Zcg i p hp;exact⟨b,off,cap,hv,hb,hc 0 _ rfl,hc 1 _ rfl,hc 2 _ rfl,hc 3 _ rfl,hc 4 _ rfl,hc 5 _ rfl,h.2 p (YAG hp)⟩
end Go.Proofs.YtikloccefmofdaaGreat
