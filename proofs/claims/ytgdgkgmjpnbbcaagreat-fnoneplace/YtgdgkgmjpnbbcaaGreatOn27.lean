/-
  BestP NewerS BestI
-/
import Derived.Test.YtgdgkgmjpnbbcaaGreatOn26
import Derived.Test.YtgdgkgmjpnbbcaaGreatOn21
import Derived.Test.YtgdgkgmjpnbbcaaGreatOn3
import Derived.Test.YtgdgkgmjpnbbcaaGreatOn11
namespace Go.Proofs.YtgdgkgmjpnbbcaaGreat
open Go.RowKit
set_option linter.unusedSimpArgs false
set_option linter.unusedVariables false
set_option maxRecDepth 100000
set_option maxHeartbeats 8000000
theorem ZmK {W:World}{base g cap n sz j:Nat}{e:TypeId}{xs:List Value}{u:Value}(h:W.ownsRow base e sz (.slice (some ⟨g,0,none⟩) n cap) n xs)(hj:j<n*sz):(W.setCell ⟨g,j,none⟩ u).ownsRow base e sz (.slice (some ⟨g,0,none⟩) n cap) n (xs.set j u):=by
 rcases h.2 with ⟨e0,_⟩ | ⟨g',cap',cur,e0,hb,hg,hn,hm,hs,ht⟩
 ·cases e0
 ·injection e0 with e1 _ e3
  injection e1 with e1
  injection e1 with e1
  subst e1;subst e3;refine⟨by rw [List.length_set];exact h.1,.inr ⟨g,cap,cur.setIfInBounds j u,rfl,hb,heap_setCell_same W g j _ _ u hg,hn,hm,by simpa using hs,?_⟩⟩
  rw [<-ht]
  apply List.ext_getElem?
  intro i;rw [List.getElem?_take,List.getElem?_set,Array.toList_setIfInBounds,List.getElem?_set];have hcl:n*sz<=cur.size:=by rw [hs];exact Nat.mul_le_mul_right sz hn
  by_cases hi:i<n*sz
  ·rw [if_pos hi,List.getElem?_take,if_pos hi]
   by_cases hij:j=i
   ·subst hij
    have h1:j<cur.toList.length:=by rw [Array.length_toList];omega
    have h2:j<(cur.toList.take (n*sz)).length:=by rw [List.length_take];omega
    rw [if_pos rfl,if_pos rfl,if_pos h1,if_pos h2]
   ·simp [hij]
  ·rw [if_neg hi,List.getElem?_take,if_neg hi]
   have:j≠i:=by omega
   simp [this]
theorem Zl6 {b0:List QP}{b:QP}{u:Value}{l:List Int}:(flat encQ (b0++[b])).set (b0.length*6+5) u=flat encQ (b0++[({ b.1 with hops:=l },u)]):=by
 rw [ZaD,ZaD,List.set_append_right _ _ (by rw [ZaX ZbR];omega),ZaX ZbR,show b0.length*6+5-b0.length*6=5 by omega]
 rfl
theorem ZeF {W:World}{lo lo2 hi n size2:Nat}{v:Value}{xs:List Value}{q:QP}(hq:Zbl W lo hi q)(hr:W.ownsRow lo2 44 size2 v n xs)(j:Nat)(hj:q.2.ownBlock=some j):some j≠v.ownBlock:=by
 intro e
 rcases hr.2 with ⟨h0,_⟩ | ⟨g,cap,cur,hv,_,hh,_⟩
 ·rw [h0] at e;simp [Value.ownBlock] at e
 ·rw [hv] at e
  simp [Value.ownBlock] at e
  subst e;exact Zan hq.1 hh (by decide) hj.symm
theorem RtsOwn.push {W Wa W2:World}{lo:Nat}{v v':Value}{qs:List QP}{p:QP}(h:RtsOwn W lo W.heap.size v qs)(hb:Below W.heap.size W Wa)(hp:Zbl Wa lo Wa.heap.size p)(hap:∀ q∈qs,Zdg q p)
  (row:W2.ownsRow lo 44 6 v' (qs++[p]).length (flat encQ (qs++[p]))) (hg:Wa.grownBy W2 v.ownBlock):RtsOwn W2 lo W2.heap.size v' (qs++[p]) where
 row:=row
 top:=fun k hk=>(row.lt k hk).2
 apart:=by
  rw [List.pairwise_append];exact⟨h.apart,by simp,fun a ha b hb=>by (have:b=p:=by simpa using hb);subst this;exact hap a ha⟩
 nears:=by
  have rowa:=Zaf h.row hb (Nat.le_refl _);have key:∀ q,Zbl Wa lo Wa.heap.size q->Zbl W2 lo W2.heap.size q:=fun q hq=>
   ⟨Zao hq.1 (fun j hj=>hg.block j (hq.2 j hj) (ZeF hq rowa j hj)),fun k hk=>Nat.lt_of_lt_of_le (hq.2 k hk) hg.size⟩
  intro q hq
  rcases List.mem_append.1 hq with h1 | h1
  ·exact key q (((h.nears q h1).keep (W':=Wa) (fun j _ h2 _=>hb.block j h2)).wide (Nat.le_refl _) hb.size)
  ·have:q=p:=by simpa using h1
   subst this;exact key q hp
theorem RtsOwn.last {W Wa:World}{lo g n cap:Nat}{u:Value}{l:List Int}{b0:List QP}{b:QP}(h:RtsOwn W lo W.heap.size (.slice (some ⟨g,0,none⟩) n cap) (b0++[b]))(hn:(b0++[b]).length=n)(hb:Below W.heap.size W Wa)(hu:Wa.ownsRow W.heap.size 3 1 u l.length (flat intE l))(hlo:lo<=W.heap.size):
  RtsOwn (Wa.setCell ⟨g,b0.length*6+5,none⟩ u) lo (Wa.setCell ⟨g,b0.length*6+5,none⟩ u).heap.size (.slice (some ⟨g,0,none⟩) n cap) (b0++[({ b.1 with hops:=l },u)]):=by
 subst hn;have rowa:=Zaf h.row hb (Nat.le_refl _);have hG:=Zal Wa g (b0.length*6+5) u;have row:=ZmK (u:=u) (j:=b0.length*6+5) rowa (by simp;omega)
 rw [Zl6 (l:=l)] at row;have hsz:(Wa.setCell ⟨g,b0.length*6+5,none⟩ u).heap.size=Wa.heap.size:=by simp
 have hlen:(b0++[({ b.1 with hops:=l },u)]:List QP).length=(b0++[b]).length:=by simp
 have key:∀ q,Zbl Wa lo Wa.heap.size q->Zbl (Wa.setCell ⟨g,b0.length*6+5,none⟩ u) lo (Wa.setCell ⟨g,b0.length*6+5,none⟩ u).heap.size q:=fun q hq=>
  ⟨Zao hq.1 (fun j hj=>hG.block j (hq.2 j hj) (by have:=ZeF hq rowa j hj;simpa [Value.ownBlock] using this)),fun k hk=>by rw [hsz];exact hq.2 k hk⟩
 refine⟨by rw [hlen];exact row,fun k hk=>?_,fun q hq=>?_,?_⟩
 ·rw [hsz];exact (rowa.lt k hk).2
 ·rcases List.mem_append.1 hq with h1 | h1
  ·exact key q (((h.nears q (List.mem_append.2 (.inl h1))).keep (W':=Wa) (fun j _ h2 _=>hb.block j h2)).wide (Nat.le_refl _) hb.size)
  ·have:q=({ b.1 with hops:=l },u):=by simpa using h1
   subst this;exact key _ ⟨Zah hu hlo,fun k hk=>(hu.lt k hk).2⟩
 ·have ha:=h.apart
  rw [List.pairwise_append] at ha |-;refine⟨ha.1,by simp,fun a hA c hC=>?_⟩
  have:c=({ b.1 with hops:=l },u):=by simpa using hC
  subst this;intro k hk e;have h1:=(h.nears a (List.mem_append.2 (.inl hA))).2 k hk;have h2:=(hu.lt k e).1;omega
structure BI (W:World) (B:Nat) (w2:World) (qs:List QP) (k:Nat) (x:Value) (bs:List QP):Prop where
 own:RtsOwn W B W.heap.size x bs
 new:∀ j,x.ownBlock=some j->w2.heap.size<=j
 best:ZcC (ZaU (qs.take k)) (ZaU bs)
 off:∀ b∈bs,OffR b.1
 ord:∀ b∈bs,∀ q∈qs.drop k,¬ordQ q.1 b.1<0
 apartR:∀ b∈bs,∀ q∈qs.drop k,Zdg b q
 below:Below w2.heap.size w2 W
theorem ZbO {α:Type}{qs:List α}{k:Nat}{q:α}(h:qs[k]? = some q):qs.drop k=q::qs.drop (k+1):=by
 obtain⟨hk,e⟩:=List.getElem?_eq_some_iff.1 h;rw [List.drop_eq_getElem_cons hk,e]
theorem Zfv {qs:List QP}{k:Nat}{q:QP}(h:qs[k]? = some q):ZaU (qs.take (k+1))=ZaU (qs.take k)++[q.1]:=by
 obtain⟨hk,e⟩:=List.getElem?_eq_some_iff.1 h;unfold ZaU;rw [List.take_succ_eq_append_getElem hk,e];simp
theorem ZaS (a b:List QP):ZaU (a++b)=ZaU a++ZaU b:=by simp [ZaU]
theorem Zjc {qs:List QP}(hs:Zfp (ZaU qs)){k:Nat}{q:QP}(h:qs[k]? = some q):∀ r∈qs.drop (k+1),¬ordQ r.1 q.1<0:=by
 unfold Zfp ZaU at hs;rw [List.pairwise_map] at hs;have:=List.Pairwise.sublist (List.drop_sublist k qs) hs;rw [ZbO h] at this;exact (List.pairwise_cons.1 this).1
theorem Zjt {qs:List QP}(hs:qs.Pairwise Zdg){k:Nat}{q:QP}(h:qs[k]? = some q):∀ r∈qs.drop (k+1),Zdg q r:=by
 have:=List.Pairwise.sublist (List.drop_sublist k qs) hs;rw [ZbO h] at this;exact (List.pairwise_cons.1 this).1
theorem BI.offT {W:World}{B:Nat}{w2:World}{qs bs:List QP}{k:Nat}{x:Value}(_h:BI W B w2 qs k x bs)(hq:∀ q∈qs,OffR q.1):∀ y∈ZaU (qs.take k),OffR y:=by
 intro y hy;obtain⟨q,hq',rfl⟩:=List.mem_map.1 hy;exact hq q (List.mem_of_mem_take hq')
theorem BI.lt {W:World}{B:Nat}{w2:World}{qs b0:List QP}{b q:QP}{k:Nat}{x:Value}(h:BI W B w2 qs k x (b0++[b]))(hq:∀ q∈qs,OffR q.1)(hk:qs[k]? = some q)(hne:b.1.to≠q.1.to):∀ c∈ZaU (b0++[b]),c.to<q.1.to:=by
 have hob:=h.off b (by simp)
 have hoq:=hq q (List.mem_of_getElem? hk);have h1:=h.ord b (by simp) q (by rw [ZbO hk];simp)
 rw [hoq.lt hob] at h1;have hb:b.1.to<q.1.to:=by omega
 have hA:=h.best.1;rw [ZaS,List.map_append] at hA;unfold AscW at hA;rw [List.pairwise_append] at hA;intro c hc;rw [ZaS] at hc
 rcases List.mem_append.1 hc with h2 | h2
 ·have:=hA.2.2 (wOf c) (List.mem_map_of_mem h2) (wOf b.1) (by simp [ZaU])
  have h3:c.to<b.1.to:=this;omega
 ·have:c=b.1:=by simpa [ZaU] using h2
  subst this;exact hb
theorem BI.worse {W:World}{B:Nat}{w2:World}{qs b0:List QP}{b q:QP}{k:Nat}{x:Value}(h:BI W B w2 qs k x (b0++[b]))(hq:∀ q∈qs,OffR q.1)(hk:qs[k]? = some q)(ht:b.1.to=q.1.to)(hne:ordQ b.1 q.1≠0):ordQ b.1 q.1<0:=by
 have hob:=h.off b (by simp)
 have hoq:=hq q (List.mem_of_getElem? hk);have h1:=h.ord b (by simp) q (by rw [ZbO hk];simp)
 rw [hoq.lt hob] at h1;rw [hob.lt hoq];have h2:¬(b.1.to=q.1.to/\(wOf b.1).cost=(wOf q.1).cost):=fun e=>hne ((hob.eq hoq).2 e)
 omega
theorem BI.push {W Wa W2:World}{B:Nat}{w2:World}{qs bs:List QP}{q:QP}{k:Nat}{x x':Value}(h:BI W B w2 qs k x bs)(hq:∀ q∈qs,OffR q.1)(hs:Zfp (ZaU qs))(ha:qs.Pairwise Zdg)(hk:qs[k]? = some q)(hlt:∀ c∈ZaU bs,c.to<q.1.to)
  (hb:Below W.heap.size W Wa) (hp:Zbl Wa B Wa.heap.size q) (row:W2.ownsRow B 44 6 x' (bs++[q]).length (flat encQ (bs++[q]))) (hg:Wa.grownBy W2 x.ownBlock) (hat:∀ j,x'.ownBlock=some j->x.ownBlock=some j\/Wa.heap.size<=j):BI W2 B w2 qs (k+1) x' (bs++[q]) where
 own:=h.own.push hb hp (fun b hb'=>h.apartR b hb' q (by rw [ZbO hk];simp)) row hg
 new:=fun j hj=>by
  rcases hat j hj with h1 | h1
  ·exact h.new j h1
  ·have:=h.below.size
   have:=hb.size;omega
 best:=by
  rw [Zfv hk,ZaS];exact h.best.push (h.offT hq) (hq q (List.mem_of_getElem? hk)) hlt
 off:=fun b hb'=>by
  rcases List.mem_append.1 hb' with h1 | h1
  ·exact h.off b h1
  ·have:b=q:=by simpa using h1
   subst this;exact hq b (List.mem_of_getElem? hk)
 ord:=fun b hb' r hr=>by
  rcases List.mem_append.1 hb' with h1 | h1
  ·exact h.ord b h1 r (by rw [ZbO hk];exact List.mem_cons_of_mem _ hr)
  ·have:b=q:=by simpa using h1
   subst this;exact Zjc hs hk r hr
 apartR:=fun b hb' r hr=>by
  rcases List.mem_append.1 hb' with h1 | h1
  ·exact h.apartR b h1 r (by rw [ZbO hk];exact List.mem_cons_of_mem _ hr)
  ·have:b=q:=by simpa using h1
   subst this;exact Zjt ha hk r hr
 below:=(h.below.trans (hb.mono h.below.size)).grown hg (Nat.le_trans h.below.size hb.size) h.new
theorem BI.pass {W Wa:World}{B:Nat}{w2:World}{qs b0:List QP}{b q:QP}{k:Nat}{x:Value}(h:BI W B w2 qs k x (b0++[b]))(hq:∀ q∈qs,OffR q.1)(hk:qs[k]? = some q)(ht:b.1.to=q.1.to)(hne:ordQ b.1 q.1≠0)(hb:Below W.heap.size W Wa):BI Wa B w2 qs (k+1) x (b0++[b]) where
 own:=(h.own.below hb (Nat.le_refl _)).wide (Nat.le_refl _) hb.size
 new:=h.new
 best:=by
  rw [Zfv hk,ZaS];have h1:=h.best;rw [ZaS] at h1;exact h1.pass (h.offT hq) (h.off b (by simp)) (hq q (List.mem_of_getElem? hk)) ht (h.worse hq hk ht hne)
 off:=h.off
 ord:=fun c hc r hr=>h.ord c hc r (by rw [ZbO hk];exact List.mem_cons_of_mem _ hr)
 apartR:=fun c hc r hr=>h.apartR c hc r (by rw [ZbO hk];exact List.mem_cons_of_mem _ hr)
 below:=h.below.trans (hb.mono h.below.size)
theorem BI.join {W Wa:World}{B g n cap:Nat}{w2:World}{qs b0:List QP}{b q:QP}{k:Nat}{u:Value}(h:BI W B w2 qs k (.slice (some ⟨g,0,none⟩) n cap) (b0++[b]))(hn:(b0++[b]).length=n)(hq:∀ q∈qs,OffR q.1)(hk:qs[k]? = some q)(he:ordQ b.1 q.1=0)(hB:B<=w2.heap.size)(hqt:∀ r∈qs,∀ j,r.2.ownBlock=some j->j<w2.heap.size)
  (hb:Below W.heap.size W Wa) (hu:Wa.ownsRow W.heap.size 3 1 u (Zck b.1.hops q.1.hops).length (flat intE (Zck b.1.hops q.1.hops))):BI (Wa.setCell ⟨g,b0.length*6+5,none⟩ u) B w2 qs (k+1) (.slice (some ⟨g,0,none⟩) n cap) (b0++[({ b.1 with hops:=Zck b.1.hops q.1.hops },u)]) where
 own:=h.own.last hn hb hu (Nat.le_trans hB h.below.size)
 new:=h.new
 best:=by
  rw [Zfv hk,ZaS];have h1:=h.best;rw [ZaS] at h1;exact h1.join (h.offT hq) (h.off b (by simp)) (hq q (List.mem_of_getElem? hk)) he
 off:=fun c hc=>by
  rcases List.mem_append.1 hc with h1 | h1
  ·exact h.off c (List.mem_append.2 (.inl h1))
  ·have:c=({ b.1 with hops:=Zck b.1.hops q.1.hops },u):=by simpa using h1
   subst this;have hb':=h.off b (by simp)
   have hq':=hq q (List.mem_of_getElem? hk);exact⟨hb'.thing,hb'.kind,hb'.cost,hb'.far,Zgu _ _,fun z hz=>by
    rcases Ze0.1 hz with h2 | h2
    ·exact hb'.hop6 z h2
    ·exact hq'.hop6 z h2,hb'.node⟩
 ord:=fun c hc r hr=>by
  have hr':r∈qs.drop k:=by rw [ZbO hk];exact List.mem_cons_of_mem _ hr
  rcases List.mem_append.1 hc with h1 | h1
  ·exact h.ord c (List.mem_append.2 (.inl h1)) r hr'
  ·have:c=({ b.1 with hops:=Zck b.1.hops q.1.hops },u):=by simpa using h1
   subst this;exact h.ord b (by simp) r hr'
 apartR:=fun c hc r hr=>by
  have hr':r∈qs.drop k:=by rw [ZbO hk];exact List.mem_cons_of_mem _ hr
  rcases List.mem_append.1 hc with h1 | h1
  ·exact h.apartR c (List.mem_append.2 (.inl h1)) r hr'
  ·have:c=({ b.1 with hops:=Zck b.1.hops q.1.hops },u):=by simpa using h1
   subst this;intro j hj e;have h2:=(hu.lt j hj).1;have h3:=hqt r (List.mem_of_mem_drop hr) j e;have:=h.below.size;omega
 below:=(h.below.trans (hb.mono h.below.size)).grown (Zal Wa g _ u) (Nat.le_trans h.below.size hb.size) (fun j hj=>h.new j hj)
theorem ZlR {B n:Nat}{w w1:World}(h:Below B w w1):Below B w (w1.drewN n):=h.trans ⟨rfl,rfl,rfl,Nat.le_refl _,fun _ _=>rfl⟩
def OffL (bs:List QP):Prop:=∀ b∈bs,OffR b.1
theorem Zjs {p q:QP}(h:Zdg p q):Zdg q p:=fun k hk e=>h k e hk
theorem ZkV {a b cs:List RtD}(h:ZcC a cs)(hp:∀ x,x∈a↔x∈b):ZcC b cs:=by
 unfold ZcC at *;exact h.congr (fun to d=>⟨fun ⟨q,h1,h2⟩=>⟨q,(hp q).1 h1,h2⟩,fun ⟨q,h1,h2⟩=>⟨q,(hp q).2 h1,h2⟩⟩)
theorem ZcU {W:World}{base g n cap:Nat}{ps:List QP}{i:Nat}{p:QP}(h:W.ownsRow base 44 6 (.slice (some ⟨g,0,none⟩) n cap) n (flat encQ ps))(hn:ps.length=n)(hp:ps[i]? = some p)(r:Nat)(hr:r<6):W.cell? ⟨g,i*6+r,none⟩=(encQ p)[r]? /\ W.frozen? ⟨g,i*6+r,none⟩=false:=by
 obtain⟨hi,_⟩:=List.getElem?_eq_some_iff.1 hp
 rcases h.2 with ⟨e0,_⟩ | ⟨g',cap',cur,e0,hb,hg,hnn,hm,hs,ht⟩
 ·cases e0
 ·injection e0 with e1 _ e3
  injection e1 with e1
  injection e1 with e1
  subst e1;refine⟨?_,by simp [World.frozen?,hg]⟩
  have h1:=ZdB ZbR ps i r p hp hr;rw [<-ht,List.getElem?_take,if_pos (by omega),Array.getElem?_toList] at h1
  rw [<-h1];simp [World.cell?,hg]
theorem Zn9 {W:World}{base n:Nat}{v:Value}{xs:List Value}(h:W.ownsRow base 44 6 v (n+1) xs):∃ g cap,v=.slice (some ⟨g,0,none⟩) (n+1) cap/\g<W.heap.size:=by
 rcases h.2 with ⟨_,e0⟩ | ⟨g,cap,cur,e0,hb,hg,_⟩
 ·omega
 ·exact ⟨g,cap,e0,Zab hg⟩
theorem Zno (v:Value)(os:List QP)(B:Nat)(w:World)(h:RtsOwn w B w.heap.size v os)(hB:B<=w.heap.size)(hof:∀ q∈os,OffR q.1)(hn:os.length<=1000):
  Calls Tryz.prog 70 #[v] w fun e w'=>∃ x bs,e=.returned x/\ZcC (ZaU os) (ZaU bs)/\OffL bs/\RtsOwn w' B w'.heap.size x bs/\Below B w w':=by
 have HSO:=hide (Zm0 v os B w h.row (fun q hq=>by obtain ⟨a,c,e⟩:=Zac (h.nears q hq).1;exact⟨a,_,c,e⟩) (by omega))
 obtain⟨a1,c1,rfl⟩:=Zac h.row;have HH:=hide h;have HOF:=hide hof;clear h hof
 go_enter Tryz.func70,Tryz.ntmps70
 go_wp2_with fail
 refine HSO.out.mono ?_
 rintro e w2 ⟨rfl,qs,hperm,hsort,hrow2,hg2⟩;have hql:qs.length=os.length:=hperm.length_eq;have hop2:∀ q∈qs,Zbl w2 B w.heap.size q:=fun q hq=>by
  have h1:=HH.out.nears q (hperm.mem_iff.1 hq);exact⟨Zao h1.1 (fun j hj=>hg2.block j (h1.1.lt j hj).2 (ZeF h1 HH.out.row j hj)),h1.2⟩
 have H2:RtsOwn w2 B w2.heap.size (.slice a1 os.length c1) qs:=⟨hrow2,fun k hk=>(hrow2.lt k hk).2,fun q hq=>(hop2 q hq).wide (Nat.le_refl _) hg2.size,(hperm.pairwise_iff Zjs).2 HH.out.apart⟩
 have hof2:∀ q∈qs,OffR q.1:=fun q hq=>HOF.out q (hperm.mem_iff.1 hq)
 have hB2:B<=w2.heap.size:=Nat.le_trans hB hg2.size;have B2:Below B w w2:=(Below.refl B w).grown hg2 hB (fun k hk=>(HH.out.row.lt k hk).1)
 have HFIN:=hide (show ∀ bs,ZcC (ZaU qs) (ZaU bs)->ZcC (ZaU os) (ZaU bs) from fun bs hb=>ZkV hb (fun x=>by unfold ZaU;exact (hperm.map _).mem_iff))
 have HH2:=hide H2;have HO2:=hide hof2;have HS2:=hide hsort;have HB2:=hide B2;have HQT:=hide (show ∀ r∈qs,∀ j,r.2.ownBlock=some j->j<w2.heap.size from fun r hr j hj=>((H2.nears r hr).2 j hj))
 have HQL:=hide hql;have BI0:BI w2 B w2 qs 0 (.slice none 0 0) []:=⟨⟨World.ownsRow_nil _ _ _ _,fun k hk=>by simp [Value.ownBlock] at hk,by simp,by simp⟩,fun j hj=>by simp [Value.ownBlock] at hj,by unfold ZcC;exact Zb2 (fun to d ⟨q,hq,_⟩=>by simp [ZaU] at hq),by simp,by simp,by simp,Below.refl _ _⟩
 have HB0:=hide BI0;rw [<-hql] at hn;clear HSO HH HOF hperm hsort hrow2 hg2 hop2 H2 hof2 B2 BI0;rw [<-hql];clear hql
 go_wp2
 go_loopw [11,3] (fun i o wr=>∃ (k:Nat) (x:Value) (bs:List QP),k<=qs.length/\i=.int .i64 (k:Int)/\o=x/\Hid (BI wr B w2 qs k x bs)) (fun i _ _=>qs.length-(intOf i).toNat)
 case atStart=>exact ⟨0,_,[],by omega,rfl,rfl,HB0⟩
 case round=>
  obtain⟨k,x,bs,hk,rfl,rfl,HBI⟩:=hrel;clear HB0;have hws:=HBI.out.below.size;by_cases hlt:k<qs.length
  ·obtain ⟨q,hq⟩:∃ q,qs[k]? = some q:=⟨qs[k],List.getElem?_eq_getElem hlt⟩
   have hat2:=HH2.out.at;rw [<-HQL.out] at hat2;obtain⟨bb,off,cp,hve,hbb,c0,c1,c2,c3,c4,c5,_⟩:=hat2.cells k q hq;cases hve
   have hqo:=HH2.out.nears q (List.mem_of_getElem? hq);obtain⟨qa,qc,hqn⟩:=Zac hqo.1;rw [hqn] at c5;rw [<-HBI.out.below.cell (p:=⟨bb,off+k*6,none⟩) hbb] at c0;rw [<-HBI.out.below.cell (p:=⟨bb,off+k*6+1,none⟩) hbb] at c1;rw [<-HBI.out.below.cell (p:=⟨bb,off+k*6+2,none⟩) hbb] at c2;rw [<-HBI.out.below.cell (p:=⟨bb,off+k*6+3,none⟩) hbb] at c3;rw [<-HBI.out.below.cell (p:=⟨bb,off+k*6+4,none⟩) hbb] at c4;rw [<-HBI.out.below.cell (p:=⟨bb,off+k*6+5,none⟩) hbb] at c5;have hki:(0:Int)<=(k:Int):=by omega
   have hkj:(k:Int)<(qs.length:Int):=by omega
   have BAL:Below wr.heap.size wr (wr.alloc (.cells #[.bool q.1.thing,.int .i64 q.1.to,.int .i64 q.1.kind,.int .i64 q.1.cost,.int .i64 q.1.far,.slice qa q.1.hops.length qc] 44)):=(Below.refl _ _).alloc (Nat.le_refl _) _;have hxl:=heap_alloc_new wr (.cells #[.bool q.1.thing,.int .i64 q.1.to,.int .i64 q.1.kind,.int .i64 q.1.cost,.int .i64 q.1.far,.slice qa q.1.hops.length qc] 44);have hbt:ZcC (ZaU (qs.take k)) (ZaU bs):=HBI.out.best;have HQ:=hide hq;have HQN:=hide hqn;have HQO:=hide ((hqo.keep (W':=wr) (fun j _ h2 _=>HBI.out.below.block j h2)).wide (Nat.le_refl B) hws)
   have hsl:(wr.alloc (.cells #[.bool q.1.thing,.int .i64 q.1.to,.int .i64 q.1.kind,.int .i64 q.1.cost,.int .i64 q.1.far,.slice qa q.1.hops.length qc] 44)).heap.size=wr.heap.size+1:=by simp
   have HSL:=hide hsl;clear hqo hqn hq hat2 hbt hsl;have hfq:q=(q.1,.slice qa q.1.hops.length qc):=by rw [<-HQN.out]
   have HFQ:=hide hfq;clear hfq
   rcases List.eq_nil_or_concat bs with hbs | ⟨b0,b,hbs0⟩
   ·subst hbs
    obtain⟨xa,xc,rfl⟩:=Zac HBI.out.own.row
    go_wp2
    go_quiet (fail)
    obtain⟨wd,hwd⟩:∃ W,W=(wr.alloc (.cells #[.bool q.1.thing,.int .i64 q.1.to,.int .i64 q.1.kind,.int .i64 q.1.cost,.int .i64 q.1.far,.slice qa q.1.hops.length qc] 44)).drewN nq:=⟨_,rfl⟩;have BD:Below wr.heap.size wr wd:=by rw [hwd];exact ZlR BAL
    have hxd:wd.heap[wr.heap.size]? = some (.cells #[.bool q.1.thing,.int .i64 q.1.to,.int .i64 q.1.kind,.int .i64 q.1.cost,.int .i64 q.1.far,.slice qa q.1.hops.length qc] 44):=by rw [hwd];exact hxl
    have hsd:wd.heap.size=wr.heap.size+1:=by rw [hwd];exact HSL.out
    rw [<-hwd];clear hwd hxl BAL HSL;have e0:=Zaa hxd 0;have e1:=Zaa hxd 1;have e2:=Zaa hxd 2;have e3:=Zaa hxd 3;have e4:=Zaa hxd 4;have e5:=Zaa hxd 5;simp only [List.getElem?_toArray,List.getElem?_cons_succ,List.getElem?_cons_zero] at e0 e1 e2 e3 e4 e5
    have HSD:=hide hsd;have BD2:=hide (BD.alloc (by have:=HSD.out;omega) (.cells (encQ (q.1,.slice qa q.1.hops.length qc)).toArray 44))
    have OW:=hide ((Zaf HBI.out.own.row BD (Nat.le_refl _)).alloc (.cells (encQ (q.1,.slice qa q.1.hops.length qc)).toArray 44));have HBW:=hide (Nat.le_trans (Nat.le_trans hB2 hws) BD.size);have HLT:=hide (show ∀ c∈ZaU ([]:List QP),c.to<q.1.to from fun c hc=>by simp [ZaU] at hc)
    clear hsd hxd BD
    go_wp2_with (first
     | (at_builtin;refine ZaL ZbR (by omega) (by omega) _ rfl _ _ 39 rfl B 44 Tryz.underlying39 (.agg (rtC ZbB (.slice none 0 0))) rfl Tryz.infoRoute _ ([]:List QP) (q.1,.slice qa q.1.hops.length qc) (Zcp _ _ _ _) rfl OW.out ⟨wd.heap.size,0,none⟩ 1 rfl (Zap (cs:=encQ (q.1,.slice qa q.1.hops.length qc))) (by first | (simp;done) | (simp;omega)) (by have:=HBW.out;simp;omega) ?_))
    intro v' w6 hown' hgrow hat;have NBI:=hide (show BI w6 B w2 qs (k+1) v' (([]:List QP)++[(q.1,.slice qa q.1.hops.length qc)]) from HBI.out.push HO2.out HS2.out HH2.out.apart (HFQ.out ▸ HQ.out) HLT.out BD2.out (HFQ.out ▸ ((HQO.out.keep (W':=wd.alloc (.cells (encQ (q.1,.slice qa q.1.hops.length qc)).toArray 44)) (fun j _ h2 _=>BD2.out.block j h2)).wide (Nat.le_refl _) BD2.out.size)) (by simpa using hown') hgrow (fun j hj=>by
     rcases hat with h1 | h1
     ·exact .inl (h1.symm.trans hj)
     ·right
      rw [h1] at hj;simp at hj
      simp
      omega))
    obtain⟨va,vc,rfl⟩:=Zac hown';clear hown' hgrow hat OW BD2 HBI HLT HQO HQ HFQ HQN HSD e0 e1 e2 e3 e4 e5 HBW
    go_wp2
    go_roundw
    case rel=>exact ⟨k+1,_,([]:List QP)++[(q.1,.slice qa q.1.hops.length qc)],by omega,by go_num,rfl,NBI⟩
    case measure=>simp [intOf];omega
   ·have hbs:bs=b0++[b]:=by rw [hbs0,List.concat_eq_append]
    clear hbs0;subst hbs;have hlen1:(b0++[b]).length=b0.length+1:=by simp
    have hrow1:=HBI.out.own.row;rw [hlen1] at hrow1;obtain⟨gx,cx,rfl,hgx⟩:=Zn9 hrow1;have hb0:(b0++[b])[b0.length]? = some b:=by simp
    have hbo:=HBI.out.own.nears b (by simp)
    obtain⟨ba,bc,hbn⟩:=Zac hbo.1;have g0:=ZcU hrow1 hlen1 hb0 0 (by omega)
    have g1:=ZcU hrow1 hlen1 hb0 1 (by omega)
    have g2:=ZcU hrow1 hlen1 hb0 2 (by omega)
    have g3:=ZcU hrow1 hlen1 hb0 3 (by omega)
    have g4:=ZcU hrow1 hlen1 hb0 4 (by omega)
    have g5:=ZcU hrow1 hlen1 hb0 5 (by omega)
    unfold encQ at g0 g1 g2 g3 g4 g5;rw [hbn] at g0 g1 g2 g3 g4 g5;simp only [List.getElem?_cons_succ,List.getElem?_cons_zero] at g0 g1 g2 g3 g4 g5
    have hbl:b0.length+1<=1000:=by
     have h1:=Zeh HBI.out.best.1 (fun d hd=>by
      obtain⟨r,hr,rfl⟩:=List.mem_map.1 hd;obtain⟨c,hc,rfl⟩:=List.mem_map.1 hr;exact (HBI.out.off c hc).node)
     simp [ZaU] at h1
     omega
    have hgl:gx≠wr.heap.size:=by omega
    have HBO:=hide hbo;have HBN:=hide hbn;have HL1:=hide hlen1;have i0:(0:Int)<=(b0.length:Int):=by omega
    have i1:(b0.length:Int)<(b0.length:Int)+1:=by omega
    have l1:=g1.1;rw [<-BAL.cell (p:=⟨gx,b0.length*6+1,none⟩) hgx] at l1;clear hrow1 hb0 hbo hbn hlen1;by_cases ht:b.1.to=q.1.to
    ·have hd:(b.1.to != q.1.to)=false:=by simpa using ht
     have HT:=hide ht;clear ht
     go_wp2
     go_quiet (fail)
     obtain⟨wd,hwd⟩:∃ W,W=(wr.alloc (.cells #[.bool q.1.thing,.int .i64 q.1.to,.int .i64 q.1.kind,.int .i64 q.1.cost,.int .i64 q.1.far,.slice qa q.1.hops.length qc] 44)).drewN nq:=⟨_,rfl⟩;have BD:Below wr.heap.size wr wd:=by rw [hwd];exact ZlR BAL
     have hxd:wd.heap[wr.heap.size]? = some (.cells #[.bool q.1.thing,.int .i64 q.1.to,.int .i64 q.1.kind,.int .i64 q.1.cost,.int .i64 q.1.far,.slice qa q.1.hops.length qc] 44):=by rw [hwd];exact hxl
     have hsd:wd.heap.size=wr.heap.size+1:=by rw [hwd];exact HSL.out
     rw [<-hwd];clear hwd hxl BAL HSL l1;have e0:=Zaa hxd 0;have e1:=Zaa hxd 1;have e2:=Zaa hxd 2;have e3:=Zaa hxd 3;have e4:=Zaa hxd 4;have e5:=Zaa hxd 5;simp only [List.getElem?_toArray,List.getElem?_cons_succ,List.getElem?_cons_zero] at e0 e1 e2 e3 e4 e5
     have d0:=g0.1;have d1:=g1.1;have d2:=g2.1;have d3:=g3.1;have d4:=g4.1;have d5:=g5.1;rw [<-BD.cell (p:=⟨gx,b0.length*6+0,none⟩) hgx] at d0;rw [<-BD.cell (p:=⟨gx,b0.length*6+1,none⟩) hgx] at d1;rw [<-BD.cell (p:=⟨gx,b0.length*6+2,none⟩) hgx] at d2;rw [<-BD.cell (p:=⟨gx,b0.length*6+3,none⟩) hgx] at d3;rw [<-BD.cell (p:=⟨gx,b0.length*6+4,none⟩) hgx] at d4;rw [<-BD.cell (p:=⟨gx,b0.length*6+5,none⟩) hgx] at d5;rw [Nat.add_zero] at d0;have zz0:gx<wd.heap.size:=by omega
     have zz1:wr.heap.size<wd.heap.size:=by omega
     have HSD:=hide hsd;have HBD:=hide BD;have HXD:=hide hxd;have HOR:=hide (fun W=>ZkD b.1 q.1 ba qa b.1.hops.length bc q.1.hops.length qc W)
     unfold rtC at HOR;obtain⟨R,hR⟩:∃ R,R=ordQ b.1 q.1:=⟨_,rfl⟩;rw [<-hR] at HOR;have HR:=hide hR;clear hR hsd BD hxd g0 g1 g2 g3 g4 g5 c0 c1 c2 c3 c4 c5
     go_wp2
     go_region_held3 (fun W=>W.cell? ⟨gx,b0.length*6,none⟩=some (.bool b.1.thing)/\W.cell? ⟨gx,b0.length*6+1,none⟩=some (.int .i64 b.1.to)/\W.cell? ⟨gx,b0.length*6+2,none⟩=some (.int .i64 b.1.kind)/\W.cell? ⟨gx,b0.length*6+3,none⟩=some (.int .i64 b.1.cost)/\W.cell? ⟨gx,b0.length*6+4,none⟩=some (.int .i64 b.1.far)/\W.cell? ⟨gx,b0.length*6+5,none⟩=some (.slice ba b.1.hops.length bc)/\W.cell? ⟨wr.heap.size,0,none⟩=some (.bool q.1.thing)/\W.cell? ⟨wr.heap.size,1,none⟩=some (.int .i64 q.1.to)/\W.cell? ⟨wr.heap.size,2,none⟩=some (.int .i64 q.1.kind)/\W.cell? ⟨wr.heap.size,3,none⟩=some (.int .i64 q.1.cost)/\W.cell? ⟨wr.heap.size,4,none⟩=some (.int .i64 q.1.far)/\W.cell? ⟨wr.heap.size,5,none⟩=some (.slice qa q.1.hops.length qc)) (first | (refine ⟨?_,?_,?_,?_,?_,?_,?_,?_,?_,?_,?_,?_⟩ <;> (rw [b3.cell (by assumption)];assumption)) | go_keep) (first | (go_at_call 101;refine (HOR.out _).mono ?_;rintro e w3 ⟨rfl,b3,h3⟩))
     rename_i hheld
     clear hheld;have B3d:Below wd.heap.size wd w3:=Below.trans (show Below wd.heap.size wd wd.drew from ⟨rfl,rfl,rfl,Nat.le_refl _,fun _ _=>rfl⟩) b3
     have B3:Below wr.heap.size wr w3:=HBD.out.trans (B3d.mono (by omega))
     clear b3 h3 e0 e1 e2 e3 e4 e5 d0 d1 d2 d3 d4 d5 HOR;by_cases hz:R=0
     ·have hd0:(R==0)=true:=by simpa using hz
      have hrow3:=Zaf HBI.out.own.row B3 (Nat.le_refl _);rw [HL1.out] at hrow3;have g5:=ZcU hrow3 HL1.out (show (b0++[b])[b0.length]? = some b by simp) 5 (by omega)
      unfold encQ at g5;rw [HBN.out] at g5;simp only [List.getElem?_cons_succ,List.getElem?_cons_zero] at g5
      obtain⟨g5c,g5f⟩:=g5;have hx3:w3.heap[wr.heap.size]? = some (.cells #[.bool q.1.thing,.int .i64 q.1.to,.int .i64 q.1.kind,.int .i64 q.1.cost,.int .i64 q.1.far,.slice qa q.1.hops.length qc] 44):=(B3d.block _ zz1).trans HXD.out;have e5:=Zaa hx3 5;simp only [List.getElem?_toArray,List.getElem?_cons_succ,List.getElem?_cons_zero] at e5
      have hbo3:=Zaf HBO.out.1 B3 (Nat.le_refl _);have hqo3:=Zaf HQO.out.1 B3 (Nat.le_refl _);rw [HBN.out] at hbo3;rw [HQN.out] at hqo3;have hb6:=ZcE (HBI.out.off b (by simp)).asc (HBI.out.off b (by simp)).hop6
      have hq6:=ZcE (HO2.out q (List.mem_of_getElem? HQ.out)).asc (HO2.out q (List.mem_of_getElem? HQ.out)).hop6;have y0:gx<w3.heap.size:=by have:=B3.size;omega
      have y1:wr.heap.size<w3.heap.size:=Zab hx3;have y2:gx≠wr.heap.size:=by omega
      have HHP:=hide (fun W (hb:Below w3.heap.size w3 W)=>Zhi b.1.hops q.1.hops (.slice ba b.1.hops.length bc) (.slice qa q.1.hops.length qc) B B W (Zaf hbo3 hb (Nat.le_refl _)) (Zaf hqo3 hb (Nat.le_refl _)) (by omega) (by omega))
      have B3D:Below w3.heap.size w3 w3.drew:=⟨rfl,rfl,rfl,Nat.le_refl _,fun _ _=>rfl⟩
      have HZ:=hide hz;clear hrow3 hx3 hbo3 hqo3 hz B3d
      go_wp2
      go_region_with (first | (go_at_call 102;refine (HHP.out _ B3D).mono ?_;rintro e w5 ⟨u,rfl,hu,b5⟩;obtain⟨ua,uc,rfl⟩:=Zac hu;have k5:=b5.cell (p:=⟨gx,b0.length*6+5,none⟩) y0;have k6:=b5.frozen (p:=⟨gx,b0.length*6+5,none⟩) y0))
      all_goals
       have B5:Below wr.heap.size wr w5:=B3.trans ((B3D.trans b5).mono (by omega))
       have NBI:=hide (HBI.out.join HL1.out HO2.out HQ.out (HR.out.symm.trans HZ.out) hB2 HQT.out B5 (Zah hu (show wr.heap.size<=w3.heap.size by omega)))
       clear k5 k6 b5 hu HHP HBI HQ HT HR HSD HBD HXD B3 HQO HFQ HQN HBO HBN HZ B3D B5 HL1
       go_wp2
       go_roundw
       case rel=>exact ⟨k+1,_,_,by omega,by go_num,rfl,NBI⟩
       case measure=>simp [intOf];omega
     ·have hd0:(R==0)=false:=by simpa using hz
      have NBI:=hide (HBI.out.pass HO2.out HQ.out HT.out (fun e=>hz (HR.out.trans e)) B3)
      clear HBI HQ HT HR HSD HBD HXD B3 HQO HFQ HQN HBO HBN HL1 hz
      go_wp2
      go_roundw
      case rel=>exact ⟨k+1,_,b0++[b],by omega,by go_num,rfl,NBI⟩
      case measure=>simp [intOf];omega
    ·have hd:(b.1.to != q.1.to)=true:=by simpa using ht
     have HT:=hide ht;clear ht
     go_wp2
     go_quiet (fail)
     obtain⟨wd,hwd⟩:∃ W,W=(wr.alloc (.cells #[.bool q.1.thing,.int .i64 q.1.to,.int .i64 q.1.kind,.int .i64 q.1.cost,.int .i64 q.1.far,.slice qa q.1.hops.length qc] 44)).drewN nq:=⟨_,rfl⟩;have BD:Below wr.heap.size wr wd:=by rw [hwd];exact ZlR BAL
     have hxd:wd.heap[wr.heap.size]? = some (.cells #[.bool q.1.thing,.int .i64 q.1.to,.int .i64 q.1.kind,.int .i64 q.1.cost,.int .i64 q.1.far,.slice qa q.1.hops.length qc] 44):=by rw [hwd];exact hxl
     have hsd:wd.heap.size=wr.heap.size+1:=by rw [hwd];exact HSL.out
     rw [<-hwd];clear hwd hxl BAL HSL;have e0:=Zaa hxd 0;have e1:=Zaa hxd 1;have e2:=Zaa hxd 2;have e3:=Zaa hxd 3;have e4:=Zaa hxd 4;have e5:=Zaa hxd 5;simp only [List.getElem?_toArray,List.getElem?_cons_succ,List.getElem?_cons_zero] at e0 e1 e2 e3 e4 e5
     have HSD:=hide hsd;have BD2:=hide (BD.alloc (by have:=HSD.out;omega) (.cells (encQ (q.1,.slice qa q.1.hops.length qc)).toArray 44))
     have OW:=hide ((Zaf HBI.out.own.row BD (Nat.le_refl _)).alloc (.cells (encQ (q.1,.slice qa q.1.hops.length qc)).toArray 44));have HBW:=hide (Nat.le_trans (Nat.le_trans hB2 hws) BD.size);have HLT:=hide (show ∀ c∈ZaU (b0++[b]),c.to<q.1.to from HBI.out.lt HO2.out HQ.out HT.out)
     clear hsd hxd BD
     go_wp2_with (first
      | (at_builtin;refine ZaL ZbR (by omega) (by omega) _ rfl _ _ 39 rfl B 44 Tryz.underlying39 (.agg (rtC ZbB (.slice none 0 0))) rfl Tryz.infoRoute _ (b0++[b]) (q.1,.slice qa q.1.hops.length qc) (Zcp _ _ _ _) rfl OW.out ⟨wd.heap.size,0,none⟩ 1 rfl (Zap (cs:=encQ (q.1,.slice qa q.1.hops.length qc))) (by first | (simp;done) | (simp;omega)) (by have:=HBW.out;simp;omega) ?_))
     intro v' w6 hown' hgrow hat;have NBI:=hide (show BI w6 B w2 qs (k+1) v' ((b0++[b])++[(q.1,.slice qa q.1.hops.length qc)]) from HBI.out.push HO2.out HS2.out HH2.out.apart (HFQ.out ▸ HQ.out) HLT.out BD2.out (HFQ.out ▸ ((HQO.out.keep (W':=wd.alloc (.cells (encQ (q.1,.slice qa q.1.hops.length qc)).toArray 44)) (fun j _ h2 _=>BD2.out.block j h2)).wide (Nat.le_refl _) BD2.out.size)) (by simpa using hown') hgrow (fun j hj=>by
      rcases hat with h1 | h1
      ·exact .inl (h1.symm.trans hj)
      ·right
       rw [h1] at hj;simp at hj
       simp
       omega))
     obtain⟨va,vc,rfl⟩:=Zac hown';clear hown' hgrow hat OW BD2 HBI HLT HQO HQ HFQ HQN HSD e0 e1 e2 e3 e4 e5 HBW
     go_wp2
     go_roundw
     case rel=>exact ⟨k+1,_,(b0++[b])++[(q.1,.slice qa q.1.hops.length qc)],by omega,by go_num,rfl,NBI⟩
     case measure=>simp [intOf];omega
  ·have hkn:¬(k:Int)<(qs.length:Int):=by omega
   have HE:=hide (show ZcC (ZaU os) (ZaU bs) from HFIN.out bs (by have h:=HBI.out.best;rw [List.take_of_length_le (by omega)] at h;exact h))
   have HO:=hide HBI.out.own;have HF:=hide (show OffL bs from HBI.out.off)
   have HN:=hide (HB2.out.trans (HBI.out.below.mono hB2));obtain⟨xa,xc,rfl⟩:=Zac HO.out.row;clear HBI
   go_wp2
   go_ret
   first
    | exact ⟨_,bs,rfl,HE.out,HF.out,HO.out,HN.out⟩
    | exact ⟨_,rfl,bs,HE.out,HF.out,HO.out,HN.out⟩
end Go.Proofs.YtgdgkgmjpnbbcaaGreat
