/-
  GMath FoundK FoundI
-/
import Derived.Test.YtgdgkgmjpnbbcaaGreatOn29
import Derived.Test.YtgdgkgmjpnbbcaaGreatOn9
import Derived.Test.YtgdgkgmjpnbbcaaGreatOn30
import Derived.Test.YtgdgkgmjpnbbcaaGreatOn11
namespace Go.Proofs.YtgdgkgmjpnbbcaaGreat

def cOf (bp:Nat->Option Nat)(wd:Nat->WayD)(v:Nat):Int:=match bp v with
 | some k=>(wd k).cost
 | none => -1

def hOf (bp:Nat->Option Nat)(wd:Nat->WayD)(v:Nat):List Int:=match bp v with
 | some k=>(wd k).hops
 | none=>[]

theorem Zco {bp:Nat->Option Nat}{wd:Nat->WayD}{v k:Nat}(h:bp v=some k):cOf bp wd v=(wd k).cost:=by unfold cOf;rw [h]

theorem Zd9 {bp:Nat->Option Nat}{wd:Nat->WayD}{v k:Nat}(h:bp v=some k):hOf bp wd v=(wd k).hops:=by unfold hOf;rw [h]

theorem Zf4 {bp:Nat->Option Nat}{wd:Nat->WayD}{v:Nat}(h:bp v=none):cOf bp wd v = -1:=by unfold cOf;rw [h]

structure GI (F:Nat->Bool) (c:Nat->Int) (h:Nat->List Int) (n:Nat) (q:Nat->Nat) (bp:Nat->Option Nat) (wd:Nat->WayD):Prop where
 cc:∀ v,cOf bp wd v=c v
 hh:∀ v,hOf bp wd v=h v
 to:∀ v k,bp v=some k->(wd k).to=(v:Int)
 ent:∀ i,i<n->∃ v kb:Nat,(wd (q i)).to=(v:Int)/\bp v=some kb/\((q i=kb/\F v=false)\/(wd kb).cost<(wd (q i)).cost)
 live:∀ v k,bp v=some k->F v=false->∃ i,i<n/\q i=k
 inj:∀ i j,i<n->j<n->q i=q j->i=j
 nn:∀ v k,bp v=some k->0<=(wd k).cost

theorem GI.push {F:Nat->Bool}{c:Nat->Int}{h:Nat->List Int}{n:Nat}{q q':Nat->Nat}{bp:Nat->Option Nat}{wd:Nat->WayD}(g:GI F c h n q bp wd){t k:Nat}{x:WayD}(hF:F t=false)(hx:x.to=(t:Int))(hc:c t<0\/x.cost<c t)
  (hk1:∀ i,i<n->q i≠k) (hk2:∀ v,bp v≠some k) (hs:Shuf (fun y=>if y=n then k else q y) q' (n+1)) (hx0:0<=x.cost):GI F (upd c t x.cost) (upd h t x.hops) (n+1) q' (upd bp t (some k)) (upd wd k x):=by
 have wk:∀ i,i<n->upd wd k x (q i)=wd (q i):=fun i hi=>Zaq _ _ (hk1 i hi)
 have wb:∀ v k',bp v=some k'->upd wd k x k'=wd k':=fun v k' e=>Zaq _ _ (fun e2=>hk2 v (by rw [e,e2]))
 have hin:∀ i,i<n+1->q' i=k\/∃ j,j<n/\q' i=q j:=by
  intro i hi;obtain⟨j,hj,e⟩:=hs.into i hi;by_cases e2:j=n
  ·left;rw [e];exact if_pos e2
  ·right
   refine⟨j,by omega,?_⟩
   rw [e];exact if_neg e2
 refine⟨fun v=>?_,fun v=>?_,fun v k' e=>?_,fun i hi=>?_,fun v k' e hFv=>?_,?_,fun v k' e=>?_⟩
 ·by_cases e:v=t
  ·subst e
   rw [Zco (k:=k) (Zav _ _ _),Zav,Zav]
  ·rw [Zaq _ _ e, <-g.cc v]
   unfold cOf;rw [Zaq _ _ e];cases e2:bp v with
   | none=>rfl
   | some k'=>show (upd wd k x k').cost=(wd k').cost;rw [wb v k' e2]
 ·by_cases e:v=t
  ·subst e
   rw [Zd9 (k:=k) (Zav _ _ _),Zav,Zav]
  ·rw [Zaq _ _ e, <-g.hh v]
   unfold hOf;rw [Zaq _ _ e];cases e2:bp v with
   | none=>rfl
   | some k'=>show (upd wd k x k').hops=(wd k').hops;rw [wb v k' e2]
 ·by_cases e2:v=t
  ·subst e2
   rw [Zav] at e;cases e
   rw [Zav];exact hx
  ·rw [Zaq _ _ e2] at e
   rw [wb v k' e];exact g.to v k' e
 ·rcases hin i hi with e | ⟨j,hj,e⟩
  ·refine ⟨t,k,?_,Zav _ _ _,.inl ⟨e,hF⟩⟩
   rw [e,Zav];exact hx
  ·obtain ⟨v,kb,h1,h2,h3⟩:=g.ent j hj
   rw [e,wk j hj];by_cases ev:v=t
   ·subst ev
    refine⟨v,k,h1,Zav _ _ _,.inr ?_⟩
    rw [Zav];have hcv:=g.cc v;rw [Zco h2] at hcv;have h0:=g.nn v kb h2
    rcases h3 with ⟨h4,_⟩ | h4
    ·rw [h4];omega
    ·omega
   ·refine ⟨v,kb,h1,by rw [Zaq _ _ ev];exact h2,?_⟩
    rw [wb v kb h2];exact h3
 ·by_cases e2:v=t
  ·subst e2
   rw [Zav] at e;cases e
   obtain⟨i,hi,e3⟩:=hs.onto n (by omega)
   exact⟨i,hi,by rw [e3];exact if_pos rfl⟩
  ·rw [Zaq _ _ e2] at e
   obtain⟨j,hj,e3⟩:=g.live v k' e hFv;obtain⟨i,hi,e4⟩:=hs.onto j (by omega)
   refine⟨i,hi,?_⟩
   rw [e4, <-e3];exact if_neg (by omega)
 ·refine hs.inj (fun i j hi hj e=>?_)
  by_cases ei:i=n <;> by_cases ej:j=n
  ·omega
  ·have e2:k=q j:=by simpa [ei,ej] using e
   exact absurd e2.symm (hk1 j (by omega))
  ·have e2:q i=k:=by simpa [ei,ej] using e
   exact absurd e2 (hk1 i (by omega))
  ·have e2:q i=q j:=by simpa [ei,ej] using e
   exact g.inj i j (by omega) (by omega) e2
 ·by_cases e2:v=t
  ·subst e2
   rw [Zav] at e;cases e
   rw [Zav];exact hx0
  ·rw [Zaq _ _ e2] at e
   rw [wb v k' e];exact g.nn v k' e

theorem GI.join {F:Nat->Bool}{c:Nat->Int}{h:Nat->List Int}{n:Nat}{q:Nat->Nat}{bp:Nat->Option Nat}{wd:Nat->WayD}(g:GI F c h n q bp wd){t k:Nat}{y:WayD}(hb:bp t=some k)(hc:y.cost=(wd k).cost)(ht:y.to=(wd k).to):GI F c (upd h t y.hops) n q bp (upd wd k y):=by
 have hcost:∀ k',(upd wd k y k').cost=(wd k').cost:=by
  intro k';by_cases e:k'=k
  ·rw [e,Zav];exact hc
  ·rw [Zaq _ _ e]
 have hto:∀ k',(upd wd k y k').to=(wd k').to:=by
  intro k';by_cases e:k'=k
  ·rw [e,Zav];exact ht
  ·rw [Zaq _ _ e]
 refine⟨fun v=>?_,fun v=>?_,fun v k' e=>?_,fun i hi=>?_,g.live,g.inj,fun v k' e=>by rw [hcost];exact g.nn v k' e⟩
 ·rw [<-g.cc v]
  unfold cOf;cases bp v with
  | none=>rfl
  | some k'=>exact hcost k'
 ·by_cases e:v=t
  ·subst e
   rw [Zd9 hb,Zav,Zav]
  ·rw [Zaq _ _ e, <-g.hh v]
   unfold hOf;cases e2:bp v with
   | none=>rfl
   | some k'=>
    show (upd wd k y k').hops=(wd k').hops
    rw [Zaq];intro e3;subst e3;have h1:=g.to v k' e2;have h2:=g.to t k' hb;omega
 ·rw [hto];exact g.to v k' e
 ·obtain ⟨v,kb,h1,h2,h3⟩:=g.ent i hi
  refine⟨v,kb,by rw [hto];exact h1,h2,?_⟩
  rw [hcost,hcost];exact h3

theorem pop_in {q q':Nat->Nat}{n:Nat}(hs:Shuf (Zcf q 0 n) q' n){i:Nat}(hi:i<n):∃ j,0<j/\j<n+1/\q' i=q j:=by
 obtain⟨j,hj,e⟩:=hs.into i hi
 rcases Zb3 q 0 n j with ⟨a,b⟩ | ⟨a,b⟩ | ⟨a,_,b⟩
 ·exact ⟨n,by omega,by omega,e.trans b⟩
 ·omega
 ·exact ⟨j,by omega,by omega,e.trans b⟩

theorem pop_on {q q':Nat->Nat}{n:Nat}(hs:Shuf (Zcf q 0 n) q' n){j:Nat}(h0:0<j)(hj:j<n+1):∃ i,i<n/\q' i=q j:=by
 by_cases e:j=n
 ·obtain ⟨i,hi,e2⟩:=hs.onto 0 (by omega)
  refine⟨i,hi,?_⟩
  rw [e2];unfold Zcf;rw [if_pos rfl,e]
 ·obtain ⟨i,hi,e2⟩:=hs.onto j (by omega)
  refine⟨i,hi,?_⟩
  rw [e2];unfold Zcf;rw [if_neg (by omega),if_neg e]

theorem Zpa {q q':Nat->Nat}{n:Nat}(hs:Shuf (Zcf q 0 n) q' n)(hi:∀ i j,i<n+1->j<n+1->q i=q j->i=j):∀ i j,i<n->j<n->q' i=q' j->i=j:=
 hs.inj (fun i j h1 h2 e=>(Shuf.swap q (n:=n+1) (i:=0) (j:=n) (by omega) (by omega)).inj hi i j (by omega) (by omega) e)

theorem GI.pop {F F':Nat->Bool}{c:Nat->Int}{h:Nat->List Int}{n:Nat}{q q':Nat->Nat}{bp:Nat->Option Nat}{wd:Nat->WayD}(g:GI F c h (n+1) q bp wd)(hs:Shuf (Zcf q 0 n) q' n)
  (hF1:∀ v,F' v=false->F v=false) (hF2:∀ v k,bp v=some k->F' v=false->k≠q 0) (hF3:∀ v,F v=false->F' v=true->bp v=some (q 0)):GI F' c h n q' bp wd:=by
 refine⟨g.cc,g.hh,g.to,fun i hi=>?_,fun v k e hFv=>?_,Zpa hs g.inj,g.nn⟩
 ·obtain ⟨j,h0,hj,e⟩:=pop_in hs hi
  obtain⟨v,kb,h1,h2,h3⟩:=g.ent j hj;rw [e];refine⟨v,kb,h1,h2,?_⟩
  rcases h3 with ⟨h4,h5⟩ | h4
  ·left
   refine⟨h4,?_⟩
   cases e2:F' v with
   | false=>rfl
   | true=>
    have h6:=hF3 v h5 e2;rw [h2] at h6;cases h6
    have:=g.inj j 0 hj (by omega) h4
    omega
  ·exact .inr h4
 ·obtain ⟨j,hj,e2⟩:=g.live v k e (hF1 v hFv)
  have h0:0<j:=by
   by_cases e3:j=0
   ·subst e3;exact absurd e2.symm (hF2 v k e hFv)
   ·omega
  obtain⟨i,hi,e4⟩:=pop_on hs h0 hj;exact⟨i,hi,e4.trans e2⟩
theorem Inv.hops_ne {L:Nat->Nat->Int}{src:Nat}{F:Nat->Bool}{c:Nat->Int}{h:Nat->List Int}(I:Inv L src F c h):∀ (m v:Nat),v≠src->0<=c v->(c v).toNat<=m->h v≠[]
 | m,v,hv,h0,hm=>by
  obtain⟨u,hu,hl,hc⟩:=I.pred v hv h0;have hu0:=(I.fnode u hu).2;by_cases e:u=src
  ·have:(v:Int)∈h v:=(I.hop v hv v).2 ⟨h0,u,hu,hl,hc,.inl ⟨e,rfl⟩⟩
   intro e2;rw [e2] at this;cases this
  ·match m,hm with
   | 0,hm=>omega
   | m+1,hm=>
    have ih:=I.hops_ne m u e hu0 (by omega)
    obtain⟨x,hx⟩:=List.exists_mem_of_ne_nil _ ih;have:x∈h v:=(I.hop v hv x).2 ⟨h0,u,hu,hl,hc,.inr ⟨e,hx⟩⟩;intro e2;rw [e2] at this;cases this

theorem ZeP {l a b:List Int}(hl:l.Pairwise (· < ·))(hm:∀ x,x∈l↔(x∈a\/x∈b))(hr:∀ x,x∈l->1<=x/\x<=6):l=addL a b:=by
 refine ZhJ hl (Zf1 a b) (fun x=>?_)
 rw [Zf3]
 constructor
 ·intro hx
  have:=hr x hx;exact⟨this.1,this.2,(hm x).1 hx⟩
 ·rintro ⟨_,_,h3⟩
  exact (hm x).2 h3

theorem ZdR {P:Nat->Prop}(h:∃ m,P m):∃ m,P m/\∀ k,P k->m<=k:=by
 obtain⟨m,hm⟩:=h
 induction m using Nat.strongRecOn with
 | ind m ih=>
  by_cases e:∃ k,k<m/\P k
  ·obtain ⟨k,hk,hP⟩:=e
   exact ih k hk hP
  ·exact ⟨m,hm,fun k hk=>by
    by_cases e2:k<m
    ·exact absurd ⟨k,e2,hk⟩ e
    ·omega⟩

open Classical in
noncomputable def Zhl (P:Nat->Prop):Nat:=if h:∃ m,P m then Classical.choose (ZdR h) else 0

theorem ZjQ {P:Nat->Prop}(h:∃ m,P m):P (Zhl P):=by
 unfold Zhl;rw [dif_pos h];exact (Classical.choose_spec (ZdR h)).1

theorem Zgw {P:Nat->Prop}{m:Nat}(h:P m):Zhl P<=m:=by
 unfold Zhl;rw [dif_pos ⟨m,h⟩];exact (Classical.choose_spec (ZdR ⟨m,h⟩)).2 m h
end Go.Proofs.YtgdgkgmjpnbbcaaGreat
namespace Go.Proofs.YtgdgkgmjpnbbcaaGreat
open Go.RowKit
set_option linter.unusedSimpArgs false
set_option linter.unusedVariables false
set_option maxRecDepth 100000
set_option maxHeartbeats 8000000
def ptrO:Option Nat->Value
 | some k=>.pointer (some ⟨k,0,none⟩)
 | none=>.pointer none
def finC (bp:Nat->Option Nat)(u:Value):Array Value:=#[ptrO (bp 0),ptrO (bp 1),ptrO (bp 2),ptrO (bp 3),ptrO (bp 4),ptrO (bp 5),ptrO (bp 6),u]
theorem ZoV (bp:Nat->Option Nat)(u:Value){t:Nat}(ht:1<=t/\t<=6):(finC bp u)[t]? = some (ptrO (bp t)):=by
 rcases Zfz ht with rfl | rfl | rfl | rfl | rfl | rfl <;> rfl
theorem Zny (bp:Nat->Option Nat)(u:Value){t:Nat}(ht:1<=t/\t<=6)(k:Nat):(finC bp u).setIfInBounds t (.pointer (some ⟨k,0,none⟩))=finC (upd bp t (some k)) u:=by
 rcases Zfz ht with rfl | rfl | rfl | rfl | rfl | rfl <;> simp [finC,upd,ptrO]
theorem Zgq (bp:Nat->Option Nat)(u u':Value):(finC bp u).setIfInBounds 7 u'=finC bp u':=by simp [finC]
structure FS (W:World) (lo z:Nat) (u:Value) (n:Nat) (q:Nat->Nat) (bp:Nat->Option Nat) (wd:Nat->WayD) (wv:Nat->Value):Prop where
 lz:lo<=z
 hb:HB W lo z (finC bp u) u n q wd wv
 hp:ZcN (fun k=>(wd k).cost) q n
 way:∀ v k,bp v=some k->W.heap[k]? = some (.cells (wayC (wd k) (wv k)) 48)/\lo<=k
 row:∀ v k,bp v=some k->W.ownsRow lo 3 1 (wv k) (wd k).hops.length (flat intE (wd k).hops)
 short:∀ v k,bp v=some k->(wd k).hops.length<=6
 apart:∀ v v' k k',v≠v'->bp v=some k->bp v'=some k'->∀ b,(wv k).ownBlock=some b->(wv k').ownBlock≠some b
 to:∀ v k,bp v=some k->(wd k).to=(v:Int)
 b0:bp 0=none
theorem FS.size {W:World}{lo z n:Nat}{u:Value}{q:Nat->Nat}{bp:Nat->Option Nat}{wd:Nat->WayD}{wv:Nat->Value}(s:FS W lo z u n q bp wd wv):lo<=W.heap.size:=by
 have:=Zab s.hb.box;have:=s.lz;omega
theorem FS.below {W W':World}{lo z n:Nat}{u:Value}{q:Nat->Nat}{bp:Nat->Option Nat}{wd:Nat->WayD}{wv:Nat->Value}(s:FS W lo z u n q bp wd wv)(hb:Below W.heap.size W W'):FS W' lo z u n q bp wd wv:=
 ⟨s.lz,s.hb.below hb,s.hp,fun v k e=>⟨(hb.block _ (Zab (s.way v k e).1)).trans (s.way v k e).1,(s.way v k e).2⟩,fun v k e=>Zaf (s.row v k e) hb (Nat.le_refl _),s.short,s.apart,s.to,s.b0⟩
theorem FS.known {W:World}{lo z n:Nat}{u:Value}{q:Nat->Nat}{bp:Nat->Option Nat}{wd:Nat->WayD}{wv:Nat->Value}(s:FS W lo z u n q bp wd wv){t:Nat}(ht:1<=t/\t<=6):W.cell? ⟨z,t,none⟩=some (ptrO (bp t)):=(Zaa s.hb.box t).trans (ZoV bp u ht)
theorem FS.put {W:World}{lo z n:Nat}{u:Value}{q:Nat->Nat}{bp:Nat->Option Nat}{wd:Nat->WayD}{wv:Nat->Value}(s:FS W lo z u n q bp wd wv){t k:Nat}(ht:1<=t/\t<=6)(x:WayD)(v:Value)
  (hq:∀ i,i<n->q i≠k) (hk:W.heap[k]? = some (.cells (wayC x v) 48)):
  HB (W.setCell ⟨z,t,none⟩ (.pointer (some ⟨k,0,none⟩))) lo z (finC (upd bp t (some k)) u) u n q (upd wd k x) (upd wv k v)/\(W.setCell ⟨z,t,none⟩ (.pointer (some ⟨k,0,none⟩))).heap[k]? = some (.cells (wayC (upd wd k x k) (upd wv k v k)) 48)/\FK W (W.setCell ⟨z,t,none⟩ (.pointer (some ⟨k,0,none⟩))) lo z:=by
 have hkz:∀ (j:Nat) (cs:Array Value),W.heap[j]? = some (.cells cs 48)->(W.setCell ⟨z,t,none⟩ (.pointer (some ⟨k,0,none⟩))).heap[j]? = some (.cells cs 48):=by
  intro j cs hj;rw [heap_setCell_other W ⟨z,t,none⟩ j _ (fun e=>by
   have e':j=z:=e;rw [e',s.hb.box] at hj;simp at hj)]
  exact hj
 refine⟨⟨?_,rfl,?_,fun i hi=>?_,fun i hi=>?_⟩,?_,FK.of_set _ s.lz⟩
 ·have e:=heap_setCell_same W z t _ _ (.pointer (some ⟨k,0,none⟩)) s.hb.box
  rw [Zny bp u ht k] at e;exact e
 ·exact Zao s.hb.hq.row (fun j hj=>heap_setCell_other W ⟨z,t,none⟩ j _ (fun e=>by
   have e':j=z:=e;exact Zan s.hb.hq.row s.hb.box (by decide) (by rw [hj,e'])))
 ·rw [Zaq _ _ (hq i hi),Zaq _ _ (hq i hi)]
  exact hkz _ _ (s.hb.hq.way i hi)
 ·rw [Zaq _ _ (hq i hi)]
  exact s.hb.hq.sl i hi
 ·rw [Zav,Zav]
  exact hkz _ _ hk
theorem FS.pushed {W W2 W':World}{lo z n:Nat}{u u':Value}{q q':Nat->Nat}{bp:Nat->Option Nat}{wd:Nat->WayD}{wv:Nat->Value}(s:FS W lo z u n q bp wd wv){t k:Nat}(ht:1<=t/\t<=6){x:WayD}{v:Value}(hx:x.to=(t:Int))(hxl:x.hops.length<=6)
  (hk:W.heap[k]? = some (.cells (wayC x v) 48)) (hlk:lo<=k) (hbk:∀ v,bp v≠some k) (hrow:W.ownsRow lo 3 1 v x.hops.length (flat intE x.hops)) (hfr:∀ v' k' b,bp v'=some k'->(wv k').ownBlock=some b->v.ownBlock≠some b)
  (f1:FK W W2 lo z) (f2:FK W2 W' lo z) (hb':HB W' lo z (finC (upd bp t (some k)) u') u' (n+1) q' (upd wd k x) (upd wv k v)) (hi:ZcN (fun k'=>(upd wd k x k').cost) q' (n+1)):FS W' lo z u' (n+1) q' (upd bp t (some k)) (upd wd k x) (upd wv k v):=by
 have F:=f1.trans f2;have keepW:∀ (j:Nat) (cs:Array Value),W.heap[j]? = some (.cells cs 48)->W'.heap[j]? = some (.cells cs 48):=by
  intro j cs hj;exact (F.typed j cs _ _ hj (by decide) (fun e=>by rw [e,s.hb.box] at hj;simp at hj)).trans hj
 have keepR:∀ (v:Value) (l:List Int),W.ownsRow lo 3 1 v l.length (flat intE l)->W'.ownsRow lo 3 1 v l.length (flat intE l):=by
  intro v l ho;refine Zao ho (fun j hj=>?_)
  rcases ho.2 with ⟨e1,_⟩ | ⟨g2,cap,cur,e1,_,hh,_⟩
  ·rw [e1] at hj;cases hj
  ·rw [e1] at hj
   simp [Value.ownBlock] at hj
   subst hj;exact F.typed _ _ _ _ hh (by decide) (fun e=>by rw [e,s.hb.box] at hh;simp at hh)
 have wb:∀ v k',bp v=some k'->k'≠k:=fun v k' e e2=>hbk v (by rw [e,e2])
 refine⟨s.lz,hb',hi,fun v' k' e=>?_,fun v' k' e=>?_,fun v' k' e=>?_,fun v1 v2 k1 k2 hne e1 e2 b hb1 hb2=>?_,fun v' k' e=>?_,?_⟩
 ·by_cases e2:v'=t
  ·subst e2;rw [Zav] at e;cases e
   rw [Zav,Zav];exact⟨keepW _ _ hk,hlk⟩
  ·rw [Zaq _ _ e2] at e
   rw [Zaq _ _ (wb v' k' e),Zaq _ _ (wb v' k' e)];exact⟨keepW _ _ (s.way v' k' e).1,(s.way v' k' e).2⟩
 ·by_cases e2:v'=t
  ·subst e2;rw [Zav] at e;cases e
   rw [Zav,Zav];exact keepR _ _ hrow
  ·rw [Zaq _ _ e2] at e
   rw [Zaq _ _ (wb v' k' e),Zaq _ _ (wb v' k' e)];exact keepR _ _ (s.row v' k' e)
 ·by_cases e2:v'=t
  ·subst e2;rw [Zav] at e;cases e
   rw [Zav];exact hxl
  ·rw [Zaq _ _ e2] at e
   rw [Zaq _ _ (wb v' k' e)];exact s.short v' k' e
 ·by_cases a1:v1=t
  ·subst a1;rw [Zav] at e1;cases e1
   rw [Zav] at hb1;rw [Zaq _ _ (fun e=>hne e.symm)] at e2
   rw [Zaq _ _ (wb v2 k2 e2)] at hb2;exact hfr v2 k2 b e2 hb2 hb1
  ·rw [Zaq _ _ a1] at e1
   rw [Zaq _ _ (wb v1 k1 e1)] at hb1;by_cases a2:v2=t
   ·subst a2;rw [Zav] at e2;cases e2
    rw [Zav] at hb2;exact hfr v1 k1 b e1 hb1 hb2
   ·rw [Zaq _ _ a2] at e2
    rw [Zaq _ _ (wb v2 k2 e2)] at hb2;exact s.apart v1 v2 k1 k2 hne e1 e2 b hb1 hb2
 ·by_cases e2:v'=t
  ·subst e2;rw [Zav] at e;cases e
   rw [Zav];exact hx
  ·rw [Zaq _ _ e2] at e
   rw [Zaq _ _ (wb v' k' e)];exact s.to v' k' e
 ·rw [Zaq _ _ (by omega)];exact s.b0
theorem FS.joined {W W2:World}{lo z n:Nat}{u:Value}{q:Nat->Nat}{bp:Nat->Option Nat}{wd:Nat->WayD}{wv:Nat->Value}(s:FS W lo z u n q bp wd wv){t k B:Nat}{y:WayD}{vy:Value}(hbt:bp t=some k)(hc:y.cost=(wd k).cost)(hto:y.to=(wd k).to)(hyl:y.hops.length<=6)
  (hb2:Below W.heap.size W W2) (hB:W.heap.size<=B) (hrow:W2.ownsRow B 3 1 vy y.hops.length (flat intE y.hops)):FS (Za7 W2 k y vy) lo z u n q bp (upd wd k y) (upd wv k vy):=by
 have s2:=s.below hb2;have hk:=(s2.way t k hbt).1;have G:=Za1 W2 k y vy;have hfin:(Za7 W2 k y vy).heap[k]? = some (.cells (wayC y vy) 48):=Zdc y vy (by rw [hk];rfl)
 have hcost:∀ k',(upd wd k y k').cost=(wd k').cost:=by
  intro k';by_cases e:k'=k
  ·rw [e,Zav];exact hc
  ·rw [Zaq _ _ e]
 have hkz:z≠k:=fun e=>by rw [<-e,s2.hb.box] at hk;simp at hk
 have keepR:∀ (b0:Nat) (v:Value) (l:List Int),W2.ownsRow b0 3 1 v l.length (flat intE l)->(Za7 W2 k y vy).ownsRow b0 3 1 v l.length (flat intE l):=by
  intro b0 v l ho;refine Zao ho (fun j hj=>G.block j (ho.lt j hj).2 (fun e=>?_))
  have e':j=k:=by simpa using e
  exact Zan ho hk (by decide) (by rw [hj,e'])
 have hway:∀ k',(∃ x v,W2.heap[k']? = some (.cells (wayC x v) 48)/\x=wd k'/\v=wv k')->(Za7 W2 k y vy).heap[k']? = some (.cells (wayC (upd wd k y k') (upd wv k vy k')) 48):=by
  rintro k' ⟨x,v,h1,rfl,rfl⟩;by_cases e:k'=k
  ·rw [e,Zav,Zav];exact hfin
  ·rw [Zaq _ _ e,Zaq _ _ e,G.block k' (Zab h1) (by simpa using e)];exact h1
 have lowRow:∀ v' k',bp v'=some k'->∀ b,(wv k').ownBlock=some b->b<W.heap.size:=fun v' k' e b hb=>((s.row v' k' e).lt b hb).2
 have newRow:∀ b,vy.ownBlock=some b->W.heap.size<=b:=fun b hb=>by have:=(hrow.lt b hb).1;omega
 refine⟨s.lz,⟨?_,rfl,?_,fun i hi=>?_,fun i hi=>?_⟩,?_,fun v' k' e=>⟨hway k' ⟨_,_,(s2.way v' k' e).1,rfl,rfl⟩,(s.way v' k' e).2⟩,fun v' k' e=>?_,fun v' k' e=>?_,fun v1 v2 k1 k2 hne e1 e2 b hb1 hb2=>?_,fun v' k' e=>?_,s.b0⟩
 ·rw [G.block z (Zab s2.hb.box) (by simpa using hkz)];exact s2.hb.box
 ·refine Zao s2.hb.hq.row (fun j hj=>G.block j (s2.hb.hq.row.lt j hj).2 (fun e=>?_))
  have e':j=k:=by simpa using e
  exact Zan s2.hb.hq.row hk (by decide) (by rw [hj,e'])
 ·exact hway (q i) ⟨_,_,s2.hb.hq.way i hi,rfl,rfl⟩
 ·by_cases e:q i=k
  ·rw [e,Zav]
   obtain⟨a,c,e2⟩:=Zac hrow;exact⟨a,_,c,e2⟩
  ·rw [Zaq _ _ e];exact s.hb.hq.sl i hi
 ·intro i h0 hi
  show (upd wd k y (q (par i))).cost<=(upd wd k y (q i)).cost
  rw [hcost,hcost];exact s.hp i h0 hi
 ·by_cases e2:k'=k
  ·rw [e2,Zav,Zav]
   exact Zah (keepR B vy y.hops hrow) (by have:=s.size;omega)
  ·rw [Zaq _ _ e2,Zaq _ _ e2]
   exact keepR lo _ _ (s2.row v' k' e)
 ·by_cases e2:k'=k
  ·rw [e2,Zav];exact hyl
  ·rw [Zaq _ _ e2];exact s.short v' k' e
 ·by_cases a1:k1=k
  ·have a2:k2≠k:=fun a2=>by
    have h1:=s.to v1 k1 e1;have h2:=s.to v2 k2 e2;rw [a1] at h1;rw [a2] at h2;omega
   rw [a1,Zav] at hb1;rw [Zaq _ _ a2] at hb2;have h1:=newRow b hb1;have h2:=lowRow v2 k2 e2 b hb2;omega
  ·rw [Zaq _ _ a1] at hb1
   by_cases a2:k2=k
   ·rw [a2,Zav] at hb2
    have h1:=newRow b hb2;have h2:=lowRow v1 k1 e1 b hb1;omega
   ·rw [Zaq _ _ a2] at hb2
    exact s.apart v1 v2 k1 k2 hne e1 e2 b hb1 hb2
 ·by_cases e2:k'=k
  ·rw [e2,Zav,hto]
   rw [e2] at e;exact s.to v' k e
  ·rw [Zaq _ _ e2];exact s.to v' k' e
theorem bdrM (n:Nat)(w:World):Below w.heap.size w (w.drewN n):=⟨rfl,rfl,rfl,Nat.le_refl _,fun _ _=>rfl⟩
theorem bdr1 (w:World):Below w.heap.size w w.drew:=⟨rfl,rfl,rfl,Nat.le_refl _,fun _ _=>rfl⟩
def Ziq (W:World)(lo z:Nat)(u:Value)(n:Nat)(q:Nat->Nat)(bp:Nat->Option Nat)(wd:Nat->WayD)(wv:Nat->Value)(t:Nat)(x:WayD)(v:Value)(k:Nat)(W':World):Prop:=
 Below lo W W'/\(((bp t=none\/∃ kn,bp t=some kn/\x.cost<(wd kn).cost)/\∃ u' q',FS W' lo z u' (n+1) q' (upd bp t (some k)) (upd wd k x) (upd wv k v)/\Shuf (fun y=>if y=n then k else q y) q' (n+1))
  \/ (∃ kn vy,bp t=some kn/\¬x.cost<(wd kn).cost/\FS W' lo z u n q bp (upd wd kn (togI (wd kn) x)) (upd wv kn vy)))
theorem ZiM (W:World)(lo z:Nat)(u:Value)(n:Nat)(q:Nat->Nat)(bp:Nat->Option Nat)(wd:Nat->WayD)(wv:Nat->Value)(t:Nat)(x:WayD)(v:Value)(s:FS W lo z u n q bp wd wv)(hn:n<=500)(ht:1<=t/\t<=6)(hx:x.to=(t:Int))(hrow:W.ownsRow lo 3 1 v x.hops.length (flat intE x.hops))(hxl:x.hops.length<=6)
  (hfr:∀ v' k' b,bp v'=some k'->(wv k').ownBlock=some b->v.ownBlock≠some b) (hjl:∀ kn,bp t=some kn->¬x.cost<(wd kn).cost->(togI (wd kn) x).hops.length<=6/\(togI (wd kn) x).cost=(wd kn).cost/\(togI (wd kn) x).to=(wd kn).to):
  Calls Tryz.prog 58 #[.pointer (some ⟨z,0,none⟩),.agg (wayC x v)] W fun e W'=>e=.returned (.tuple #[])/\Ziq W lo z u n q bp wd wv t x v W.heap.size W':=by
 obtain⟨xa,xc,rfl⟩:=Zac hrow;have hlo:=s.size;have BA:Below W.heap.size W (W.alloc (.cells #[.int .i64 (t:Int),.int .i64 x.cost,.slice xa x.hops.length xc] 48)):=(Below.refl _ _).alloc (Nat.le_refl _) _;have hkn:=heap_alloc_new W (.cells #[.int .i64 (t:Int),.int .i64 x.cost,.slice xa x.hops.length xc] 48);obtain⟨W1,hW1⟩:∃ V,V=W.alloc (.cells #[.int .i64 (t:Int),.int .i64 x.cost,.slice xa x.hops.length xc] 48):=⟨_,rfl⟩;rw [<-hW1] at BA hkn;have s1:=s.below BA;have hrow1:=Zaf hrow BA (Nat.le_refl _);have hqk:∀ i,i<n->q i≠W.heap.size:=fun i hi e=>by have:=Zab (s.hb.hq.way i hi);omega
 have hbk:∀ v,bp v≠some W.heap.size:=fun v e=>by have:=Zab (s.way v _ e).1;omega
 have hsz1:=BA.size;obtain⟨P,hP⟩:∃ P,P=Ziq W lo z u n q bp wd wv t x (.slice xa x.hops.length xc) W.heap.size:=⟨_,rfl⟩;rw [<-hP];obtain⟨k,hk⟩:∃ k,k=W.heap.size:=⟨_,rfl⟩;rw [<-hk] at hkn hqk hbk hP;have hlk:lo<=k:=by omega
 have hwc:wayC x (.slice xa x.hops.length xc)=#[.int .i64 (t:Int),.int .i64 x.cost,.slice xa x.hops.length xc]:=by unfold wayC;rw [hx]
 have hknc:W1.heap[k]? = some (.cells (wayC x (.slice xa x.hops.length xc)) 48):=by rw [hwc];exact hkn
 have HPC:=hide (show ∀ W2 W3,Below W1.heap.size W1 W2->Below (W2.setCell ⟨z,t,none⟩ (.pointer (some ⟨k,0,none⟩))).heap.size (W2.setCell ⟨z,t,none⟩ (.pointer (some ⟨k,0,none⟩))) W3->(bp t=none\/∃ kn,bp t=some kn/\x.cost<(wd kn).cost)->Calls Tryz.prog 89 #[.iface 138 (.pointer (some ⟨z,7,none⟩)),.iface 102 (.pointer (some ⟨k,0,none⟩))] W3 fun e W'=>e=.returned (.tuple #[])/\P W' by
  intro W2 W3 b2 b3 hcase;have s2:=s1.below b2;have hk2:=(b2.block _ (Zab hknc)).trans hknc;obtain⟨p1,p2,p3⟩:=s2.put ht x (.slice xa x.hops.length xc) hqk hk2;have hlo3:lo<=W3.heap.size:=by have h1:=b3.size;have h2:=b2.size;simp at h1;omega
  refine (ZiO W3 lo z n _ u q _ _ k (p1.below b3) hlo3 (by omega) rfl s.lz ((b3.block _ (Zab p2)).trans p2) ⟨xa,x.hops.length,xc,Zav _ _ _⟩ ?_).mono ?_
  ·intro i h0 hi
   have h1:=Zdr h0
   show (upd wd k x (q (par i))).cost<=(upd wd k x (q i)).cost
   rw [Zaq _ _ (hqk i hi),Zaq _ _ (hqk _ (by omega))]
   exact s.hp i h0 hi
  ·rintro e W' ⟨u',q',rfl,hi,hsh,hb',f'⟩
   rw [Zgq] at hb';have fs:=s2.pushed ht hx hxl hk2 hlk hbk (Zaf hrow1 b2 (Nat.le_refl _)) hfr (p3.trans (FK.of_below b3 (by have h2:=b2.size;simp;omega))) f' hb' hi
   refine⟨rfl,?_⟩
   rw [hP];exact⟨((BA.mono hlo).trans (b2.mono (by omega))).trans ((p3.trans (FK.of_below b3 (by have h2:=b2.size;simp;omega))).trans f').below,.inl ⟨hcase,u',q',fs,hsh⟩⟩)
 have ka0:=Zaa hkn 0;have ka1:=Zaa hkn 1;have ka2:=Zaa hkn 2;simp at ka0 ka1 ka2
 have kz:=s1.known ht;have lk1:=Zab hkn;have lz1:=Zab s1.hb.box;have fz1:=Zae s1.hb.box;have hti:(0:Int)<=(t:Int):=by omega
 have htj:(t:Int)<7:=by omega
 cases hbt:bp t with
 | none=>
  rw [hbt] at kz;unfold ptrO at kz;have HPC:=hide (fun W2 W3 a b=>HPC.out W2 W3 a b (.inl hbt))
  rw [hwc];clear hbt hP hjl s s1 hrow hrow1 hfr hxl hx hwc hknc hkn
  go_enter Tryz.func58,Tryz.ntmps58
  go_wp2
  rw [<-hW1, <-hk];clear hW1 hk
  go_quiet (fail)
  have B2:=bdrM nq W1;have ka0:(W1.drewN nq).cell? ⟨k,0,none⟩=some (.int .i64 (t:Int)):=ka0;have kz:(W1.drewN nq).cell? ⟨z,t,none⟩=some (.pointer none):=kz;have fz1:∀ j,(W1.drewN nq).frozen? ⟨z,j,none⟩=false:=fz1;generalize W1.drewN nq=W2 at *
  go_wp2
  go_quiet (fail)
  have B3:=B2.trans ((bdrM nq W2).mono B2.size);have ka0:(W2.drewN nq).cell? ⟨k,0,none⟩=some (.int .i64 (t:Int)):=ka0;have kz:(W2.drewN nq).cell? ⟨z,t,none⟩=some (.pointer none):=kz;have fz1:∀ j,(W2.drewN nq).frozen? ⟨z,j,none⟩=false:=fz1;generalize W2.drewN nq=W3 at *;have ft:=fz1 t
  go_wp2
  go_region
  go_wp2_with fail
  refine (HPC.out W3 _ B3 (bdr1 _)).mono ?_
  rintro e w9 ⟨rfl,hPP⟩;have HPP:=hide hPP;clear hPP
  go_wp2
  go_returns
  exact⟨rfl,HPP.out⟩
 | some kn=>
  rw [hbt] at kz;unfold ptrO at kz;obtain⟨y,hy⟩:∃ y,y=wd kn:=⟨_,rfl⟩;have hway1:=(s1.way t kn hbt).1;have hrowk:=s1.row t kn hbt;obtain⟨ya,yc,hyv⟩:=Zac hrowk;rw [hyv, <-hy] at hway1;rw [hyv, <-hy] at hrowk;have hyl:y.hops.length<=6:=by rw [hy];exact s1.short t kn hbt
  have hkl:=(s1.way t kn hbt).2;have ln1:=Zab hway1;have hkk:kn≠k:=fun e=>hbk t (by rw [hbt,e])
  have kb0:=Zaa hway1 0;have kb1:=Zaa hway1 1;have kb2:=Zaa hway1 2;simp [wayC] at kb0 kb1 kb2
  have HBT:=hide (fun W=>Zcl (.slice xa x.hops.length xc) (.slice ya y.hops.length yc) x y W)
  rw [hwc] at HBT;unfold wayC Zbi at HBT;have HTG:=hide (fun V (hb:Below W1.heap.size W1 V)=>Zkp y x (.slice ya y.hops.length yc) (.slice xa x.hops.length xc) lo lo V (Zaf hrowk hb (Nat.le_refl _)) (Zaf hrow1 hb (Nat.le_refl _)) (by omega) (by omega))
  rw [hwc] at HTG;obtain⟨r,hr⟩:∃ r,r=togI y x:=⟨_,rfl⟩;rw [<-hr] at HTG;unfold wayC at HTG;have HJN:=hide (show ¬x.cost<y.cost->∀ W2 V va vc,Below W1.heap.size W1 V->Below V.heap.size V W2->W2.ownsRow V.heap.size 3 1 (.slice va r.hops.length vc) r.hops.length (flat intE r.hops)->P (((W2.setCell ⟨kn,0,none⟩ (.int .i64 r.to)).setCell ⟨kn,1,none⟩ (.int .i64 r.cost)).setCell ⟨kn,2,none⟩ (.slice va r.hops.length vc)) by
   intro hnc W2 V va vc hbV hb2 ho;have hj:=hjl kn hbt (by rw [<-hy];exact hnc)
   rw [<-hy, <-hr] at hj;have hbW2:Below W1.heap.size W1 W2:=hbV.trans (hb2.mono hbV.size);have fs:=s1.joined (y:=r) (vy:=.slice va r.hops.length vc) hbt (by rw [hj.2.1,hy]) (by rw [hj.2.2,hy]) hj.1 hbW2 hbV.size ho
   rw [hP];refine⟨((BA.mono hlo).trans (hbW2.mono (by omega))).trans ⟨rfl,rfl,rfl,by simp,fun j hj'=>by
    have G:=Za1 W2 kn r (.slice va r.hops.length vc);exact G.block j (by have:=hbW2.size;omega) (by simp;omega)⟩,.inr ⟨kn,.slice va r.hops.length vc,hbt,by rw [<-hy];exact hnc,?_⟩⟩
   rw [<-hy, <-hr];exact fs)
  have HPC:=hide (fun (hc:x.cost<y.cost) W2 W3 a b=>HPC.out W2 W3 a b (.inr ⟨kn,hbt,by rw [<-hy];exact hc⟩))
  rw [hwc];have HWY:=hide hway1;clear hbt hP hjl s s1 hrow hrow1 hfr hxl hx hwc hknc hkn hy hr hyv hrowk hway1;have hS1:W1.cell? ⟨k,0,none⟩=some (.int .i64 (t:Int))/\W1.cell? ⟨k,1,none⟩=some (.int .i64 x.cost)/\W1.cell? ⟨k,2,none⟩=some (.slice xa x.hops.length xc)/\W1.cell? ⟨kn,0,none⟩=some (.int .i64 y.to)/\W1.cell? ⟨kn,1,none⟩=some (.int .i64 y.cost)/\W1.cell? ⟨kn,2,none⟩=some (.slice ya y.hops.length yc):=⟨ka0,ka1,ka2,kb0,kb1,kb2⟩;clear ka0 ka1 ka2 kb0 kb1 kb2;have ka0:=hS1.1
  go_enter Tryz.func58,Tryz.ntmps58
  go_wp2
  rw [<-hW1, <-hk];clear hW1 hk
  go_quiet (fail)
  have B2:=bdrM nq W1;have hS2:(W1.drewN nq).cell? ⟨k,0,none⟩=some (.int .i64 (t:Int))/\(W1.drewN nq).cell? ⟨k,1,none⟩=some (.int .i64 x.cost)/\(W1.drewN nq).cell? ⟨k,2,none⟩=some (.slice xa x.hops.length xc)/\(W1.drewN nq).cell? ⟨kn,0,none⟩=some (.int .i64 y.to)/\(W1.drewN nq).cell? ⟨kn,1,none⟩=some (.int .i64 y.cost)/\(W1.drewN nq).cell? ⟨kn,2,none⟩=some (.slice ya y.hops.length yc):=hS1;have kz:(W1.drewN nq).cell? ⟨z,t,none⟩=some (.pointer (some ⟨kn,0,none⟩)):=kz;have fz1:∀ j,(W1.drewN nq).frozen? ⟨z,j,none⟩=false:=fz1;have lk2:k<(W1.drewN nq).heap.size:=lk1;have ln2:kn<(W1.drewN nq).heap.size:=ln1;have lz2:z<(W1.drewN nq).heap.size:=lz1;clear ka0 hS1;generalize W1.drewN nq=W2 at *
  go_wp2
  refine wp_region_noPanic ?_
  have hS0:W2.drew.cell? ⟨k,0,none⟩=some (.int .i64 (t:Int))/\W2.drew.cell? ⟨k,1,none⟩=some (.int .i64 x.cost)/\W2.drew.cell? ⟨k,2,none⟩=some (.slice xa x.hops.length xc)/\W2.drew.cell? ⟨kn,0,none⟩=some (.int .i64 y.to)/\W2.drew.cell? ⟨kn,1,none⟩=some (.int .i64 y.cost)/\W2.drew.cell? ⟨kn,2,none⟩=some (.slice ya y.hops.length yc):=hS2;have lk3:k<W2.drew.heap.size:=lk2;have ln3:kn<W2.drew.heap.size:=ln2;refine Zaj (S:=fun W=>W.cell? ⟨k,0,none⟩=some (.int .i64 (t:Int))/\W.cell? ⟨k,1,none⟩=some (.int .i64 x.cost)/\W.cell? ⟨k,2,none⟩=some (.slice xa x.hops.length xc)/\W.cell? ⟨kn,0,none⟩=some (.int .i64 y.to)/\W.cell? ⟨kn,1,none⟩=some (.int .i64 y.cost)/\W.cell? ⟨kn,2,none⟩=some (.slice ya y.hops.length yc)) (by kernel_rfl) 9 rfl hS0 ?_
  intro ops hops _
  show wpAnyH Tryz.prog .any ops _ _ 9 #[false,false,false,false,false,false,false,false,false] _ W2.drew
  iterate 7
   refine Zat 9 ?_ ?_ ?_ (by rw [hops.out];kernel_rfl) ?_ ?_ (by assumption) ?_
   rotate_left 2
   ·rw [hops.out];simp only [getS,Nat.reduceSub,Nat.reduceAdd];rfl
   ·intro W hW;obtain⟨k1,k2,k3,k4,k5,k6⟩:=hW;go_simp <;> with_reducible rfl
   ·exact fun _ _ _=>id
   try simp only [putS]
  refine Zak 7 (oi:=?_) ?_ (by rw [hops.out];kernel_rfl) ?_ ?_
  rotate_left 1
  ·rw [hops.out];simp only [getS];rfl
  ·rw [hops.out];kernel_rfl
  intro K hK
  go_simp
  refine (HBT.out _).mono ?_
  rintro e w4 ⟨rfl,b4⟩;have hK4:w4.cell? ⟨k,0,none⟩=some (.int .i64 (t:Int))/\w4.cell? ⟨k,1,none⟩=some (.int .i64 x.cost)/\w4.cell? ⟨k,2,none⟩=some (.slice xa x.hops.length xc)/\w4.cell? ⟨kn,0,none⟩=some (.int .i64 y.to)/\w4.cell? ⟨kn,1,none⟩=some (.int .i64 y.cost)/\w4.cell? ⟨kn,2,none⟩=some (.slice ya y.hops.length yc):=by
   refine⟨?_,?_,?_,?_,?_,?_⟩ <;> (rw [b4.cell (by first | exact lk3 | exact ln3)];first | exact hS0.1 | exact hS0.2.1 | exact hS0.2.2.1 | exact hS0.2.2.2.1 | exact hS0.2.2.2.2.1 | exact hS0.2.2.2.2.2)
  refine hK.out _ _ hK4 (fun _=>?_)
  clear hK K
  try simp only [putS]
  refine Za0 8 ?_ ?_ ?_ (by rw [hops.out];kernel_rfl) ?_ ?_ (by assumption) ?_
  rotate_left 2
  ·rw [hops.out];simp only [getS];rfl
  ·intro W hW;obtain⟨k1,k2,k3,k4,k5,k6⟩:=hW;go_simp <;> with_reducible rfl
  ·exact fun _ _ _=>id
  try simp only [putS]
  refine wpAnyH_done (by rw [hops.out];kernel_rfl) ?_ _
  clear hops ops;refine NoPanic.normal ?_
  have B4:Below W1.heap.size W1 w4:=(B2.trans ((bdr1 W2).mono B2.size)).trans (b4.mono B2.size);by_cases hcc:x.cost<y.cost
  ·rw [decide_eq_true hcc]
   have kz4:w4.cell? ⟨z,t,none⟩=some (.pointer (some ⟨kn,0,none⟩)):=(b4.cell lz2).trans kz;have fz4:w4.frozen? ⟨z,t,none⟩=false:=(b4.frozen lz2).trans (fz1 t);have ka4:=hK4.1;have HPC:=hide (HPC.out hcc);clear hK4 hS0 hS2 HJN HTG HBT b4
   go_wp2
   go_region
   go_wp2_with fail
   refine (HPC.out w4 _ B4 (bdr1 _)).mono ?_
   rintro e w9 ⟨rfl,hPP⟩;have HPP:=hide hPP;clear hPP
   go_wp2
   go_returns
   exact⟨rfl,HPP.out⟩
  ·rw [decide_eq_false hcc]
   have HJN:=hide (HJN.out (by omega))
   have hkn4:=(B4.block _ ln1).trans HWY.out;have hB5d:Below W1.heap.size W1 w4.drew:=B4.trans ((bdr1 w4).mono B4.size);have ln5d:kn<w4.drew.heap.size:=Zab hkn4;have hkn5:w4.drew.heap[kn]? = some (.cells (wayC y (.slice ya y.hops.length yc)) 48):=hkn4;unfold wayC at hkn5;clear hS0 hS2 HPC HBT b4 hkn4
   go_wp2
   refine wp_region_noPanic ?_
   refine Zaj (S:=fun _=>True) (by kernel_rfl) 8 rfl trivial ?_
   intro ops hops _;have a0:w4.drew.cell? ⟨k,0,none⟩=some (.int .i64 (t:Int)):=hK4.1;have a1:w4.drew.cell? ⟨k,1,none⟩=some (.int .i64 x.cost):=hK4.2.1;have a2:w4.drew.cell? ⟨k,2,none⟩=some (.slice xa x.hops.length xc):=hK4.2.2.1;have a3:w4.drew.cell? ⟨kn,0,none⟩=some (.int .i64 y.to):=hK4.2.2.2.1;have a4:w4.drew.cell? ⟨kn,1,none⟩=some (.int .i64 y.cost):=hK4.2.2.2.2.1;have a5:w4.drew.cell? ⟨kn,2,none⟩=some (.slice ya y.hops.length yc):=hK4.2.2.2.2.2
   show wpAnyH Tryz.prog .any ops _ (fun _=>True) 8 #[false,false,false,false,false,false,false,false] _ w4.drew
   iterate 3
    refine Zat 8 ?_ ?_ ?_ (by rw [hops.out];kernel_rfl) ?_ ?_ trivial ?_
    rotate_left 2
    ·rw [hops.out];simp only [getS,Nat.reduceSub,Nat.reduceAdd];rfl
    ·intro W _;go_simp <;> with_reducible rfl
    ·exact fun _ _ _=>id
    try simp only [putS]
   refine wpAnyH_ready (rs:=[3,4]) (by rw [hops.out];kernel_rfl) (by simp) ?_
   refine AllReadyH.cons (o:=?_) ?_ (fun K hK=>?_) ?_
   rotate_left 1
   ·rw [hops.out];simp only [getS];rfl
   ·rw [if_pos (by rfl)]
    go_simp
    refine hK.out _ _ trivial (fun _=>?_)
    clear hK K
    try simp only [putS]
    refine wpAnyH_ready (rs:=[4]) (by rw [hops.out];kernel_rfl) (by simp) ?_
    refine AllReadyH.cons (o:=?_) ?_ (fun K hK=>?_) ?_
    rotate_left 1
    ·rw [hops.out];simp only [getS];rfl
    ·rw [if_pos (by rfl)]
     go_simp
     refine hK.out _ _ trivial (fun _=>?_)
     clear hK K
     try simp only [putS]
     refine Zak 5 (oi:=?_) ?_ (by rw [hops.out];kernel_rfl) ?_ ?_
     rotate_left 1
     ·rw [hops.out];simp only [getS];rfl
     ·rw [hops.out];kernel_rfl
     intro K hK
     go_simp
     refine (HTG.out w4.drew hB5d).mono ?_
     rintro e w6 ⟨vy,rfl,hoy,b6⟩;obtain⟨va,vc,rfl⟩:=Zac hoy;refine hK.out _ _ trivial (fun _=>?_)
     clear hK K
     try simp only [putS]
     refine Za0 6 ?_ ?_ ?_ (by rw [hops.out];kernel_rfl) ?_ ?_ trivial ?_
     rotate_left 2
     ·rw [hops.out];simp only [getS];rfl
     ·intro W _;go_simp <;> with_reducible rfl
     ·exact fun _ _ _=>id
     try simp only [putS]
     have hz6:=(b6.block _ ln5d).trans hkn5;have u0:=Zaa hz6 0;have u1:=Zaa hz6 1;have u2:=Zaa hz6 2;simp at u0 u1 u2
     have fu:=Zae hz6;have FIN:=hide (HJN.out w6 w4.drew va vc hB5d b6 hoy);clear hz6 hoy b6;refine Zak 7 (oi:=?_) ?_ (by rw [hops.out];kernel_rfl) ?_ ?_
     rotate_left 1
     ·rw [hops.out];simp only [getS];rfl
     ·rw [hops.out];kernel_rfl
     intro K hK
     go_simp
     refine hK.out _ _ trivial (fun _=>?_)
     clear hK K
     try simp only [putS]
     refine wpAnyH_done (by rw [hops.out];kernel_rfl) ?_ _
     clear hops ops;refine NoPanic.normal ?_
     go_wp2
     go_returns
     exact⟨rfl,FIN.out⟩
    exact AllReadyH.nil
   refine AllReadyH.cons (o:=?_) ?_ (fun K hK=>?_) ?_
   rotate_left 1
   ·rw [hops.out];simp only [getS];rfl
   ·rw [if_pos (by rfl)]
    go_simp
    refine hK.out _ _ trivial (fun _=>?_)
    clear hK K
    try simp only [putS]
    refine wpAnyH_ready (rs:=[3]) (by rw [hops.out];kernel_rfl) (by simp) ?_
    refine AllReadyH.cons (o:=?_) ?_ (fun K hK=>?_) ?_
    rotate_left 1
    ·rw [hops.out];simp only [getS];rfl
    ·rw [if_pos (by rfl)]
     go_simp
     refine hK.out _ _ trivial (fun _=>?_)
     clear hK K
     try simp only [putS]
     refine Zak 5 (oi:=?_) ?_ (by rw [hops.out];kernel_rfl) ?_ ?_
     rotate_left 1
     ·rw [hops.out];simp only [getS];rfl
     ·rw [hops.out];kernel_rfl
     intro K hK
     go_simp
     refine (HTG.out w4.drew hB5d).mono ?_
     rintro e w6 ⟨vy,rfl,hoy,b6⟩;obtain⟨va,vc,rfl⟩:=Zac hoy;refine hK.out _ _ trivial (fun _=>?_)
     clear hK K
     try simp only [putS]
     refine Za0 6 ?_ ?_ ?_ (by rw [hops.out];kernel_rfl) ?_ ?_ trivial ?_
     rotate_left 2
     ·rw [hops.out];simp only [getS];rfl
     ·intro W _;go_simp <;> with_reducible rfl
     ·exact fun _ _ _=>id
     try simp only [putS]
     have hz6:=(b6.block _ ln5d).trans hkn5;have u0:=Zaa hz6 0;have u1:=Zaa hz6 1;have u2:=Zaa hz6 2;simp at u0 u1 u2
     have fu:=Zae hz6;have FIN:=hide (HJN.out w6 w4.drew va vc hB5d b6 hoy);clear hz6 hoy b6;refine Zak 7 (oi:=?_) ?_ (by rw [hops.out];kernel_rfl) ?_ ?_
     rotate_left 1
     ·rw [hops.out];simp only [getS];rfl
     ·rw [hops.out];kernel_rfl
     intro K hK
     go_simp
     refine hK.out _ _ trivial (fun _=>?_)
     clear hK K
     try simp only [putS]
     refine wpAnyH_done (by rw [hops.out];kernel_rfl) ?_ _
     clear hops ops;refine NoPanic.normal ?_
     go_wp2
     go_returns
     exact⟨rfl,FIN.out⟩
    exact AllReadyH.nil
   exact AllReadyH.nil
end Go.Proofs.YtgdgkgmjpnbbcaaGreat
