/-
  Base WMath HeapMath OwnB InB Reg ListKit SumL Meth Flat IntRow IsIn
-/
import Derived.Test.YtadokhjefnkajaaGreatRows
import Derived.Test.YtadokhjefnkajaaGreatIe1
import Derived.WalkKit
import Derived.WalkSpells
import Derived.WalkLawsBesides
import Derived.Deep.RegionHeld3
import Derived.Handy
namespace Go.Proofs.YtadokhjefnkajaaGreat
open Go.RowKit
set_option linter.unusedSimpArgs false
set_option linter.unusedVariables false
set_option maxRecDepth 100000
set_option maxHeartbeats 8000000

end Go.Proofs.YtadokhjefnkajaaGreat
namespace Go.Proofs.YtadokhjefnkajaaGreat

def ZcH (v:Nat):Prop:=1<=v/\v<=6

structure Links (L:Nat->Nat->Int) (K:Int):Prop where
 pos:∀ u v,0<=L u v
 le:∀ u v,L u v<=K
 node:∀ u v,0<L u v->ZcH u/\ZcH v

def Zdd (src:Nat)(h:Nat->List Int)(u v:Nat)(x:Int):Prop:=(u=src/\x=(v:Int))\/(u≠src/\x∈h u)

structure Inv (L:Nat->Nat->Int) (src:Nat) (F:Nat->Bool) (c:Nat->Int) (h:Nat->List Int):Prop where
 fnode:∀ v,F v=true->ZcH v/\0<=c v
 cnode:∀ v,0<=c v->ZcH v
 start:c src=0
 start0:h src=[]
 closed:∀ u v,F u=true->0<L u v->0<=c v/\c v<=c u+L u v
 pred:∀ v,v≠src->0<=c v->∃ u,F u=true/\0<L u v/\c v=c u+L u v
 mono:∀ u v,F u=true->F v=false->0<=c v->c u<=c v
 hop:∀ v,v≠src->∀ x,x∈h v↔0<=c v/\∃ u,F u=true/\0<L u v/\c v=c u+L u v/\Zdd src h u v x
 asc:∀ v,(h v).Pairwise (· < ·)
 rng:∀ v x,x∈h v->1<=x/\x<=6

def ZaA (L:Nat->Nat->Int)(c:Nat->Int)(u v:Nat):Int:=
 if 0<L u v/\(c v<0\/c u+L u v<c v) then c u+L u v else c v

theorem Zi6 {L:Nat->Nat->Int}{c:Nat->Int}{u v:Nat}(h:0<=c v):ZaA L c u v<=c v:=by
 unfold ZaA;split <;> omega

theorem Znt {L:Nat->Nat->Int}{c:Nat->Int}{u v:Nat}(hu:0<=c u)(h:0<=c v):0<=ZaA L c u v:=by
 unfold ZaA;split <;> omega

theorem Zdm {L:Nat->Nat->Int}{c:Nat->Int}{u v:Nat}(h0:0<=c v)(h:c v<=c u):ZaA L c u v=c v:=by
 unfold ZaA;split <;> omega

structure RelaxH (L:Nat->Nat->Int) (src:Nat) (c:Nat->Int) (h:Nat->List Int) (u v:Nat) (h':List Int):Prop where
 asc:h'.Pairwise (· < ·)
 mem:∀ x,x∈h'↔((x∈h v/\ZaA L c u v=c v)\/(0<L u v/\ZaA L c u v=c u+L u v/\Zdd src h u v x))

theorem Inv.step {L:Nat->Nat->Int}{K:Int}{src:Nat}{F:Nat->Bool}{c:Nat->Int}{h:Nat->List Int}(I:Inv L src F c h)(hL:Links L K)
  {u:Nat} (hu:F u=false) (hcu:0<=c u) (hmin:∀ v,F v=false->0<=c v->c u<=c v) {h':Nat->List Int} (hh:∀ v,RelaxH L src c h u v (h' v)):
  Inv L src (fun v=>F v||v==u) (fun v=>ZaA L c u v) h':=by
 have hup:∀ v,F v=true->c v<=c u:=fun v hv=>I.mono v u hv hu hcu
 have keep:∀ v,F v=true->ZaA L c u v=c v:=fun v hv=>Zdm (I.fnode v hv).2 (hup v hv)
 have keepu:ZaA L c u u=c u:=Zdm hcu (Int.le_refl _);have hsrc:ZaA L c u src=0:=by
  have:=I.start;unfold ZaA;split <;> omega
 have hFn:∀ v,F v=true->v≠u:=fun v hv e=>by rw [e,hu] at hv;cases hv
 -- hops of done nodes and of u stay
 have hsame:∀ v,0<=c v->c v<=c u->∀ x,x∈h' v↔x∈h v:=by
  intro v h0 hv x;rw [(hh v).mem x];have e:=Zdm (L:=L) h0 hv
  constructor
  ·rintro (⟨h1,_⟩ | ⟨h1,h2,_⟩)
   ·exact h1
   ·omega
  ·intro h1;exact .inl ⟨h1,e⟩
 have hover:∀ w,(F w=true\/w=u)->∀ v x,Zdd src h' w v x↔Zdd src h w v x:=by
  intro w hw v x;have:∀ x,x∈h' w↔x∈h w:=by
   rcases hw with hw | rfl
   ·exact hsame w (I.fnode w hw).2 (hup w hw)
   ·exact hsame _ hcu (Int.le_refl _)
  unfold Zdd;rw [this x]
 have hFu:∀ v,(F v||v==u)=true↔(F v=true\/v=u):=by
  intro v;simp
 refine⟨?_,?_,hsrc,?_,?_,?_,?_,?_,fun v=>(hh v).asc,?_⟩
 ·intro v hv
  rcases (hFu v).1 hv with h1 | rfl
  ·refine ⟨(I.fnode v h1).1,?_⟩
   show 0<=ZaA L c u v
   rw [keep v h1];exact (I.fnode v h1).2
  ·refine ⟨I.cnode _ hcu,?_⟩
   show 0<=ZaA L c _ _
   rw [keepu];exact hcu
 ·intro v hv
  have hv':0<=ZaA L c u v:=hv;unfold ZaA at hv'
  split at hv'
  ·rename_i h1;exact (hL.node u v h1.1).2
  ·exact I.cnode v hv'
 ·have:∀ x,x ∉ h' src:=by
   intro x hx;rw [(hh src).mem x,I.start0] at hx
   rcases hx with ⟨h1,_⟩ | ⟨h1,h2,_⟩
   ·cases h1
   ·rw [hsrc] at h2;omega
  exact List.eq_nil_iff_forall_not_mem.2 this
 ·intro w v hw hl
  show 0<=ZaA L c u v/\ZaA L c u v<=ZaA L c u w+L w v
  rcases (hFu w).1 hw with h1 | rfl
  ·rw [keep w h1]
   have:=I.closed w v h1 hl;have h2:=Zi6 (L:=L) (u:=u) this.1;have h3:=Znt (L:=L) hcu this.1;omega
  ·rw [keepu]
   unfold ZaA
   split <;> omega
 ·intro v hv h0
  have h0':0<=ZaA L c u v:=h0
  show ∃ w,(F w||w==u)=true/\0<L w v/\ZaA L c u v=ZaA L c u w+L w v
  by_cases h1:0<L u v/\(c v<0\/c u+L u v<c v)
  ·refine ⟨u,by simp,h1.1,?_⟩
   rw [keepu];unfold ZaA;rw [if_pos h1]
  ·have e:ZaA L c u v=c v:=by unfold ZaA;rw [if_neg h1]
   rw [e] at h0' |-;obtain⟨w,hw,hl,hc⟩:=I.pred v hv h0';exact⟨w,by simp [hw],hl,by rw [keep w hw];exact hc⟩
 ·intro w v hw hv h0
  have h0':0<=ZaA L c u v:=h0;have hv1:F v=false:=by cases hfv:F v <;> simp [hfv] at hv |-
  show ZaA L c u w<=ZaA L c u v
  have hwc:ZaA L c u w<=c u:=by
   rcases (hFu w).1 hw with h1 | rfl
   ·rw [keep w h1];exact hup w h1
   ·rw [keepu];omega
  have huv:c u<=ZaA L c u v:=by
   by_cases h1:0<L u v/\(c v<0\/c u+L u v<c v)
   ·unfold ZaA;rw [if_pos h1];omega
   ·have e:ZaA L c u v=c v:=by unfold ZaA;rw [if_neg h1]
    rw [e] at h0' |-;exact hmin v hv1 h0'
  omega
 ·intro v hv x
  show x∈h' v↔0<=ZaA L c u v/\∃ w,(F w||w==u)=true/\0<L w v/\ZaA L c u v=ZaA L c u w+L w v/\Zdd src h' w v x
  rw [(hh v).mem x]
  constructor
  ·rintro (⟨h1,h2⟩ | ⟨h1,h2,h3⟩)
   ·obtain ⟨h0,w,hw,hl,hc,ho⟩:=(I.hop v hv x).1 h1
    rw [h2];exact⟨h0,w,by simp [hw],hl,by rw [keep w hw];exact hc,(hover w (.inl hw) v x).2 ho⟩
   ·refine ⟨by omega,u,by simp,h1,by rw [keepu];exact h2,(hover u (.inr rfl) v x).2 h3⟩
  ·rintro ⟨h0,w,hw,hl,hc,ho⟩
   rcases (hFu w).1 hw with h1 | rfl
   ·rw [keep w h1] at hc
    have hcl:=I.closed w v h1 hl;have h3:=Zi6 (L:=L) (u:=u) hcl.1;have e:ZaA L c u v=c v:=by omega
    refine .inl ⟨(I.hop v hv x).2 ⟨hcl.1,w,h1,hl,by omega,(hover w (.inl h1) v x).1 ho⟩,e⟩
   ·rw [keepu] at hc
    exact .inr ⟨hl,hc,(hover _ (.inr rfl) v x).1 ho⟩
 ·intro v x hx
  rw [(hh v).mem x] at hx
  rcases hx with ⟨h1,_⟩ | ⟨h1,_,h3⟩
  ·exact I.rng v x h1
  ·rcases h3 with ⟨_,rfl⟩ | ⟨_,h4⟩
   ·have:=(hL.node u v h1).2;unfold ZcH at this;omega
   ·exact I.rng u x h4

theorem Zhu:∀ {a b:List Int},a.Pairwise (· < ·)->b.Pairwise (· < ·)->(∀ x,x∈a↔x∈b)->a=b
 | [],[],_,_,_=>rfl
 | [],y::ys,_,_,h=>by have:=(h y).2 (by simp);cases this
 | x::xs,[],_,_,h=>by have:=(h x).1 (by simp);cases this
 | x::xs,y::ys,ha,hb,h=>by
  have ha':=List.pairwise_cons.1 ha;have hb':=List.pairwise_cons.1 hb;have hxy:x=y:=by
   have h1:=(h x).1 (by simp)
   have h2:=(h y).2 (by simp)
   rcases List.mem_cons.1 h1 with e | e
   ·exact e
   ·rcases List.mem_cons.1 h2 with e2 | e2
    ·exact e2.symm
    ·have:=ha'.1 y e2;have:=hb'.1 x e;omega
  subst hxy;have:xs=ys:=by
   refine Zhu ha'.2 hb'.2 (fun z=>?_)
   have hz:=h z
   constructor
   ·intro hm
    have h1:=hz.1 (List.mem_cons_of_mem _ hm)
    rcases List.mem_cons.1 h1 with e | e
    ·have:=ha'.1 z hm;omega
    ·exact e
   ·intro hm
    have h1:=hz.2 (List.mem_cons_of_mem _ hm)
    rcases List.mem_cons.1 h1 with e | e
    ·have:=hb'.1 z hm;omega
    ·exact e
  rw [this]

def Fix (L:Nat->Nat->Int)(src:Nat)(c:Nat->Int)(h:Nat->List Int):Prop:=∃ F,Inv L src F c h/\∀ v,0<=c v->F v=true

theorem Fix.cost_le {L:Nat->Nat->Int}{src:Nat}{c d:Nat->Int}{h g:Nat->List Int}(A:Fix L src c h)(B:Fix L src d g):
  ∀ (n:Nat) (v:Nat),0<=c v->(c v).toNat<=n->0<=d v/\d v<=c v:=by
 obtain⟨F,I,hF⟩:=A;obtain⟨G,J,hG⟩:=B;intro n
 induction n with
 | zero=>
  intro v h0 hn;by_cases hv:v=src
  ·subst hv;rw [J.start];omega
  ·obtain ⟨u,hu,hl,hc⟩:=I.pred v hv h0
   have:=(I.fnode u hu).2;omega
 | succ n ih=>
  intro v h0 hn;by_cases hv:v=src
  ·subst hv;rw [J.start,I.start];omega
  ·obtain ⟨u,hu,hl,hc⟩:=I.pred v hv h0
   have h1:=(I.fnode u hu).2;have h2:=ih u h1 (by omega)
   have h3:=J.closed u v (hG u h2.1) hl;omega

theorem Fix.cost {L:Nat->Nat->Int}{src:Nat}{c d:Nat->Int}{h g:Nat->List Int}(A:Fix L src c h)(B:Fix L src d g)(v:Nat)(h0:0<=c v):d v=c v:=by
 have h1:=A.cost_le B _ v h0 (Nat.le_refl _);have h2:=B.cost_le A _ v h1.1 (Nat.le_refl _);omega

theorem Fix.hops_sub {L:Nat->Nat->Int}{src:Nat}{c d:Nat->Int}{h g:Nat->List Int}(A:Fix L src c h)(B:Fix L src d g):
  ∀ (n:Nat) (v:Nat),0<=c v->(c v).toNat<=n->∀ x,x∈h v->x∈g v:=by
 have hcost:=A.cost B;obtain⟨F,I,hF⟩:=A;obtain⟨G,J,hG⟩:=B;intro n
 induction n with
 | zero=>
  intro v h0 hn x hx;by_cases hv:v=src
  ·subst hv;rw [I.start0] at hx;cases hx
  ·obtain ⟨u,hu,hl,hc⟩:=I.pred v hv h0
   have:=(I.fnode u hu).2;omega
 | succ n ih=>
  intro v h0 hn x hx;by_cases hv:v=src
  ·subst hv;rw [I.start0] at hx;cases hx
  ·obtain ⟨_,u,hu,hl,hc,ho⟩:=(I.hop v hv x).1 hx
   have h1:=(I.fnode u hu).2;have eu:=hcost u h1;have ev:=hcost v h0;refine (J.hop v hv x).2 ⟨by omega,u,hG u (by omega),hl,by omega,?_⟩
   rcases ho with h3 | ⟨h3,h4⟩
   ·exact .inl h3
   ·exact .inr ⟨h3,ih u h1 (by omega) x h4⟩

theorem Fix.hops {L:Nat->Nat->Int}{src:Nat}{c d:Nat->Int}{h g:Nat->List Int}(A:Fix L src c h)(B:Fix L src d g)(v:Nat)(h0:0<=c v):g v=h v:=by
 have e:=A.cost B v h0;have sub1:=A.hops_sub B _ v h0 (Nat.le_refl _);have sub2:=B.hops_sub A _ v (by omega:0<=d v) (Nat.le_refl _)
 obtain⟨F,I,_⟩:=A;obtain⟨G,J,_⟩:=B;exact Zhu (J.asc v) (I.asc v) (fun x=>⟨sub2 x,sub1 x⟩)

theorem Inv.init {L:Nat->Nat->Int}{src:Nat}(hs:ZcH src):Inv L src (fun _=>false) (fun v=>if v=src then 0 else -1) (fun _=>[]):=by
 refine⟨by simp,?_,by simp,rfl,by simp,?_,by simp,?_,by simp,by simp⟩
 ·intro v hv
  have hv':(0:Int)<=if v=src then 0 else -1:=hv
  split at hv'
  ·rename_i e;rw [e];exact hs
  ·omega
 ·intro v hv h0
  have h0':(0:Int)<=if v=src then 0 else -1:=h0
  rw [if_neg hv] at h0';omega
 ·intro v hv x
  simp [hv]
end Go.Proofs.YtadokhjefnkajaaGreat
namespace Go.Proofs.YtadokhjefnkajaaGreat

def par (i:Nat):Nat:=(i-1) / 2

def Zcb (q:Nat->Nat)(i j x:Nat):Nat:=if x=i then q j else if x=j then q i else q x

def ZcG (c:Nat->Int)(q:Nat->Nat)(n:Nat):Prop:=∀ i,0<i->i<n->c (q (par i))<=c (q i)

structure UpInv (c:Nat->Int) (q:Nat->Nat) (n j:Nat):Prop where
 all:∀ i,0<i->i<n->i≠j->c (q (par i))<=c (q i)
 kids:∀ i,0<i->i<n->par i=j->0<j->c (q (par j))<=c (q i)

structure DownInv (c:Nat->Int) (q:Nat->Nat) (n i:Nat):Prop where
 all:∀ k,0<k->k<n->par k≠i->c (q (par k))<=c (q k)
 kids:∀ k,0<k->k<n->par k=i->0<i->c (q (par i))<=c (q k)

theorem Zdb {i:Nat}(h:0<i):par i<i:=by unfold par;omega

theorem ZnW {c:Nat->Int}{q:Nat->Nat}{n j:Nat}(h:UpInv c q n j)(hs:j=0\/¬c (q j)<c (q (par j))):ZcG c q n:=by
 intro i h0 hn;by_cases e:i=j
 ·subst e
  rcases hs with hs | hs
  ·omega
  ·omega
 ·exact h.all i h0 hn e

theorem Zp4 {c:Nat->Int}{q:Nat->Nat}{n j:Nat}(h:UpInv c q n j)(hj:0<j)(hn:j<n)(hlt:c (q j)<c (q (par j))):UpInv c (Zcb q (par j) j) n (par j):=by
 have hp:=Zdb hj;obtain⟨p,hpe⟩:∃ p,p=par j:=⟨_,rfl⟩;rw [<-hpe] at hlt hp |-
 constructor
 ·intro i h0 hi hne
  have hpi:=Zdb h0;unfold Zcb;by_cases e1:i=j
  ·subst e1
   rw [if_neg (by omega:¬i=p),if_pos rfl,if_pos hpe.symm]
   omega
  ·rw [if_neg hne,if_neg e1]
   have h1:=h.all i h0 hi e1;by_cases e2:par i=p
   ·rw [if_pos e2]
    rw [e2] at h1;omega
   ·rw [if_neg e2]
    by_cases e3:par i=j
    ·rw [if_pos e3]
     have:=h.kids i h0 hi e3 hj;rw [<-hpe] at this;exact this
    ·rw [if_neg e3];exact h1
 ·intro i h0 hi hpar hp0
  have hpi:=Zdb h0;have hpp:=Zdb hp0;have hA:=h.all p hp0 (by omega) (by omega)
  unfold Zcb;rw [if_neg (by omega:¬par p=p),if_neg (by omega:¬par p=j)]
  by_cases e1:i=j
  ·rw [if_neg (by omega:¬i=p),if_pos e1];exact hA
  ·rw [if_neg (by omega:¬i=p),if_neg e1]
   have:=h.all i h0 hi e1;rw [hpar] at this;omega

theorem ZeG {c:Nat->Int}{q:Nat->Nat}{n i:Nat}(h:DownInv c q n i)(hs:∀ k,0<k->k<n->par k=i->c (q i)<=c (q k)):ZcG c q n:=by
 intro k h0 hn;by_cases e:par k=i
 ·rw [e];exact hs k h0 hn e
 ·exact h.all k h0 hn e

theorem Zk3 {k i:Nat}(h0:0<k)(h:par k=i):k=2*i+1\/k=2*i+2:=by unfold par at h;omega

theorem ZfZ {c:Nat->Int}{q:Nat->Nat}{n i j:Nat}(h:DownInv c q n i)(hj:0<j)(hn:j<n)(hp:par j=i)(hlt:c (q j)<c (q i))(hmin:∀ k,0<k->k<n->par k=i->c (q j)<=c (q k)):DownInv c (Zcb q i j) n j:=by
 have hij:=Zdb hj;rw [hp] at hij
 constructor
 ·intro k h0 hk hne
  have hpk:=Zdb h0;unfold Zcb;by_cases e1:k=i
  ·subst e1
   rw [if_pos rfl,if_neg (by omega:¬par k=k),if_neg hne]
   exact h.kids j hj hn hp h0
  ·rw [if_neg e1]
   by_cases e2:k=j
   ·subst e2
    rw [if_pos rfl,if_pos hp];omega
   ·rw [if_neg e2]
    by_cases e3:par k=i
    ·rw [if_pos e3];exact hmin k h0 hk e3
    ·rw [if_neg e3,if_neg hne];exact h.all k h0 hk e3
 ·intro k h0 hk hpk hj0
  have hpk2:=Zdb h0;unfold Zcb;rw [hp,if_pos rfl,if_neg (by omega:¬k=i),if_neg (by omega:¬k=j)]
  have:=h.all k h0 hk (by omega)
  rw [hpk] at this;exact this

theorem ZiM {c:Nat->Int}{q:Nat->Nat}{n:Nat}(h:ZcG c q n):∀ (m i:Nat),i<=m->i<n->c (q 0)<=c (q i)
 | 0,i,hm,_=>by rw [show i=0 by omega];exact Int.le_refl _
 | m+1,i,hm,hn=>by
  by_cases e:i=0
  ·rw [e];exact Int.le_refl _
  ·have h1:=h i (by omega) hn
   have h2:=Zdb (i:=i) (by omega)
   have h3:=ZiM h m (par i) (by omega) (by omega)
   omega

structure Shuf (q q':Nat->Nat) (n:Nat):Prop where
 into:∀ i,i<n->∃ j,j<n/\q' i=q j
 onto:∀ j,j<n->∃ i,i<n/\q' i=q j
 inj:(∀ i j,i<n->j<n->q i=q j->i=j)->(∀ i j,i<n->j<n->q' i=q' j->i=j)
 rest:∀ x,n<=x->q' x=q x

theorem Shuf.refl (q:Nat->Nat)(n:Nat):Shuf q q n:=⟨fun i h=>⟨i,h,rfl⟩,fun j h=>⟨j,h,rfl⟩,fun h=>h,fun _ _=>rfl⟩

theorem Shuf.trans {q q' q'':Nat->Nat}{n:Nat}(a:Shuf q q' n)(b:Shuf q' q'' n):Shuf q q'' n:=by
 refine⟨fun i h=>?_,fun j h=>?_,fun h=>b.inj (a.inj h),fun x hx=>(b.rest x hx).trans (a.rest x hx)⟩
 ·obtain ⟨j,hj,e⟩:=b.into i h
  obtain⟨k,hk,e2⟩:=a.into j hj;exact⟨k,hk,e.trans e2⟩
 ·obtain ⟨i,hi,e⟩:=a.onto j h
  obtain⟨k,hk,e2⟩:=b.onto i hi;exact⟨k,hk,e2.trans e⟩

theorem ZbY (q:Nat->Nat)(i j x:Nat):(x=i/\Zcb q i j x=q j)\/(x=j/\Zcb q i j x=q i)\/(x≠i/\x≠j/\Zcb q i j x=q x):=by
 unfold Zcb;by_cases e:x=i
 ·exact .inl ⟨e,if_pos e⟩
 ·rw [if_neg e]
  by_cases e2:x=j
  ·exact .inr (.inl ⟨e2,if_pos e2⟩)
  ·exact .inr (.inr ⟨e,e2,if_neg e2⟩)

theorem Shuf.swap (q:Nat->Nat){n i j:Nat}(hi:i<n)(hj:j<n):Shuf q (Zcb q i j) n:=by
 refine⟨fun x hx=>?_,fun x hx=>?_,fun h x y hx hy e=>?_,fun x hx=>?_⟩
 ·rcases ZbY q i j x with ⟨_,e⟩ | ⟨_,e⟩ | ⟨_,_,e⟩
  ·exact ⟨j,hj,e⟩
  ·exact ⟨i,hi,e⟩
  ·exact ⟨x,hx,e⟩
 ·by_cases e1:x=i
  ·refine ⟨j,hj,?_⟩
   subst e1
   rcases ZbY q x j j with ⟨e2,e⟩ | ⟨_,e⟩ | ⟨_,e2,_⟩
   ·rw [e,e2]
   ·exact e
   ·exact absurd rfl e2
  ·by_cases e3:x=j
   ·refine ⟨i,hi,?_⟩
    subst e3
    rcases ZbY q i x i with ⟨_,e⟩ | ⟨e2,e⟩ | ⟨e2,_,_⟩
    ·exact e
    ·rw [e,e2]
    ·exact absurd rfl e2
   ·refine ⟨x,hx,?_⟩
    unfold Zcb;rw [if_neg e1,if_neg e3]
 ·rcases ZbY q i j x with ⟨a1,a2⟩ | ⟨a1,a2⟩ | ⟨a1,a3,a2⟩ <;> rcases ZbY q i j y with ⟨b1,b2⟩ | ⟨b1,b2⟩ | ⟨b1,b3,b2⟩ <;> rw [a2,b2] at e
  ·omega
  ·have:=h _ _ hj hi e;omega
  ·have:=h _ _ hj hy e;omega
  ·have:=h _ _ hi hj e;omega
  ·omega
  ·have:=h _ _ hi hy e;omega
  ·have:=h _ _ hx hj e;omega
  ·have:=h _ _ hx hi e;omega
  ·exact h _ _ hx hy e
 ·rcases ZbY q i j x with ⟨a1,_⟩ | ⟨a1,_⟩ | ⟨_,_,e⟩
  ·omega
  ·omega
  ·exact e

theorem Shuf.more {q q':Nat->Nat}{n m:Nat}(a:Shuf q q' n)(h:n<=m):Shuf q q' m:=by
 refine⟨fun i hi=>?_,fun j hj=>?_,fun hinj x y hx hy e=>?_,fun x hx=>a.rest x (by omega)⟩
 ·by_cases e:i<n
  ·obtain ⟨j,hj,e2⟩:=a.into i e;exact⟨j,by omega,e2⟩
  ·exact ⟨i,hi,a.rest i (by omega)⟩
 ·by_cases e:j<n
  ·obtain ⟨i,hi,e2⟩:=a.onto j e;exact⟨i,by omega,e2⟩
  ·exact ⟨j,hj,a.rest j (by omega)⟩
 ·by_cases e1:x<n <;> by_cases e2:y<n
  ·exact a.inj (fun i j hi hj=>hinj i j (by omega) (by omega)) x y e1 e2 e
  ·obtain ⟨j,hj,e3⟩:=a.into x e1
   rw [e3,a.rest y (by omega)] at e
   have:=hinj j y (by omega) hy e;omega
  ·obtain ⟨j,hj,e3⟩:=a.into y e2
   rw [e3,a.rest x (by omega)] at e
   have:=hinj x j hx (by omega) e;omega
  ·rw [a.rest x (by omega),a.rest y (by omega)] at e
   exact hinj x y hx hy e

theorem ZpP {c:Nat->Int}{q:Nat->Nat}{n k:Nat}(h:ZcG c q n):UpInv c (fun x=>if x=n then k else q x) (n+1) n:=by
 constructor
 ·intro i h0 hi hne
  have:=Zdb h0;rw [if_neg (by omega:¬par i=n),if_neg hne]
  exact h i h0 (by omega)
 ·intro i h0 hi hp _
  have:=Zdb h0;omega

theorem ZoW {c:Nat->Int}{q:Nat->Nat}{n:Nat}(h:ZcG c q (n+1)):DownInv c (Zcb q 0 n) n 0:=by
 constructor
 ·intro k h0 hk hne
  have:=Zdb h0;unfold Zcb;rw [if_neg hne,if_neg (by omega:¬par k=n),if_neg (by omega:¬k=0),if_neg (by omega:¬k=n)]
  exact h k h0 (by omega)
 ·intro k _ _ _ h0
  omega
end Go.Proofs.YtadokhjefnkajaaGreat
namespace Go.Proofs.YtadokhjefnkajaaGreat
open Go.RowKit
set_option linter.unusedSimpArgs false
set_option linter.unusedVariables false
set_option maxRecDepth 100000
set_option maxHeartbeats 8000000
theorem Zae {w w':World}{base B:Nat}{e:TypeId}{size:Nat}{v:Value}{n:Nat}{xs:List Value}(h:w.ownsRow base e size v n xs)(hb:Below B w w')(hB:w.heap.size<=B):w'.ownsRow base e size v n xs:=by
 refine⟨h.1,?_⟩
 rcases h.2 with h2 | ⟨g,cap,cur,hv,hg,hh,r⟩
 ·exact .inl h2
 ·have hlt:g<w.heap.size:=by
   rcases Nat.lt_or_ge g w.heap.size with hl | hl
   ·exact hl
   ·rw [Array.getElem?_eq_none hl] at hh;cases hh
  exact .inr ⟨g,cap,cur,hv,hg,by rw [hb.block g (by omega)];exact hh,r⟩
theorem ZdZ {w:World}{base:Nat}{e:TypeId}{v:Value}{n:Nat}{xs:List Value}(h:w.ownsRow base e 1 v n xs)(hn:0<n):
  ∃ g cap,v=.slice (some ⟨g,0,none⟩) n cap/\base<=g/\g<w.heap.size:=by
 rcases h.2 with ⟨_,h0⟩ | ⟨g,cap,cur,hv,hb,hg,_⟩
 ·omega
 ·refine ⟨g,cap,hv,hb,?_⟩
  rcases Nat.lt_or_ge g w.heap.size with hlt | hge
  ·exact hlt
  ·rw [Array.getElem?_eq_none hge] at hg;cases hg
theorem Zcs {w:World}{base:Nat}{e:TypeId}{v:Value}{n:Nat}{xs:List Value}(h:w.ownsRow base e 1 v n xs):∃ a cap,v=.slice a n cap:=by
 rcases h.2 with ⟨h1,h0⟩ | ⟨g,cap,cur,hv,_⟩
 ·exact ⟨none,0,by rw [h1,h0]⟩
 ·exact ⟨_,cap,hv⟩
theorem Zac {w:World}{base size:Nat}{e:TypeId}{v:Value}{n:Nat}{xs:List Value}(h:w.ownsRow base e size v n xs):∃ a cap,v=.slice a n cap:=by
 rcases h.2 with ⟨h1,h0⟩ | ⟨g,cap,cur,hv,_⟩
 ·exact ⟨none,0,by rw [h1,h0]⟩
 ·exact ⟨_,cap,hv⟩
theorem Zaj {w:World}{b0 b1 size:Nat}{e:TypeId}{v:Value}{n:Nat}{xs:List Value}(h:w.ownsRow b1 e size v n xs)(hb:b0<=b1):w.ownsRow b0 e size v n xs:=by
 refine⟨h.1,?_⟩
 rcases h.2 with h2 | ⟨g,cap,cur,hv,hg,r⟩
 ·exact .inl h2
 ·exact .inr ⟨g,cap,cur,hv,Nat.le_trans hb hg,r⟩
theorem Zbe {w:World}{base size p j:Nat}{e:TypeId}{v u:Value}{n:Nat}{xs:List Value}(h:w.ownsRow base e size v n xs)(hp:p<base):(w.setCell ⟨p,j,none⟩ u).ownsRow base e size v n xs:=by
 refine⟨h.1,?_⟩
 rcases h.2 with h2 | ⟨g,cap,cur,hv,hg,hh,r⟩
 ·exact .inl h2
 ·exact .inr ⟨g,cap,cur,hv,hg,by rw [heap_setCell_other w ⟨p,j,none⟩ g _ (by show g≠p;omega)];exact hh,r⟩
theorem ZeX {w:World}{b0 b1:Nat}{e:TypeId}{v:Value}{n:Nat}{xs:List Value}(h:w.ownsRow b1 e 1 v n xs)(hb:b0<=b1):w.ownsRow b0 e 1 v n xs:=by
 refine⟨h.1,?_⟩
 rcases h.2 with h2 | ⟨g,cap,cur,hv,hg,r⟩
 ·exact .inl h2
 ·exact .inr ⟨g,cap,cur,hv,Nat.le_trans hb hg,r⟩
theorem Zaa {w:World}{p:Nat}{C:Array Value}{t:TypeId}(h:w.heap[p]? = some (.cells C t (0,0)))(j:Nat):w.cell? ⟨p,j,none⟩=C[j]? := by
 simp [World.cell?,h]
theorem Zaf {w:World}{p:Nat}{C:Array Value}{t:TypeId}(h:w.heap[p]? = some (.cells C t (0,0)))(j:Nat):w.frozen? ⟨p,j,none⟩=false:=by
 simp [World.frozen?,h]
theorem Zaq (w:World)(p j:Nat)(v:Value):w.grownBy (w.setCell ⟨p,j,none⟩ v) (some p):=⟨rfl,rfl,rfl,by simp,fun k _ hk=>heap_setCell_other w ⟨p,j,none⟩ k _ (fun e=>hk (by simp [e]))⟩
theorem Zah {a b c:World}{row:Option Nat}(h:a.grownBy b row)(k:b.grownBy c row):a.grownBy c row:=
 ⟨k.os.trans h.os,k.tape.trans h.tape,k.output.trans h.output,Nat.le_trans h.size k.size,fun i hi hr=>(k.block i (Nat.lt_of_lt_of_le hi h.size) hr).trans (h.block i hi hr)⟩
theorem Zab {w:World}{p:Nat}{o:Obj}(h:w.heap[p]? = some o):p<w.heap.size:=by
 rcases Nat.lt_or_ge p w.heap.size with hl | hl
 ·exact hl
 ·rw [Array.getElem?_eq_none hl] at h;cases h
def inB (x a b:Int):Bool:=decide (a<=x)&&decide (x<=b)
theorem ZbO (x a b:Int)(w:World):Calls Tryz.prog 120 #[.int .i64 x,.int .i64 a,.int .i64 b] w fun e w'=>e=.returned (.bool (inB x a b))/\w=w':=by
 by_cases h1:a<=x <;> by_cases h2:x<=b
 all_goals
  go_enter Tryz.func120,Tryz.ntmps120
  go_wp2
  go_ret
  exact⟨by simp [inB,h1,h2],rfl⟩
end Go.Proofs.YtadokhjefnkajaaGreat
namespace Go.Proofs.YtadokhjefnkajaaGreat
open Go.RowKit

theorem putS:(∀ (a:Act) (v:Value),a.put none v=a)/\(∀ (a:Act) (t:Nat) (v:Value),a.put (some t) v = { a with tmps:=a.tmps.setIfInBounds t v })/\(∀ (l:List Value) (i:Nat) (v:Value),l.toArray.setIfInBounds i v=(l.set i v).toArray)/\(∀ (x v:Value) (l:List Value),(x::l).set 0 v=v::l)/\(∀ (x v:Value) (l:List Value) (n:Nat),(x::l).set (n+1) v=x::l.set n v):=
 ⟨fun _ _=>rfl,fun _ _ _=>rfl,fun _ _ _=>by simp,fun _ _ _=>rfl,fun _ _ _ _=>rfl⟩

theorem getS:(∀ (l:List Oper) (i:Nat),l.toArray[i]? = l[i]?)/\(∀ (x:Oper) (l:List Oper),(x::l)[0]? = some x)/\(∀ (x:Oper) (l:List Oper) (n:Nat),(x::l)[n+1]? = l[n]?):=
 ⟨fun _ _=>by simp,fun _ _=>rfl,fun _ _ _=>rfl⟩

def Zek (ops:Array Oper)(listed:Array Bool)(i:Nat):Bool:=Region.noSelect ops&&Region.free .any ops listed i&&(Region.ready .any ops listed).contains i

theorem ZeQ {ops:Array Oper}{listed:Array Bool}{i:Nat}(h:Zek ops listed i=true):Region.noSelect ops=true/\Region.free .any ops listed i=true/\(Region.ready .any ops listed).contains i=true:=by
 unfold Zek at h;simp only [Bool.and_eq_true] at h
 exact⟨h.1.1,h.1.2,h.2⟩

section
variable {P:Program} {ops:Array Oper} {Q:Exit->Act->World->Prop} {S:World->Prop} {fuel:Nat} {listed:Array Bool} {a:Act} {w:World}

/-- the beginning: the region's operations behind a letter -/
theorem Zag {id:Nat}(hm:P.follows .mixedOrders=true)(n:Nat)(hn:ops.size=n)(hS:S w.drew)(h:∀ ops',Hid (ops'=ops)->S w.drew->wpAnyH P .any ops' Q S n (Array.replicate n false) a w.drew):(Code.region id ops true).wp P Q a w:=by
 refine wp_region_held_drew hm hS (fun hs=>?_)
 rw [hn];exact h ops rfl hs

/-- an operation that isn't wanted -/
theorem ZnI (i:Nat)(d:Tmp)(hi:(ops[i]?).map Oper.dst=some (some d))(ht:Zek ops listed i=true)(hw:(ops[i]?).map (fun o=>Region.wanted o (yielded ops a.tmps))=some false)
  (hQ:∀ c a w,Q (.panic c) (a.put (some d) undef) w->Q (.panic c) a w) (hS:S w) (h:wpAnyH P .any ops Q S fuel (listed.setIfInBounds i true) (a.put (some d) undef) w):wpAnyH P .any ops Q S (fuel+1) listed a w:=by
 obtain⟨h1,h2,h3⟩:=ZeQ ht;cases ho:ops[i]? with
 | none=>rw [ho] at hi;cases hi
 | some oi=>
  rw [ho] at hi hw;simp only [Option.map_some,Option.some.injEq] at hi hw
  refine wpAnyH_take ho h1 h2 h3 (v:=undef) ?_ (Or.inr ⟨hw,rfl⟩) hS ?_
  ·rw [hi];exact hQ
  ·rw [hi];exact h

/-- an operation that yields v in every world that meets S -/
theorem ZaZ (i:Nat){oi:Oper}{v:Value}(hi:ops[i]? = some oi)(ht:Zek ops listed i=true)(hw:Region.wanted oi (yielded ops a.tmps)=true)(hy:∀ w,S w->(execOp a.eval oi).run P w=.ok (.value v) w)
  (hQ:∀ c a w,Q (.panic c) (a.put oi.dst v) w->Q (.panic c) a w) (hS:S w) (h:wpAnyH P .any ops Q S fuel (listed.setIfInBounds i true) (a.put oi.dst v) w):wpAnyH P .any ops Q S (fuel+1) listed a w:=by
 obtain⟨h1,h2,h3⟩:=ZeQ ht;exact wpAnyH_take hi h1 h2 h3 hQ (Or.inl ⟨hw,hy⟩) hS h

/-- a call that alone may come up -/
theorem Zak (i:Nat){oi:Oper}(hi:ops[i]? = some oi)(hr:Region.ready .any ops listed=[i])(hw:Region.wanted oi (yielded ops a.tmps)=true)
  (h:∀ K':Act->World->Prop,Shut (∀ a w,S w->(S w->wpAnyH P .any ops Q S fuel (listed.setIfInBounds i true) a w)->K' a w)->Oper.wp P oi a w K' Q):wpAnyH P .any ops Q S (fuel+1) listed a w:=by
 refine wpAnyH_ready (rs:=[i]) hr (by simp) ?_
 refine AllReadyH.cons hi (fun K hK=>?_) AllReadyH.nil
 rw [if_pos hw];exact h K hK
theorem Zad (i:Nat)(d:Tmp) (hb:((ops[i]?).map Oper.dst==some (some d)&&(Zek ops listed i&&(ops[i]?).map (fun o=>Region.wanted o (yielded ops a.tmps))==some false))=true)
  (hQ:∀ c a w,Q (.panic c) (a.put (some d) undef) w->Q (.panic c) a w) (hS:S w) (h:wpAnyH P .any ops Q S fuel (listed.setIfInBounds i true) (a.put (some d) undef) w):wpAnyH P .any ops Q S (fuel+1) listed a w:=by
 simp only [Bool.and_eq_true,beq_iff_eq] at hb
 exact ZnI i d hb.1 hb.2.1 hb.2.2 hQ hS h

theorem ZaP (i:Nat)(oi:Oper)(v:Value)(hi:ops[i]? = some oi) (hb:(Zek ops listed i&&(ops[i]?).map (fun o=>Region.wanted o (yielded ops a.tmps))==some true)=true) (hy:∀ w,S w->(execOp a.eval oi).run P w=.ok (.value v) w)
  (hQ:∀ c a w,Q (.panic c) (a.put oi.dst v) w->Q (.panic c) a w) (hS:S w) (h:wpAnyH P .any ops Q S fuel (listed.setIfInBounds i true) (a.put oi.dst v) w):wpAnyH P .any ops Q S (fuel+1) listed a w:=by
 simp only [Bool.and_eq_true,beq_iff_eq] at hb
 have h2:=hb.2;rw [hi] at h2;simp only [Option.map_some,Option.some.injEq] at h2
 exact ZaZ i hi hb.1 h2 hy hQ hS h

theorem Zar (n:Nat)(oi:Oper)(v:Value)(hi:ops[n-(fuel+1)]? = some oi) (hb:(Zek ops listed (n-(fuel+1))&&(ops[n-(fuel+1)]?).map (fun o=>Region.wanted o (yielded ops a.tmps))==some true)=true) (hy:∀ w,S w->(execOp a.eval oi).run P w=.ok (.value v) w)
  (hQ:∀ c a w,Q (.panic c) (a.put oi.dst v) w->Q (.panic c) a w) (hS:S w) (h:wpAnyH P .any ops Q S fuel (listed.setIfInBounds (n-(fuel+1)) true) (a.put oi.dst v) w):wpAnyH P .any ops Q S (fuel+1) listed a w:=
 ZaP (n-(fuel+1)) oi v hi hb hy hQ hS h

end
end Go.Proofs.YtadokhjefnkajaaGreat
namespace Go.Proofs.YtadokhjefnkajaaGreat
open Go.RowKit
set_option linter.unusedSimpArgs false
set_option linter.unusedVariables false
set_option maxRecDepth 100000
set_option maxHeartbeats 8000000
def Zb0 {α:Type}(ord:α->α->Int)(ls:List α):Nat->Bool
 | 0=>true
 | k+1=>match ls[k]?,ls[k+1]? with
  | some p,some l=>decide (ord p l<0)
  | _,_=>true
theorem ZbW {α:Type}{ord:α->α->Int}{ls:List α}{j:Nat}{p l:α}(hp:ls[j]? = some p)(hl:ls[j+1]? = some l):Zb0 ord ls (j+1)=decide (ord p l<0):=by
 simp only [Zb0,hp,hl]
def ascB {α:Type}(ord:α->α->Int)(ls:List α):Bool:=(List.range ls.length).all (Zb0 ord ls)
theorem ZaT {n k:Nat}{p:Nat->Bool}(hk:k<n)(h:p k=false):(List.range n).all p=false:=by
 cases e:(List.range n).all p with
 | false=>rfl
 | true=>rw [List.all_eq_true.1 e k (List.mem_range.2 hk)] at h;cases h
theorem Za9 {n:Nat}{p:Nat->Bool}(h:∀ j,j<n->p j=true):(List.range n).all p=true:=List.all_eq_true.2 fun j hj=>h j (List.mem_range.1 hj)
theorem ZaO {k:Nat}{p:Nat->Bool}(h:∀ j,j<k->p j=true)(hk:p k=true):∀ j,j<k+1->p j=true:=fun j hj=>by
 by_cases e:j=k
 ·subst e;exact hk
 ·exact h j (by omega)
def okAt {α:Type}(ok:α->Bool)(ls:List α)(k:Nat):Bool:=match ls[k]? with
 | some l=>ok l
 | none=>true
theorem Zck {α:Type}{ok:α->Bool}{ls:List α}{k:Nat}{l:α}(h:ls[k]? = some l):okAt ok ls k=ok l:=by simp only [okAt,h]
def ZbJ {α:Type}(ok:α->Bool)(ls:List α):Bool:=(List.range ls.length).all (okAt ok ls)
def sumL {α:Type}(ls:List (Value × List α)):Nat:=(ls.map (fun x=>x.2.length)).sum
def ZeN {α:Type}(ls:List (Value × List α)):List α:=(ls.map (fun x=>x.2)).flatten
theorem Zm0 {α:Type}(ls:List (Value × List α)):(ZeN ls).length=sumL ls:=by simp [ZeN,sumL,List.length_flatten,Function.comp_def]
theorem Zjd {α:Type}{ls:List (Value × List α)}{k:Nat}{x:Value × List α}(h:ls[k]? = some x):sumL (ls.take (k+1))=sumL (ls.take k)+x.2.length:=by
 obtain⟨hk,e⟩:=List.getElem?_eq_some_iff.1 h;unfold sumL;rw [List.take_succ_eq_append_getElem hk,e];simp
theorem ZlC {α:Type}{ls:List (Value × List α)}{k:Nat}{x:Value × List α}(h:ls[k]? = some x):ZeN (ls.take (k+1))=ZeN (ls.take k)++x.2:=by
 obtain⟨hk,e⟩:=List.getElem?_eq_some_iff.1 h;unfold ZeN;rw [List.take_succ_eq_append_getElem hk,e];simp
theorem Zh8 {α:Type}(ls:List (Value × List α))(k:Nat):sumL (ls.take k)<=sumL ls:=by
 have:ls=ls.take k++ls.drop k:=(List.take_append_drop k ls).symm;have h2:sumL ls=sumL (ls.take k)+sumL (ls.drop k):=by
  conv=>lhs;rw [this]
  unfold sumL;rw [List.map_append,List.sum_append]
 omega
theorem Zkc {P:Program}{t:TypeId}{p:Addr}{nm:String}{w:World}:(Builtin.ssaWrapNilChk_ #[t] t #[.pointer (some p),strVal "",strVal nm]).run P w=.ok (.pointer (some p)) w:=rfl
theorem ZgO {P:Program}{fuel:Nat}{t elem e2:TypeId}{f:FuncId}{i:TypeInfo}{m:Go.Method}{name:String}{p:Addr}{u:Value}{w:World}(hi:P.info? t=some i)(hm:i.methods.find? (·.name==name)=some m)(hp:m.path=#[])(hf:m.func=some (f,false))
  (hu:P.underlying t=some (.pointer elem)) (hd:P.underlying elem=some (.slice e2)) (hc:w.cell? p=some u):
  (method (fuel+1) t (.pointer (some p)) name).run P w=.ok (f,u) w:=by
 have hagg:(isAgg elem).run P w=.ok false w:=by
  unfold isAgg;simp [run_underlying hd,go_sem]
 unfold method;simp [typeInfo,hi,hm,hp,hf,follow,receiverAt,run_underlying hu,Place.get,Zkc,asAddr,hagg,go_sem,loadVar,hc]
theorem Zcl {P:Program}{fuel:Nat}{t elem e2:TypeId}{f:FuncId}{name:String}{p:Addr}{u:Value}{w:World} (h:(P.info? t).map (fun i=>(i.methods.find? (·.name==name)).map (fun m=>(m.path,m.func)))=some (some (#[],some (f,false))))
  (hu:P.underlying t=some (.pointer elem)) (hd:P.underlying elem=some (.slice e2)) (hc:w.cell? p=some u):
  (method (fuel+1) t (.pointer (some p)) name).run P w=.ok (f,u) w:=by
 obtain⟨i,hi,h1⟩:=Option.map_eq_some_iff.1 h;obtain⟨m,hm,h2⟩:=Option.map_eq_some_iff.1 h1;simp only [Prod.mk.injEq] at h2
 exact ZgO hi hm h2.1 h2.2 hu hd hc
theorem Zez:Tryz.prog.underlying 296=some (.pointer 276):=by kernel_rfl
theorem ZfM:Tryz.prog.underlying 276=some (.slice 273):=by kernel_rfl
theorem ZdC {p:Addr}{u:Value}{w:World}(hc:w.cell? p=some u):(method 463 296 (.pointer (some p)) "Less").run Tryz.prog w=.ok (334,u) w:=
 Zcl (by kernel_rfl) Zez ZfM hc
theorem ZkO {p:Addr}{u:Value}{w:World}(hc:w.cell? p=some u):(method 463 296 (.pointer (some p)) "Len").run Tryz.prog w=.ok (263,u) w:=
 Zcl (by kernel_rfl) Zez ZfM hc
theorem ZdD {p:Addr}{u:Value}{w:World}(hc:w.cell? p=some u):(method 463 296 (.pointer (some p)) "Swap").run Tryz.prog w=.ok (335,u) w:=
 Zcl (by kernel_rfl) Zez ZfM hc
end Go.Proofs.YtadokhjefnkajaaGreat
namespace Go.Proofs.YtadokhjefnkajaaGreat
open Go.RowKit

def flat {α:Type}(enc:α->List Value)(xs:List α):List Value:=xs.flatMap enc

section
variable {α:Type} {enc:α->List Value} {sz:Nat}

theorem ZbB (x:α)(xs:List α):flat enc (x::xs)=enc x++flat enc xs:=rfl

theorem ZaF (h:∀ a,(enc a).length=sz)(xs:List α):(flat enc xs).length=xs.length*sz:=by
 induction xs with
 | nil=>simp [flat]
 | cons x xs ih=>rw [ZbB,List.length_append,h,ih,List.length_cons,Nat.add_mul,Nat.one_mul,Nat.add_comm]

theorem ZcV (h:∀ a,(enc a).length=sz):∀ (xs:List α) (i r:Nat) (x:α),xs[i]? = some x->r<sz->(flat enc xs)[i*sz+r]? = (enc x)[r]?
 | [],i,r,x,hx,_=>by simp at hx
 | y::ys,0,r,x,hx,hr=>by
  simp at hx
  subst hx;rw [ZbB,Nat.zero_mul,Nat.zero_add,List.getElem?_append_left (by rw [h];exact hr)]
 | y::ys,i+1,r,x,hx,hr=>by
  have e:(i+1)*sz+r=sz+(i*sz+r):=by rw [Nat.add_mul,Nat.one_mul];omega
  rw [ZbB,List.getElem?_append_right (by rw [h,e];omega),h,e,Nat.add_sub_cancel_left]
  exact ZcV h ys i r x (by simpa using hx) hr

def setL:List Value->Nat->List Value->List Value
 | xs,_,[]=>xs
 | xs,off,v::vs=>setL (xs.set off v) (off+1) vs

theorem Zev (a b:List Value):∀ (off:Nat) (vs:List Value),setL (a++b) (a.length+off) vs=a++setL b off vs
 | _,[]=>rfl
 | off,v::vs=>by
  unfold setL;rw [List.set_append_right _ _ (by omega),Nat.add_sub_cancel_left]
  exact Zev a (b.set off v) (off+1) vs

theorem Zi9:∀ (vs b c:List Value),b.length=vs.length->setL (b++c) 0 vs=vs++c
 | [],b,c,h=>by
  have:b=[]:=List.length_eq_zero_iff.1 (by simpa using h)
  subst this
  rfl
 | v::vs,[],c,h=>by simp at h
 | v::vs,x::b,c,h=>by
  have h2:setL ([v]++(b++c)) ([v].length+0) vs=[v]++setL (b++c) 0 vs:=Zev [v] (b++c) 0 vs;unfold setL;simp only [List.cons_append,List.set_cons_zero]
  simp only [List.cons_append,List.nil_append,List.length_cons,List.length_nil,Nat.add_zero] at h2
  rw [Nat.zero_add,h2,Zi9 vs b c (by simpa using h)]

theorem Zcr (h:∀ a,(enc a).length=sz):∀ (xs:List α) (k:Nat) (x:α),k<xs.length->setL (flat enc xs) (k*sz) (enc x)=flat enc (xs.set k x)
 | [],k,x,hk=>by simp at hk
 | y::ys,0,x,_=>by
  rw [Nat.zero_mul,ZbB,Zi9 _ _ _ (by rw [h,h]),List.set_cons_zero,ZbB]
 | y::ys,k+1,x,hk=>by
  have e:(k+1)*sz=(enc y).length+k*sz:=by rw [h,Nat.add_mul,Nat.one_mul,Nat.add_comm]
  rw [ZbB,e,Zev,Zcr h ys k x (by simpa using hk),List.set_cons_succ,ZbB]
end

theorem Zm6 {α:Type}{enc:α->List Value}{sz:Nat}(h:∀ a,(enc a).length=sz)(z:Array Value)(x:α)(hz:z.toList=enc x)(hs:0<sz)(n:Nat):(madeCells z (n*sz)).toList=flat enc (List.replicate n x):=by
 have hzs:z.size=sz:=by rw [<-Array.length_toList,hz,h]
 apply List.ext_getElem?
 intro j;by_cases hj:j<n*sz
 ·have e:j=j / sz*sz+j%sz:=by rw [Nat.mul_comm];exact (Nat.div_add_mod j sz).symm
  have hd:j / sz<n:=Nat.div_lt_of_lt_mul (by rw [Nat.mul_comm];exact hj)
  have hm:j%sz<sz:=Nat.mod_lt _ hs;have g:=ZcV h (List.replicate n x) (j / sz) (j%sz) x (by simp [hd]) hm
  rw [<-e] at g;rw [g];have hm2:j%sz<z.size:=by rw [hzs];exact hm
  have e2:(enc x)[j%sz]? = some z[j%sz]:=by
   rw [<-hz];simp [hm2]
  rw [e2];simp [madeCells,hj,hzs,getElem!_pos z (j%sz) hm2]
 ·rw [List.getElem?_eq_none (by simp [size_madeCells];omega),List.getElem?_eq_none (by rw [ZaF h];simp;omega)]

def ZaE (W:World)(v:Value)(n sz:Nat)(f:Nat->Value)(B:Nat):Prop:=
 ∃ a cap,v=.slice a n cap/\(n=0\/∃ b off,a=some ⟨b,off,none⟩/\b<B/\∀ j,j<n*sz->W.cell? ⟨b,off+j,none⟩=some (f j))

theorem ZaE.later {W W':World}{v:Value}{n sz:Nat}{f:Nat->Value}{B C:Nat}(h:ZaE W v n sz f B)(hb:Below C W W')(hBC:B<=C):ZaE W' v n sz f B:=by
 obtain⟨a,cap,hv,h2⟩:=h;refine⟨a,cap,hv,?_⟩
 rcases h2 with h0 | ⟨b,off,ha,hb1,hx⟩
 ·exact .inl h0
 ·exact .inr ⟨b,off,ha,hb1,fun j hj=>by rw [hb.cell (p:=⟨b,off+j,none⟩) (by show b<C;omega)];exact hx j hj⟩

theorem ZaE.more {W:World}{v:Value}{n sz:Nat}{f:Nat->Value}{B C:Nat}(h:ZaE W v n sz f B)(hBC:B<=C):ZaE W v n sz f C:=by
 obtain⟨a,cap,hv,h2⟩:=h;refine⟨a,cap,hv,?_⟩
 rcases h2 with h0 | ⟨b,off,ha,hb1,hx⟩
 ·exact .inl h0
 ·exact .inr ⟨b,off,ha,by omega,hx⟩

theorem ZaE.then {W W':World}{v:Value}{n sz:Nat}{f:Nat->Value}(h:ZaE W v n sz f W.heap.size)(hb:Below W.heap.size W W'):ZaE W' v n sz f W'.heap.size:=(h.later hb (Nat.le_refl _)).more hb.size

def ZaN {α:Type}(enc:α->List Value)(sz:Nat)(W:World)(v:Value)(xs:List α)(B:Nat):Prop:=ZaE W v xs.length sz (fun j=>(flat enc xs).getD j undef) B

section
variable {α:Type} {enc:α->List Value} {sz:Nat}

theorem ZaN.cell {W:World}{v:Value}{xs:List α}{B:Nat}(h:ZaN enc sz W v xs B)(hs:∀ a,(enc a).length=sz)(i:Nat)(x:α)(hx:xs[i]? = some x):
  ∃ b off cap,v=.slice (some ⟨b,off,none⟩) xs.length cap/\b<B/\∀ r u,(enc x)[r]? = some u->W.cell? ⟨b,off+i*sz+r,none⟩=some u:=by
 have hi:i<xs.length:=(List.getElem?_eq_some_iff.1 hx).1;obtain⟨a,cap,hv,h2⟩:=h
 rcases h2 with h0 | ⟨b,off,ha,hb,hc⟩
 ·omega
 ·refine ⟨b,off,cap,by rw [hv,ha],hb,fun r u hu=>?_⟩
  have hr:r<sz:=by have:=(List.getElem?_eq_some_iff.1 hu).1;rw [hs] at this;exact this
  have hg:=ZcV hs xs i r x hx hr;have hlt:i*sz+r<xs.length*sz:=by
   have:(i+1)*sz<=xs.length*sz:=Nat.mul_le_mul_right _ hi;rw [Nat.add_mul,Nat.one_mul] at this;omega
  rw [Nat.add_assoc,hc _ hlt];simp only [List.getD_eq_getElem?_getD,hg,hu]
  rfl

theorem Zap {W:World}{base:Nat}{e:TypeId}{v:Value}{xs:List α}(h:W.ownsRow base e sz v xs.length (flat enc xs)):ZaN enc sz W v xs W.heap.size:=by
 rcases h.2 with ⟨hv,h0⟩ | ⟨g,cap,cur,hv,hg,hh,hnc,hcm,hcs,htk⟩
 ·exact ⟨none,0,by rw [hv,h0],.inl h0⟩
 ·have hlt:g<W.heap.size:=by
   rcases Nat.lt_or_ge g W.heap.size with hl | hl
   ·exact hl
   ·rw [Array.getElem?_eq_none hl] at hh;cases hh
  refine⟨_,cap,hv,.inr ⟨g,0,rfl,hlt,fun j hj=>?_⟩⟩
  rw [Nat.zero_add];simp only [World.cell?,hh]
  have hj2:j<cur.size:=by
   have:xs.length*sz<=cap*sz:=Nat.mul_le_mul_right _ hnc;omega
  have e1:(flat enc xs)[j]? = cur.toList[j]? := by rw [<-htk,List.getElem?_take_of_lt hj]
  simp [List.getD,e1,hj2]
end
end Go.Proofs.YtadokhjefnkajaaGreat
namespace Go.Proofs.YtadokhjefnkajaaGreat
open Go.RowKit
set_option linter.unusedSimpArgs false
set_option linter.unusedVariables false
set_option maxRecDepth 100000
set_option maxHeartbeats 8000000
def Za5 (l:List Int):List Value:=l.map fun z=>Value.int .i64 z
theorem ZhT (a b:List Int):Za5 (a++b)=Za5 a++Za5 b:=by simp [Za5]
theorem Tryz.info3:(Tryz.prog.info? 3).map (fun i=>(i.zero,i.size,i.bytes))=some (some (.int .i64 0),1,8):=by kernel_rfl
theorem Zbj {P:Program}(w:World){ops:Array Oper}{rest:List Oper}{o:Oper}{a:Act}{Q:Exit->Act->World->Prop}(hgd:o.guard=none)(s x:Operand)(t:TypeId)
  (ho:o.op=.call { callee:=.builtin .append,args:=#[s,x],argTypes:=#[t,t] }) (base:Nat) (e:TypeId) (ht:P.underlying t=some (.slice e))
  (hinfo:(P.info? e).map (fun i=>(i.zero,i.size,i.bytes))=some (some (.int .i64 0),1,8))
  (v:Value) (l:List Int) (z:Int) (hs:a.eval s=v) (hown:w.ownsRow base e 1 v l.length (Za5 l))
  (ad:Addr) (c:Nat) (hx:a.eval x=.slice (some ad) 1 c) (hnews:w.cell? (ad.add 0)=some (.int .i64 z))
  (hlen:l.length+1<=1000000000) (hbase:base<=w.heap.size)
  (h:∀ v' w' l',Hid (l'=l++[z])->w'.ownsRow base e 1 v' l'.length (Za5 l')->w.grownBy w' v.ownBlock->wpList P ops Q rest (a.put o.dst v') w'):wpList P ops Q (o::rest) a w:=by
 obtain⟨i0,hi,hz0,hz1,hz2⟩:=info_parts hinfo;refine wpList_append_own w hgd s x t ho base e i0 (.int .i64 0) 1 8 ht hi hz0 hz1 hz2 rfl (by decide) v l.length (Za5 l) hs hown ad 1 c (Za5 [z]) hx (by simp [Za5]) ?_ ?_ (by unfold maxLen;omega) (by omega) hbase ?_
 ·intro j u hj
  have hj':j=0:=by have:=(List.getElem?_eq_some_iff.1 hj).1;simp [Za5] at this;omega
  subst hj';rw [hnews]
  simpa [Za5] using hj
 ·intro u hu
  simp only [Za5,List.mem_map] at hu
  obtain⟨b,_,rfl⟩:=hu
  rfl
 ·intro v' w' h1 h2 _
  rw [<-ZhT] at h1;exact h v' w' (l++[z]) rfl (by simpa using h1) h2
theorem Za3 (x a b:Int)(w:World):Calls Tryz.prog 71 #[.int .i64 x,.int .i64 a,.int .i64 b] w fun e w'=>e=.returned (.bool (inB x a b))/\w=w':=by
 by_cases h1:a<=x <;> by_cases h2:x<=b
 all_goals
  go_enter Tryz.func71,Tryz.ntmps71
  go_wp2
  go_ret
  exact⟨by simp [inB,h1,h2],rfl⟩
def cmpN (a b:Int):Int:=if a<b then -1 else if b<a then 1 else 0
theorem Za4 {a b:Int}:cmpN a b=0↔a=b:=by unfold cmpN;split <;> (try split) <;> omega
theorem Zdh {a b:Int}:cmpN a b<0↔a<b:=by unfold cmpN;split <;> (try split) <;> omega
theorem Zi7 {a b:Int}(h:b=a):Ending.returned (.int .i64 a)=.returned (.int .i64 b):=by rw [h]
theorem ZiT (a:Int)(w:World):Calls Tryz.prog 237 #[.int .i64 a] w fun e w'=>e=.returned (.bool false)/\w=w':=by
 go_enter Tryz.func237,Tryz.ntmps237
 go_wp2
 go_ret
 exact⟨by simp,rfl⟩
theorem ZbN (a b:Int)(w:World):Calls Tryz.prog 205 #[.int .i64 a,.int .i64 b] w fun e w'=>e=.returned (.int .i64 (cmpN a b))/\w=w':=by
 go_enter Tryz.func205,Tryz.ntmps205
 go_wp2_with fail
 refine (ZiT a _).mono ?_
 rintro e w1 ⟨rfl,rfl⟩
 go_wp2_with fail
 refine (ZiT b _).mono ?_
 rintro e w1 ⟨rfl,rfl⟩
 go_wp2
 all_goals go_ret
 all_goals refine ⟨Zi7 ?_,rfl⟩
 all_goals (unfold cmpN;grind)
end Go.Proofs.YtadokhjefnkajaaGreat
