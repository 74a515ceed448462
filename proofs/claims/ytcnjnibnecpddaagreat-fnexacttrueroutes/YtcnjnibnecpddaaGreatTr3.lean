/-
  Parts.
-/
import Derived.Test.YtcnjnibnecpddaaGreatRows
import Derived.Test.YtcnjnibnecpddaaGreatTr1
import Derived.WalkSpells
import Derived.WalkLawsBesides
import Derived.Deep.RegionHeld3
import Derived.Handy
import Derived.Shelf.SlSortCmp.WholeK
import Derived.Deep.OwnRows
import Derived.Lib.OwnBridge
import Derived.Sort.OwnSortedInts
namespace Go.Proofs.YtcnjnibnecpddaaGreat
open Go.RowKit
set_option linter.unusedSimpArgs false
set_option linter.unusedVariables false
set_option maxRecDepth 100000
set_option maxHeartbeats 8000000
theorem YA:∀ (n:Nat),n<=n:=@Nat.le_refl
theorem YAA:∀ {α:Type}{l:List α}{i:Nat}(h:i<l.length),l[i]? = some l[i]:=@List.getElem?_eq_getElem
theorem YAB:∀ {n m k:Nat},n<m->m<=k->n<k:=@Nat.lt_of_lt_of_le
theorem YAC:∀ (B:Nat)(w:World),Below B w w:=@Below.refl
theorem YAD:∀ {α:Type}{i:Nat}{a:α}{l:List α},l[i]? = some a↔∃ (h:i<l.length),l[i]=a:=@List.getElem?_eq_some_iff
theorem YAE:∀ (w:World)(o:Obj),(w.alloc o).heap[w.heap.size]? = some o:=@heap_alloc_new
theorem YAF:∀ {α:Type}{a:α}{s t:List α},a∈s++t↔a∈s\/a∈t:=@List.mem_append
theorem YAG:∀ {n m k:Nat},n<=m->m<=k->n<=k:=@Nat.le_trans
theorem YAH:∀ {α:Type}{l:List α}{i:Nat}{a:α},l[i]? = some a->a∈l:=@List.mem_of_getElem?
theorem YAI:∀ {α:Type}{i:Nat}{l:List α}(h:i<l.length),List.take (i+1) l=List.take i l++[l[i]]:=@List.take_succ_eq_append_getElem
theorem YAJ:∀ {α:Type}{a:α}{l:List α},(a::l)[0]? = some a:=@List.getElem?_cons_zero
theorem YAK:∀ {α:Type}{a:α}{i:Nat}{l:List α},(a::l)[i+1]? = l[i]? := @List.getElem?_cons_succ
theorem YAL:∀ (w:World)(o:Obj)(k:Nat),k<w.heap.size->(w.alloc o).heap[k]? = w.heap[k]? := @Below.heap_alloc
theorem YAM:∀ (a b:Bool),((a&&b)=true)=(a=true/\b=true):=@Bool.and_eq_true
theorem YAN:∀ {α:Type}{xs:List α}{i:Nat},xs.toArray[i]? = xs[i]? := @List.getElem?_toArray
theorem YAO:∀ {α:Type}{«as» bs:List α},(«as» ++ bs).length=«as».length+bs.length:=@List.length_append
theorem YAP:∀ {α:Type}{i:Nat}{l:List α},l.length<=i->List.take i l=l:=@List.take_of_length_le
theorem YAQ:∀ {α:Type}{R:α->α->Prop}{l₁ l₂:List α},List.Pairwise R (l₁++l₂)↔List.Pairwise R l₁/\List.Pairwise R l₂/\∀ (a:α),a∈l₁->∀ (b:α),b∈l₂->R a b:=@List.pairwise_append
theorem YAR:∀ {a b:Nat},a<=b->min a b=a:=@Nat.min_eq_left
theorem YAS:∀ {α:Type}{i:Nat}{l:List α},(List.take i l).length=min i l.length:=@List.length_take
theorem YAT:∀ {p:Prop} [inst:Decidable p],(decide p=true)=p:=@decide_eq_true_eq
theorem YAU:∀ (w:World)(a:Addr)(k:Nat)(v:Value),k≠a.block->(w.setCell a v).heap[k]? = w.heap[k]? := @heap_setCell_other
theorem YAV:∀ {α:Type}{β:Type}{b:β}{f:α->β}{l:List α},b∈List.map f l↔∃ (a:α),a∈l/\f a=b:=@List.mem_map
theorem YAW:∀ {α:Type}(«as» bs cs:List α),«as» ++ bs++cs=«as» ++ (bs++cs):=@List.append_assoc
theorem YAX:∀ (w:World)(base:Nat)(e:TypeId)(size:Nat),w.ownsRow base e size (Value.slice none 0 0) 0 []:=@World.ownsRow_nil
theorem YAY:∀ {α:Type}{p:α->Bool}{«as» : List α}{x:α},x∈List.filter p «as» ↔ x∈«as» /\ p x=true:=@List.mem_filter
theorem YAZ:∀ {p:Prop} [inst:Decidable p],¬p->decide p=false:=@decide_eq_false
theorem YAa:∀ {α:Type}(i:Nat)(l:List α),List.take i l++List.drop i l=l:=@List.take_append_drop
theorem YAb:∀ {α:Type}{R:α->α->Prop}{l:List α},List.Pairwise R l↔∀ (i j:Nat) (_hi:i<l.length) (_hj:j<l.length),i<j->R l[i] l[j]:=@List.pairwise_iff_getElem
theorem YAc:∀ {p:Prop} [inst:Decidable p],p->decide p=true:=@decide_eq_true
theorem YAd:∀ (w:World)(g i:Nat)(cs:Array Value)(t:TypeId)(v:Value),w.heap[g]? = some (Obj.cells cs t)->(w.setCell { block:=g,off:=i } v).heap[g]? = some (Obj.cells (cs.setIfInBounds i v) t):=@heap_setCell_same
theorem YAe:∀ {base:Nat}{e:TypeId}{size:Nat}(w:World)(cs:Array Value)(n:Nat),base<=w.heap.size->n<=maxLen->cs.size=n*size->(w.alloc (Obj.cells cs e)).ownsRow base e size (Value.slice (some { block:=w.heap.size,off:=0 }) n n) n cs.toList:=@World.ownsRow_lit
theorem YAf:∀ {α:Type}{l:List α},List.take l.length l=l:=@List.take_length
theorem YAg:∀ {α:Type}{b:α}{l:List α}{a:α},a∈b::l↔a=b\/a∈l:=@List.mem_cons
theorem YAh:∀ {α:Type}{β:Type}{f:α->β}{l₁ l₂:List α},List.map f (l₁++l₂)=List.map f l₁++List.map f l₂:=@List.map_append
theorem YAi:∀ {α:Type}(y:α){a:α}{l:List α},a∈l->a∈y::l:=@List.mem_cons_of_mem
theorem YAj:∀ {α:Type}{i:Nat}{l:List α},(List.drop i l).length=l.length-i:=@List.length_drop
theorem YAk:∀ {α:Type}{i:Nat}{l:List α}(h:i<l.length),List.drop i l=l[i]::List.drop (i+1) l:=@List.drop_eq_getElem_cons
theorem YAl:∀ {α:Type}{i:Nat}{a:α}{l:List α},a∈List.take i l->a∈l:=@List.mem_of_mem_take
theorem YAm:∀ {α:Type}{a:α}{«as» : List α},(a::«as»).length=«as».length+1:=@List.length_cons
theorem YAn:∀ {α:Type}{α_1:Type}{f:α->α_1}{R:α_1->α_1->Prop}{l:List α},List.Pairwise R (List.map f l)↔List.Pairwise (fun (a b:α) ↦ R (f a) (f b)) l:=@List.pairwise_map
theorem YAo:∀ {α:Type}{l:List α}{i j:Nat},i<j->(List.take j l)[i]? = l[i]? := @List.getElem?_take_of_lt
theorem YAp:∀ {α:Type}{x:α}{xs:List α}{a:α},(x::xs).set 0 a=a::xs:=@List.set_cons_zero
theorem YAq:∀ {α:Type}(l:List α)(i:Nat)(a:α),l.toArray.setIfInBounds i a=(l.set i a).toArray:=@List.setIfInBounds_toArray
theorem YAr:∀ {α:Type}{R:α->α->Prop}{a:α}{l:List α},List.Pairwise R (a::l)↔(∀ (a':α),a'∈l->R a a')/\List.Pairwise R l:=@List.pairwise_cons
theorem YAs:∀ {α:Type}{β:Type}{f:α->List β}{b:β}{l:List α},b∈List.flatMap f l↔∃ (a:α),a∈l/\b∈f a:=@List.mem_flatMap
theorem YAt:∀ {α:Type}{l:List α},l.length=0->l=[]:=@List.eq_nil_of_length_eq_zero
theorem YAu:∀ {α:Type}{x:α}{xs:List α}{i:Nat}{a:α},(x::xs).set (i+1) a=x::xs.set i a:=@List.set_cons_succ
theorem YAv:∀ {α:Type}{l₁ l₂:List α}{i:Nat},l₁.length<=i->(l₁++l₂)[i]? = l₂[i-l₁.length]? := @List.getElem?_append_right
theorem YAw:∀ {α:Type}{l:List α}{n:Nat}(h:n<l.length),l[n]∈l:=@List.getElem_mem
theorem YAx:∀ (a b:Bool),((a||b)=true)=(a=true\/b=true):=@Bool.or_eq_true
theorem YAy:∀ {α:Type}{a b:α},a∈[b]↔a=b:=@List.mem_singleton
abbrev M (x:Int):Value:=.int .i64 x
abbrev U (b o:Nat):Addr:=⟨b,o,none⟩
abbrev T_ (w w2:World):Prop:=Below w.heap.size w w2
theorem MS_ {P:Prop}(h:P:=by (simp [intOf];omega)):P:=h
end Go.Proofs.YtcnjnibnecpddaaGreat
namespace Go.Proofs.YtcnjnibnecpddaaGreat

def Zc8 (v:Nat):Prop:=1<=v/\v<=6

structure Links (L:Nat->Nat->Int) (K:Int):Prop where
 pos:∀ u v,0<=L u v
 le:∀ u v,L u v<=K
 node:∀ u v,0<L u v->Zc8 u/\Zc8 v

def ZdT (src:Nat)(h:Nat->List Int)(u v:Nat)(x:Int):Prop:=(u=src/\x=(v:Int))\/(u≠src/\x∈h u)

structure Inv (L:Nat->Nat->Int) (src:Nat) (F:Nat->Bool) (c:Nat->Int) (h:Nat->List Int):Prop where
 fnode:∀ v,F v=true->Zc8 v/\0<=c v
 cnode:∀ v,0<=c v->Zc8 v
 start:c src=0
 start0:h src=[]
 closed:∀ u v,F u=true->0<L u v->0<=c v/\c v<=c u+L u v
 pred:∀ v,v≠src->0<=c v->∃ u,F u=true/\0<L u v/\c v=c u+L u v
 mono:∀ u v,F u=true->F v=false->0<=c v->c u<=c v
 hop:∀ v,v≠src->∀ x,x∈h v↔0<=c v/\∃ u,F u=true/\0<L u v/\c v=c u+L u v/\ZdT src h u v x
 asc:∀ v,(h v).Pairwise (· < ·)
 rng:∀ v x,x∈h v->1<=x/\x<=6

def ZaC (L:Nat->Nat->Int)(c:Nat->Int)(u v:Nat):Int:=
 if 0<L u v/\(c v<0\/c u+L u v<c v) then c u+L u v else c v

theorem Zky {L:Nat->Nat->Int}{c:Nat->Int}{u v:Nat}(h:0<=c v):ZaC L c u v<=c v:=by
 unfold ZaC;split <;> omega

theorem Zpy {L:Nat->Nat->Int}{c:Nat->Int}{u v:Nat}(hu:0<=c u)(h:0<=c v):0<=ZaC L c u v:=by
 unfold ZaC;split <;> omega

theorem Zd2 {L:Nat->Nat->Int}{c:Nat->Int}{u v:Nat}(h0:0<=c v)(h:c v<=c u):ZaC L c u v=c v:=by
 unfold ZaC;split <;> omega

structure RelaxH (L:Nat->Nat->Int) (src:Nat) (c:Nat->Int) (h:Nat->List Int) (u v:Nat) (h':List Int):Prop where
 asc:h'.Pairwise (· < ·)
 mem:∀ x,x∈h'↔((x∈h v/\ZaC L c u v=c v)\/(0<L u v/\ZaC L c u v=c u+L u v/\ZdT src h u v x))

theorem Inv.step {L:Nat->Nat->Int}{K:Int}{src:Nat}{F:Nat->Bool}{c:Nat->Int}{h:Nat->List Int}(I:Inv L src F c h)(hL:Links L K)
  {u:Nat} (hu:F u=false) (hcu:0<=c u) (hmin:∀ v,F v=false->0<=c v->c u<=c v) {h':Nat->List Int} (hh:∀ v,RelaxH L src c h u v (h' v)):
  Inv L src (fun v=>F v||v==u) (fun v=>ZaC L c u v) h':=by
 have hup:∀ v,F v=true->c v<=c u:=fun v hv=>I.mono v u hv hu hcu;have keep:∀ v,F v=true->ZaC L c u v=c v:=fun v hv=>Zd2 (I.fnode v hv).2 (hup v hv);have keepu:ZaC L c u u=c u:=Zd2 hcu (Int.le_refl _);have hsrc:ZaC L c u src=0:=by
  have:=I.start;unfold ZaC;split <;> omega
 have hFn:∀ v,F v=true->v≠u:=fun v hv e=>by rw [e,hu] at hv;cases hv
 -- hops of done nodes and of u stay
 have hsame:∀ v,0<=c v->c v<=c u->∀ x,x∈h' v↔x∈h v:=by
  intro v h0 hv x;rw [(hh v).mem x];have e:=Zd2 (L:=L) h0 hv;constructor
  ·rintro (⟨h1,_⟩ | ⟨h1,h2,_⟩)
   ·exact h1
   ·omega
  ·intro h1;exact .inl ⟨h1,e⟩
 have hover:∀ w,(F w=true\/w=u)->∀ v x,ZdT src h' w v x↔ZdT src h w v x:=by
  intro w hw v x;have:∀ x,x∈h' w↔x∈h w:=by
   rcases hw with hw | rfl
   ·exact hsame w (I.fnode w hw).2 (hup w hw)
   ·exact hsame _ hcu (Int.le_refl _)
  unfold ZdT;rw [this x]
 have hFu:∀ v,(F v||v==u)=true↔(F v=true\/v=u):=by
  intro v;simp
 refine⟨?_,?_,hsrc,?_,?_,?_,?_,?_,fun v=>(hh v).asc,?_⟩
 ·intro v hv;rcases (hFu v).1 hv with h1 | rfl
  ·refine ⟨(I.fnode v h1).1,?_⟩;show 0<=ZaC L c u v;rw [keep v h1];exact (I.fnode v h1).2
  ·refine ⟨I.cnode _ hcu,?_⟩;show 0<=ZaC L c _ _;rw [keepu];exact hcu
 ·intro v hv;have hv':0<=ZaC L c u v:=hv;unfold ZaC at hv'
  split at hv'
  ·rename_i h1;exact (hL.node u v h1.1).2
  ·exact I.cnode v hv'
 ·have:∀ x,x ∉ h' src:=by
   intro x hx;rw [(hh src).mem x,I.start0] at hx;rcases hx with ⟨h1,_⟩ | ⟨h1,h2,_⟩
   ·cases h1
   ·rw [hsrc] at h2;omega
  exact List.eq_nil_iff_forall_not_mem.2 this
 ·intro w v hw hl;show 0<=ZaC L c u v/\ZaC L c u v<=ZaC L c u w+L w v;rcases (hFu w).1 hw with h1 | rfl
  ·rw [keep w h1];have:=I.closed w v h1 hl;have h2:=Zky (L:=L) (u:=u) this.1;have h3:=Zpy (L:=L) hcu this.1;omega
  ·rw [keepu];unfold ZaC
   split <;> omega
 ·intro v hv h0;have h0':0<=ZaC L c u v:=h0;show ∃ w,(F w||w==u)=true/\0<L w v/\ZaC L c u v=ZaC L c u w+L w v;by_cases h1:0<L u v/\(c v<0\/c u+L u v<c v)
  ·refine ⟨u,by simp,h1.1,?_⟩;rw [keepu];unfold ZaC;rw [if_pos h1]
  ·have e:ZaC L c u v=c v:=by unfold ZaC;rw [if_neg h1]
   rw [e] at h0' |-;obtain⟨w,hw,hl,hc⟩:=I.pred v hv h0';exact⟨w,by simp [hw],hl,by rw [keep w hw];exact hc⟩
 ·intro w v hw hv h0;have h0':0<=ZaC L c u v:=h0;have hv1:F v=false:=by cases hfv:F v <;> simp [hfv] at hv |-
  show ZaC L c u w<=ZaC L c u v;have hwc:ZaC L c u w<=c u:=by
   rcases (hFu w).1 hw with h1 | rfl
   ·rw [keep w h1];exact hup w h1
   ·rw [keepu];omega
  have huv:c u<=ZaC L c u v:=by
   by_cases h1:0<L u v/\(c v<0\/c u+L u v<c v)
   ·unfold ZaC;rw [if_pos h1];omega
   ·have e:ZaC L c u v=c v:=by unfold ZaC;rw [if_neg h1]
    rw [e] at h0' |-;exact hmin v hv1 h0'
  omega
 ·intro v hv x;show x∈h' v↔0<=ZaC L c u v/\∃ w,(F w||w==u)=true/\0<L w v/\ZaC L c u v=ZaC L c u w+L w v/\ZdT src h' w v x;rw [(hh v).mem x];constructor
  ·rintro (⟨h1,h2⟩ | ⟨h1,h2,h3⟩)
   ·obtain ⟨h0,w,hw,hl,hc,ho⟩:=(I.hop v hv x).1 h1;rw [h2];exact⟨h0,w,by simp [hw],hl,by rw [keep w hw];exact hc,(hover w (.inl hw) v x).2 ho⟩
   ·refine ⟨by omega,u,by simp,h1,by rw [keepu];exact h2,(hover u (.inr rfl) v x).2 h3⟩
  ·rintro ⟨h0,w,hw,hl,hc,ho⟩;rcases (hFu w).1 hw with h1 | rfl
   ·rw [keep w h1] at hc;have hcl:=I.closed w v h1 hl;have h3:=Zky (L:=L) (u:=u) hcl.1;have e:ZaC L c u v=c v:=by omega
    refine .inl ⟨(I.hop v hv x).2 ⟨hcl.1,w,h1,hl,by omega,(hover w (.inl h1) v x).1 ho⟩,e⟩
   ·rw [keepu] at hc;exact .inr ⟨hl,hc,(hover _ (.inr rfl) v x).1 ho⟩
 ·intro v x hx;rw [(hh v).mem x] at hx;rcases hx with ⟨h1,_⟩ | ⟨h1,_,h3⟩
  ·exact I.rng v x h1
  ·rcases h3 with ⟨_,rfl⟩ | ⟨_,h4⟩
   ·have:=(hL.node u v h1).2;unfold Zc8 at this;omega
   ·exact I.rng u x h4

theorem ZiN:∀ {a b:List Int},a.Pairwise (· < ·)->b.Pairwise (· < ·)->(∀ x,x∈a↔x∈b)->a=b
 | [],[],_,_,_=>rfl
 | [],y::ys,_,_,h=>by have:=(h y).2 (by simp);cases this
 | x::xs,[],_,_,h=>by have:=(h x).1 (by simp);cases this
 | x::xs,y::ys,ha,hb,h=>by
  have ha':=List.pairwise_cons.1 ha;have hb':=List.pairwise_cons.1 hb;have hxy:x=y:=by
   have h1:=(h x).1 (by simp);have h2:=(h y).2 (by simp);rcases List.mem_cons.1 h1 with e | e
   ·exact e
   ·rcases List.mem_cons.1 h2 with e2 | e2
    ·exact e2.symm
    ·have:=ha'.1 y e2;have:=hb'.1 x e;omega
  subst hxy;have:xs=ys:=by
   refine ZiN ha'.2 hb'.2 (fun z=>?_);have hz:=h z;constructor
   ·intro hm;have h1:=hz.1 (List.mem_cons_of_mem _ hm);rcases List.mem_cons.1 h1 with e | e
    ·have:=ha'.1 z hm;omega
    ·exact e
   ·intro hm;have h1:=hz.2 (List.mem_cons_of_mem _ hm);rcases List.mem_cons.1 h1 with e | e
    ·have:=hb'.1 z hm;omega
    ·exact e
  rw [this]

def Fix (L:Nat->Nat->Int)(src:Nat)(c:Nat->Int)(h:Nat->List Int):Prop:=∃ F,Inv L src F c h/\∀ v,0<=c v->F v=true

theorem Fix.cost_le {L:Nat->Nat->Int}{src:Nat}{c d:Nat->Int}{h g:Nat->List Int}(A:Fix L src c h)(B:Fix L src d g):
  ∀ (n:Nat) (v:Nat),0<=c v->(c v).toNat<=n->0<=d v/\d v<=c v:=by
 obtain⟨F,I,hF⟩:=A;obtain⟨G,J,hG⟩:=B;intro n
 induction n with
 | zero=>
  intro v h0 hn;by_cases hv:v=src
  ·subst hv;rw [J.start];omega
  ·obtain ⟨u,hu,hl,hc⟩:=I.pred v hv h0;have:=(I.fnode u hu).2;omega
 | succ n ih=>
  intro v h0 hn;by_cases hv:v=src
  ·subst hv;rw [J.start,I.start];omega
  ·obtain ⟨u,hu,hl,hc⟩:=I.pred v hv h0;have h1:=(I.fnode u hu).2;have h2:=ih u h1 (by omega);have h3:=J.closed u v (hG u h2.1) hl;omega

theorem Fix.cost {L:Nat->Nat->Int}{src:Nat}{c d:Nat->Int}{h g:Nat->List Int}(A:Fix L src c h)(B:Fix L src d g)(v:Nat)(h0:0<=c v):d v=c v:=by
 have h1:=A.cost_le B _ v h0 (Nat.le_refl _);have h2:=B.cost_le A _ v h1.1 (Nat.le_refl _);omega

theorem Fix.hops_sub {L:Nat->Nat->Int}{src:Nat}{c d:Nat->Int}{h g:Nat->List Int}(A:Fix L src c h)(B:Fix L src d g):
  ∀ (n:Nat) (v:Nat),0<=c v->(c v).toNat<=n->∀ x,x∈h v->x∈g v:=by
 have hcost:=A.cost B;obtain⟨F,I,hF⟩:=A;obtain⟨G,J,hG⟩:=B;intro n
 induction n with
 | zero=>
  intro v h0 hn x hx;by_cases hv:v=src
  ·subst hv;rw [I.start0] at hx;cases hx
  ·obtain ⟨u,hu,hl,hc⟩:=I.pred v hv h0;have:=(I.fnode u hu).2;omega
 | succ n ih=>
  intro v h0 hn x hx;by_cases hv:v=src
  ·subst hv;rw [I.start0] at hx;cases hx
  ·obtain ⟨_,u,hu,hl,hc,ho⟩:=(I.hop v hv x).1 hx;have h1:=(I.fnode u hu).2;have eu:=hcost u h1;have ev:=hcost v h0;refine (J.hop v hv x).2 ⟨by omega,u,hG u (by omega),hl,by omega,?_⟩;rcases ho with h3 | ⟨h3,h4⟩
   ·exact .inl h3
   ·exact .inr ⟨h3,ih u h1 (by omega) x h4⟩

theorem Fix.hops {L:Nat->Nat->Int}{src:Nat}{c d:Nat->Int}{h g:Nat->List Int}(A:Fix L src c h)(B:Fix L src d g)(v:Nat)(h0:0<=c v):g v=h v:=by
 have e:=A.cost B v h0;have sub1:=A.hops_sub B _ v h0 (Nat.le_refl _);have sub2:=B.hops_sub A _ v (by omega:0<=d v) (Nat.le_refl _);obtain⟨F,I,_⟩:=A;obtain⟨G,J,_⟩:=B;exact ZiN (J.asc v) (I.asc v) (fun x=>⟨sub2 x,sub1 x⟩)

theorem Inv.init {L:Nat->Nat->Int}{src:Nat}(hs:Zc8 src):Inv L src (fun _=>false) (fun v=>if v=src then 0 else -1) (fun _=>[]):=by
 refine⟨by simp,?_,by simp,rfl,by simp,?_,by simp,?_,by simp,by simp⟩
 ·intro v hv;have hv':(0:Int)<=if v=src then 0 else -1:=hv
  split at hv'
  ·rename_i e;rw [e];exact hs
  ·omega
 ·intro v hv h0;have h0':(0:Int)<=if v=src then 0 else -1:=h0
  rw [if_neg hv] at h0';omega
 ·intro v hv x;simp [hv]
end Go.Proofs.YtcnjnibnecpddaaGreat
namespace Go.Proofs.YtcnjnibnecpddaaGreat

def par (i:Nat):Nat:=(i-1) / 2

def Zcu (q:Nat->Nat)(i j x:Nat):Nat:=if x=i then q j else if x=j then q i else q x

def Zc7 (c:Nat->Int)(q:Nat->Nat)(n:Nat):Prop:=∀ i,0<i->i<n->c (q (par i))<=c (q i)

structure UpInv (c:Nat->Int) (q:Nat->Nat) (n j:Nat):Prop where
 all:∀ i,0<i->i<n->i≠j->c (q (par i))<=c (q i)
 kids:∀ i,0<i->i<n->par i=j->0<j->c (q (par j))<=c (q i)

structure DownInv (c:Nat->Int) (q:Nat->Nat) (n i:Nat):Prop where
 all:∀ k,0<k->k<n->par k≠i->c (q (par k))<=c (q k)
 kids:∀ k,0<k->k<n->par k=i->0<i->c (q (par i))<=c (q k)

theorem ZdO {i:Nat}(h:0<i):par i<i:=by unfold par;omega

theorem Zp2 {c:Nat->Int}{q:Nat->Nat}{n j:Nat}(h:UpInv c q n j)(hs:j=0\/¬c (q j)<c (q (par j))):Zc7 c q n:=by
 intro i h0 hn;by_cases e:i=j
 ·subst e;rcases hs with hs | hs
  ·omega
  ·omega
 ·exact h.all i h0 hn e

theorem Zst {c:Nat->Int}{q:Nat->Nat}{n j:Nat}(h:UpInv c q n j)(hj:0<j)(hn:j<n)(hlt:c (q j)<c (q (par j))):UpInv c (Zcu q (par j) j) n (par j):=by
 have hp:=ZdO hj;obtain⟨p,hpe⟩:∃ p,p=par j:=⟨_,rfl⟩;rw [<-hpe] at hlt hp |-
 constructor
 ·intro i h0 hi hne;have hpi:=ZdO h0;unfold Zcu;by_cases e1:i=j
  ·subst e1;rw [if_neg (by omega:¬i=p),if_pos rfl,if_pos hpe.symm];omega
  ·rw [if_neg hne,if_neg e1];have h1:=h.all i h0 hi e1;by_cases e2:par i=p
   ·rw [if_pos e2];rw [e2] at h1;omega
   ·rw [if_neg e2];by_cases e3:par i=j
    ·rw [if_pos e3];have:=h.kids i h0 hi e3 hj;rw [<-hpe] at this;exact this
    ·rw [if_neg e3];exact h1
 ·intro i h0 hi hpar hp0;have hpi:=ZdO h0;have hpp:=ZdO hp0;have hA:=h.all p hp0 (by omega) (by omega);unfold Zcu;rw [if_neg (by omega:¬par p=p),if_neg (by omega:¬par p=j)];by_cases e1:i=j
  ·rw [if_neg (by omega:¬i=p),if_pos e1];exact hA
  ·rw [if_neg (by omega:¬i=p),if_neg e1];have:=h.all i h0 hi e1;rw [hpar] at this;omega

theorem ZfC {c:Nat->Int}{q:Nat->Nat}{n i:Nat}(h:DownInv c q n i)(hs:∀ k,0<k->k<n->par k=i->c (q i)<=c (q k)):Zc7 c q n:=by
 intro k h0 hn;by_cases e:par k=i
 ·rw [e];exact hs k h0 hn e
 ·exact h.all k h0 hn e

theorem ZmL {k i:Nat}(h0:0<k)(h:par k=i):k=2*i+1\/k=2*i+2:=by unfold par at h;omega

theorem ZgZ {c:Nat->Int}{q:Nat->Nat}{n i j:Nat}(h:DownInv c q n i)(hj:0<j)(hn:j<n)(hp:par j=i)(hlt:c (q j)<c (q i))(hmin:∀ k,0<k->k<n->par k=i->c (q j)<=c (q k)):DownInv c (Zcu q i j) n j:=by
 have hij:=ZdO hj;rw [hp] at hij;constructor
 ·intro k h0 hk hne;have hpk:=ZdO h0;unfold Zcu;by_cases e1:k=i
  ·subst e1;rw [if_pos rfl,if_neg (by omega:¬par k=k),if_neg hne];exact h.kids j hj hn hp h0
  ·rw [if_neg e1];by_cases e2:k=j
   ·subst e2;rw [if_pos rfl,if_pos hp];omega
   ·rw [if_neg e2];by_cases e3:par k=i
    ·rw [if_pos e3];exact hmin k h0 hk e3
    ·rw [if_neg e3,if_neg hne];exact h.all k h0 hk e3
 ·intro k h0 hk hpk hj0;have hpk2:=ZdO h0;unfold Zcu;rw [hp,if_pos rfl,if_neg (by omega:¬k=i),if_neg (by omega:¬k=j)];have:=h.all k h0 hk (by omega);rw [hpk] at this;exact this

theorem Zkf {c:Nat->Int}{q:Nat->Nat}{n:Nat}(h:Zc7 c q n):∀ (m i:Nat),i<=m->i<n->c (q 0)<=c (q i)
 | 0,i,hm,_=>by rw [show i=0 by omega];exact Int.le_refl _
 | m+1,i,hm,hn=>by
  by_cases e:i=0
  ·rw [e];exact Int.le_refl _
  ·have h1:=h i (by omega) hn;have h2:=ZdO (i:=i) (by omega);have h3:=Zkf h m (par i) (by omega) (by omega);omega

structure Shuf (q q':Nat->Nat) (n:Nat):Prop where
 into:∀ i,i<n->∃ j,j<n/\q' i=q j
 onto:∀ j,j<n->∃ i,i<n/\q' i=q j
 inj:(∀ i j,i<n->j<n->q i=q j->i=j)->(∀ i j,i<n->j<n->q' i=q' j->i=j)
 rest:∀ x,n<=x->q' x=q x

theorem Shuf.refl (q:Nat->Nat)(n:Nat):Shuf q q n:=⟨fun i h=>⟨i,h,rfl⟩,fun j h=>⟨j,h,rfl⟩,fun h=>h,fun _ _=>rfl⟩

theorem Shuf.trans {q q' q'':Nat->Nat}{n:Nat}(a:Shuf q q' n)(b:Shuf q' q'' n):Shuf q q'' n:=by
 refine⟨fun i h=>?_,fun j h=>?_,fun h=>b.inj (a.inj h),fun x hx=>(b.rest x hx).trans (a.rest x hx)⟩
 ·obtain ⟨j,hj,e⟩:=b.into i h;obtain⟨k,hk,e2⟩:=a.into j hj;exact⟨k,hk,e.trans e2⟩
 ·obtain ⟨i,hi,e⟩:=a.onto j h;obtain⟨k,hk,e2⟩:=b.onto i hi;exact⟨k,hk,e2.trans e⟩

theorem Zcf (q:Nat->Nat)(i j x:Nat):(x=i/\Zcu q i j x=q j)\/(x=j/\Zcu q i j x=q i)\/(x≠i/\x≠j/\Zcu q i j x=q x):=by
 unfold Zcu;by_cases e:x=i
 ·exact .inl ⟨e,if_pos e⟩
 ·rw [if_neg e];by_cases e2:x=j
  ·exact .inr (.inl ⟨e2,if_pos e2⟩)
  ·exact .inr (.inr ⟨e,e2,if_neg e2⟩)

theorem Shuf.swap (q:Nat->Nat){n i j:Nat}(hi:i<n)(hj:j<n):Shuf q (Zcu q i j) n:=by
 refine⟨fun x hx=>?_,fun x hx=>?_,fun h x y hx hy e=>?_,fun x hx=>?_⟩
 ·rcases Zcf q i j x with ⟨_,e⟩ | ⟨_,e⟩ | ⟨_,_,e⟩
  ·exact ⟨j,hj,e⟩
  ·exact ⟨i,hi,e⟩
  ·exact ⟨x,hx,e⟩
 ·by_cases e1:x=i
  ·refine ⟨j,hj,?_⟩;subst e1;rcases Zcf q x j j with ⟨e2,e⟩ | ⟨_,e⟩ | ⟨_,e2,_⟩
   ·rw [e,e2]
   ·exact e
   ·exact absurd rfl e2
  ·by_cases e3:x=j
   ·refine ⟨i,hi,?_⟩;subst e3;rcases Zcf q i x i with ⟨_,e⟩ | ⟨e2,e⟩ | ⟨e2,_,_⟩
    ·exact e
    ·rw [e,e2]
    ·exact absurd rfl e2
   ·refine ⟨x,hx,?_⟩;unfold Zcu;rw [if_neg e1,if_neg e3]
 ·rcases Zcf q i j x with ⟨a1,a2⟩ | ⟨a1,a2⟩ | ⟨a1,a3,a2⟩ <;> rcases Zcf q i j y with ⟨b1,b2⟩ | ⟨b1,b2⟩ | ⟨b1,b3,b2⟩ <;> rw [a2,b2] at e
  ·omega
  ·have:=h _ _ hj hi e;omega
  ·have:=h _ _ hj hy e;omega
  ·have:=h _ _ hi hj e;omega
  ·omega
  ·have:=h _ _ hi hy e;omega
  ·have:=h _ _ hx hj e;omega
  ·have:=h _ _ hx hi e;omega
  ·exact h _ _ hx hy e
 ·rcases Zcf q i j x with ⟨a1,_⟩ | ⟨a1,_⟩ | ⟨_,_,e⟩
  ·omega
  ·omega
  ·exact e

theorem Shuf.more {q q':Nat->Nat}{n m:Nat}(a:Shuf q q' n)(h:n<=m):Shuf q q' m:=by
 refine⟨fun i hi=>?_,fun j hj=>?_,fun hinj x y hx hy e=>?_,fun x hx=>a.rest x (by omega)⟩
 ·by_cases e:i<n
  ·obtain ⟨j,hj,e2⟩:=a.into i e;exact⟨j,by omega,e2⟩
  ·exact ⟨i,hi,a.rest i (by omega)⟩
 ·by_cases e:j<n
  ·obtain ⟨i,hi,e2⟩:=a.onto j e;exact⟨i,by omega,e2⟩
  ·exact ⟨j,hj,a.rest j (by omega)⟩
 ·by_cases e1:x<n <;> by_cases e2:y<n
  ·exact a.inj (fun i j hi hj=>hinj i j (by omega) (by omega)) x y e1 e2 e
  ·obtain ⟨j,hj,e3⟩:=a.into x e1;rw [e3,a.rest y (by omega)] at e;have:=hinj j y (by omega) hy e;omega
  ·obtain ⟨j,hj,e3⟩:=a.into y e2;rw [e3,a.rest x (by omega)] at e;have:=hinj x j hx (by omega) e;omega
  ·rw [a.rest x (by omega),a.rest y (by omega)] at e;exact hinj x y hx hy e

theorem Zsd {c:Nat->Int}{q:Nat->Nat}{n k:Nat}(h:Zc7 c q n):UpInv c (fun x=>if x=n then k else q x) (n+1) n:=by
 constructor
 ·intro i h0 hi hne;have:=ZdO h0;rw [if_neg (by omega:¬par i=n),if_neg hne];exact h i h0 (by omega)
 ·intro i h0 hi hp _;have:=ZdO h0;omega

theorem Zra {c:Nat->Int}{q:Nat->Nat}{n:Nat}(h:Zc7 c q (n+1)):DownInv c (Zcu q 0 n) n 0:=by
 constructor
 ·intro k h0 hk hne;have:=ZdO h0;unfold Zcu;rw [if_neg hne,if_neg (by omega:¬par k=n),if_neg (by omega:¬k=0),if_neg (by omega:¬k=n)];exact h k h0 (by omega)
 ·intro k _ _ _ h0;omega
end Go.Proofs.YtcnjnibnecpddaaGreat
namespace Go.Proofs.YtcnjnibnecpddaaGreat
open Go.RowKit
set_option linter.unusedSimpArgs false
set_option linter.unusedVariables false
set_option maxRecDepth 100000
set_option maxHeartbeats 8000000
variable {xs:List Value}{base n p size:Nat}{e:TypeId}{v:Value}{w:World}
theorem Zad {w':World}{B:Nat}(h:w.ownsRow base e size v n xs)(hb:Below B w w')(hB:w.heap.size<=B):w'.ownsRow base e size v n xs:=by
 refine⟨h.1,?_⟩;rcases h.2 with h2 | ⟨g,cap,cur,hv,hg,hh,r⟩
 ·exact .inl h2
 ·have hlt:g<w.heap.size:=by
   rcases Nat.lt_or_ge g w.heap.size with hl | hl
   ·exact hl
   ·rw [Array.getElem?_eq_none hl] at hh;cases hh
  exact .inr ⟨g,cap,cur,hv,hg,by rw [hb.block g (by omega)];exact hh,r⟩
theorem ZdM (h:w.ownsRow base e 1 v n xs)(hn:0<n):
  ∃ g cap,v=.slice (some (U g 0)) n cap/\base<=g/\g<w.heap.size:=by
 rcases h.2 with ⟨_,h0⟩ | ⟨g,cap,cur,hv,hb,hg,_⟩
 ·omega
 ·refine ⟨g,cap,hv,hb,?_⟩;rcases Nat.lt_or_ge g w.heap.size with hlt | hge
  ·exact hlt
  ·rw [Array.getElem?_eq_none hge] at hg;cases hg
theorem Zcq (h:w.ownsRow base e 1 v n xs):∃ a cap,v=.slice a n cap:=by
 rcases h.2 with ⟨h1,h0⟩ | ⟨g,cap,cur,hv,_⟩
 ·exact ⟨none,0,by rw [h1,h0]⟩
 ·exact ⟨_,cap,hv⟩
theorem Zac (h:w.ownsRow base e size v n xs):∃ a cap,v=.slice a n cap:=by
 rcases h.2 with ⟨h1,h0⟩ | ⟨g,cap,cur,hv,_⟩
 ·exact ⟨none,0,by rw [h1,h0]⟩
 ·exact ⟨_,cap,hv⟩
theorem Zaf {b0 b1:Nat}(h:w.ownsRow b1 e size v n xs)(hb:b0<=b1):w.ownsRow b0 e size v n xs:=by
 refine⟨h.1,?_⟩;rcases h.2 with h2 | ⟨g,cap,cur,hv,hg,r⟩
 ·exact .inl h2
 ·exact .inr ⟨g,cap,cur,hv,YAG hb hg,r⟩
theorem Zbk {j:Nat}{u:Value}(h:w.ownsRow base e size v n xs)(hp:p<base):(w.setCell (U p j) u).ownsRow base e size v n xs:=by
 refine⟨h.1,?_⟩;rcases h.2 with h2 | ⟨g,cap,cur,hv,hg,hh,r⟩
 ·exact .inl h2
 ·exact .inr ⟨g,cap,cur,hv,hg,by rw [YAU w (U p j) g _ (by show g≠p;omega)];exact hh,r⟩
theorem ZfS {b0 b1:Nat}(h:w.ownsRow b1 e 1 v n xs)(hb:b0<=b1):w.ownsRow b0 e 1 v n xs:=by
 refine⟨h.1,?_⟩;rcases h.2 with h2 | ⟨g,cap,cur,hv,hg,r⟩
 ·exact .inl h2
 ·exact .inr ⟨g,cap,cur,hv,YAG hb hg,r⟩
theorem Zaa {C:Array Value}{t:TypeId}(h:w.heap[p]? = some (.cells C t (0,0)))(j:Nat):w.cell? (U p j)=C[j]? := by
 simp [World.cell?,h]
theorem Zae {C:Array Value}{t:TypeId}(h:w.heap[p]? = some (.cells C t (0,0)))(j:Nat):w.frozen? (U p j)=false:=by
 simp [World.frozen?,h]
theorem Zak (w:World)(p j:Nat)(v:Value):w.grownBy (w.setCell (U p j) v) (some p):=⟨rfl,rfl,rfl,by simp,fun k _ hk=>YAU w (U p j) k _ (fun e=>hk (by simp [e]))⟩
theorem Zaj {a b c:World}{row:Option Nat}(h:a.grownBy b row)(k:b.grownBy c row):a.grownBy c row:=
 ⟨k.os.trans h.os,k.tape.trans h.tape,k.output.trans h.output,YAG h.size k.size,fun i hi hr=>(k.block i (YAB hi h.size) hr).trans (h.block i hi hr)⟩
theorem Zab {o:Obj}(h:w.heap[p]? = some o):p<w.heap.size:=by
 rcases Nat.lt_or_ge p w.heap.size with hl | hl
 ·exact hl
 ·rw [Array.getElem?_eq_none hl] at h;cases h
def inB (x a b:Int):Bool:=decide (a<=x)&&decide (x<=b)
theorem ZbS (x a b:Int)(w:World):Calls Tryz.prog 119 #[M x,M a,M b] w fun e w'=>e=.returned (.bool (inB x a b))/\w=w':=by
 by_cases h1:a<=x <;> by_cases h2:x<=b
 all_goals
  go_enter Tryz.func119,Tryz.ntmps119
  go_wp2;go_ret;exact⟨by simp [inB,h1,h2],rfl⟩
end Go.Proofs.YtcnjnibnecpddaaGreat
namespace Go.Proofs.YtcnjnibnecpddaaGreat
open Go.RowKit

theorem putS:(∀ (a:Act) (v:Value),a.put none v=a)/\(∀ (a:Act) (t:Nat) (v:Value),a.put (some t) v = { a with tmps:=a.tmps.setIfInBounds t v })/\(∀ (l:List Value) (i:Nat) (v:Value),l.toArray.setIfInBounds i v=(l.set i v).toArray)/\(∀ (x v:Value) (l:List Value),(x::l).set 0 v=v::l)/\(∀ (x v:Value) (l:List Value) (n:Nat),(x::l).set (n+1) v=x::l.set n v):=
 ⟨fun _ _=>rfl,fun _ _ _=>rfl,fun _ _ _=>by simp,fun _ _ _=>rfl,fun _ _ _ _=>rfl⟩

theorem getS:(∀ (l:List Oper) (i:Nat),l.toArray[i]? = l[i]?)/\(∀ (x:Oper) (l:List Oper),(x::l)[0]? = some x)/\(∀ (x:Oper) (l:List Oper) (n:Nat),(x::l)[n+1]? = l[n]?):=
 ⟨fun _ _=>by simp,fun _ _=>rfl,fun _ _ _=>rfl⟩

def Zdd (ops:Array Oper)(listed:Array Bool)(i:Nat):Bool:=Region.noSelect ops&&Region.free .any ops listed i&&(Region.ready .any ops listed).contains i

theorem ZfL {ops:Array Oper}{listed:Array Bool}{i:Nat}(h:Zdd ops listed i=true):Region.noSelect ops=true/\Region.free .any ops listed i=true/\(Region.ready .any ops listed).contains i=true:=by
 unfold Zdd at h;simp only [YAM] at h;exact⟨h.1.1,h.1.2,h.2⟩

section
variable {P:Program} {ops:Array Oper} {Q:Exit->Act->World->Prop} {S:World->Prop} {fuel:Nat} {listed:Array Bool} {a:Act} {w:World}

/-- the beginning: the region's operations behind a letter -/
theorem Zah {id:Nat}(hm:P.follows .mixedOrders=true)(n:Nat)(hn:ops.size=n)(hS:S w.drew)(h:∀ ops',Hid (ops'=ops)->S w.drew->wpAnyH P .any ops' Q S n (Array.replicate n false) a w.drew):(Code.region id ops true).wp P Q a w:=by
 refine wp_region_held_drew hm hS (fun hs=>?_);rw [hn];exact h ops rfl hs

/-- an operation that isn't wanted -/
theorem ZkH (i:Nat)(d:Tmp)(hi:(ops[i]?).map Oper.dst=some (some d))(ht:Zdd ops listed i=true)(hw:(ops[i]?).map (fun o=>Region.wanted o (yielded ops a.tmps))=some false)
  (hQ:∀ c a w,Q (.panic c) (a.put (some d) undef) w->Q (.panic c) a w) (hS:S w) (h:wpAnyH P .any ops Q S fuel (listed.setIfInBounds i true) (a.put (some d) undef) w):wpAnyH P .any ops Q S (fuel+1) listed a w:=by
 obtain⟨h1,h2,h3⟩:=ZfL ht;cases ho:ops[i]? with
 | none=>rw [ho] at hi;cases hi
 | some oi=>
  rw [ho] at hi hw;simp only [Option.map_some,Option.some.injEq] at hi hw;refine wpAnyH_take ho h1 h2 h3 (v:=undef) ?_ (Or.inr ⟨hw,rfl⟩) hS ?_
  ·rw [hi];exact hQ
  ·rw [hi];exact h

/-- an operation that yields v in every world that meets S -/
theorem Zb1 (i:Nat){oi:Oper}{v:Value}(hi:ops[i]? = some oi)(ht:Zdd ops listed i=true)(hw:Region.wanted oi (yielded ops a.tmps)=true)(hy:∀ w,S w->(execOp a.eval oi).run P w=.ok (.value v) w)
  (hQ:∀ c a w,Q (.panic c) (a.put oi.dst v) w->Q (.panic c) a w) (hS:S w) (h:wpAnyH P .any ops Q S fuel (listed.setIfInBounds i true) (a.put oi.dst v) w):wpAnyH P .any ops Q S (fuel+1) listed a w:=by
 obtain⟨h1,h2,h3⟩:=ZfL ht;exact wpAnyH_take hi h1 h2 h3 hQ (Or.inl ⟨hw,hy⟩) hS h

/-- a call that alone may come up -/
theorem Zev (i:Nat){oi:Oper}(hi:ops[i]? = some oi)(hr:Region.ready .any ops listed=[i])(hw:Region.wanted oi (yielded ops a.tmps)=true)
  (h:∀ K':Act->World->Prop,Shut (∀ a w,S w->(S w->wpAnyH P .any ops Q S fuel (listed.setIfInBounds i true) a w)->K' a w)->Oper.wp P oi a w K' Q):wpAnyH P .any ops Q S (fuel+1) listed a w:=by
 refine wpAnyH_ready (rs:=[i]) hr (by simp) ?_;refine AllReadyH.cons hi (fun K hK=>?_) AllReadyH.nil;rw [if_pos hw];exact h K hK
theorem take_skp (i:Nat)(d:Tmp) (hb:((ops[i]?).map Oper.dst==some (some d)&&(Zdd ops listed i&&(ops[i]?).map (fun o=>Region.wanted o (yielded ops a.tmps))==some false))=true)
  (hQ:∀ c a w,Q (.panic c) (a.put (some d) undef) w->Q (.panic c) a w) (hS:S w) (h:wpAnyH P .any ops Q S fuel (listed.setIfInBounds i true) (a.put (some d) undef) w):wpAnyH P .any ops Q S (fuel+1) listed a w:=by
 simp only [YAM,beq_iff_eq] at hb;exact ZkH i d hb.1 hb.2.1 hb.2.2 hQ hS h

theorem ZbA (i:Nat)(oi:Oper)(v:Value)(hi:ops[i]? = some oi) (hb:(Zdd ops listed i&&(ops[i]?).map (fun o=>Region.wanted o (yielded ops a.tmps))==some true)=true) (hy:∀ w,S w->(execOp a.eval oi).run P w=.ok (.value v) w)
  (hQ:∀ c a w,Q (.panic c) (a.put oi.dst v) w->Q (.panic c) a w) (hS:S w) (h:wpAnyH P .any ops Q S fuel (listed.setIfInBounds i true) (a.put oi.dst v) w):wpAnyH P .any ops Q S (fuel+1) listed a w:=by
 simp only [YAM,beq_iff_eq] at hb;have h2:=hb.2;rw [hi] at h2;simp only [Option.map_some,Option.some.injEq] at h2;exact Zb1 i hi hb.1 h2 hy hQ hS h

theorem ZhJ (n:Nat)(oi:Oper)(v:Value)(hi:ops[n-(fuel+1)]? = some oi) (hb:(Zdd ops listed (n-(fuel+1))&&(ops[n-(fuel+1)]?).map (fun o=>Region.wanted o (yielded ops a.tmps))==some true)=true) (hy:∀ w,S w->(execOp a.eval oi).run P w=.ok (.value v) w)
  (hQ:∀ c a w,Q (.panic c) (a.put oi.dst v) w->Q (.panic c) a w) (hS:S w) (h:wpAnyH P .any ops Q S fuel (listed.setIfInBounds (n-(fuel+1)) true) (a.put oi.dst v) w):wpAnyH P .any ops Q S (fuel+1) listed a w:=
 ZbA (n-(fuel+1)) oi v hi hb hy hQ hS h

theorem TD (i:Nat){oi:Oper}{v:Value}(h:wpAnyH P .any ops Q S fuel (listed.setIfInBounds i true) (a.put oi.dst v) w)
  (hi:ops[i]? = some oi:=by (rw [hops.out];simp only [getS,Nat.reduceSub,Nat.reduceAdd];rfl))
  (hb:(Zdd ops listed i&&(ops[i]?).map (fun o=>Region.wanted o (yielded ops a.tmps))==some true)=true:=by (rw [hops.out];kernel_rfl))
  (hy:∀ w,S w->(execOp a.eval oi).run P w=.ok (.value v) w:=by (intro W hW;(try dsimp only at hW);go_simp <;> with_reducible rfl))
  (hQ:∀ c a w,Q (.panic c) (a.put oi.dst v) w->Q (.panic c) a w:=by exact fun _ _ _=>id) (hS:S w:=by (first | assumption | trivial)):wpAnyH P .any ops Q S (fuel+1) listed a w:=by
 simp only [YAM,beq_iff_eq] at hb;have h2:=hb.2;rw [hi] at h2;simp only [Option.map_some,Option.some.injEq] at h2;exact Zb1 _ hi hb.1 h2 hy hQ hS h
theorem TK (n:Nat){oi:Oper}{v:Value} (h:wpAnyH P .any ops Q S fuel (listed.setIfInBounds (n-(fuel+1)) true) (a.put oi.dst v) w)
  (hi:ops[n-(fuel+1)]? = some oi:=by (rw [hops.out];simp only [getS,Nat.reduceSub,Nat.reduceAdd];rfl))
  (hb:(Zdd ops listed (n-(fuel+1))&&(ops[n-(fuel+1)]?).map (fun o=>Region.wanted o (yielded ops a.tmps))==some true)=true:=by (rw [hops.out];kernel_rfl))
  (hy:∀ w,S w->(execOp a.eval oi).run P w=.ok (.value v) w:=by (intro W hW;(try dsimp only at hW);go_simp <;> with_reducible rfl))
  (hQ:∀ c a w,Q (.panic c) (a.put oi.dst v) w->Q (.panic c) a w:=by exact fun _ _ _=>id) (hS:S w:=by (first | assumption | trivial)):wpAnyH P .any ops Q S (fuel+1) listed a w:=TD _ h hi hb hy hQ hS
theorem TT (i:Nat){d:Tmp}(h:wpAnyH P .any ops Q S fuel (listed.setIfInBounds i true) (a.put (some d) undef) w)
  (hi:(ops[i]?).map Oper.dst=some (some d):=by (rw [hops.out];simp only [getS,Nat.reduceSub,Nat.reduceAdd];rfl))
  (hb:(Zdd ops listed i&&(ops[i]?).map (fun o=>Region.wanted o (yielded ops a.tmps))==some false)=true:=by (rw [hops.out];kernel_rfl))
  (hQ:∀ c a w,Q (.panic c) (a.put (some d) undef) w->Q (.panic c) a w:=by exact fun _ _ _ h=>h) (hS:S w:=by (first | assumption | trivial)):wpAnyH P .any ops Q S (fuel+1) listed a w:=by
 simp only [YAM,beq_iff_eq] at hb;exact ZkH _ d hi hb.1 hb.2 hQ hS h
theorem TS (n:Nat){d:Tmp} (h:wpAnyH P .any ops Q S fuel (listed.setIfInBounds (n-(fuel+1)) true) (a.put (some d) undef) w)
  (hi:(ops[n-(fuel+1)]?).map Oper.dst=some (some d):=by (rw [hops.out];simp only [getS,Nat.reduceSub,Nat.reduceAdd];rfl))
  (hb:(Zdd ops listed (n-(fuel+1))&&(ops[n-(fuel+1)]?).map (fun o=>Region.wanted o (yielded ops a.tmps))==some false)=true:=by (rw [hops.out];kernel_rfl))
  (hQ:∀ c a w,Q (.panic c) (a.put (some d) undef) w->Q (.panic c) a w:=by exact fun _ _ _ h=>h) (hS:S w:=by (first | assumption | trivial)):wpAnyH P .any ops Q S (fuel+1) listed a w:=TT _ h hi hb hQ hS
theorem TC (i:Nat){oi:Oper} (h:∀ K':Act->World->Prop,Shut (∀ a w,S w->(S w->wpAnyH P .any ops Q S fuel (listed.setIfInBounds i true) a w)->K' a w)->Oper.wp P oi a w K' Q)
  (hi:ops[i]? = some oi:=by (rw [hops.out];simp only [getS];rfl)) (hr:Region.ready .any ops listed=[i]:=by (rw [hops.out];kernel_rfl)) (hw:Region.wanted oi (yielded ops a.tmps)=true:=by (rw [hops.out];kernel_rfl)):wpAnyH P .any ops Q S (fuel+1) listed a w:=
 Zev i hi hr hw h

end
end Go.Proofs.YtcnjnibnecpddaaGreat
namespace Go.Proofs.YtcnjnibnecpddaaGreat
open Go.RowKit
set_option linter.unusedSimpArgs false
set_option linter.unusedVariables false
set_option maxRecDepth 100000
set_option maxHeartbeats 8000000
variable {p:Addr}{k:Nat}{P:Program}{t:TypeId}{u:Value}{w:World}
def Zcm {α:Type}(ord:α->α->Int)(ls:List α):Nat->Bool
 | 0=>true
 | k+1=>match ls[k]?,ls[k+1]? with
  | some p,some l=>decide (ord p l<0)
  | _,_=>true
theorem Zb9 {α:Type}{ord:α->α->Int}{ls:List α}{j:Nat}{p l:α}(hp:ls[j]? = some p)(hl:ls[j+1]? = some l):Zcm ord ls (j+1)=decide (ord p l<0):=by
 simp only [Zcm,hp,hl]
def ascB {α:Type}(ord:α->α->Int)(ls:List α):Bool:=(List.range ls.length).all (Zcm ord ls)
theorem ZaW {n:Nat}{p:Nat->Bool}(hk:k<n)(h:p k=false):(List.range n).all p=false:=by
 cases e:(List.range n).all p with
 | false=>rfl
 | true=>rw [List.all_eq_true.1 e k (List.mem_range.2 hk)] at h;cases h
theorem Zbi {n:Nat}{p:Nat->Bool}(h:∀ j,j<n->p j=true):(List.range n).all p=true:=List.all_eq_true.2 fun j hj=>h j (List.mem_range.1 hj)
theorem ZaT {p:Nat->Bool}(h:∀ j,j<k->p j=true)(hk:p k=true):∀ j,j<k+1->p j=true:=fun j hj=>by
 by_cases e:j=k
 ·subst e;exact hk
 ·exact h j (by omega)
def okAt {α:Type}(ok:α->Bool)(ls:List α)(k:Nat):Bool:=match ls[k]? with
 | some l=>ok l
 | none=>true
theorem ZcE {α:Type}{ok:α->Bool}{ls:List α}{l:α}(h:ls[k]? = some l):okAt ok ls k=ok l:=by simp only [okAt,h]
def ZbV {α:Type}(ok:α->Bool)(ls:List α):Bool:=(List.range ls.length).all (okAt ok ls)
def sumL {α:Type}(ls:List (Value × List α)):Nat:=(ls.map (fun x=>x.2.length)).sum
def Zb4 {α:Type}(ls:List (Value × List α)):List α:=(ls.map (fun x=>x.2)).flatten
theorem Zha {α:Type}(ls:List (Value × List α)):(Zb4 ls).length=sumL ls:=by simp [Zb4,sumL,List.length_flatten,Function.comp_def]
theorem ZdQ {α:Type}{ls:List (Value × List α)}{x:Value × List α}(h:ls[k]? = some x):sumL (ls.take (k+1))=sumL (ls.take k)+x.2.length:=by
 obtain⟨hk,e⟩:=YAD.1 h;unfold sumL;rw [YAI hk,e];simp
theorem Zga {α:Type}{ls:List (Value × List α)}{x:Value × List α}(h:ls[k]? = some x):Zb4 (ls.take (k+1))=Zb4 (ls.take k)++x.2:=by
 obtain⟨hk,e⟩:=YAD.1 h;unfold Zb4;rw [YAI hk,e];simp
theorem ZcW {α:Type}(ls:List (Value × List α))(k:Nat):sumL (ls.take k)<=sumL ls:=by
 have:ls=ls.take k++ls.drop k:=(YAa k ls).symm;have h2:sumL ls=sumL (ls.take k)+sumL (ls.drop k):=by
  conv=>lhs;rw [this]
  unfold sumL;rw [YAh,List.sum_append]
 omega
theorem ZlO {nm:String}:(Builtin.ssaWrapNilChk_ #[t] t #[.pointer (some p),strVal "",strVal nm]).run P w=.ok (.pointer (some p)) w:=rfl
theorem Zh4 {fuel:Nat}{elem e2:TypeId}{f:FuncId}{i:TypeInfo}{m:Go.Method}{name:String}(hi:P.info? t=some i)(hm:i.methods.find? (·.name==name)=some m)(hp:m.path=#[])(hf:m.func=some (f,false))
  (hu:P.underlying t=some (.pointer elem)) (hd:P.underlying elem=some (.slice e2)) (hc:w.cell? p=some u):
  (method (fuel+1) t (.pointer (some p)) name).run P w=.ok (f,u) w:=by
 have hagg:(isAgg elem).run P w=.ok false w:=by
  unfold isAgg;simp [run_underlying hd,go_sem]
 unfold method;simp [typeInfo,hi,hm,hp,hf,follow,receiverAt,run_underlying hu,Place.get,ZlO,asAddr,hagg,go_sem,loadVar,hc]
theorem ZcF {fuel:Nat}{elem e2:TypeId}{f:FuncId}{name:String} (h:(P.info? t).map (fun i=>(i.methods.find? (·.name==name)).map (fun m=>(m.path,m.func)))=some (some (#[],some (f,false))))
  (hu:P.underlying t=some (.pointer elem)) (hd:P.underlying elem=some (.slice e2)) (hc:w.cell? p=some u):
  (method (fuel+1) t (.pointer (some p)) name).run P w=.ok (f,u) w:=by
 obtain⟨i,hi,h1⟩:=Option.map_eq_some_iff.1 h;obtain⟨m,hm,h2⟩:=Option.map_eq_some_iff.1 h1;simp only [Prod.mk.injEq] at h2;exact Zh4 hi hm h2.1 h2.2 hu hd hc
theorem Zfv :Tryz.prog.underlying 295=some (.pointer 275):=by kernel_rfl
theorem ZgO :Tryz.prog.underlying 275=some (.slice 272):=by kernel_rfl
theorem Zek (hc:w.cell? p=some u):(method 462 295 (.pointer (some p)) "Less").run Tryz.prog w=.ok (333,u) w:=
 ZcF (by kernel_rfl) Zfv ZgO hc
theorem Zmt (hc:w.cell? p=some u):(method 462 295 (.pointer (some p)) "Len").run Tryz.prog w=.ok (262,u) w:=
 ZcF (by kernel_rfl) Zfv ZgO hc
theorem Zel (hc:w.cell? p=some u):(method 462 295 (.pointer (some p)) "Swap").run Tryz.prog w=.ok (334,u) w:=
 ZcF (by kernel_rfl) Zfv ZgO hc
end Go.Proofs.YtcnjnibnecpddaaGreat
namespace Go.Proofs.YtcnjnibnecpddaaGreat
open Go.RowKit

def flat {α:Type}(enc:α->List Value)(xs:List α):List Value:=xs.flatMap enc

section
variable {α:Type} {enc:α->List Value} {sz:Nat}

theorem ZbM (x:α)(xs:List α):flat enc (x::xs)=enc x++flat enc xs:=rfl

theorem ZaD (h:∀ a,(enc a).length=sz)(xs:List α):(flat enc xs).length=xs.length*sz:=by
 induction xs with
 | nil=>simp [flat]
 | cons x xs ih=>rw [ZbM,YAO,h,ih,YAm,Nat.add_mul,Nat.one_mul,Nat.add_comm]

theorem Zca (h:∀ a,(enc a).length=sz):∀ (xs:List α) (i r:Nat) (x:α),xs[i]? = some x->r<sz->(flat enc xs)[i*sz+r]? = (enc x)[r]?
 | [],i,r,x,hx,_=>by simp at hx
 | y::ys,0,r,x,hx,hr=>by
  simp at hx;subst hx;rw [ZbM,Nat.zero_mul,Nat.zero_add,List.getElem?_append_left (by rw [h];exact hr)]
 | y::ys,i+1,r,x,hx,hr=>by
  have e:(i+1)*sz+r=sz+(i*sz+r):=by rw [Nat.add_mul,Nat.one_mul];omega
  rw [ZbM,YAv (by rw [h,e];omega),h,e,Nat.add_sub_cancel_left];exact Zca h ys i r x (by simpa using hx) hr

def setL:List Value->Nat->List Value->List Value
 | xs,_,[]=>xs
 | xs,off,v::vs=>setL (xs.set off v) (off+1) vs

theorem Zfq (a b:List Value):∀ (off:Nat) (vs:List Value),setL (a++b) (a.length+off) vs=a++setL b off vs
 | _,[]=>rfl
 | off,v::vs=>by
  unfold setL;rw [List.set_append_right _ _ (by omega),Nat.add_sub_cancel_left];exact Zfq a (b.set off v) (off+1) vs

theorem ZkB:∀ (vs b c:List Value),b.length=vs.length->setL (b++c) 0 vs=vs++c
 | [],b,c,h=>by
  have:b=[]:=List.length_eq_zero_iff.1 (by simpa using h);subst this;rfl
 | v::vs,[],c,h=>by simp at h
 | v::vs,x::b,c,h=>by
  have h2:setL ([v]++(b++c)) ([v].length+0) vs=[v]++setL (b++c) 0 vs:=Zfq [v] (b++c) 0 vs;unfold setL;simp only [List.cons_append,YAp];simp only [List.cons_append,List.nil_append,YAm,List.length_nil,Nat.add_zero] at h2;rw [Nat.zero_add,h2,ZkB vs b c (by simpa using h)]

theorem Zc1 (h:∀ a,(enc a).length=sz):∀ (xs:List α) (k:Nat) (x:α),k<xs.length->setL (flat enc xs) (k*sz) (enc x)=flat enc (xs.set k x)
 | [],k,x,hk=>by simp at hk
 | y::ys,0,x,_=>by
  rw [Nat.zero_mul,ZbM,ZkB _ _ _ (by rw [h,h]),YAp,ZbM]
 | y::ys,k+1,x,hk=>by
  have e:(k+1)*sz=(enc y).length+k*sz:=by rw [h,Nat.add_mul,Nat.one_mul,Nat.add_comm]
  rw [ZbM,e,Zfq,Zc1 h ys k x (by simpa using hk),YAu,ZbM]
end

theorem Zo5 {α:Type}{enc:α->List Value}{sz:Nat}(h:∀ a,(enc a).length=sz)(z:Array Value)(x:α)(hz:z.toList=enc x)(hs:0<sz)(n:Nat):(madeCells z (n*sz)).toList=flat enc (List.replicate n x):=by
 have hzs:z.size=sz:=by rw [<-Array.length_toList,hz,h]
 apply List.ext_getElem?;intro j;by_cases hj:j<n*sz
 ·have e:j=j / sz*sz+j%sz:=by rw [Nat.mul_comm];exact (Nat.div_add_mod j sz).symm
  have hd:j / sz<n:=Nat.div_lt_of_lt_mul (by rw [Nat.mul_comm];exact hj);have hm:j%sz<sz:=Nat.mod_lt _ hs;have g:=Zca h (List.replicate n x) (j / sz) (j%sz) x (by simp [hd]) hm;rw [<-e] at g;rw [g];have hm2:j%sz<z.size:=by rw [hzs];exact hm
  have e2:(enc x)[j%sz]? = some z[j%sz]:=by
   rw [<-hz];simp [hm2]
  rw [e2];simp [madeCells,hj,hzs,getElem!_pos z (j%sz) hm2]
 ·rw [List.getElem?_eq_none (by simp [size_madeCells];omega),List.getElem?_eq_none (by rw [ZaD h];simp;omega)]

def Zaw (W:World)(v:Value)(n sz:Nat)(f:Nat->Value)(B:Nat):Prop:=
 ∃ a cap,v=.slice a n cap/\(n=0\/∃ b off,a=some (U b off)/\b<B/\∀ j,j<n*sz->W.cell? (U b (off+j))=some (f j))

theorem Zaw.later {W W':World}{v:Value}{n sz:Nat}{f:Nat->Value}{B C:Nat}(h:Zaw W v n sz f B)(hb:Below C W W')(hBC:B<=C):Zaw W' v n sz f B:=by
 obtain⟨a,cap,hv,h2⟩:=h;refine⟨a,cap,hv,?_⟩;rcases h2 with h0 | ⟨b,off,ha,hb1,hx⟩
 ·exact .inl h0
 ·exact .inr ⟨b,off,ha,hb1,fun j hj=>by rw [hb.cell (p:=(U b (off+j))) (by show b<C;omega)];exact hx j hj⟩

theorem Zaw.more {W:World}{v:Value}{n sz:Nat}{f:Nat->Value}{B C:Nat}(h:Zaw W v n sz f B)(hBC:B<=C):Zaw W v n sz f C:=by
 obtain⟨a,cap,hv,h2⟩:=h;refine⟨a,cap,hv,?_⟩;rcases h2 with h0 | ⟨b,off,ha,hb1,hx⟩
 ·exact .inl h0
 ·exact .inr ⟨b,off,ha,by omega,hx⟩

theorem Zaw.then {W W':World}{v:Value}{n sz:Nat}{f:Nat->Value}(h:Zaw W v n sz f W.heap.size)(hb:T_ W W'):Zaw W' v n sz f W'.heap.size:=(h.later hb (YA _)).more hb.size

def ZaL {α:Type}(enc:α->List Value)(sz:Nat)(W:World)(v:Value)(xs:List α)(B:Nat):Prop:=Zaw W v xs.length sz (fun j=>(flat enc xs).getD j undef) B

section
variable {α:Type} {enc:α->List Value} {sz:Nat}

theorem ZaL.cell {W:World}{v:Value}{xs:List α}{B:Nat}(h:ZaL enc sz W v xs B)(hs:∀ a,(enc a).length=sz)(i:Nat)(x:α)(hx:xs[i]? = some x):
  ∃ b off cap,v=.slice (some (U b off)) xs.length cap/\b<B/\∀ r u,(enc x)[r]? = some u->W.cell? (U b (off+i*sz+r))=some u:=by
 have hi:i<xs.length:=(YAD.1 hx).1;obtain⟨a,cap,hv,h2⟩:=h;rcases h2 with h0 | ⟨b,off,ha,hb,hc⟩
 ·omega
 ·refine ⟨b,off,cap,by rw [hv,ha],hb,fun r u hu=>?_⟩;have hr:r<sz:=by have:=(YAD.1 hu).1;rw [hs] at this;exact this
  have hg:=Zca hs xs i r x hx hr;have hlt:i*sz+r<xs.length*sz:=by
   have:(i+1)*sz<=xs.length*sz:=Nat.mul_le_mul_right _ hi;rw [Nat.add_mul,Nat.one_mul] at this;omega
  rw [Nat.add_assoc,hc _ hlt];simp only [List.getD_eq_getElem?_getD,hg,hu];rfl

theorem Zan {W:World}{base:Nat}{e:TypeId}{v:Value}{xs:List α}(h:W.ownsRow base e sz v xs.length (flat enc xs)):ZaL enc sz W v xs W.heap.size:=by
 rcases h.2 with ⟨hv,h0⟩ | ⟨g,cap,cur,hv,hg,hh,hnc,hcm,hcs,htk⟩
 ·exact ⟨none,0,by rw [hv,h0],.inl h0⟩
 ·have hlt:g<W.heap.size:=by
   rcases Nat.lt_or_ge g W.heap.size with hl | hl
   ·exact hl
   ·rw [Array.getElem?_eq_none hl] at hh;cases hh
  refine⟨_,cap,hv,.inr ⟨g,0,rfl,hlt,fun j hj=>?_⟩⟩;rw [Nat.zero_add];simp only [World.cell?,hh];have hj2:j<cur.size:=by
   have:xs.length*sz<=cap*sz:=Nat.mul_le_mul_right _ hnc;omega
  have e1:(flat enc xs)[j]? = cur.toList[j]? := by rw [<-htk,YAo hj]
  simp [List.getD,e1,hj2]
end
end Go.Proofs.YtcnjnibnecpddaaGreat
namespace Go.Proofs.YtcnjnibnecpddaaGreat
open Go.RowKit
set_option linter.unusedSimpArgs false
set_option linter.unusedVariables false
set_option maxRecDepth 100000
set_option maxHeartbeats 8000000
variable {a:Act}{ops:Array Oper}{Q:Exit->Act->World->Prop}{b:Int}{rest:List Oper}{i n:Nat}{f:Nat->Value}{o:Oper}{P:Program}{W:World}
def Za5 (l:List Int):List Value:=l.map fun z=>Value.int .i64 z
theorem Zje (a b:List Int):Za5 (a++b)=Za5 a++Za5 b:=by simp [Za5]
theorem Tryz.info3 :(Tryz.prog.info? 3).map (fun i=>(i.zero,i.size,i.bytes))=some (some (M 0),1,8):=by kernel_rfl
theorem Zbt (w:World)(hgd:o.guard=none)(s x:Operand)(t:TypeId)
  (ho:o.op=.call { callee:=.builtin .append,args:=#[s,x],argTypes:=#[t,t] }) (base:Nat) (e:TypeId) (ht:P.underlying t=some (.slice e))
  (hinfo:(P.info? e).map (fun i=>(i.zero,i.size,i.bytes))=some (some (M 0),1,8))
  (v:Value) (l:List Int) (z:Int) (hs:a.eval s=v) (hown:w.ownsRow base e 1 v l.length (Za5 l))
  (ad:Addr) (c:Nat) (hx:a.eval x=.slice (some ad) 1 c) (hnews:w.cell? (ad.add 0)=some (M z))
  (hlen:l.length+1<=1000000000) (hbase:base<=w.heap.size)
  (h:∀ v' w' l',Hid (l'=l++[z])->w'.ownsRow base e 1 v' l'.length (Za5 l')->w.grownBy w' v.ownBlock->wpList P ops Q rest (a.put o.dst v') w'):wpList P ops Q (o::rest) a w:=by
 obtain⟨i0,hi,hz0,hz1,hz2⟩:=info_parts hinfo;refine wpList_append_own w hgd s x t ho base e i0 (M 0) 1 8 ht hi hz0 hz1 hz2 rfl (by decide) v l.length (Za5 l) hs hown ad 1 c (Za5 [z]) hx (by simp [Za5]) ?_ ?_ (by unfold maxLen;omega) (by omega) hbase ?_
 ·intro j u hj;have hj':j=0:=by have:=(YAD.1 hj).1;simp [Za5] at this;omega
  subst hj';rw [hnews];simpa [Za5] using hj
 ·intro u hu;simp only [Za5,YAV] at hu;obtain⟨b,_,rfl⟩:=hu;rfl
 ·intro v' w' h1 h2 _;rw [<-Zje] at h1;exact h v' w' (l++[z]) rfl (by simpa using h1) h2
theorem Zba (x a b:Int)(w:World):Calls Tryz.prog 70 #[M x,M a,M b] w fun e w'=>e=.returned (.bool (inB x a b))/\w=w':=by
 by_cases h1:a<=x <;> by_cases h2:x<=b
 all_goals
  go_enter Tryz.func70,Tryz.ntmps70
  go_wp2;go_ret;exact⟨by simp [inB,h1,h2],rfl⟩
def cmpN (a b:Int):Int:=if a<b then -1 else if b<a then 1 else 0
theorem Zbd {a:Int}:cmpN a b=0↔a=b:=by unfold cmpN;split <;> (try split) <;> omega
theorem ZdX {a:Int}:cmpN a b<0↔a<b:=by unfold cmpN;split <;> (try split) <;> omega
theorem Zkz {a:Int}(h:b=a):Ending.returned (M a)=.returned (M b):=by rw [h]
theorem Zkj (a:Int)(w:World):Calls Tryz.prog 236 #[M a] w fun e w'=>e=.returned (.bool false)/\w=w':=by
 go_enter Tryz.func236,Tryz.ntmps236
 go_wp2;go_ret;exact⟨by simp,rfl⟩
theorem Zbm (a b:Int)(w:World):Calls Tryz.prog 204 #[M a,M b] w fun e w'=>e=.returned (M (cmpN a b))/\w=w':=by
 go_enter Tryz.func204,Tryz.ntmps204
 go_wp2_with fail
 refine (Zkj a _).mono ?_;rintro e w1 ⟨rfl,rfl⟩
 go_wp2_with fail
 refine (Zkj b _).mono ?_;rintro e w1 ⟨rfl,rfl⟩;go_wp2
 all_goals go_ret
 all_goals refine ⟨Zkz ?_,rfl⟩
 all_goals (unfold cmpN;grind)
theorem Zqu {W':World}(hb:T_ W W')(hd:W.drawn<=W'.drawn):∃ q os',W'=Go.Sort.grow (W.drewN q) os':=by
 refine⟨W'.drawn-W.drawn,W'.heap.extract W.heap.size W'.heap.size,?_⟩;have hh:W'.heap=W.heap++W'.heap.extract W.heap.size W'.heap.size:=by
  apply Array.ext_getElem?;intro i;by_cases hi:i<W.heap.size
  ·rw [Array.getElem?_append_left hi];exact hb.block i hi
  ·rw [Array.getElem?_append_right (by omega),Array.getElem?_extract];have:=hb.size;by_cases h2:i<W'.heap.size
   ·rw [if_pos (by omega)];congr 1;omega
   ·rw [if_neg (by omega),Array.getElem?_eq_none (by omega)]
 obtain⟨h1,h2,h3,h4,h5⟩:=W';have e1:=hb.os;have e2:=hb.tape;have e3:=hb.output;simp only at e1 e2 e3 hh hd;subst e1 e2 e3;unfold Go.Sort.grow;simp only [World.drewN];congr 1;omega
theorem ZnI {g cap sz base:Nat}{e:TypeId}{cur:Array Value}{xs:List Value}(hg:W.heap[g]? = some (.cells cur e (0,0)))(hb:base<=g)(hn:n<=cap)(hm:cap<=maxLen)(hs:cur.size=cap*sz)(hx:xs.length=n*sz)(hc:∀ j,j<n*sz->W.cell? (U g j)=xs[j]?):W.ownsRow base e sz (.slice (some (U g 0)) n cap) n xs:=by
 refine⟨hx,.inr ⟨g,cap,cur,rfl,hb,hg,hn,hm,hs,?_⟩⟩;apply List.ext_getElem?;intro j;rw [List.getElem?_take];by_cases hj:j<n*sz
 ·rw [if_pos hj,Array.getElem?_toList, <-hc j hj];simp [World.cell?,hg]
 ·rw [if_neg hj,List.getElem?_eq_none (by omega)]
theorem ZhH {α:Type} [Inhabited α]{enc:α->List Value}{k:Nat}{w:World}{g m:Nat}{dk:Array α}{os:Array Obj}{cur:Array Value}{e:TypeId}(hg:w.heap[g]? = some (.cells cur e (0,0))):∃ cur',(Go.Proofs.sortWorldK enc k w g 0 m dk os).heap[g]? = some (.cells cur' e (0,0))/\cur'.size=cur.size:=by
 have hl:=Zab hg;refine⟨Go.Sort.putCells id 0 (Go.Sort.flatK enc k dk) cur,?_,by simp [Go.Sort.putCells]⟩;unfold Go.Proofs.sortWorldK Go.Sort.grow Go.Sort.putRowK;rw [Array.getElem?_append_left (by simpa [Go.Sort.putRow,Go.Sort.mapBlock,Go.Sort.ahead] using hl)];simp [Go.Sort.putRow,Go.Sort.mapBlock,Go.Sort.ahead,Array.getElem?_modify,hg,Go.Sort.onCells]
theorem ZhI {α:Type} [Inhabited α]{enc:α->List Value}{k:Nat}{w:World}{g m:Nat}{dk:Array α}{os:Array Obj}:w.grownBy (Go.Proofs.sortWorldK enc k w g 0 m dk os) (some g):=by
 refine⟨rfl,rfl,rfl,by unfold Go.Proofs.sortWorldK Go.Sort.grow Go.Sort.putRowK;simp [Go.Sort.putRow,Go.Sort.mapBlock,Go.Sort.ahead],fun j hj hne=>?_⟩;have hne':g≠j:=fun e=>hne (by rw [e]);unfold Go.Proofs.sortWorldK Go.Sort.grow Go.Sort.putRowK;rw [Array.getElem?_append_left (by simpa [Go.Sort.putRow,Go.Sort.mapBlock,Go.Sort.ahead] using hj)];simp [Go.Sort.putRow,Go.Sort.mapBlock,Go.Sort.ahead,Array.getElem?_modify,hne']
theorem ZbC {p:Prop} [Decidable p](h:¬p):Ending.returned (.bool false)=.returned (.bool (decide p)):=by rw [YAZ h]
theorem Zck {p:Prop} [Decidable p](h:p):Ending.returned (.bool true)=.returned (.bool (decide p)):=by rw [YAc h]
theorem Zap {w:World}(o1 o2:Obj):T_ w ((w.alloc o1).alloc o2):=((YAC _ _).alloc (YA _) _).alloc (by simp) _
theorem Zcw {w:World}(o1 o2 o3:Obj):T_ w (((w.alloc o1).alloc o2).alloc o3):=(Zap o1 o2).alloc (by simp;omega) _
theorem Zcg {α:Type}{enc:α->List Value}{sz:Nat}(hsz:∀ a,(enc a).length=sz)(hpos:0<sz)(w:World)
  (hg:o.guard=none) (l c:Operand) (t:TypeId) (hop:o.op=Op.makeSlice t l c) (base:Nat) (e:TypeId) (i:TypeInfo) (z:Value) (x:α) (hz:z.cells.toList=enc x)
  (h1:P.underlying t=some (.slice e)) (h2:P.info? e=some i) (h3:i.zero=some z) (h4:i.size=sz) (n:Nat) (hl:a.eval l=M (n:Int)) (hc:a.eval c=M (n:Int)) (b2:i.bytes*n<=281474976710656) (b3:n<=maxLen) (b4:base<=w.heap.size)
  (hK:∀ w',w'.ownsRow base e sz (.slice (some (U w.heap.size 0)) n n) n (flat enc (List.replicate n x))->w.grownBy w' none->wpList P ops Q rest (a.put o.dst (.slice (some (U w.heap.size 0)) n n)) w'):
  wpList P ops Q (o::rest) a w:=
 wpList_make_full w hg l c t hop base e i z sz h1 h2 h3 h4 .i64 .i64 (n:Int) (n:Int) n hl hc rfl rfl b2 b3 b4 (fun w' k1 k2=>hK w' (by rw [<-Zo5 hsz z.cells x hz hpos];exact k1) k2)
def part {α:Type}(xs:List α)(z:α)(k:Nat):List α:=xs.take k++List.replicate (xs.length-k) z
theorem Zjs {α:Type}(xs:List α)(z:α)(k:Nat)(h:k<=xs.length):(part xs z k).length=xs.length:=by simp [part];omega
theorem Zhs {α:Type}(xs:List α)(z x:α)(k:Nat)(h:xs[k]? = some x):(part xs z k).set k x=part xs z (k+1):=by
 obtain⟨hk,e⟩:=YAD.1 h;unfold part;rw [List.set_append_right _ _ (by simp;omega),YAS,YAR (by omega),Nat.sub_self];have e2:xs.length-k=(xs.length-(k+1))+1:=by omega
 rw [e2,List.replicate_succ,YAp,YAI hk,e];simp
theorem Zjr {α:Type}(xs:List α)(z:α):part xs z xs.length=xs:=by simp [part]
theorem Zr8 {α:Type}{xs ys:List α}{k:Nat}{x y:α}(hx:xs[k]? = some x)(hy:ys[k]? = some y)(h:x≠y):¬xs=ys:=by
 rintro rfl;rw [hx] at hy;exact h (Option.some.inj hy)
theorem Zox {α:Type}{xs ys:List α}(hl:xs.length=ys.length)(h:∀ j,j<xs.length->xs[j]? = ys[j]?):xs=ys:=by
 apply List.ext_getElem?;intro i;by_cases hi:i<xs.length
 ·exact h i hi
 ·rw [List.getElem?_eq_none (by omega),List.getElem?_eq_none (by omega)]
theorem Zlf (w:World)(a b c:Obj):(((w.alloc a).alloc b).alloc c).heap[w.heap.size]? = some a:=by
 rw [YAL _ _ _ (by simp;omega),YAL _ _ _ (by simp),YAE]
theorem Zlg (w:World)(a b c:Obj):(((w.alloc a).alloc b).alloc c).heap[w.heap.size+1]? = some b:=by
 rw [YAL _ _ _ (by simp)];have:=YAE (w.alloc a) b;simpa using this
theorem Zlh (w:World)(a b c:Obj):(((w.alloc a).alloc b).alloc c).heap[w.heap.size+1+1]? = some c:=by
 have:=YAE ((w.alloc a).alloc b) c;simpa using this
theorem Zai {a b:Bool}(h:b=a):Ending.returned (.bool a)=.returned (.bool b):=by rw [h]
def blE (b:Bool):List Value:=[.bool b]
theorem ZiT (b:Bool):(blE b).length=1:=rfl
def Za6 (W:World)(v:Value)(bs:List Bool)(B:Nat):Prop:=ZaL blE 1 W v bs B
theorem Za6.shape {v:Value}{bs:List Bool}{B:Nat}(h:Za6 W v bs B):∃ a cap,v=.slice a bs.length cap:=by obtain ⟨a,cap,h,_⟩:=h;exact⟨a,cap,h⟩
theorem Za6.cell {v:Value}{bs:List Bool}{B:Nat}(h:Za6 W v bs B)(i:Nat)(b:Bool)(hb:bs[i]? = some b):∃ g off cap,v=.slice (some (U g off)) bs.length cap/\g<B/\W.cell? (U g (off+i))=some (.bool b):=by
 obtain⟨g,off,cap,hv,hg,hc⟩:=ZaL.cell h ZiT i b hb;refine⟨g,off,cap,hv,hg,?_⟩;have:=hc 0 _ rfl;simpa using this
def rowA (f:Nat->Value)(n:Nat):Array Value:=((List.range n).map f).toArray
theorem Zsi (h:i<n):(rowA f n)[i]? = some (f i):=by
 simp [rowA,h]
theorem Zre (f:Nat->Value)(n i:Nat)(x:Value):(rowA f n).setIfInBounds i x=rowA (fun j=>if j=i then x else f j) n:=by
 apply Array.ext
 ·simp [rowA]
 ·intro j h1 h2;have hj:j<n:=by simpa [rowA] using h2
  simp [rowA];by_cases e:i=j
  ·subst e;simp
  ·have e':¬j=i:=fun h=>e h.symm;simp [e,e']
theorem ZdP {g:Nat->Value}(h:∀ i,i<n->f i=g i):rowA f n=rowA g n:=by
 unfold rowA;congr 1;apply List.map_congr_left;intro i hi;exact h i (List.mem_range.1 hi)
theorem ZfW {b:Nat}{t:TypeId}(h:W.heap[b]? = some (.cells (rowA f n) t))(hi:i<n):W.cell? (U b i)=some (f i):=by
 have e:=Zaa h i;rw [Zsi hi] at e;exact e
theorem ZgM {b:Nat}{t:TypeId}(h:W.heap[b]? = some (.cells (rowA f n) t))(x:Value):(W.setCell (U b i) x).heap[b]? = some (.cells (rowA (fun j=>if j=i then x else f j) n) t):=by
 have e:=YAd W b i _ _ x h;rw [Zre] at e;exact e
theorem ZpB (z:Value)(n:Nat):madeCells #[z] n=rowA (fun _=>z) n:=by
 apply Array.ext
 ·simp [rowA,madeCells]
 ·intro j h1 h2;simp [rowA,madeCells,Nat.mod_one]
theorem Zcc (w:World)
  (hg:o.guard=none) (l c:Operand) (t:TypeId) (hop:o.op=Op.makeSlice t l c)
  (e:TypeId) (z:Value) (bytes:Nat) (ht:P.underlying t=some (.slice e)) (hinfo:(P.info? e).map (fun i=>(i.zero,i.size,i.bytes))=some (some z,1,bytes)) (hz1:z.cells=#[z])
  (n:Nat) (hl:a.eval l=M (n:Int)) (hc:a.eval c=M (n:Int)) (hbytes:bytes*n<=281474976710656) (h63:n<=9223372036854775807)
  (hK:wpList P ops Q rest (a.put o.dst (.slice (some (U w.heap.size 0)) n n)) (w.alloc (.cells (rowA (fun _=>z) n) e))):
  wpList P ops Q (o::rest) a w:=by
 obtain⟨i,hi,hzz⟩:=Option.map_eq_some_iff.1 hinfo;simp only [Prod.mk.injEq] at hzz;obtain⟨hz,hs,hb⟩:=hzz;refine wpList_make_row w hg l c t hop e i z ht hi hz hs hz1 .i64 .i64 n hl hc (by rw [hb];exact hbytes) h63 ?_;rw [ZpB];exact hK
end Go.Proofs.YtcnjnibnecpddaaGreat
namespace Go.Proofs.YtcnjnibnecpddaaGreat
open Go.RowKit

open Go.Sort Go.Lib in
theorem Zrm (base:Nat)(u:Value)(zs:List Int)(w:World)(hown:w.ownsRow base 3 1 u zs.length (Za5 zs))(hz:zs.length<=1000000000):
  Calls Tryz.prog 273 #[u] w fun e w'=>e=.returned (.tuple #[])/\w'.ownsRow base 3 1 u (zs.mergeSort fun x y=>decide (x<=y)).length (Za5 (zs.mergeSort fun x y=>decide (x<=y)))/\(∀ B w0,B<=base->Below B w0 w->Below B w0 w'):=by
 by_cases h0:zs=[]
 ·subst h0;obtain⟨a,cap,rfl⟩:=Zcq hown;refine (Tryz.slices_Sort_int_none a cap w).mono ?_;rintro e w' ⟨rfl,rfl⟩;exact⟨rfl,by simpa using hown,fun _ _ _ h=>h⟩
 ·have hne:0<zs.length:=List.length_pos_iff.2 h0;obtain⟨g,cap,hv,hg,hlt,hnc,hcm,_,hH⟩:=holds_of_ownsRow (enc:=Value.int .i64) hown (fun e=>by
   obtain⟨g,cp,e2,_⟩:=ZdM hown hne;rw [e2] at e;cases e)
  subst hv;have hh:=hown.2;rcases hh with ⟨e0,_⟩ | ⟨g',cap',cur,e0,_,hc,_,_,hs,_⟩
  ·cases e0
  ·cases e0;refine (Tryz.slices_Sort_int g 0 cap zs w hH hlt (by omega)).mono ?_;rintro e w' ⟨rfl,n,os,rfl⟩;have hl:(zs.mergeSort fun x y=>decide (x<=y)).length=zs.length:=List.length_mergeSort _;refine⟨rfl,?_,fun B w0 hB h=>h.grown (grownBy_sortedI _) (by omega) (fun k hk=>by simp at hk;omega)⟩;rw [hl];exact ownsRow_sortedI hl hg hc hnc hcm hs

open Go.Sort Go.Lib in
theorem Zk3 (base:Nat)(u:Value)(zs:List Int)(w:World)(hown:w.ownsRow base 3 1 u zs.length (Za5 zs))(hz:zs.length<=1000000000):
  Calls Tryz.prog 274 #[u] w fun e w'=>∃ x,e=.returned x/\w'.ownsRow base 3 1 x (Lib.compact zs).length (Za5 (Lib.compact zs))/\(∀ B w0,B<=base->Below B w0 w->Below B w0 w'):=by
 by_cases h0:zs=[]
 ·subst h0;obtain⟨a,cap,rfl⟩:=Zcq hown;refine (Tryz.slices_Compact_int_empty a cap w).mono ?_;rintro e w' ⟨rfl,rfl⟩;exact⟨_,rfl,by simpa [Lib.compact,Lib.compactUpTo] using hown,fun _ _ _ h=>h⟩
 ·have hne:0<zs.length:=List.length_pos_iff.2 h0;obtain⟨g,cap,hv,hg,hlt,hnc,hcm,_,hH⟩:=holds_of_ownsRow (enc:=Value.int .i64) hown (fun e=>by
   obtain⟨g,cp,e2,_⟩:=ZdM hown hne;rw [e2] at e;cases e)
  subst hv;refine (Tryz.slices_Compact_int g 0 cap zs w hH (by omega) hnc).mono ?_;rintro e w' ⟨rfl,q,rfl⟩;have hle:=Lib.compact_length_le zs;have ho:=ownsRow_putRow (q:=q) (k:=(Lib.compact zs).length) (ys:=Lib.compact zs++List.replicate (zs.length-(Lib.compact zs).length) 0) hown (by simp;omega) hle;rw [List.take_append_of_le_length (YA _),YAf] at ho;exact⟨_,rfl,ho,fun B w0 hB h=>below_putRow h (by omega)⟩

theorem ZjE (d:Array Int):∀ (m j:Nat),j<m->d[j]! ∈ Lib.compactUpTo d m
 | 0,j,h=>by omega
 | m+1,j,h=>by
  rw [Lib.compactUpTo_succ];by_cases hj:j<m
  ·exact List.mem_append_left _ (ZjE d m j hj)
  ·obtain rfl:j=m:=by omega
   by_cases hk:Lib.keeps d j=true
   ·rw [if_pos hk];simp
   ·have hk2:¬(j=0\/d[j]! ≠ d[j-1]!):=by simpa [Lib.keeps] using hk
    have h0:0<j:=by omega
    have he:d[j]! = d[j-1]! := by
     by_cases e:d[j]! = d[j-1]!
     ·exact e
     ·exact absurd (Or.inr e) hk2
    rw [he];exact List.mem_append_left _ (ZjE d j (j-1) (by omega))

theorem ZlD {zs:List Int}{x:Int}:x∈Lib.compact zs↔x∈zs:=by
 constructor
 ·intro h;simp only [Lib.compact,Lib.compactUpTo,YAV,YAY,List.mem_range] at h;obtain⟨j,⟨hj,_⟩,rfl⟩:=h;have:zs.toArray[j]! = zs[j]:=by simp [hj]
  rw [this];exact YAw hj
 ·intro h;obtain⟨j,hj,rfl⟩:=List.mem_iff_getElem.1 h;have e:zs[j]=zs.toArray[j]! := by simp [hj]
  rw [e];exact ZjE _ _ j hj

theorem ZmZ (d:Array Int)(n:Nat)(hs:∀ i j,i<=j->j<n->d[i]! <= d[j]!):∀ m,m<=n->(Lib.compactUpTo d m).Pairwise (· < ·)
 | 0,_=>by simp [Lib.compactUpTo]
 | m+1,h=>by
  rw [Lib.compactUpTo_succ,YAQ];refine⟨ZmZ d n hs m (by omega),by split <;> simp,fun x hx y hy=>?_⟩;simp only [Lib.compactUpTo,YAV,YAY,List.mem_range] at hx;obtain⟨j,⟨hj,_⟩,rfl⟩:=hx
  split at hy
  ·rename_i hk
   have e:y=d[m]! := by simpa using hy
   subst e;have hk2:m=0\/d[m]! ≠ d[m-1]! := by simpa [Lib.keeps] using hk
   have h1:=hs j (m-1) (by omega) (by omega);have h2:=hs (m-1) m (by omega) (by omega);rcases hk2 with h3 | h3
   ·omega
   ·omega
  ·cases hy

theorem ZnW {zs:List Int}(hp:zs.Pairwise (fun a b=>decide (a<=b)=true)):∀ i j,i<=j->j<zs.length->zs.toArray[i]! <= zs.toArray[j]! := by
 intro i j hij hj;have hi:i<zs.length:=by omega
 have e1:zs.toArray[i]! = zs[i]:=by simp [hi]
 have e2:zs.toArray[j]! = zs[j]:=by simp [hj]
 rw [e1,e2];by_cases e:i=j
 ·subst e;exact Int.le_refl _
 ·have:=YAb.1 hp i j hi hj (by omega);simpa using this

def Zcy (a b:List Int):List Int:=Lib.compact ((a++b).mergeSort fun x y=>decide (x<=y))

theorem ZfI {a b:List Int}{x:Int}:x∈Zcy a b↔x∈a\/x∈b:=by
 unfold Zcy;rw [ZlD,List.mem_mergeSort,YAF]

theorem Zg6 (a b:List Int):(Zcy a b).Pairwise (· < ·):=by
 unfold Zcy Lib.compact;refine ZmZ _ _ ?_ _ (YA _);have hp:=List.pairwise_mergeSort (le:=fun x y:Int=>decide (x<=y)) (fun a b c h1 h2=>by simp at h1 h2 |-;omega) (fun a b=>by simp;omega) (a++b);exact ZnW hp

end Go.Proofs.YtcnjnibnecpddaaGreat
namespace Go.Proofs.YtcnjnibnecpddaaGreat
open Go.RowKit Go.ChangeShapes Go.WideShapes

section
variable {H:Type} {enc:TypeId × Value->H} {P:Program} {w:World} {base:Nat} {spare:Nat->Bool} {held:Bool}

theorem Zp7 {a:Addr}(h:a.spot=none)(j:Nat):a.add j=(U a.block (a.off+j)):=by
 obtain⟨b,o,s⟩:=a;simp at h;subst h;simp only [Addr.add]
 split <;> simp_all

end
end Go.Proofs.YtcnjnibnecpddaaGreat
namespace Go.Proofs.YtcnjnibnecpddaaGreat
open Go.RowKit Go.ChangeShapes Go.WideShapes

section
variable {H:Type} {enc:TypeId × Value->H} {P:Program} {w:World} {base:Nat} {spare:Nat->Bool} {held:Bool}

theorem Zoc {a:Addr}(h:a.spot=none)(j:Nat):a.add j=(U a.block (a.off+j)):=by
 obtain⟨b,o,s⟩:=a;simp at h;subst h;simp only [Addr.add]
 split <;> simp_all

theorem Zkt {e:TypeId}{f0 f1 f2 f3:Field}{fuel:Nat}{cs:List Value}{x:DataW H × List MemPlace}(he:P.underlying e=some (.struct #[f0,f1,f2,f3]))(ce:P.cellsOf e=4)
  (o0:f0.offset=0) (o1:f1.offset=1) (o2:f2.offset=2) (o3:f3.offset=3) (c0:P.cellsOf f0.type=1) (c1:P.cellsOf f1.type=1) (c2:P.cellsOf f2.type=1) (c3:P.cellsOf f3.type=1)
  (h:DataW.trod enc P w base spare held fuel e cs=some x):
  ∃ v0 v1 v2 v3 n y0 y1 y2 y3,cs=[v0,v1,v2,v3]/\DataW.trod enc P w base spare held n f0.type [v0]=some y0/\DataW.trod enc P w base spare held n f1.type [v1]=some y1 /\
   DataW.trod enc P w base spare held n f2.type [v2]=some y2/\DataW.trod enc P w base spare held n f3.type [v3]=some y3:=by
 obtain⟨xs,k,hk,hxy,hcl,hxl,hf⟩:=DataW.trod_struct he h;rw [ce] at hcl
 match xs,hxl,cs,hcl with
 | [y0,y1,y2,y3],_,[v0,v1,v2,v3],_=>
  have g0:=hf 0 f0 rfl;have g1:=hf 1 f1 rfl;have g2:=hf 2 f2 rfl;have g3:=hf 3 f3 rfl;simp [o0,o1,o2,o3,c0,c1,c2,c3] at g0 g1 g2 g3;exact⟨v0,v1,v2,v3,k,y0,y1,y2,y3,rfl,g0,g1,g2,g3⟩

theorem Zgt {α:Type} [Inhabited α]{encE:α->List Value}(hsz:∀ a,(encE a).length=4){t e:TypeId}{fuel:Nat}{cs:List Value}{x:DataW H × List MemPlace}(ht:P.underlying t=some (.slice e))(ce:P.cellsOf e=4)
  (hel:∀ fuel cs x,DataW.trod enc P w base spare held fuel e cs=some x->∃ a:α,cs=encE a) (h:DataW.trod enc P w base spare held fuel t cs=some x):
  ∃ v xs,cs=[v]/\ZaL encE 4 w v xs w.heap.size/\xs.length<=maxLen:=by
 rcases Go.Deep.open_slice ht h with ⟨h0,_⟩ | ⟨a,len,cap,m,n,D,Pl,rfl,hb,hlc,hcm,hmm,_,hx⟩
 ·exact ⟨_,[],h0,⟨none,0,rfl,.inl rfl⟩,by simp⟩
 ·have hlm:len<=m:=by rw [hmm];split <;> omega
  have each:∀ i,i<len->∃ q:α,∀ r u,(encE q)[r]? = some u->w.cell? (a.add (i*4+r))=some u:=by
   intro i hi;obtain⟨cs',h1,h2⟩:=hx i (by omega);rw [ce] at h1;obtain⟨_,hlen,hcell⟩:=World.cells?_some h1;obtain⟨q,rfl⟩:=hel _ _ _ h2;refine⟨q,fun r u hu=>?_⟩;have hr:r<4:=by have:=(YAD.1 hu).1;rw [hsz] at this;exact this
   rw [<-Go.Deep.add_add,hcell r hr,hu]
  obtain⟨q,hq⟩:=Go.Deep.choose_lt each;refine⟨_,(List.range len).map q,rfl,?_,by simp;omega⟩;have hl:((List.range len).map q).length=len:=by simp
  unfold ZaL Zaw;rw [hl];refine⟨_,cap,rfl,?_⟩;by_cases hl0:len=0
  ·exact .inl hl0
  ·right;have hsp:a.spot=none:=by
    have hu:(encE (q 0))[0]? = some ((encE (q 0))[0]'(by rw [hsz];omega)):=YAA _;have:=World.cell?_spot (hq 0 (by omega) 0 _ hu);simpa [Addr.add] using this
   have hblk:a.block<w.heap.size:=by
    have hu:(encE (q 0))[0]? = some ((encE (q 0))[0]'(by rw [hsz];omega)):=YAA _;have:=World.block_lt_of_cell? w _ (hq 0 (by omega) 0 _ hu);simpa [Addr.add] using this
   refine⟨a.block,a.off,by obtain ⟨b,o,s⟩:=a;simp at hsp;rw [hsp],hblk,fun j hj=>?_⟩;have e:j=j / 4*4+j%4:=by omega
   have hd:j / 4<len:=by omega
   have hm4:j%4<4:=by omega
   have hg:=Zca hsz ((List.range len).map q) (j / 4) (j%4) (q (j / 4)) (by simp [hd]) hm4;have hu:(encE (q (j / 4)))[j%4]? = some ((encE (q (j / 4)))[j%4]'(by rw [hsz];exact hm4)):=YAA _;have:=hq (j / 4) hd (j%4) _ hu;rw [<-e,Zoc hsp] at this;rw [this];rw [<-e] at hg;simp only [List.getD_eq_getElem?_getD,hg,hu];rfl
end
end Go.Proofs.YtcnjnibnecpddaaGreat
namespace Go.Proofs.YtcnjnibnecpddaaGreat
open Go.RowKit
set_option linter.unusedSimpArgs false
set_option linter.unusedVariables false
set_option maxRecDepth 100000
set_option maxHeartbeats 8000000
variable {l:List Int}{B:Nat}{v:Value}{W:World}
structure Lk where
 a:Int
 b:Int
 c:Int
 r:Int
 deriving DecidableEq
structure Th where
 o:Int
 k:Int
 c:Int
 f:Bool
 deriving DecidableEq
def lkV (l:Lk):Value:=.agg #[M l.a,M l.b,M l.c,M l.r]
def thV (t:Th):Value:=.agg #[M t.o,M t.k,M t.c,.bool t.f]
theorem Zn5 (l:Lk)(w:World):Calls Tryz.prog 176 #[lkV l] w fun e w'=>e=.returned (lkV l)/\T_ w w':=by
 obtain⟨a,b,c,r⟩:=l;unfold lkV
 go_enter Tryz.func176,Tryz.ntmps176
 go_wp2
 go_returns
 exact⟨rfl,Zcw _ _ _⟩
theorem ZlZ (l:Th)(w:World):Calls Tryz.prog 177 #[thV l] w fun e w'=>e=.returned (thV l)/\T_ w w':=by
 obtain⟨a,b,c,r⟩:=l;unfold thV
 go_enter Tryz.func177,Tryz.ntmps177
 go_wp2
 go_returns
 exact⟨rfl,Zcw _ _ _⟩
theorem Zm7 (l m:Lk)(w:World):Calls Tryz.prog 179 #[lkV l,lkV m] w fun e w'=>e=.returned (.bool (decide (l=m)))/\T_ w w':=by
 obtain⟨a,b,c,r⟩:=l;obtain⟨a',b',c',r'⟩:=m;unfold lkV
 go_enter Tryz.func179,Tryz.ntmps179
 go_wp2
 all_goals go_returns
 all_goals refine ⟨?_,Zap _ _⟩
 all_goals first
  | exact ZbC (fun h=>by cases h;simp_all)
  | exact Zck (by simp_all)
theorem Zla (l m:Th)(w:World):Calls Tryz.prog 180 #[thV l,thV m] w fun e w'=>e=.returned (.bool (decide (l=m)))/\T_ w w':=by
 obtain⟨a,b,c,r⟩:=l;obtain⟨a',b',c',r'⟩:=m;unfold thV
 go_enter Tryz.func180,Tryz.ntmps180
 go_wp2
 all_goals go_returns
 all_goals refine ⟨?_,Zap _ _⟩
 all_goals first
  | exact ZbC (fun h=>by cases h;simp_all)
  | exact Zck (by simp_all)
structure Nr where
 to:Int
 c:Int
 deriving DecidableEq
instance:Inhabited Nr:=⟨⟨0,0⟩⟩
def nrV (l:Nr):Value:=.agg #[M l.to,M l.c]
def nrE (l:Nr):List Value:=[M l.to,M l.c]
theorem Zjk (l:Nr):(nrE l).length=2:=rfl
def ZaG (W:World)(v:Value)(ls:List Nr)(B:Nat):Prop:=ZaL nrE 2 W v ls B
theorem ZaG.then {W':World}{ls:List Nr}(h:ZaG W v ls W.heap.size)(hb:T_ W W'):ZaG W' v ls W'.heap.size:=Zaw.then h hb
theorem ZaG.shape {ls:List Nr}(h:ZaG W v ls B):∃ a cap,v=.slice a ls.length cap:=by obtain ⟨a,cap,h,_⟩:=h;exact⟨a,cap,h⟩
theorem ZaG.cells {ls:List Nr}(h:ZaG W v ls B)(i:Nat)(l:Nr)(hl:ls[i]? = some l):
  ∃ b off cap,v=.slice (some (U b off)) ls.length cap/\b<B/\W.cell? (U b (off+i*2))=some (M l.to)/\W.cell? (U b (off+i*2+1))=some (M l.c):=by
 obtain⟨b,off,cap,hv,hb,hc⟩:=ZaL.cell h Zjk i l hl;exact⟨b,off,cap,hv,hb,hc 0 _ rfl,hc 1 _ rfl⟩
def nr0:Nr:=⟨0,0⟩
theorem Tryz.infoNr :(Tryz.prog.info? 106).map (fun i=>(i.zero,i.size,i.bytes))=some (some (nrV nr0),2,16):=by kernel_rfl
theorem ZaF {α:Type}{enc:α->List Value}(xs ys:List α):flat enc (xs++ys)=flat enc xs++flat enc ys:=by simp [flat]
theorem Zar {w:World}{cs:List Value}{t:TypeId}:∀ (j:Nat) (u:Value),cs[j]? = some u->(w.alloc (.cells cs.toArray t)).cell? (((U w.heap.size 0):Addr).add j)=some u:=by
 intro j u hj;have e:((U w.heap.size 0):Addr).add j=(U w.heap.size j):=by
  simp only [Addr.add]
  split <;> simp_all
 rw [e,World.cell?_alloc_at _ _ _ _ rfl];simpa using hj
def intC (zs:List Int)(j:Nat):Value:=M (zs.getD j 0)
def Zob (W:World)(v:Value)(zs:List Int)(B:Nat):Prop:=Zaw W v zs.length 1 (intC zs) B
theorem ZdW {w wr:World}(h:Below B w wr)(n:Nat):Below B w (wr.drewN n):=⟨h.os,h.tape,h.output,h.size,h.block⟩
theorem Znu {xs ys:List Int}{k:Nat}(h:xs.getD k 0≠ys.getD k 0):¬xs=ys:=by
 rintro rfl;exact h rfl
theorem ZlA {xs ys:List Int}(hl:xs.length=ys.length)(h:∀ j,j<xs.length->xs.getD j 0=ys.getD j 0):xs=ys:=by
 apply List.ext_getElem hl;intro i h1 h2;have:=h i h1;simpa [List.getD,YAA h1,YAA h2] using this
theorem ZrV (v1 v2:Value)(xs ys:List Int)(w:World)(h1:Zob w v1 xs w.heap.size)(h2:Zob w v2 ys w.heap.size)(hn:xs.length<=1048576):
  Calls Tryz.prog 99 #[v1,v2] w fun e w'=>e=.returned (.bool (decide (xs=ys)))/\T_ w w':=by
 obtain⟨a1,c1,rfl,k1⟩:=h1;obtain⟨a2,c2,rfl,k2⟩:=h2;by_cases hl:xs.length=ys.length
 ·have K1:=hide k1;have K2:=hide k2;clear k1 k2
  go_enter Tryz.func99,Tryz.ntmps99
  go_wp2
  go_loopw [5] (fun i wr=>∃ k:Nat,k<=xs.length/\i=M k/\(∀ j,j<k->xs.getD j 0=ys.getD j 0)/\T_ w wr) (fun i _=>xs.length-(intOf i).toNat)
  case atStart=>exact ⟨0,by omega,rfl,by omega,YAC _ _⟩
  case round=>
   obtain⟨k,hk,rfl,hall,hnx⟩:=hrel;have HALL:=hide hall;clear hall;by_cases hlt:k<xs.length
   ·obtain ⟨b1,o1,ha1,hb1,d1⟩:∃ b1 o1,a1=some (U b1 o1)/\b1<w.heap.size/\wr.cell? (U b1 (o1+k))=some (M (xs.getD k 0)):=by
     rcases K1.out with h0 | ⟨b,off,ha,hb,hx⟩
     ·omega
     ·exact ⟨b,off,ha,hb,by rw [hnx.cell (p:=(U b (off+k))) hb,hx k (by omega)];rfl⟩
    obtain⟨b2,o2,ha2,hb2,d2⟩:∃ b2 o2,a2=some (U b2 o2)/\b2<w.heap.size/\wr.cell? (U b2 (o2+k))=some (M (ys.getD k 0)):=by
     rcases K2.out with h0 | ⟨b,off,ha,hb,hx⟩
     ·omega
     ·exact ⟨b,off,ha,hb,by rw [hnx.cell (p:=(U b (off+k))) hb,hx k (by omega)];rfl⟩
    subst ha1 ha2;have hki:(0:Int)<=(k:Int):=by omega
    have hkj:(k:Int)<(xs.length:Int):=by omega
    have hkl:(k:Int)<(ys.length:Int):=by omega
    obtain⟨x,hx⟩:∃ x,x=xs.getD k 0:=⟨_,rfl⟩;obtain⟨y,hy⟩:∃ y,y=ys.getD k 0:=⟨_,rfl⟩;rw [<-hx] at d1;rw [<-hy] at d2;have HX:=hide hx;have HY:=hide hy;clear hx hy;by_cases hxy:x=y
    ·subst hxy;go_wp2
     go_quiet (fail)
     go_wp2;go_roundw
     case rel=>exact ⟨k+1,by omega,by go_num,(fun j hj=>by
      by_cases e:j=k
      ·subst e;rw [<-HX.out, <-HY.out]
      ·exact HALL j (by omega)),ZdW hnx _⟩
     case measure=>exact MS_
    ·have hd:(x != y)=true:=by simpa using hxy
     go_wp2
     go_quiet (fail)
     go_wp2;go_ret;exact⟨ZbC (Znu (k:=k) (by rw [<-HX.out, <-HY.out];exact hxy)),ZdW hnx _⟩
   ·have hkn:k=xs.length:=by omega
    have KN:=hide hkn;clear hkn;go_wp2;go_ret;exact⟨Zck (ZlA hl (by rw [<-KN.out];exact HALL)),hnx⟩
 ·clear k1 k2;have hd:((xs.length:Int) != (ys.length:Int))=true:=by simp;omega
  go_enter Tryz.func99,Tryz.ntmps99
  go_wp2;go_ret;exact⟨ZbC (fun h=>hl (by rw [h])),YAC _ _⟩
def Zdt (q:Int):Nat->List Int
 | 0=>[]
 | n+1=>Zdt q n++[q+(n:Int)]
theorem Zbr (q:Int):∀ n,(Zdt q n).length=n
 | 0=>rfl
 | n+1=>by simp [Zdt,Zbr q n]
def ZdY (q:Int)(i:Nat)(xs:List Int):List Int:=Zdt q i++xs.drop i
theorem ZhZ (q:Int)(i:Nat)(xs:List Int)(h:i<=xs.length):(ZdY q i xs).length=xs.length:=by simp [ZdY,Zbr];omega
theorem Zkm (q:Int)(i:Nat)(xs:List Int)(h:i<xs.length):(ZdY q i xs).set i (q+(i:Int))=ZdY q (i+1) xs:=by
 unfold ZdY;rw [Zdt,List.set_append_right _ _ (by rw [Zbr];omega),Zbr,Nat.sub_self,YAk h];simp only [YAp,YAW,List.cons_append,List.nil_append]
theorem Znl (xs:List Int)(i:Nat)(t:Int):(Za5 xs).set i (M t)=Za5 (xs.set i t):=by simp [Za5]
theorem Zio (q:Int):∀ (n k:Nat),k<n->(Zdt q n).getD k 0=q+(k:Int)
 | 0,k,h=>by omega
 | n+1,k,h=>by
  by_cases e:k=n
  ·subst e;simp [Zdt,List.getD,Zbr]
  ·have:=Zio q n k (by omega);have hk:k<(Zdt q n).length:=by rw [Zbr];omega
   simp only [Zdt,List.getD,List.getElem?_append_left hk] at this |-
   exact this
def intE (z:Int):List Value:=[M z]
theorem ZeE (z:Int):(intE z).length=1:=rfl
theorem ZbL (l:List Int):flat intE l=Za5 l:=by
 induction l with
 | nil=>rfl
 | cons x l ih=>rw [ZbM,ih];rfl
def ZaI (W:World)(v:Value)(l:List Int)(B:Nat):Prop:=ZaL intE 1 W v l B
theorem ZaI.then {W':World}(h:ZaI W v l W.heap.size)(hb:T_ W W'):ZaI W' v l W'.heap.size:=Zaw.then h hb
theorem ZaI.shape (h:ZaI W v l B):∃ a cap,v=.slice a l.length cap:=by obtain ⟨a,cap,h,_⟩:=h;exact⟨a,cap,h⟩
theorem ZaI.ints (h:ZaI W v l B):Zob W v l B:=by
 obtain⟨a,cap,hv,h2⟩:=h;refine⟨a,cap,hv,?_⟩;rcases h2 with h0 | ⟨b,off,ha,hb,hx⟩
 ·exact .inl h0
 ·refine .inr ⟨b,off,ha,hb,fun j hj=>?_⟩;rw [hx j hj,ZbL];have hj':j<l.length:=by omega
  simp [Za5,intC,List.getD,YAA hj']
theorem ZaI.cell (h:ZaI W v l B)(i:Nat)(z:Int)(hz:l[i]? = some z):∃ b off cap,v=.slice (some (U b off)) l.length cap/\b<B/\W.cell? (U b (off+i))=some (M z):=by
 obtain⟨b,off,cap,hv,hb,hc⟩:=ZaL.cell h ZeE i z hz;exact⟨b,off,cap,hv,hb,by have:=hc 0 _ rfl;simpa using this⟩
theorem Za9 {base:Nat}(h:W.ownsRow base 3 1 v l.length (flat intE l)):ZaI W v l W.heap.size:=Zan h
end Go.Proofs.YtcnjnibnecpddaaGreat
namespace Go.Proofs.YtcnjnibnecpddaaGreat
open Go.RowKit Go.ChangeShapes Go.WideShapes

section
variable {H:Type} {enc:TypeId × Value->H} {P:Program} {w:World} {base:Nat} {spare:Nat->Bool} {held:Bool}

theorem Zjl {α:Type} [Inhabited α]{encE:α->List Value}{sz:Nat}(hpos:0<sz){R:α->Prop}(hsz:∀ a,(encE a).length=sz){t e:TypeId}{fuel:Nat}{cs:List Value}{x:DataW H × List MemPlace}(ht:P.underlying t=some (.slice e))(ce:P.cellsOf e=sz)
  (hel:∀ fuel cs x,DataW.trod enc P w base spare held fuel e cs=some x->∃ a:α,cs=encE a/\R a) (h:DataW.trod enc P w base spare held fuel t cs=some x):
  ∃ v xs,cs=[v]/\ZaL encE sz w v xs w.heap.size/\xs.length<=maxLen/\∀ a∈xs,R a:=by
 rcases Go.Deep.open_slice ht h with ⟨h0,_⟩ | ⟨a,len,cap,m,n,D,Pl,rfl,hb,hlc,hcm,hmm,_,hx⟩
 ·exact ⟨_,[],h0,⟨none,0,rfl,.inl rfl⟩,by simp,by simp⟩
 ·have hlm:len<=m:=by rw [hmm];split <;> omega
  have each:∀ i,i<len->∃ q:α,R q/\∀ r u,(encE q)[r]? = some u->w.cell? (a.add (i*sz+r))=some u:=by
   intro i hi;obtain⟨cs',h1,h2⟩:=hx i (by omega);rw [ce] at h1;obtain⟨_,hlen,hcell⟩:=World.cells?_some h1;obtain⟨q,rfl,hR⟩:=hel _ _ _ h2;refine⟨q,hR,fun r u hu=>?_⟩;have hr:r<sz:=by have:=(YAD.1 hu).1;rw [hsz] at this;exact this
   rw [<-Go.Deep.add_add,hcell r hr,hu]
  obtain⟨q,hq⟩:=Go.Deep.choose_lt each;refine⟨_,(List.range len).map q,rfl,?_,by simp;omega,fun a ha=>by obtain ⟨i,hi,rfl⟩:=YAV.1 ha;exact (hq i (by simpa using hi)).1⟩;have hl:((List.range len).map q).length=len:=by simp
  unfold ZaL Zaw;rw [hl];refine⟨_,cap,rfl,?_⟩;by_cases hl0:len=0
  ·exact .inl hl0
  ·right;have hsp:a.spot=none:=by
    have hu:(encE (q 0))[0]? = some ((encE (q 0))[0]'(by rw [hsz];exact hpos)):=YAA _;have:=World.cell?_spot ((hq 0 (by omega)).2 0 _ hu);simpa [Addr.add] using this
   have hblk:a.block<w.heap.size:=by
    have hu:(encE (q 0))[0]? = some ((encE (q 0))[0]'(by rw [hsz];exact hpos)):=YAA _;have:=World.block_lt_of_cell? w _ ((hq 0 (by omega)).2 0 _ hu);simpa [Addr.add] using this
   refine⟨a.block,a.off,by obtain ⟨b,o,s⟩:=a;simp at hsp;rw [hsp],hblk,fun j hj=>?_⟩;have e:j=j / sz*sz+j%sz:=by rw [Nat.mul_comm];exact (Nat.div_add_mod j sz).symm
   have hd:j / sz<len:=Nat.div_lt_of_lt_mul (by rw [Nat.mul_comm];exact hj);have hm4:j%sz<sz:=Nat.mod_lt _ hpos;have hg:=Zca hsz ((List.range len).map q) (j / sz) (j%sz) (q (j / sz)) (by simp [hd]) hm4;have hu:(encE (q (j / sz)))[j%sz]? = some ((encE (q (j / sz)))[j%sz]'(by rw [hsz];exact hm4)):=YAA _;have:=(hq (j / sz) hd).2 (j%sz) _ hu;rw [<-e,Zp7 hsp] at this;rw [this];rw [<-e] at hg;simp only [List.getD_eq_getElem?_getD,hg,hu];rfl
end
end Go.Proofs.YtcnjnibnecpddaaGreat
namespace Go.Proofs.YtcnjnibnecpddaaGreat
open Go.RowKit
set_option linter.unusedSimpArgs false
set_option linter.unusedVariables false
set_option maxRecDepth 100000
set_option maxHeartbeats 8000000
variable {ls:List Lk}{B:Nat}{v:Value}{W W':World}
def lkE (l:Lk):List Value:=[M l.a,M l.b,M l.c,M l.r]
def thE (t:Th):List Value:=[M t.o,M t.k,M t.c,.bool t.f]
theorem Zhf (l:Lk):(lkE l).length=4:=rfl
theorem ZhL (t:Th):(thE t).length=4:=rfl
def ZaV (W:World)(v:Value)(ls:List Lk)(B:Nat):Prop:=ZaL lkE 4 W v ls B
def ZaU (W:World)(v:Value)(ts:List Th)(B:Nat):Prop:=ZaL thE 4 W v ts B
theorem ZaV.then (h:ZaV W v ls W.heap.size)(hb:T_ W W'):ZaV W' v ls W'.heap.size:=Zaw.then h hb
theorem ZaU.then {ls:List Th}(h:ZaU W v ls W.heap.size)(hb:T_ W W'):ZaU W' v ls W'.heap.size:=Zaw.then h hb
theorem ZaV.shape (h:ZaV W v ls B):∃ a cap,v=.slice a ls.length cap:=by obtain ⟨a,cap,h,_⟩:=h;exact⟨a,cap,h⟩
theorem ZaU.shape {ls:List Th}(h:ZaU W v ls B):∃ a cap,v=.slice a ls.length cap:=by obtain ⟨a,cap,h,_⟩:=h;exact⟨a,cap,h⟩
theorem ZaV.cells (h:ZaV W v ls B)(i:Nat)(l:Lk)(hl:ls[i]? = some l):
  ∃ b off cap,v=.slice (some (U b off)) ls.length cap/\b<B/\W.cell? (U b (off+i*4))=some (M l.a)/\W.cell? (U b (off+i*4+1))=some (M l.b) /\
   W.cell? (U b (off+i*4+2))=some (M l.c)/\W.cell? (U b (off+i*4+3))=some (M l.r):=by
 obtain⟨b,off,cap,hv,hb,hc⟩:=ZaL.cell h Zhf i l hl;exact⟨b,off,cap,hv,hb,hc 0 _ rfl,hc 1 _ rfl,hc 2 _ rfl,hc 3 _ rfl⟩
theorem ZaU.cells {ls:List Th}(h:ZaU W v ls B)(i:Nat)(l:Th)(hl:ls[i]? = some l):
  ∃ b off cap,v=.slice (some (U b off)) ls.length cap/\b<B/\W.cell? (U b (off+i*4))=some (M l.o)/\W.cell? (U b (off+i*4+1))=some (M l.k) /\
   W.cell? (U b (off+i*4+2))=some (M l.c)/\W.cell? (U b (off+i*4+3))=some (.bool l.f):=by
 obtain⟨b,off,cap,hv,hb,hc⟩:=ZaL.cell h ZhL i l hl;exact⟨b,off,cap,hv,hb,hc 0 _ rfl,hc 1 _ rfl,hc 2 _ rfl,hc 3 _ rfl⟩
structure RecD where
 area:Int
 kind:Int
 owner:Int
 key:Int
 seq:Int
 near:List Nr
 cost:Int
 far:Bool
 deriving DecidableEq
def recC (x:RecD)(v:Value):Array Value:=#[M x.area,M x.kind,M x.owner,M x.key,M x.seq,v,M x.cost,.bool x.far]
def ZrL (W:World)(v:Value)(x:RecD)(B:Nat):Prop:=∃ v1,v=.agg (recC x v1)/\ZaG W v1 x.near B
theorem ZrL.then {x:RecD}(h:ZrL W v x W.heap.size)(hb:T_ W W'):ZrL W' v x W'.heap.size:=by
 obtain⟨v1,hv,h1⟩:=h;exact⟨v1,hv,h1.then hb⟩
structure WayD where
 to:Int
 cost:Int
 hops:List Int
 deriving DecidableEq
def wayC (x:WayD)(v:Value):Array Value:=#[M x.to,M x.cost,v]
def ZrN (W:World)(v:Value)(x:WayD)(B:Nat):Prop:=∃ v1,v=.agg (wayC x v1)/\ZaI W v1 x.hops B
theorem ZrN.then {x:WayD}(h:ZrN W v x W.heap.size)(hb:T_ W W'):ZrN W' v x W'.heap.size:=by
 obtain⟨v1,hv,h1⟩:=h;exact⟨v1,hv,h1.then hb⟩
theorem Ze5 {α:Type}{enc:α->List Value}{sz bytes:Nat}(hlen:∀ a,(enc a).length=sz)(hpos:0<sz)(hbb:bytes<=100){P:Program}(w:World){o:Oper}{a:Act}{K:Act->World->Prop}{Q:Exit->Act->World->Prop}(s x:Operand)(t:TypeId)
  (ho:o.op=.call { callee:=.builtin .append,args:=#[s,x],argTypes:=#[t,t] }) (base:Nat) (e:TypeId) (ht:P.underlying t=some (.slice e)) (zv:Value) (hzv:zv.cells.size=sz)
  (hinfo:(P.info? e).map (fun i=>(i.zero,i.size,i.bytes))=some (some zv,sz,bytes))
  (v:Value) (l:List α) (y:α) (hone:∀ u∈enc y,u.oneCell'=true) (hs:a.eval s=v) (hown:w.ownsRow base e sz v l.length (flat enc l))
  (ad:Addr) (c:Nat) (hx:a.eval x=.slice (some ad) 1 c) (hnews:∀ j u,(enc y)[j]? = some u->w.cell? (ad.add j)=some u)
  (hl:l.length+1<=1000000000) (hbase:base<=w.heap.size)
  (h:∀ v' w',w'.ownsRow base e sz v' (l++[y]).length (flat enc (l++[y]))->w.grownBy w' v.ownBlock->K (a.put o.dst v') w'):o.wp P a w K Q:=by
 obtain⟨i0,hi,hz0,hz1,hz2⟩:=info_parts hinfo;refine wp_append_own w s x t ho base e i0 zv sz bytes ht hi hz0 hz1 hz2 hzv hpos v l.length (flat enc l) hs hown ad 1 c (enc y) hx (by rw [hlen];omega) hnews hone (by unfold maxLen;omega) ?_ hbase ?_
 ·have:(l.length+1)*bytes<=1000000000*100:=Nat.mul_le_mul hl hbb;omega
 ·intro v' w' h1 h2 _;have e1:flat enc l++enc y=flat enc (l++[y]):=by rw [ZaF];simp [flat]
  rw [e1] at h1;exact h v' w' (by simpa using h1) h2
end Go.Proofs.YtcnjnibnecpddaaGreat
namespace Go.Proofs.YtcnjnibnecpddaaGreat
open Go.RowKit Go.ChangeShapes Go.WideShapes

section
variable {H:Type} {enc:TypeId × Value->H} {w:World} {base:Nat} {spare:Nat->Bool} {held:Bool}

theorem ZqU {fuel:Nat}{cs:List Value}{x:DataW H × List MemPlace}(h:DataW.trod enc Tryz.prog w base spare held fuel 4 cs=some x):∃ z:Bool,cs=blE z/\True:=by
 obtain⟨a,ha,_⟩:=DataW.trod_bool Tryz.underlying4 h;exact⟨a,ha,trivial⟩

set_option maxRecDepth 100000 in
theorem Zks {r:Reach}{b0:Nat}{v:Value}{d:DataW H}{ps:List MemPlace}(hval:Value.okWide Tryz.prog w r b0 46 v)(hd:DataW.Trod enc Tryz.prog w base spare held 46 v d ps):
  ∃ l:List Bool,Za6 w v l w.heap.size/\l.length<=maxLen:=by
 obtain⟨a0,len0,cap0,rfl⟩:=okWide_slice Tryz.underlying46 hval;obtain⟨fuel,hf⟩:=hd;obtain⟨u,xs,hu,hs,hl,_⟩:=Zjl (encE:=blE) (sz:=1) (R:=fun _=>True) (by omega) ZiT Tryz.underlying46 (by kernel_rfl) (fun _ _ _ h=>ZqU h) hf;simp [Value.cells] at hu;subst hu;exact⟨xs,hs,hl⟩
end
end Go.Proofs.YtcnjnibnecpddaaGreat
