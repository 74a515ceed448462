/-
  Parts.
-/
import Derived.Test.YtdhnddfnckgbjaaGreatRows
import Derived.WalkSpells
import Derived.WalkLawsBesides
import Derived.Deep.RegionHeld3
import Derived.Shelf.SlSortCmp.WholeK
import Derived.Handy
import Derived.Deep.OwnRows
import Derived.Lib.OwnBridge
import Derived.Sort.OwnSortedInts
namespace Go.Proofs.YtdhnddfnckgbjaaGreat
open Go.RowKit
set_option linter.unusedSimpArgs false
set_option linter.unusedVariables false
set_option maxRecDepth 100000
set_option maxHeartbeats 8000000
theorem hide {p:Prop}(h:p):Hid p:=h
def bs (l:List UInt8):ByteArray:=⟨l.toArray⟩
theorem add_zero' (b o:Nat):(⟨b,o,none⟩:Addr).add 0=⟨b,o,none⟩:=rfl
theorem ZbF (x:Int)(h0 : -1000000000000000000<=x)(h1:x<=1000000000000000000):IntKind.i64.wrap x=x:=by
 simp only [IntKind.wrap,IntKind.signed,IntKind.bits];simp;omega
theorem ZhG {k:IntKind}{a b:Int}(h:a=b):Ending.returned (.int k a)=.returned (.int k b):=by rw [h]
theorem YA:∀ (n:Nat),n<=n:=@Nat.le_refl
theorem YAA:∀ {α:Type}{l:List α}{i:Nat}(h:i<l.length),l[i]? = some l[i]:=@List.getElem?_eq_getElem
theorem YAB:∀ (B:Nat)(w:World),Below B w w:=@Below.refl
theorem YAC:∀ {n m k:Nat},n<m->m<=k->n<k:=@Nat.lt_of_lt_of_le
theorem YAD:∀ {α:Type}{i:Nat}{a:α}{l:List α},l[i]? = some a↔∃ (h:i<l.length),l[i]=a:=@List.getElem?_eq_some_iff
theorem YAE:∀ (w:World)(o:Obj),(w.alloc o).heap[w.heap.size]? = some o:=@heap_alloc_new
theorem YAF:∀ {α:Type}{l:List α}{i:Nat}{a:α},l[i]? = some a->a∈l:=@List.mem_of_getElem?
theorem YAG:∀ {n m k:Nat},n<=m->m<=k->n<=k:=@Nat.le_trans
theorem YAH:∀ {α:Type}{a:α}{s t:List α},a∈s++t↔a∈s\/a∈t:=@List.mem_append
theorem YAI:∀ (w:World)(o:Obj)(k:Nat),k<w.heap.size->(w.alloc o).heap[k]? = w.heap[k]? := @Below.heap_alloc
theorem YAJ:∀ {α:Type}{i:Nat}{l:List α}(h:i<l.length),List.take (i+1) l=List.take i l++[l[i]]:=@List.take_succ_eq_append_getElem
theorem YAK:∀ {α:Type}{a:α}{i:Nat}{l:List α},(a::l)[i+1]? = l[i]? := @List.getElem?_cons_succ
theorem YAL:∀ {α:Type}{a:α}{l:List α},(a::l)[0]? = some a:=@List.getElem?_cons_zero
theorem YAM:∀ {α:Type}{«as» bs:List α},(«as» ++ bs).length=«as».length+bs.length:=@List.length_append
theorem YAN:∀ {α:Type}{xs:List α}{i:Nat},xs.toArray[i]? = xs[i]? := @List.getElem?_toArray
theorem YAO:∀ (a b:Bool),((a&&b)=true)=(a=true/\b=true):=@Bool.and_eq_true
theorem YAP:∀ {α:Type}{R:α->α->Prop}{l₁ l₂:List α},List.Pairwise R (l₁++l₂)↔List.Pairwise R l₁/\List.Pairwise R l₂/\∀ (a:α),a∈l₁->∀ (b:α),b∈l₂->R a b:=@List.pairwise_append
theorem YAQ:∀ (w:World)(a:Addr)(k:Nat)(v:Value),k≠a.block->(w.setCell a v).heap[k]? = w.heap[k]? := @heap_setCell_other
theorem YAR:∀ {α:Type}{b:α}{l:List α}{a:α},a∈b::l↔a=b\/a∈l:=@List.mem_cons
theorem YAS:∀ (w:World)(g i:Nat)(cs:Array Value)(t:TypeId)(v:Value),w.heap[g]? = some (Obj.cells cs t)->(w.setCell { block:=g,off:=i } v).heap[g]? = some (Obj.cells (cs.setIfInBounds i v) t):=@heap_setCell_same
theorem YAT:∀ {α:Type}{p:α->Bool}{«as» : List α}{x:α},x∈List.filter p «as» ↔ x∈«as» /\ p x=true:=@List.mem_filter
theorem YAU:∀ {base:Nat}{e:TypeId}{size:Nat}(w:World)(cs:Array Value)(n:Nat),base<=w.heap.size->n<=maxLen->cs.size=n*size->(w.alloc (Obj.cells cs e)).ownsRow base e size (Value.slice (some { block:=w.heap.size,off:=0 }) n n) n cs.toList:=@World.ownsRow_lit
theorem YAV:∀ {α:Type}{β:Type}{b:β}{f:α->β}{l:List α},b∈List.map f l↔∃ (a:α),a∈l/\f a=b:=@List.mem_map
theorem YAW:∀ {α:Type}{β:Type}{f:α->β}{l₁ l₂:List α},List.map f (l₁++l₂)=List.map f l₁++List.map f l₂:=@List.map_append
theorem YAX:∀ {α:Type}{l:List α},List.take l.length l=l:=@List.take_length
theorem YAY:∀ {α:Type}{α_1:Type}{f:α->α_1}{R:α_1->α_1->Prop}{l:List α},List.Pairwise R (List.map f l)↔List.Pairwise (fun (a b:α) ↦ R (f a) (f b)) l:=@List.pairwise_map
theorem YAZ:∀ {α:Type}{β:Type}{f:α->β}{l:List α}{i:Nat},(List.map f l)[i]? = Option.map f l[i]? := @List.getElem?_map
theorem YAa:∀ {β:Type}{γ:Type}{α:Type}{g:β->γ}{f:α->β}{l:List α},List.map g (List.map f l)=List.map (g ∘ f) l:=@List.map_map
theorem YAb:∀ {α:Type}{β:Type}{«as» : List α}(f:α->β),(List.map f «as»).length=«as».length:=@List.length_map
theorem YAc:∀ {α:Type}{i:Nat}{l:List α},l.length<=i->List.take i l=l:=@List.take_of_length_le
theorem YAd:∀ {α:Type}{a:α}{«as» : List α},(a::«as»).length=«as».length+1:=@List.length_cons
theorem YAe:∀ {α:Type}(y:α){a:α}{l:List α},a∈l->a∈y::l:=@List.mem_cons_of_mem
theorem YAf:∀ {α:Type}{R:α->α->Prop}{l:List α},List.Pairwise R l↔∀ (i j:Nat) (_hi:i<l.length) (_hj:j<l.length),i<j->R l[i] l[j]:=@List.pairwise_iff_getElem
theorem YAg:∀ {α:Type}(l:List α)(i:Nat)(a:α),l.toArray.setIfInBounds i a=(l.set i a).toArray:=@List.setIfInBounds_toArray
theorem YAh:∀ {α:Type}{R:α->α->Prop}{a:α}{l:List α},List.Pairwise R (a::l)↔(∀ (a':α),a'∈l->R a a')/\List.Pairwise R l:=@List.pairwise_cons
theorem YAi:∀ {p:Prop} [inst:Decidable p],p->decide p=true:=@decide_eq_true
theorem YAj:∀ (w:World)(base:Nat)(e:TypeId)(size:Nat),w.ownsRow base e size (Value.slice none 0 0) 0 []:=@World.ownsRow_nil
theorem YAk:∀ {p:Prop} [inst:Decidable p],(decide p=true)=p:=@decide_eq_true_eq
theorem YAl:∀ {α:Type}{a b:α},a∈[b]↔a=b:=@List.mem_singleton
theorem YAm:∀ {α:Type}{x:α}{xs:List α}{a:α},(x::xs).set 0 a=a::xs:=@List.set_cons_zero
theorem YAn:∀ {α:Type}{x:α}{xs:List α}{i:Nat}{a:α},(x::xs).set (i+1) a=x::xs.set i a:=@List.set_cons_succ
theorem YAo:∀ {p:Prop} [inst:Decidable p],¬p->decide p=false:=@decide_eq_false
theorem YAp:∀ {α:Type}{i:Nat}{l:List α}(h:i<l.length),List.drop i l=l[i]::List.drop (i+1) l:=@List.drop_eq_getElem_cons
theorem YAq:∀ {α:Type}{l:List α},l.length=0->l=[]:=@List.eq_nil_of_length_eq_zero
theorem YAr:∀ {α:Type}{l:List α}{n:Nat}(h:n<l.length),l[n]∈l:=@List.getElem_mem
end Go.Proofs.YtdhnddfnckgbjaaGreat
namespace Go.Proofs.YtdhnddfnckgbjaaGreat

def ZcG (v:Nat):Prop:=1<=v/\v<=6

structure Links (L:Nat->Nat->Int) (K:Int):Prop where
 pos:∀ u v,0<=L u v
 le:∀ u v,L u v<=K
 node:∀ u v,0<L u v->ZcG u/\ZcG v

def Zc1 (src:Nat)(h:Nat->List Int)(u v:Nat)(x:Int):Prop:=(u=src/\x=(v:Int))\/(u≠src/\x∈h u)

structure Inv (L:Nat->Nat->Int) (src:Nat) (F:Nat->Bool) (c:Nat->Int) (h:Nat->List Int):Prop where
 fnode:∀ v,F v=true->ZcG v/\0<=c v
 cnode:∀ v,0<=c v->ZcG v
 start:c src=0
 start0:h src=[]
 closed:∀ u v,F u=true->0<L u v->0<=c v/\c v<=c u+L u v
 pred:∀ v,v≠src->0<=c v->∃ u,F u=true/\0<L u v/\c v=c u+L u v
 mono:∀ u v,F u=true->F v=false->0<=c v->c u<=c v
 hop:∀ v,v≠src->∀ x,x∈h v↔0<=c v/\∃ u,F u=true/\0<L u v/\c v=c u+L u v/\Zc1 src h u v x
 asc:∀ v,(h v).Pairwise (· < ·)
 rng:∀ v x,x∈h v->1<=x/\x<=6

def Zar (L:Nat->Nat->Int)(c:Nat->Int)(u v:Nat):Int:=
 if 0<L u v/\(c v<0\/c u+L u v<c v) then c u+L u v else c v

theorem Ziy {L:Nat->Nat->Int}{c:Nat->Int}{u v:Nat}(h:0<=c v):Zar L c u v<=c v:=by
 unfold Zar;split <;> omega

theorem Zl9 {L:Nat->Nat->Int}{c:Nat->Int}{u v:Nat}(hu:0<=c u)(h:0<=c v):0<=Zar L c u v:=by
 unfold Zar;split <;> omega

theorem Zde {L:Nat->Nat->Int}{c:Nat->Int}{u v:Nat}(h0:0<=c v)(h:c v<=c u):Zar L c u v=c v:=by
 unfold Zar;split <;> omega

structure RelaxH (L:Nat->Nat->Int) (src:Nat) (c:Nat->Int) (h:Nat->List Int) (u v:Nat) (h':List Int):Prop where
 asc:h'.Pairwise (· < ·)
 mem:∀ x,x∈h'↔((x∈h v/\Zar L c u v=c v)\/(0<L u v/\Zar L c u v=c u+L u v/\Zc1 src h u v x))

theorem Inv.step {L:Nat->Nat->Int}{K:Int}{src:Nat}{F:Nat->Bool}{c:Nat->Int}{h:Nat->List Int}(I:Inv L src F c h)(hL:Links L K)
  {u:Nat} (hu:F u=false) (hcu:0<=c u) (hmin:∀ v,F v=false->0<=c v->c u<=c v) {h':Nat->List Int} (hh:∀ v,RelaxH L src c h u v (h' v)):
  Inv L src (fun v=>F v||v==u) (fun v=>Zar L c u v) h':=by
 have hup:∀ v,F v=true->c v<=c u:=fun v hv=>I.mono v u hv hu hcu;have keep:∀ v,F v=true->Zar L c u v=c v:=fun v hv=>Zde (I.fnode v hv).2 (hup v hv);have keepu:Zar L c u u=c u:=Zde hcu (Int.le_refl _);have hsrc:Zar L c u src=0:=by
  have:=I.start;unfold Zar;split <;> omega
 have hFn:∀ v,F v=true->v≠u:=fun v hv e=>by rw [e,hu] at hv;cases hv
 -- hops of done nodes and of u stay
 have hsame:∀ v,0<=c v->c v<=c u->∀ x,x∈h' v↔x∈h v:=by
  intro v h0 hv x;rw [(hh v).mem x];have e:=Zde (L:=L) h0 hv;constructor
  ·rintro (⟨h1,_⟩ | ⟨h1,h2,_⟩)
   ·exact h1
   ·omega
  ·intro h1;exact .inl ⟨h1,e⟩
 have hover:∀ w,(F w=true\/w=u)->∀ v x,Zc1 src h' w v x↔Zc1 src h w v x:=by
  intro w hw v x;have:∀ x,x∈h' w↔x∈h w:=by
   rcases hw with hw | rfl
   ·exact hsame w (I.fnode w hw).2 (hup w hw)
   ·exact hsame _ hcu (Int.le_refl _)
  unfold Zc1;rw [this x]
 have hFu:∀ v,(F v||v==u)=true↔(F v=true\/v=u):=by
  intro v;simp
 refine⟨?_,?_,hsrc,?_,?_,?_,?_,?_,fun v=>(hh v).asc,?_⟩
 ·intro v hv;rcases (hFu v).1 hv with h1 | rfl
  ·refine ⟨(I.fnode v h1).1,?_⟩;show 0<=Zar L c u v;rw [keep v h1];exact (I.fnode v h1).2
  ·refine ⟨I.cnode _ hcu,?_⟩;show 0<=Zar L c _ _;rw [keepu];exact hcu
 ·intro v hv;have hv':0<=Zar L c u v:=hv;unfold Zar at hv'
  split at hv'
  ·rename_i h1;exact (hL.node u v h1.1).2
  ·exact I.cnode v hv'
 ·have:∀ x,x ∉ h' src:=by
   intro x hx;rw [(hh src).mem x,I.start0] at hx;rcases hx with ⟨h1,_⟩ | ⟨h1,h2,_⟩
   ·cases h1
   ·rw [hsrc] at h2;omega
  exact List.eq_nil_iff_forall_not_mem.2 this
 ·intro w v hw hl;show 0<=Zar L c u v/\Zar L c u v<=Zar L c u w+L w v;rcases (hFu w).1 hw with h1 | rfl
  ·rw [keep w h1];have:=I.closed w v h1 hl;have h2:=Ziy (L:=L) (u:=u) this.1;have h3:=Zl9 (L:=L) hcu this.1;omega
  ·rw [keepu];unfold Zar
   split <;> omega
 ·intro v hv h0;have h0':0<=Zar L c u v:=h0;show ∃ w,(F w||w==u)=true/\0<L w v/\Zar L c u v=Zar L c u w+L w v;by_cases h1:0<L u v/\(c v<0\/c u+L u v<c v)
  ·refine ⟨u,by simp,h1.1,?_⟩;rw [keepu];unfold Zar;rw [if_pos h1]
  ·have e:Zar L c u v=c v:=by unfold Zar;rw [if_neg h1]
   rw [e] at h0' |-;obtain⟨w,hw,hl,hc⟩:=I.pred v hv h0';exact⟨w,by simp [hw],hl,by rw [keep w hw];exact hc⟩
 ·intro w v hw hv h0;have h0':0<=Zar L c u v:=h0;have hv1:F v=false:=by cases hfv:F v <;> simp [hfv] at hv |-
  show Zar L c u w<=Zar L c u v;have hwc:Zar L c u w<=c u:=by
   rcases (hFu w).1 hw with h1 | rfl
   ·rw [keep w h1];exact hup w h1
   ·rw [keepu];omega
  have huv:c u<=Zar L c u v:=by
   by_cases h1:0<L u v/\(c v<0\/c u+L u v<c v)
   ·unfold Zar;rw [if_pos h1];omega
   ·have e:Zar L c u v=c v:=by unfold Zar;rw [if_neg h1]
    rw [e] at h0' |-;exact hmin v hv1 h0'
  omega
 ·intro v hv x;show x∈h' v↔0<=Zar L c u v/\∃ w,(F w||w==u)=true/\0<L w v/\Zar L c u v=Zar L c u w+L w v/\Zc1 src h' w v x;rw [(hh v).mem x];constructor
  ·rintro (⟨h1,h2⟩ | ⟨h1,h2,h3⟩)
   ·obtain ⟨h0,w,hw,hl,hc,ho⟩:=(I.hop v hv x).1 h1;rw [h2];exact⟨h0,w,by simp [hw],hl,by rw [keep w hw];exact hc,(hover w (.inl hw) v x).2 ho⟩
   ·refine ⟨by omega,u,by simp,h1,by rw [keepu];exact h2,(hover u (.inr rfl) v x).2 h3⟩
  ·rintro ⟨h0,w,hw,hl,hc,ho⟩;rcases (hFu w).1 hw with h1 | rfl
   ·rw [keep w h1] at hc;have hcl:=I.closed w v h1 hl;have h3:=Ziy (L:=L) (u:=u) hcl.1;have e:Zar L c u v=c v:=by omega
    refine .inl ⟨(I.hop v hv x).2 ⟨hcl.1,w,h1,hl,by omega,(hover w (.inl h1) v x).1 ho⟩,e⟩
   ·rw [keepu] at hc;exact .inr ⟨hl,hc,(hover _ (.inr rfl) v x).1 ho⟩
 ·intro v x hx;rw [(hh v).mem x] at hx;rcases hx with ⟨h1,_⟩ | ⟨h1,_,h3⟩
  ·exact I.rng v x h1
  ·rcases h3 with ⟨_,rfl⟩ | ⟨_,h4⟩
   ·have:=(hL.node u v h1).2;unfold ZcG at this;omega
   ·exact I.rng u x h4

theorem Zhj:∀ {a b:List Int},a.Pairwise (· < ·)->b.Pairwise (· < ·)->(∀ x,x∈a↔x∈b)->a=b
 | [],[],_,_,_=>rfl
 | [],y::ys,_,_,h=>by have:=(h y).2 (by simp);cases this
 | x::xs,[],_,_,h=>by have:=(h x).1 (by simp);cases this
 | x::xs,y::ys,ha,hb,h=>by
  have ha':=List.pairwise_cons.1 ha;have hb':=List.pairwise_cons.1 hb;have hxy:x=y:=by
   have h1:=(h x).1 (by simp);have h2:=(h y).2 (by simp);rcases List.mem_cons.1 h1 with e | e
   ·exact e
   ·rcases List.mem_cons.1 h2 with e2 | e2
    ·exact e2.symm
    ·have:=ha'.1 y e2;have:=hb'.1 x e;omega
  subst hxy;have:xs=ys:=by
   refine Zhj ha'.2 hb'.2 (fun z=>?_);have hz:=h z;constructor
   ·intro hm;have h1:=hz.1 (List.mem_cons_of_mem _ hm);rcases List.mem_cons.1 h1 with e | e
    ·have:=ha'.1 z hm;omega
    ·exact e
   ·intro hm;have h1:=hz.2 (List.mem_cons_of_mem _ hm);rcases List.mem_cons.1 h1 with e | e
    ·have:=hb'.1 z hm;omega
    ·exact e
  rw [this]

def Fix (L:Nat->Nat->Int)(src:Nat)(c:Nat->Int)(h:Nat->List Int):Prop:=∃ F,Inv L src F c h/\∀ v,0<=c v->F v=true

theorem Fix.cost_le {L:Nat->Nat->Int}{src:Nat}{c d:Nat->Int}{h g:Nat->List Int}(A:Fix L src c h)(B:Fix L src d g):
  ∀ (n:Nat) (v:Nat),0<=c v->(c v).toNat<=n->0<=d v/\d v<=c v:=by
 obtain⟨F,I,hF⟩:=A;obtain⟨G,J,hG⟩:=B;intro n
 induction n with
 | zero=>
  intro v h0 hn;by_cases hv:v=src
  ·subst hv;rw [J.start];omega
  ·obtain ⟨u,hu,hl,hc⟩:=I.pred v hv h0;have:=(I.fnode u hu).2;omega
 | succ n ih=>
  intro v h0 hn;by_cases hv:v=src
  ·subst hv;rw [J.start,I.start];omega
  ·obtain ⟨u,hu,hl,hc⟩:=I.pred v hv h0;have h1:=(I.fnode u hu).2;have h2:=ih u h1 (by omega);have h3:=J.closed u v (hG u h2.1) hl;omega

theorem Fix.cost {L:Nat->Nat->Int}{src:Nat}{c d:Nat->Int}{h g:Nat->List Int}(A:Fix L src c h)(B:Fix L src d g)(v:Nat)(h0:0<=c v):d v=c v:=by
 have h1:=A.cost_le B _ v h0 (Nat.le_refl _);have h2:=B.cost_le A _ v h1.1 (Nat.le_refl _);omega

theorem Fix.hops_sub {L:Nat->Nat->Int}{src:Nat}{c d:Nat->Int}{h g:Nat->List Int}(A:Fix L src c h)(B:Fix L src d g):
  ∀ (n:Nat) (v:Nat),0<=c v->(c v).toNat<=n->∀ x,x∈h v->x∈g v:=by
 have hcost:=A.cost B;obtain⟨F,I,hF⟩:=A;obtain⟨G,J,hG⟩:=B;intro n
 induction n with
 | zero=>
  intro v h0 hn x hx;by_cases hv:v=src
  ·subst hv;rw [I.start0] at hx;cases hx
  ·obtain ⟨u,hu,hl,hc⟩:=I.pred v hv h0;have:=(I.fnode u hu).2;omega
 | succ n ih=>
  intro v h0 hn x hx;by_cases hv:v=src
  ·subst hv;rw [I.start0] at hx;cases hx
  ·obtain ⟨_,u,hu,hl,hc,ho⟩:=(I.hop v hv x).1 hx;have h1:=(I.fnode u hu).2;have eu:=hcost u h1;have ev:=hcost v h0;refine (J.hop v hv x).2 ⟨by omega,u,hG u (by omega),hl,by omega,?_⟩;rcases ho with h3 | ⟨h3,h4⟩
   ·exact .inl h3
   ·exact .inr ⟨h3,ih u h1 (by omega) x h4⟩

theorem Fix.hops {L:Nat->Nat->Int}{src:Nat}{c d:Nat->Int}{h g:Nat->List Int}(A:Fix L src c h)(B:Fix L src d g)(v:Nat)(h0:0<=c v):g v=h v:=by
 have e:=A.cost B v h0;have sub1:=A.hops_sub B _ v h0 (Nat.le_refl _);have sub2:=B.hops_sub A _ v (by omega:0<=d v) (Nat.le_refl _);obtain⟨F,I,_⟩:=A;obtain⟨G,J,_⟩:=B;exact Zhj (J.asc v) (I.asc v) (fun x=>⟨sub2 x,sub1 x⟩)

theorem Inv.init {L:Nat->Nat->Int}{src:Nat}(hs:ZcG src):Inv L src (fun _=>false) (fun v=>if v=src then 0 else -1) (fun _=>[]):=by
 refine⟨by simp,?_,by simp,rfl,by simp,?_,by simp,?_,by simp,by simp⟩
 ·intro v hv;have hv':(0:Int)<=if v=src then 0 else -1:=hv
  split at hv'
  ·rename_i e;rw [e];exact hs
  ·omega
 ·intro v hv h0;have h0':(0:Int)<=if v=src then 0 else -1:=h0
  rw [if_neg hv] at h0';omega
 ·intro v hv x;simp [hv]
end Go.Proofs.YtdhnddfnckgbjaaGreat
namespace Go.Proofs.YtdhnddfnckgbjaaGreat

structure Shuf (q q':Nat->Nat) (n:Nat):Prop where
 into:∀ i,i<n->∃ j,j<n/\q' i=q j
 onto:∀ j,j<n->∃ i,i<n/\q' i=q j
 inj:(∀ i j,i<n->j<n->q i=q j->i=j)->(∀ i j,i<n->j<n->q' i=q' j->i=j)
 rest:∀ x,n<=x->q' x=q x

theorem Shuf.refl (q:Nat->Nat)(n:Nat):Shuf q q n:=⟨fun i h=>⟨i,h,rfl⟩,fun j h=>⟨j,h,rfl⟩,fun h=>h,fun _ _=>rfl⟩

theorem Shuf.trans {q q' q'':Nat->Nat}{n:Nat}(a:Shuf q q' n)(b:Shuf q' q'' n):Shuf q q'' n:=by
 refine⟨fun i h=>?_,fun j h=>?_,fun h=>b.inj (a.inj h),fun x hx=>(b.rest x hx).trans (a.rest x hx)⟩
 ·obtain ⟨j,hj,e⟩:=b.into i h;obtain⟨k,hk,e2⟩:=a.into j hj;exact⟨k,hk,e.trans e2⟩
 ·obtain ⟨i,hi,e⟩:=a.onto j h;obtain⟨k,hk,e2⟩:=b.onto i hi;exact⟨k,hk,e2.trans e⟩

theorem Shuf.more {q q':Nat->Nat}{n m:Nat}(a:Shuf q q' n)(h:n<=m):Shuf q q' m:=by
 refine⟨fun i hi=>?_,fun j hj=>?_,fun hinj x y hx hy e=>?_,fun x hx=>a.rest x (by omega)⟩
 ·by_cases e:i<n
  ·obtain ⟨j,hj,e2⟩:=a.into i e;exact⟨j,by omega,e2⟩
  ·exact ⟨i,hi,a.rest i (by omega)⟩
 ·by_cases e:j<n
  ·obtain ⟨i,hi,e2⟩:=a.onto j e;exact⟨i,by omega,e2⟩
  ·exact ⟨j,hj,a.rest j (by omega)⟩
 ·by_cases e1:x<n <;> by_cases e2:y<n
  ·exact a.inj (fun i j hi hj=>hinj i j (by omega) (by omega)) x y e1 e2 e
  ·obtain ⟨j,hj,e3⟩:=a.into x e1;rw [e3,a.rest y (by omega)] at e;have:=hinj j y (by omega) hy e;omega
  ·obtain ⟨j,hj,e3⟩:=a.into y e2;rw [e3,a.rest x (by omega)] at e;have:=hinj x j hx (by omega) e;omega
  ·rw [a.rest x (by omega),a.rest y (by omega)] at e;exact hinj x y hx hy e

end Go.Proofs.YtdhnddfnckgbjaaGreat
namespace Go.Proofs.YtdhnddfnckgbjaaGreat
open Go.RowKit
set_option linter.unusedSimpArgs false
set_option linter.unusedVariables false
set_option maxRecDepth 100000
set_option maxHeartbeats 8000000
variable {xs:List Value}{base n p size:Nat}{e:TypeId}{v:Value}{w:World}
def digB (n:Nat):UInt8:=UInt8.ofNat (48+n%10)
def decN (n:Nat):List UInt8:=if _h:0<n then decN (n / 10)++[digB n] else []
theorem ZmT (h:0<n):decN n=decN (n / 10)++[digB n]:=by rw [decN];simp [h]
theorem Zad {w':World}{B:Nat}(h:w.ownsRow base e size v n xs)(hb:Below B w w')(hB:w.heap.size<=B):w'.ownsRow base e size v n xs:=by
 refine⟨h.1,?_⟩;rcases h.2 with h2 | ⟨g,cap,cur,hv,hg,hh,r⟩
 ·exact .inl h2
 ·have hlt:g<w.heap.size:=by
   rcases Nat.lt_or_ge g w.heap.size with hl | hl
   ·exact hl
   ·rw [Array.getElem?_eq_none hl] at hh;cases hh
  exact .inr ⟨g,cap,cur,hv,hg,by rw [hb.block g (by omega)];exact hh,r⟩
theorem ZkN (h:w.ownsRow base e 1 v n xs)(hn:0<n):
  ∃ g cap,v=.slice (some ⟨g,0,none⟩) n cap/\base<=g/\g<w.heap.size:=by
 rcases h.2 with ⟨_,h0⟩ | ⟨g,cap,cur,hv,hb,hg,_⟩
 ·omega
 ·refine ⟨g,cap,hv,hb,?_⟩;rcases Nat.lt_or_ge g w.heap.size with hlt | hge
  ·exact hlt
  ·rw [Array.getElem?_eq_none hge] at hg;cases hg
theorem Zj4 (h:w.ownsRow base e 1 v n xs):∃ a cap,v=.slice a n cap:=by
 rcases h.2 with ⟨h1,h0⟩ | ⟨g,cap,cur,hv,_⟩
 ·exact ⟨none,0,by rw [h1,h0]⟩
 ·exact ⟨_,cap,hv⟩
theorem Zac (h:w.ownsRow base e size v n xs):∃ a cap,v=.slice a n cap:=by
 rcases h.2 with ⟨h1,h0⟩ | ⟨g,cap,cur,hv,_⟩
 ·exact ⟨none,0,by rw [h1,h0]⟩
 ·exact ⟨_,cap,hv⟩
theorem Zaf {b0 b1:Nat}(h:w.ownsRow b1 e size v n xs)(hb:b0<=b1):w.ownsRow b0 e size v n xs:=by
 refine⟨h.1,?_⟩;rcases h.2 with h2 | ⟨g,cap,cur,hv,hg,r⟩
 ·exact .inl h2
 ·exact .inr ⟨g,cap,cur,hv,YAG hb hg,r⟩
theorem ZaH {j:Nat}{u:Value}(h:w.ownsRow base e size v n xs)(hp:p<base):(w.setCell ⟨p,j,none⟩ u).ownsRow base e size v n xs:=by
 refine⟨h.1,?_⟩;rcases h.2 with h2 | ⟨g,cap,cur,hv,hg,hh,r⟩
 ·exact .inl h2
 ·exact .inr ⟨g,cap,cur,hv,hg,by rw [YAQ w ⟨p,j,none⟩ g _ (by show g≠p;omega)];exact hh,r⟩
theorem Ziu {b0 b1:Nat}(h:w.ownsRow b1 e 1 v n xs)(hb:b0<=b1):w.ownsRow b0 e 1 v n xs:=by
 refine⟨h.1,?_⟩;rcases h.2 with h2 | ⟨g,cap,cur,hv,hg,r⟩
 ·exact .inl h2
 ·exact .inr ⟨g,cap,cur,hv,YAG hb hg,r⟩
theorem Zaa {C:Array Value}{t:TypeId}(h:w.heap[p]? = some (.cells C t (0,0)))(j:Nat):w.cell? ⟨p,j,none⟩=C[j]? := by
 simp [World.cell?,h]
theorem Zae {C:Array Value}{t:TypeId}(h:w.heap[p]? = some (.cells C t (0,0)))(j:Nat):w.frozen? ⟨p,j,none⟩=false:=by
 simp [World.frozen?,h]
theorem Zaj (w:World)(p j:Nat)(v:Value):w.grownBy (w.setCell ⟨p,j,none⟩ v) (some p):=⟨rfl,rfl,rfl,by simp,fun k _ hk=>YAQ w ⟨p,j,none⟩ k _ (fun e=>hk (by simp [e]))⟩
theorem Zd2 (w:World)(n:Nat)(row:Option Nat):w.grownBy (w.drewN n) row:=⟨rfl,rfl,rfl,YA _,fun _ _ _=>rfl⟩
theorem Zaq {a b c:World}{row:Option Nat}(h:a.grownBy b row)(k:b.grownBy c row):a.grownBy c row:=
 ⟨k.os.trans h.os,k.tape.trans h.tape,k.output.trans h.output,YAG h.size k.size,fun i hi hr=>(k.block i (YAC hi h.size) hr).trans (h.block i hi hr)⟩
theorem Zab {o:Obj}(h:w.heap[p]? = some o):p<w.heap.size:=by
 rcases Nat.lt_or_ge p w.heap.size with hl | hl
 ·exact hl
 ·rw [Array.getElem?_eq_none hl] at h;cases h
def inB (x a b:Int):Bool:=decide (a<=x)&&decide (x<=b)
theorem Zbs (x a b:Int)(w:World):Calls Tryz.prog 59 #[.int .i64 x,.int .i64 a,.int .i64 b] w fun e w'=>e=.returned (.bool (inB x a b))/\w=w':=by
 by_cases h1:a<=x <;> by_cases h2:x<=b
 all_goals
  go_enter Tryz.func59,Tryz.ntmps59
  go_wp2;go_ret;exact⟨by simp [inB,h1,h2],rfl⟩
end Go.Proofs.YtdhnddfnckgbjaaGreat
namespace Go.Proofs.YtdhnddfnckgbjaaGreat
open Go.RowKit

theorem putS:(∀ (a:Act) (v:Value),a.put none v=a)/\(∀ (a:Act) (t:Nat) (v:Value),a.put (some t) v = { a with tmps:=a.tmps.setIfInBounds t v })/\(∀ (l:List Value) (i:Nat) (v:Value),l.toArray.setIfInBounds i v=(l.set i v).toArray)/\(∀ (x v:Value) (l:List Value),(x::l).set 0 v=v::l)/\(∀ (x v:Value) (l:List Value) (n:Nat),(x::l).set (n+1) v=x::l.set n v):=
 ⟨fun _ _=>rfl,fun _ _ _=>rfl,fun _ _ _=>by simp,fun _ _ _=>rfl,fun _ _ _ _=>rfl⟩

theorem getS:(∀ (l:List Oper) (i:Nat),l.toArray[i]? = l[i]?)/\(∀ (x:Oper) (l:List Oper),(x::l)[0]? = some x)/\(∀ (x:Oper) (l:List Oper) (n:Nat),(x::l)[n+1]? = l[n]?):=
 ⟨fun _ _=>by simp,fun _ _=>rfl,fun _ _ _=>rfl⟩

def Zct (ops:Array Oper)(listed:Array Bool)(i:Nat):Bool:=Region.noSelect ops&&Region.free .any ops listed i&&(Region.ready .any ops listed).contains i

theorem Zez {ops:Array Oper}{listed:Array Bool}{i:Nat}(h:Zct ops listed i=true):Region.noSelect ops=true/\Region.free .any ops listed i=true/\(Region.ready .any ops listed).contains i=true:=by
 unfold Zct at h;simp only [YAO] at h;exact⟨h.1.1,h.1.2,h.2⟩

section
variable {P:Program} {ops:Array Oper} {Q:Exit->Act->World->Prop} {S:World->Prop} {fuel:Nat} {listed:Array Bool} {a:Act} {w:World}

/-- the beginning: the region's operations behind a letter -/
theorem Zah {id:Nat}(hm:P.follows .mixedOrders=true)(n:Nat)(hn:ops.size=n)(hS:S w.drew)(h:∀ ops',Hid (ops'=ops)->S w.drew->wpAnyH P .any ops' Q S n (Array.replicate n false) a w.drew):(Code.region id ops true).wp P Q a w:=by
 refine wp_region_held_drew hm hS (fun hs=>?_);rw [hn];exact h ops rfl hs

/-- an operation that isn't wanted -/
theorem ZiE (i:Nat)(d:Tmp)(hi:(ops[i]?).map Oper.dst=some (some d))(ht:Zct ops listed i=true)(hw:(ops[i]?).map (fun o=>Region.wanted o (yielded ops a.tmps))=some false)
  (hQ:∀ c a w,Q (.panic c) (a.put (some d) undef) w->Q (.panic c) a w) (hS:S w) (h:wpAnyH P .any ops Q S fuel (listed.setIfInBounds i true) (a.put (some d) undef) w):wpAnyH P .any ops Q S (fuel+1) listed a w:=by
 obtain⟨h1,h2,h3⟩:=Zez ht;cases ho:ops[i]? with
 | none=>rw [ho] at hi;cases hi
 | some oi=>
  rw [ho] at hi hw;simp only [Option.map_some,Option.some.injEq] at hi hw;refine wpAnyH_take ho h1 h2 h3 (v:=undef) ?_ (Or.inr ⟨hw,rfl⟩) hS ?_
  ·rw [hi];exact hQ
  ·rw [hi];exact h

/-- an operation that yields v in every world that meets S -/
theorem ZbD (i:Nat){oi:Oper}{v:Value}(hi:ops[i]? = some oi)(ht:Zct ops listed i=true)(hw:Region.wanted oi (yielded ops a.tmps)=true)(hy:∀ w,S w->(execOp a.eval oi).run P w=.ok (.value v) w)
  (hQ:∀ c a w,Q (.panic c) (a.put oi.dst v) w->Q (.panic c) a w) (hS:S w) (h:wpAnyH P .any ops Q S fuel (listed.setIfInBounds i true) (a.put oi.dst v) w):wpAnyH P .any ops Q S (fuel+1) listed a w:=by
 obtain⟨h1,h2,h3⟩:=Zez ht;exact wpAnyH_take hi h1 h2 h3 hQ (Or.inl ⟨hw,hy⟩) hS h

/-- a call that alone may come up -/
theorem ZdH (i:Nat){oi:Oper}(hi:ops[i]? = some oi)(hr:Region.ready .any ops listed=[i])(hw:Region.wanted oi (yielded ops a.tmps)=true)
  (h:∀ K':Act->World->Prop,Shut (∀ a w,S w->(S w->wpAnyH P .any ops Q S fuel (listed.setIfInBounds i true) a w)->K' a w)->Oper.wp P oi a w K' Q):wpAnyH P .any ops Q S (fuel+1) listed a w:=by
 refine wpAnyH_ready (rs:=[i]) hr (by simp) ?_;refine AllReadyH.cons hi (fun K hK=>?_) AllReadyH.nil;rw [if_pos hw];exact h K hK
theorem take_skp (i:Nat)(d:Tmp) (hb:((ops[i]?).map Oper.dst==some (some d)&&(Zct ops listed i&&(ops[i]?).map (fun o=>Region.wanted o (yielded ops a.tmps))==some false))=true)
  (hQ:∀ c a w,Q (.panic c) (a.put (some d) undef) w->Q (.panic c) a w) (hS:S w) (h:wpAnyH P .any ops Q S fuel (listed.setIfInBounds i true) (a.put (some d) undef) w):wpAnyH P .any ops Q S (fuel+1) listed a w:=by
 simp only [YAO,beq_iff_eq] at hb;exact ZiE i d hb.1 hb.2.1 hb.2.2 hQ hS h

theorem Zax (i:Nat)(oi:Oper)(v:Value)(hi:ops[i]? = some oi) (hb:(Zct ops listed i&&(ops[i]?).map (fun o=>Region.wanted o (yielded ops a.tmps))==some true)=true) (hy:∀ w,S w->(execOp a.eval oi).run P w=.ok (.value v) w)
  (hQ:∀ c a w,Q (.panic c) (a.put oi.dst v) w->Q (.panic c) a w) (hS:S w) (h:wpAnyH P .any ops Q S fuel (listed.setIfInBounds i true) (a.put oi.dst v) w):wpAnyH P .any ops Q S (fuel+1) listed a w:=by
 simp only [YAO,beq_iff_eq] at hb;have h2:=hb.2;rw [hi] at h2;simp only [Option.map_some,Option.some.injEq] at h2;exact ZbD i hi hb.1 h2 hy hQ hS h

theorem Zmq (n:Nat)(oi:Oper)(v:Value)(hi:ops[n-(fuel+1)]? = some oi) (hb:(Zct ops listed (n-(fuel+1))&&(ops[n-(fuel+1)]?).map (fun o=>Region.wanted o (yielded ops a.tmps))==some true)=true) (hy:∀ w,S w->(execOp a.eval oi).run P w=.ok (.value v) w)
  (hQ:∀ c a w,Q (.panic c) (a.put oi.dst v) w->Q (.panic c) a w) (hS:S w) (h:wpAnyH P .any ops Q S fuel (listed.setIfInBounds (n-(fuel+1)) true) (a.put oi.dst v) w):wpAnyH P .any ops Q S (fuel+1) listed a w:=
 Zax (n-(fuel+1)) oi v hi hb hy hQ hS h

theorem TD (i:Nat){oi:Oper}{v:Value}(h:wpAnyH P .any ops Q S fuel (listed.setIfInBounds i true) (a.put oi.dst v) w)
  (hi:ops[i]? = some oi:=by (rw [hops.out];simp only [getS,Nat.reduceSub,Nat.reduceAdd];rfl))
  (hb:(Zct ops listed i&&(ops[i]?).map (fun o=>Region.wanted o (yielded ops a.tmps))==some true)=true:=by (rw [hops.out];kernel_rfl))
  (hy:∀ w,S w->(execOp a.eval oi).run P w=.ok (.value v) w:=by (intro W hW;(try dsimp only at hW);go_simp <;> with_reducible rfl))
  (hQ:∀ c a w,Q (.panic c) (a.put oi.dst v) w->Q (.panic c) a w:=by exact fun _ _ _=>id) (hS:S w:=by (first | assumption | trivial)):wpAnyH P .any ops Q S (fuel+1) listed a w:=by
 simp only [YAO,beq_iff_eq] at hb;have h2:=hb.2;rw [hi] at h2;simp only [Option.map_some,Option.some.injEq] at h2;exact ZbD _ hi hb.1 h2 hy hQ hS h
theorem TK (n:Nat){oi:Oper}{v:Value} (h:wpAnyH P .any ops Q S fuel (listed.setIfInBounds (n-(fuel+1)) true) (a.put oi.dst v) w)
  (hi:ops[n-(fuel+1)]? = some oi:=by (rw [hops.out];simp only [getS,Nat.reduceSub,Nat.reduceAdd];rfl))
  (hb:(Zct ops listed (n-(fuel+1))&&(ops[n-(fuel+1)]?).map (fun o=>Region.wanted o (yielded ops a.tmps))==some true)=true:=by (rw [hops.out];kernel_rfl))
  (hy:∀ w,S w->(execOp a.eval oi).run P w=.ok (.value v) w:=by (intro W hW;(try dsimp only at hW);go_simp <;> with_reducible rfl))
  (hQ:∀ c a w,Q (.panic c) (a.put oi.dst v) w->Q (.panic c) a w:=by exact fun _ _ _=>id) (hS:S w:=by (first | assumption | trivial)):wpAnyH P .any ops Q S (fuel+1) listed a w:=TD _ h hi hb hy hQ hS
theorem TT (i:Nat){d:Tmp}(h:wpAnyH P .any ops Q S fuel (listed.setIfInBounds i true) (a.put (some d) undef) w)
  (hi:(ops[i]?).map Oper.dst=some (some d):=by (rw [hops.out];simp only [getS,Nat.reduceSub,Nat.reduceAdd];rfl))
  (hb:(Zct ops listed i&&(ops[i]?).map (fun o=>Region.wanted o (yielded ops a.tmps))==some false)=true:=by (rw [hops.out];kernel_rfl))
  (hQ:∀ c a w,Q (.panic c) (a.put (some d) undef) w->Q (.panic c) a w:=by exact fun _ _ _ h=>h) (hS:S w:=by (first | assumption | trivial)):wpAnyH P .any ops Q S (fuel+1) listed a w:=by
 simp only [YAO,beq_iff_eq] at hb;exact ZiE _ d hi hb.1 hb.2 hQ hS h
theorem TS (n:Nat){d:Tmp} (h:wpAnyH P .any ops Q S fuel (listed.setIfInBounds (n-(fuel+1)) true) (a.put (some d) undef) w)
  (hi:(ops[n-(fuel+1)]?).map Oper.dst=some (some d):=by (rw [hops.out];simp only [getS,Nat.reduceSub,Nat.reduceAdd];rfl))
  (hb:(Zct ops listed (n-(fuel+1))&&(ops[n-(fuel+1)]?).map (fun o=>Region.wanted o (yielded ops a.tmps))==some false)=true:=by (rw [hops.out];kernel_rfl))
  (hQ:∀ c a w,Q (.panic c) (a.put (some d) undef) w->Q (.panic c) a w:=by exact fun _ _ _ h=>h) (hS:S w:=by (first | assumption | trivial)):wpAnyH P .any ops Q S (fuel+1) listed a w:=TT _ h hi hb hQ hS
theorem TC (i:Nat){oi:Oper} (h:∀ K':Act->World->Prop,Shut (∀ a w,S w->(S w->wpAnyH P .any ops Q S fuel (listed.setIfInBounds i true) a w)->K' a w)->Oper.wp P oi a w K' Q)
  (hi:ops[i]? = some oi:=by (rw [hops.out];simp only [getS];rfl)) (hr:Region.ready .any ops listed=[i]:=by (rw [hops.out];kernel_rfl)) (hw:Region.wanted oi (yielded ops a.tmps)=true:=by (rw [hops.out];kernel_rfl)):wpAnyH P .any ops Q S (fuel+1) listed a w:=
 ZdH i hi hr hw h

end
end Go.Proofs.YtdhnddfnckgbjaaGreat
namespace Go.Proofs.YtdhnddfnckgbjaaGreat
open Go.RowKit
set_option linter.unusedSimpArgs false
set_option linter.unusedVariables false
set_option maxRecDepth 100000
set_option maxHeartbeats 8000000
variable {k:Nat}{p:Nat->Bool}
def Zdp {α:Type}(ord:α->α->Int)(ls:List α):Nat->Bool
 | 0=>true
 | k+1=>match ls[k]?,ls[k+1]? with
  | some p,some l=>decide (ord p l<0)
  | _,_=>true
theorem Zc3 {α:Type}{ord:α->α->Int}{ls:List α}{j:Nat}{p l:α}(hp:ls[j]? = some p)(hl:ls[j+1]? = some l):Zdp ord ls (j+1)=decide (ord p l<0):=by
 simp only [Zdp,hp,hl]
def ascB {α:Type}(ord:α->α->Int)(ls:List α):Bool:=(List.range ls.length).all (Zdp ord ls)
theorem Zbk {n:Nat}(hk:k<n)(h:p k=false):(List.range n).all p=false:=by
 cases e:(List.range n).all p with
 | false=>rfl
 | true=>rw [List.all_eq_true.1 e k (List.mem_range.2 hk)] at h;cases h
theorem Zbr {n:Nat}(h:∀ j,j<n->p j=true):(List.range n).all p=true:=List.all_eq_true.2 fun j hj=>h j (List.mem_range.1 hj)
theorem ZaS (h:∀ j,j<k->p j=true)(hk:p k=true):∀ j,j<k+1->p j=true:=fun j hj=>by
 by_cases e:j=k
 ·subst e;exact hk
 ·exact h j (by omega)
def okAt {α:Type}(ok:α->Bool)(ls:List α)(k:Nat):Bool:=match ls[k]? with
 | some l=>ok l
 | none=>true
theorem Zdd {α:Type}{ok:α->Bool}{ls:List α}{l:α}(h:ls[k]? = some l):okAt ok ls k=ok l:=by simp only [okAt,h]
def ZcE {α:Type}(ok:α->Bool)(ls:List α):Bool:=(List.range ls.length).all (okAt ok ls)
end Go.Proofs.YtdhnddfnckgbjaaGreat
namespace Go.Proofs.YtdhnddfnckgbjaaGreat
end Go.Proofs.YtdhnddfnckgbjaaGreat
namespace Go.Proofs.YtdhnddfnckgbjaaGreat
open Go.RowKit
set_option linter.unusedSimpArgs false
set_option linter.unusedVariables false
set_option maxRecDepth 100000
set_option maxHeartbeats 8000000

end Go.Proofs.YtdhnddfnckgbjaaGreat
namespace Go.Proofs.YtdhnddfnckgbjaaGreat
open Go.RowKit

def flat {α:Type}(enc:α->List Value)(xs:List α):List Value:=xs.flatMap enc

section
variable {α:Type} {enc:α->List Value} {sz:Nat}

theorem Zeq (x:α)(xs:List α):flat enc (x::xs)=enc x++flat enc xs:=rfl

theorem ZcK (h:∀ a,(enc a).length=sz)(xs:List α):(flat enc xs).length=xs.length*sz:=by
 induction xs with
 | nil=>simp [flat]
 | cons x xs ih=>rw [Zeq,YAM,h,ih,YAd,Nat.add_mul,Nat.one_mul,Nat.add_comm]

theorem Zbi (h:∀ a,(enc a).length=sz):∀ (xs:List α) (i r:Nat) (x:α),xs[i]? = some x->r<sz->(flat enc xs)[i*sz+r]? = (enc x)[r]?
 | [],i,r,x,hx,_=>by simp at hx
 | y::ys,0,r,x,hx,hr=>by
  simp at hx;subst hx;rw [Zeq,Nat.zero_mul,Nat.zero_add,List.getElem?_append_left (by rw [h];exact hr)]
 | y::ys,i+1,r,x,hx,hr=>by
  have e:(i+1)*sz+r=sz+(i*sz+r):=by rw [Nat.add_mul,Nat.one_mul];omega
  rw [Zeq,List.getElem?_append_right (by rw [h,e];omega),h,e,Nat.add_sub_cancel_left];exact Zbi h ys i r x (by simpa using hx) hr

end

def Zau (W:World)(v:Value)(n sz:Nat)(f:Nat->Value)(B:Nat):Prop:=
 ∃ a cap,v=.slice a n cap/\(n=0\/∃ b off,a=some ⟨b,off,none⟩/\b<B/\∀ j,j<n*sz->W.cell? ⟨b,off+j,none⟩=some (f j))

theorem Zau.later {W W':World}{v:Value}{n sz:Nat}{f:Nat->Value}{B C:Nat}(h:Zau W v n sz f B)(hb:Below C W W')(hBC:B<=C):Zau W' v n sz f B:=by
 obtain⟨a,cap,hv,h2⟩:=h;refine⟨a,cap,hv,?_⟩;rcases h2 with h0 | ⟨b,off,ha,hb1,hx⟩
 ·exact .inl h0
 ·exact .inr ⟨b,off,ha,hb1,fun j hj=>by rw [hb.cell (p:=⟨b,off+j,none⟩) (by show b<C;omega)];exact hx j hj⟩

theorem Zau.more {W:World}{v:Value}{n sz:Nat}{f:Nat->Value}{B C:Nat}(h:Zau W v n sz f B)(hBC:B<=C):Zau W v n sz f C:=by
 obtain⟨a,cap,hv,h2⟩:=h;refine⟨a,cap,hv,?_⟩;rcases h2 with h0 | ⟨b,off,ha,hb1,hx⟩
 ·exact .inl h0
 ·exact .inr ⟨b,off,ha,by omega,hx⟩

theorem Zau.then {W W':World}{v:Value}{n sz:Nat}{f:Nat->Value}(h:Zau W v n sz f W.heap.size)(hb:Below W.heap.size W W'):Zau W' v n sz f W'.heap.size:=(h.later hb (YA _)).more hb.size

def Zaw {α:Type}(enc:α->List Value)(sz:Nat)(W:World)(v:Value)(xs:List α)(B:Nat):Prop:=Zau W v xs.length sz (fun j=>(flat enc xs).getD j undef) B

section
variable {α:Type} {enc:α->List Value} {sz:Nat}

theorem Zaw.cell {W:World}{v:Value}{xs:List α}{B:Nat}(h:Zaw enc sz W v xs B)(hs:∀ a,(enc a).length=sz)(i:Nat)(x:α)(hx:xs[i]? = some x):
  ∃ b off cap,v=.slice (some ⟨b,off,none⟩) xs.length cap/\b<B/\∀ r u,(enc x)[r]? = some u->W.cell? ⟨b,off+i*sz+r,none⟩=some u:=by
 have hi:i<xs.length:=(YAD.1 hx).1;obtain⟨a,cap,hv,h2⟩:=h;rcases h2 with h0 | ⟨b,off,ha,hb,hc⟩
 ·omega
 ·refine ⟨b,off,cap,by rw [hv,ha],hb,fun r u hu=>?_⟩;have hr:r<sz:=by have:=(YAD.1 hu).1;rw [hs] at this;exact this
  have hg:=Zbi hs xs i r x hx hr;have hlt:i*sz+r<xs.length*sz:=by
   have:(i+1)*sz<=xs.length*sz:=Nat.mul_le_mul_right _ hi;rw [Nat.add_mul,Nat.one_mul] at this;omega
  rw [Nat.add_assoc,hc _ hlt];simp only [List.getD_eq_getElem?_getD,hg,hu];rfl

theorem Zan {W:World}{base:Nat}{e:TypeId}{v:Value}{xs:List α}(h:W.ownsRow base e sz v xs.length (flat enc xs)):Zaw enc sz W v xs W.heap.size:=by
 rcases h.2 with ⟨hv,h0⟩ | ⟨g,cap,cur,hv,hg,hh,hnc,hcm,hcs,htk⟩
 ·exact ⟨none,0,by rw [hv,h0],.inl h0⟩
 ·have hlt:g<W.heap.size:=by
   rcases Nat.lt_or_ge g W.heap.size with hl | hl
   ·exact hl
   ·rw [Array.getElem?_eq_none hl] at hh;cases hh
  refine⟨_,cap,hv,.inr ⟨g,0,rfl,hlt,fun j hj=>?_⟩⟩;rw [Nat.zero_add];simp only [World.cell?,hh];have hj2:j<cur.size:=by
   have:xs.length*sz<=cap*sz:=Nat.mul_le_mul_right _ hnc;omega
  have e1:(flat enc xs)[j]? = cur.toList[j]? := by rw [<-htk,List.getElem?_take_of_lt hj]
  simp [List.getD,e1,hj2]
end
end Go.Proofs.YtdhnddfnckgbjaaGreat
namespace Go.Proofs.YtdhnddfnckgbjaaGreat
open Go.RowKit
set_option linter.unusedSimpArgs false
set_option linter.unusedVariables false
set_option maxRecDepth 100000
set_option maxHeartbeats 8000000
variable {b:Int}{cap i len n p:Nat}{f:Nat->Value}{a:Option Addr}{v:Value}{W w w':World}
def ZbU (l:List Int):List Value:=l.map fun z=>Value.int .i64 z
theorem Zhw (a b:List Int):ZbU (a++b)=ZbU a++ZbU b:=by simp [ZbU]
theorem Tryz.info3 :(Tryz.prog.info? 3).map (fun i=>(i.zero,i.size,i.bytes))=some (some (.int .i64 0),1,8):=by kernel_rfl
theorem Zc0 {P:Program}(w:World){ops:Array Oper}{rest:List Oper}{o:Oper}{a:Act}{Q:Exit->Act->World->Prop}(hgd:o.guard=none)(s x:Operand)(t:TypeId)
  (ho:o.op=.call { callee:=.builtin .append,args:=#[s,x],argTypes:=#[t,t] }) (base:Nat) (e:TypeId) (ht:P.underlying t=some (.slice e))
  (hinfo:(P.info? e).map (fun i=>(i.zero,i.size,i.bytes))=some (some (.int .i64 0),1,8))
  (v:Value) (l:List Int) (z:Int) (hs:a.eval s=v) (hown:w.ownsRow base e 1 v l.length (ZbU l))
  (ad:Addr) (c:Nat) (hx:a.eval x=.slice (some ad) 1 c) (hnews:w.cell? (ad.add 0)=some (.int .i64 z))
  (hlen:l.length+1<=1000000000) (hbase:base<=w.heap.size)
  (h:∀ v' w' l',Hid (l'=l++[z])->w'.ownsRow base e 1 v' l'.length (ZbU l')->w.grownBy w' v.ownBlock->wpList P ops Q rest (a.put o.dst v') w'):wpList P ops Q (o::rest) a w:=by
 obtain⟨i0,hi,hz0,hz1,hz2⟩:=info_parts hinfo;refine wpList_append_own w hgd s x t ho base e i0 (.int .i64 0) 1 8 ht hi hz0 hz1 hz2 rfl (by decide) v l.length (ZbU l) hs hown ad 1 c (ZbU [z]) hx (by simp [ZbU]) ?_ ?_ (by unfold maxLen;omega) (by omega) hbase ?_
 ·intro j u hj;have hj':j=0:=by have:=(YAD.1 hj).1;simp [ZbU] at this;omega
  subst hj';rw [hnews];simpa [ZbU] using hj
 ·intro u hu;simp only [ZbU,YAV] at hu;obtain⟨b,_,rfl⟩:=hu;rfl
 ·intro v' w' h1 h2 _;rw [<-Zhw] at h1;exact h v' w' (l++[z]) rfl (by simpa using h1) h2
def cmpN (a b:Int):Int:=if a<b then -1 else if b<a then 1 else 0
theorem Zcq {a:Int}:cmpN a b=0↔a=b:=by unfold cmpN;split <;> (try split) <;> omega
theorem Zej {a:Int}:cmpN a b<0↔a<b:=by unfold cmpN;split <;> (try split) <;> omega
theorem Zov {a:Int}(h:b=a):Ending.returned (.int .i64 a)=.returned (.int .i64 b):=by rw [h]
theorem Zih (a:Int)(w:World):Calls Tryz.prog 51 #[.int .i64 a] w fun e w'=>e=.returned (.bool false)/\w=w':=by
 go_enter Tryz.func51,Tryz.ntmps51
 go_wp2;go_ret;exact⟨by simp,rfl⟩
theorem Zc4 (a b:Int)(w:World):Calls Tryz.prog 37 #[.int .i64 a,.int .i64 b] w fun e w'=>e=.returned (.int .i64 (cmpN a b))/\w=w':=by
 go_enter Tryz.func37,Tryz.ntmps37
 go_wp2_with fail
 refine (Zih a _).mono ?_;rintro e w1 ⟨rfl,rfl⟩
 go_wp2_with fail
 refine (Zih b _).mono ?_;rintro e w1 ⟨rfl,rfl⟩;go_wp2
 all_goals go_ret
 all_goals refine ⟨Zov ?_,rfl⟩
 all_goals (unfold cmpN;grind)
theorem ZjV {W':World}(hb:Below W.heap.size W W')(hd:W.drawn<=W'.drawn):∃ q os',W'=Go.Sort.grow (W.drewN q) os':=by
 refine⟨W'.drawn-W.drawn,W'.heap.extract W.heap.size W'.heap.size,?_⟩;have hh:W'.heap=W.heap++W'.heap.extract W.heap.size W'.heap.size:=by
  apply Array.ext_getElem?;intro i;by_cases hi:i<W.heap.size
  ·rw [Array.getElem?_append_left hi];exact hb.block i hi
  ·rw [Array.getElem?_append_right (by omega),Array.getElem?_extract];have:=hb.size;by_cases h2:i<W'.heap.size
   ·rw [if_pos (by omega)];congr 1;omega
   ·rw [if_neg (by omega),Array.getElem?_eq_none (by omega)]
 obtain⟨h1,h2,h3,h4,h5⟩:=W';have e1:=hb.os;have e2:=hb.tape;have e3:=hb.output;simp only at e1 e2 e3 hh hd;subst e1 e2 e3;unfold Go.Sort.grow;simp only [World.drewN];congr 1;omega
theorem ZgX {g sz base:Nat}{e:TypeId}{cur:Array Value}{xs:List Value}(hg:W.heap[g]? = some (.cells cur e (0,0)))(hb:base<=g)(hn:n<=cap)(hm:cap<=maxLen)(hs:cur.size=cap*sz)(hx:xs.length=n*sz)(hc:∀ j,j<n*sz->W.cell? ⟨g,j,none⟩=xs[j]?):W.ownsRow base e sz (.slice (some ⟨g,0,none⟩) n cap) n xs:=by
 refine⟨hx,.inr ⟨g,cap,cur,rfl,hb,hg,hn,hm,hs,?_⟩⟩;apply List.ext_getElem?;intro j;rw [List.getElem?_take];by_cases hj:j<n*sz
 ·rw [if_pos hj,Array.getElem?_toList, <-hc j hj];simp [World.cell?,hg]
 ·rw [if_neg hj,List.getElem?_eq_none (by omega)]
theorem ZdE {α:Type} [Inhabited α]{enc:α->List Value}{k:Nat}{w:World}{g m:Nat}{dk:Array α}{os:Array Obj}{cur:Array Value}{e:TypeId}(hg:w.heap[g]? = some (.cells cur e (0,0))):∃ cur',(Go.Proofs.sortWorldK enc k w g 0 m dk os).heap[g]? = some (.cells cur' e (0,0))/\cur'.size=cur.size:=by
 have hl:=Zab hg;refine⟨Go.Sort.putCells id 0 (Go.Sort.flatK enc k dk) cur,?_,by simp [Go.Sort.putCells]⟩;unfold Go.Proofs.sortWorldK Go.Sort.grow Go.Sort.putRowK;rw [Array.getElem?_append_left (by simpa [Go.Sort.putRow,Go.Sort.mapBlock,Go.Sort.ahead] using hl)];simp [Go.Sort.putRow,Go.Sort.mapBlock,Go.Sort.ahead,Array.getElem?_modify,hg,Go.Sort.onCells]
theorem ZdF {α:Type} [Inhabited α]{enc:α->List Value}{k:Nat}{w:World}{g m:Nat}{dk:Array α}{os:Array Obj}:w.grownBy (Go.Proofs.sortWorldK enc k w g 0 m dk os) (some g):=by
 refine⟨rfl,rfl,rfl,by unfold Go.Proofs.sortWorldK Go.Sort.grow Go.Sort.putRowK;simp [Go.Sort.putRow,Go.Sort.mapBlock,Go.Sort.ahead],fun j hj hne=>?_⟩;have hne':g≠j:=fun e=>hne (by rw [e]);unfold Go.Proofs.sortWorldK Go.Sort.grow Go.Sort.putRowK;rw [Array.getElem?_append_left (by simpa [Go.Sort.putRow,Go.Sort.mapBlock,Go.Sort.ahead] using hj)];simp [Go.Sort.putRow,Go.Sort.mapBlock,Go.Sort.ahead,Array.getElem?_modify,hne']
def Code (w:World)(a:Option Addr)(len p:Nat):Prop:=
 len<=1048576/\(len=0\/∃ b off,a=some ⟨b,off,none⟩/\b<p/\∀ i,i<len->∃ x:Nat,x<256/\w.cell? ⟨b,off+i,none⟩=some (.int .u8 (x:Int)))
def Cur (w:World)(p:Nat)(a:Option Addr)(len cap:Nat):Prop:=
 (∃ (i:Nat) (h:Int),i<=len/\w.heap[p]? = some (.cells #[.slice a len cap,.int .i64 (i:Int),.int .i64 h] 87 (0,0)))/\Code w a len p
theorem ZnW (n:Int):0<=bits .and .i64 n 255/\bits .and .i64 n 255<=255:=by
 have key:(BitVec.ofInt 64 n &&& BitVec.ofInt 64 255).toNat<=255:=by
  rw [BitVec.toNat_and];exact YAG Nat.and_le_right (by decide)
 have e:bits .and .i64 n 255=IntKind.i64.wrap ((BitVec.ofInt 64 n &&& BitVec.ofInt 64 255).toNat:Nat):=rfl;rw [e,IntKind.wrap_i64];omega
theorem Code.grown {row:Option Nat}(h:Code w a len p)(hg:w.grownBy w' row)(hr:∀ b,b<p->some b≠row):Code w' a len p:=by
 refine⟨h.1,?_⟩;rcases h.2 with h0 | ⟨b,off,ha,hb,hx⟩
 ·exact .inl h0
 ·refine .inr ⟨b,off,ha,hb,fun i hi=>?_⟩;obtain⟨x,h1,h2⟩:=hx i hi;exact⟨x,h1,hg.cell h2 (hr b hb)⟩
theorem Cur.grown {row:Option Nat}(h:Cur w p a len cap)(hg:w.grownBy w' row)(hr:∀ b,b<=p->some b≠row):Cur w' p a len cap:=by
 obtain⟨⟨i,hh,hi,e⟩,hc⟩:=h;refine⟨⟨i,hh,hi,?_⟩,hc.grown hg (fun b hb=>hr b (by omega))⟩;have hlt:p<w.heap.size:=by
  rcases Nat.lt_or_ge p w.heap.size with hl | hl
  ·exact hl
  ·rw [Array.getElem?_eq_none hl] at e;cases e
 rw [hg.block p hlt (hr p (YA _))];exact e
theorem Cur.end {W2:World}(hc:Code w a len p)(hg:w.grownBy W2 (some p))(i:Nat)(h:Int)(hi:i<=len)
  (hh:W2.heap[p]? = some (.cells #[.slice a len cap,.int .i64 (i:Int),.int .i64 h] 87 (0,0))):Cur W2 p a len cap/\w.grownBy W2 (some p):=
 ⟨⟨⟨i,h,hi,hh⟩,hc.grown hg (fun b hb=>by simp;omega)⟩,hg⟩
structure Dc (n m:Nat) (t:List UInt8):Prop where
 all:decN n=decN m++t
 len:t.length<=64
 lt:m<2 ^ (64-t.length)
theorem Dc.next {m:Nat}{t:List UInt8}(h:Dc n m t)(hm:0<m):Dc n (m / 10) (digB m::t):=by
 obtain⟨h1,h2,h3⟩:=h;have hl:t.length<64:=by
  rcases Nat.lt_or_ge t.length 64 with h | h
  ·exact h
  ·rw [show 64-t.length=0 by omega] at h3;simp at h3;omega
 refine⟨by rw [h1,ZmT hm];simp,by simp;omega,?_⟩;have e:64-t.length=(64-(digB m::t).length)+1:=by simp;omega
 rw [e,Nat.pow_succ] at h3;omega
theorem Zdg {p:Prop} [Decidable p](h:¬p):Ending.returned (.bool false)=.returned (.bool (decide p)):=by rw [YAo h]
theorem Zfg {p:Prop} [Decidable p](h:p):Ending.returned (.bool true)=.returned (.bool (decide p)):=by rw [YAi h]
theorem ZaK (o1 o2:Obj):Below w.heap.size w ((w.alloc o1).alloc o2):=((YAB _ _).alloc (YA _) _).alloc (by simp) _
theorem ZiT (o1 o2 o3:Obj):Below w.heap.size w (((w.alloc o1).alloc o2).alloc o3):=(ZaK o1 o2).alloc (by simp;omega) _
theorem ZlI (w:World)(a b c:Obj):(((w.alloc a).alloc b).alloc c).heap[w.heap.size]? = some a:=by
 rw [YAI _ _ _ (by simp;omega),YAI _ _ _ (by simp),YAE]
theorem ZlJ (w:World)(a b c:Obj):(((w.alloc a).alloc b).alloc c).heap[w.heap.size+1]? = some b:=by
 rw [YAI _ _ _ (by simp)];have:=YAE (w.alloc a) b;simpa using this
theorem ZlK (w:World)(a b c:Obj):(((w.alloc a).alloc b).alloc c).heap[w.heap.size+1+1]? = some c:=by
 have:=YAE ((w.alloc a).alloc b) c;simpa using this
theorem Zao {a b:Bool}(h:b=a):Ending.returned (.bool a)=.returned (.bool b):=by rw [h]
def blE (b:Bool):List Value:=[.bool b]
theorem Zln (b:Bool):(blE b).length=1:=rfl
def Zcp (W:World)(v:Value)(bs:List Bool)(B:Nat):Prop:=Zaw blE 1 W v bs B
theorem Zcp.shape {bs:List Bool}{B:Nat}(h:Zcp W v bs B):∃ a cap,v=.slice a bs.length cap:=by obtain ⟨a,cap,h,_⟩:=h;exact⟨a,cap,h⟩
theorem Zcp.cell {bs:List Bool}{B:Nat}(h:Zcp W v bs B)(i:Nat)(b:Bool)(hb:bs[i]? = some b):∃ g off cap,v=.slice (some ⟨g,off,none⟩) bs.length cap/\g<B/\W.cell? ⟨g,off+i,none⟩=some (.bool b):=by
 obtain⟨g,off,cap,hv,hg,hc⟩:=Zaw.cell h Zln i b hb;refine⟨g,off,cap,hv,hg,?_⟩;have:=hc 0 _ rfl;simpa using this
def rowA (f:Nat->Value)(n:Nat):Array Value:=((List.range n).map f).toArray
theorem Zox (h:i<n):(rowA f n)[i]? = some (f i):=by
 simp [rowA,h]
theorem ZnB (f:Nat->Value)(n i:Nat)(x:Value):(rowA f n).setIfInBounds i x=rowA (fun j=>if j=i then x else f j) n:=by
 apply Array.ext
 ·simp [rowA]
 ·intro j h1 h2;have hj:j<n:=by simpa [rowA] using h2
  simp [rowA];by_cases e:i=j
  ·subst e;simp
  ·have e':¬j=i:=fun h=>e h.symm;simp [e,e']
theorem Zco {g:Nat->Value}(h:∀ i,i<n->f i=g i):rowA f n=rowA g n:=by
 unfold rowA;congr 1;apply List.map_congr_left;intro i hi;exact h i (List.mem_range.1 hi)
theorem Zcy {b:Nat}{t:TypeId}(h:W.heap[b]? = some (.cells (rowA f n) t))(hi:i<n):W.cell? ⟨b,i,none⟩=some (f i):=by
 have e:=Zaa h i;rw [Zox hi] at e;exact e
theorem ZdP {b:Nat}{t:TypeId}(h:W.heap[b]? = some (.cells (rowA f n) t))(x:Value):(W.setCell ⟨b,i,none⟩ x).heap[b]? = some (.cells (rowA (fun j=>if j=i then x else f j) n) t):=by
 have e:=YAS W b i _ _ x h;rw [ZnB] at e;exact e
theorem Zmb (z:Value)(n:Nat):madeCells #[z] n=rowA (fun _=>z) n:=by
 apply Array.ext
 ·simp [rowA,madeCells]
 ·intro j h1 h2;simp [rowA,madeCells,Nat.mod_one]
theorem Za4 {P:Program}(w:World){ops:Array Oper}{rest:List Oper}{o:Oper}{a:Act}{Q:Exit->Act->World->Prop}
  (hg:o.guard=none) (l c:Operand) (t:TypeId) (hop:o.op=Op.makeSlice t l c)
  (e:TypeId) (z:Value) (bytes:Nat) (ht:P.underlying t=some (.slice e)) (hinfo:(P.info? e).map (fun i=>(i.zero,i.size,i.bytes))=some (some z,1,bytes)) (hz1:z.cells=#[z])
  (n:Nat) (hl:a.eval l=.int .i64 (n:Int)) (hc:a.eval c=.int .i64 (n:Int)) (hbytes:bytes*n<=281474976710656) (h63:n<=9223372036854775807)
  (hK:wpList P ops Q rest (a.put o.dst (.slice (some ⟨w.heap.size,0,none⟩) n n)) (w.alloc (.cells (rowA (fun _=>z) n) e))):
  wpList P ops Q (o::rest) a w:=by
 obtain⟨i,hi,hzz⟩:=Option.map_eq_some_iff.1 hinfo;simp only [Prod.mk.injEq] at hzz;obtain⟨hz,hs,hb⟩:=hzz;refine wpList_make_row w hg l c t hop e i z ht hi hz hs hz1 .i64 .i64 n hl hc (by rw [hb];exact hbytes) h63 ?_;rw [Zmb];exact hK
theorem ZhP (d:Array Int):∀ (m j:Nat),j<m->d[j]! ∈ Lib.compactUpTo d m
 | 0,j,h=>by omega
 | m+1,j,h=>by
  rw [Lib.compactUpTo_succ];by_cases hj:j<m
  ·exact List.mem_append_left _ (ZhP d m j hj)
  ·obtain rfl:j=m:=by omega
   by_cases hk:Lib.keeps d j=true
   ·rw [if_pos hk];simp
   ·have hk2:¬(j=0\/d[j]! ≠ d[j-1]!):=by simpa [Lib.keeps] using hk
    have h0:0<j:=by omega
    have he:d[j]! = d[j-1]! := by
     by_cases e:d[j]! = d[j-1]!
     ·exact e
     ·exact absurd (Or.inr e) hk2
    rw [he];exact List.mem_append_left _ (ZhP d j (j-1) (by omega))
theorem Zje {zs:List Int}{x:Int}:x∈Lib.compact zs↔x∈zs:=by
 constructor
 ·intro h;simp only [Lib.compact,Lib.compactUpTo,YAV,YAT,List.mem_range] at h;obtain⟨j,⟨hj,_⟩,rfl⟩:=h;have:zs.toArray[j]! = zs[j]:=by simp [hj]
  rw [this];exact YAr hj
 ·intro h;obtain⟨j,hj,rfl⟩:=List.mem_iff_getElem.1 h;have e:zs[j]=zs.toArray[j]! := by simp [hj]
  rw [e];exact ZhP _ _ j hj
theorem Zkc (d:Array Int)(n:Nat)(hs:∀ i j,i<=j->j<n->d[i]! <= d[j]!):∀ m,m<=n->(Lib.compactUpTo d m).Pairwise (· < ·)
 | 0,_=>by simp [Lib.compactUpTo]
 | m+1,h=>by
  rw [Lib.compactUpTo_succ,YAP];refine⟨Zkc d n hs m (by omega),by split <;> simp,fun x hx y hy=>?_⟩;simp only [Lib.compactUpTo,YAV,YAT,List.mem_range] at hx;obtain⟨j,⟨hj,_⟩,rfl⟩:=hx
  split at hy
  ·rename_i hk
   have e:y=d[m]! := by simpa using hy
   subst e;have hk2:m=0\/d[m]! ≠ d[m-1]! := by simpa [Lib.keeps] using hk
   have h1:=hs j (m-1) (by omega) (by omega);have h2:=hs (m-1) m (by omega) (by omega);rcases hk2 with h3 | h3
   ·omega
   ·omega
  ·cases hy
theorem ZkX {zs:List Int}(hp:zs.Pairwise (fun a b=>decide (a<=b)=true)):∀ i j,i<=j->j<zs.length->zs.toArray[i]! <= zs.toArray[j]! := by
 intro i j hij hj;have hi:i<zs.length:=by omega
 have e1:zs.toArray[i]! = zs[i]:=by simp [hi]
 have e2:zs.toArray[j]! = zs[j]:=by simp [hj]
 rw [e1,e2];by_cases e:i=j
 ·subst e;exact Int.le_refl _
 ·have:=YAf.1 hp i j hi hj (by omega);simpa using this
def ZeV (a b:List Int):List Int:=Lib.compact ((a++b).mergeSort fun x y=>decide (x<=y))
theorem Zig {a b:List Int}{x:Int}:x∈ZeV a b↔x∈a\/x∈b:=by
 unfold ZeV;rw [Zje,List.mem_mergeSort,YAH]
theorem Zif (a b:List Int):(ZeV a b).Pairwise (· < ·):=by
 unfold ZeV Lib.compact;refine Zkc _ _ ?_ _ (YA _);have hp:=List.pairwise_mergeSort (le:=fun x y:Int=>decide (x<=y)) (fun a b c h1 h2=>by simp at h1 h2 |-;omega) (fun a b=>by simp;omega) (a++b);exact ZkX hp
theorem Zii (h:Cur w p a len cap):p<w.heap.size:=by
 obtain⟨⟨i,hh,hi,e⟩,_⟩:=h;rcases Nat.lt_or_ge p w.heap.size with hl | hl
 ·exact hl
 ·rw [Array.getElem?_eq_none hl] at e;cases e
theorem Cur.appended {base:Nat}{e:TypeId}{xs:List Value}(o:Obj)(h:Cur w p a len cap)(hown:w.ownsRow base e 1 v n xs)(hb:p<base)(hg:(w.alloc o).grownBy w' v.ownBlock):Cur w' p a len cap:=by
 have h1:Cur (w.alloc o) p a len cap:=h.grown (row:=none) ⟨rfl,rfl,rfl,by simp,fun k hk _=>YAI _ _ _ hk⟩ (fun b _=>by simp);refine h1.grown hg (fun b hbp he=>?_);have:=(hown.lt b he.symm).1;omega
end Go.Proofs.YtdhnddfnckgbjaaGreat
