/-
  WSt WaysK WaysL WaysM WCard WithK BetterS
-/
import Derived.Test.YtgdgkgmjpnbbcaaGreatOn7
import Derived.Test.YtgdgkgmjpnbbcaaGreatOn8
import Derived.Test.YtgdgkgmjpnbbcaaGreatOn5
import Derived.Test.YtgdgkgmjpnbbcaaGreatOn2
namespace Go.Proofs.YtgdgkgmjpnbbcaaGreat
open Go.RowKit
set_option linter.unusedSimpArgs false
set_option linter.unusedVariables false
set_option maxRecDepth 100000
set_option maxHeartbeats 8000000
def Ze3 (xs:List RecD)(area:Int)(u v:Nat):Int:=if (1<=u/\u<=6)/\(1<=v/\v<=6) then Zmq xs area u v else 0
theorem Zgx {ns:List Nr}{bk:Int->Int}{v:Nat}(h:∀ n∈ns,1<=n.c/\n.c<=1000):∀ k,0<=ZdT ns bk v k/\ZdT ns bk v k<=1000
 | 0=>by simp [ZdT]
 | k+1=>by
  have ih:=Zgx (bk:=bk) (v:=v) h k;cases e:ns[k]? with
  | none=>
   have:ZdT ns bk v (k+1)=ZdT ns bk v k:=by
    show (match ns[k]? with
     | some n=>if n.to=(v:Int)/\inB n.to 1 6=true/\0<bk n.to then n.c else ZdT ns bk v k
     | none=>ZdT ns bk v k)=_
    rw [e]
   rw [this];exact ih
  | some n=>
   rw [Zec bk v e];have:=h n (List.mem_of_getElem? e)
   split
   ·omega
   ·exact ih
theorem Zdi {α:Type}{ok:α->Bool}{ls:List α}(h:Zce ok ls=true){a:α}(ha:a∈ls):ok a=true:=by
 obtain⟨k,hk,e⟩:=List.mem_iff_getElem.1 ha;unfold Zce at h;rw [List.all_eq_true] at h;have:=h k (by simpa using hk)
 unfold okAt at this;rw [List.getElem?_eq_getElem hk,e] at this;exact this
theorem ZgL {x:RecD}(h:Za8 x=true):x.near=[]\/(x.kind=1/\Zbj x.owner x.near=true):=by
 unfold Za8 at h;simp only [Bool.and_eq_true] at h
 have h2:=h.2
 split at h2
 ·rename_i e
  simp only [Bool.and_eq_true] at h2
  exact .inr ⟨e,h2.1.1.2⟩
 ·split at h2
  ·simp only [Bool.and_eq_true,beq_iff_eq] at h2
   exact .inl (List.eq_nil_of_length_eq_zero h2.1.1.2)
  ·split at h2
   ·simp only [Bool.and_eq_true,beq_iff_eq] at h2
    exact .inl (List.eq_nil_of_length_eq_zero h2.1.2)
   ·cases h2
theorem ZgK {x:RecD}(h:Za8 x=true):∀ n∈x.near,1<=n.c/\n.c<=1000:=by
 intro n hn
 rcases ZgL h with e | ⟨_,e⟩
 ·rw [e] at hn;cases hn
 ·unfold Zbj at e
  simp only [Bool.and_eq_true] at e
  have:=Zdi e.1 hn;unfold Zcm at this;simp only [Bool.and_eq_true] at this
  exact ZdQ.1 this.2
theorem ZiI {xs:List RecD}{r:RecD}:ZiH xs r∈xs\/ZiH xs r=ZbM:=by
 rcases ZeQ xs r with hz | ⟨j,y,hz,hy,_⟩
 ·exact .inr (ZiJ hz).1
 ·rw [(Zl4 hz hy).1];exact .inl (List.mem_of_getElem? hy)
theorem ZgC {xs:List RecD}{area node:Int}(h:ZaE xs=true):∀ n∈(Zcy xs area node).near,1<=n.c/\n.c<=1000:=by
 intro n hn;unfold Zcy at hn
 rcases ZiI (xs:=xs) (r:=Zem area node) with hm | he
 ·unfold ZaE at h
  simp only [Bool.and_eq_true] at h
  have hr:=Zdi h.1.2 hm;exact ZgK hr n hn
 ·rw [he] at hn;cases hn
theorem Zez {xs:List RecD}{area:Int}(h:ZaE xs=true):Links (Ze3 xs area) 1000:=by
 refine⟨fun u v=>?_,fun u v=>?_,fun u v hl=>?_⟩
 ·unfold Ze3;split
  ·exact (Zgx (ZgC h) _).1
  ·omega
 ·unfold Ze3;split
  ·exact (Zgx (ZgC h) _).2
  ·omega
 ·unfold Ze3 at hl
  split at hl
  ·rename_i e;exact e
  ·omega
def Zl0 (c:Nat->Int)(i:Nat):Value:=.int .i64 (if i=0 then 0 else c i)
def doneV (F:Nat->Bool)(i:Nat):Value:=.bool (F i)
def upd {α:Type}(f:Nat->α)(v:Nat)(x:α)(i:Nat):α:=if i=v then x else f i
theorem Zav {α:Type}(f:Nat->α)(v:Nat)(x:α):upd f v x v=x:=by simp [upd]
theorem Zaq {α:Type}(f:Nat->α){v i:Nat}(x:α)(h:i≠v):upd f v x i=f i:=by simp [upd,h]
structure SSt (W:World) (g b:Nat) (o:Nat->Nat->Int) (F:Nat->Bool) (c:Nat->Int) (h:Nat->List Int) (hv:Nat->Value):Prop where
 gb:g<b
 ln:W.heap[g]? = some (.cells (rowA (Zg1 o) 49) 3)
 cs:W.heap[b]? = some (.cells (rowA (Zl0 c) 7) 3)
 hs:W.heap[b+1]? = some (.cells (rowA hv 7) 37)
 ds:W.heap[b+1+1]? = some (.cells (rowA (doneV F) 7) 4)
 rows:∀ v,W.ownsRow (b+3) 3 1 (hv v) (h v).length (flat intE (h v))
 short:∀ v,(h v).length<=6
theorem SSt.size {W:World}{g b:Nat}{o:Nat->Nat->Int}{F:Nat->Bool}{c:Nat->Int}{h:Nat->List Int}{hv:Nat->Value}(s:SSt W g b o F c h hv):b+3<=W.heap.size:=by
 have:=Zab s.ds;omega
theorem SSt.below {W W':World}{g b:Nat}{o:Nat->Nat->Int}{F:Nat->Bool}{c:Nat->Int}{h:Nat->List Int}{hv:Nat->Value}(s:SSt W g b o F c h hv)(hb:Below W.heap.size W W'):SSt W' g b o F c h hv:=
 ⟨s.gb,(hb.block _ (Zab s.ln)).trans s.ln,(hb.block _ (Zab s.cs)).trans s.cs,(hb.block _ (Zab s.hs)).trans s.hs,(hb.block _ (Zab s.ds)).trans s.ds,fun v=>Zaf (s.rows v) hb (Nat.le_refl _),s.short⟩
theorem SSt.cost {W:World}{g b:Nat}{o:Nat->Nat->Int}{F:Nat->Bool}{c:Nat->Int}{h:Nat->List Int}{hv:Nat->Value}(s:SSt W g b o F c h hv){v:Nat}(h1:1<=v)(h6:v<=6):W.cell? ⟨b,v,none⟩=some (.int .i64 (c v)):=by
 rw [Zfh s.cs (by omega)];unfold Zl0;rw [if_neg (by omega)]
theorem SSt.done {W:World}{g b:Nat}{o:Nat->Nat->Int}{F:Nat->Bool}{c:Nat->Int}{h:Nat->List Int}{hv:Nat->Value}(s:SSt W g b o F c h hv){v:Nat}(h6:v<=6):W.cell? ⟨b+1+1,v,none⟩=some (.bool (F v)):=by
 rw [Zfh s.ds (by omega)];rfl
theorem SSt.hop {W:World}{g b:Nat}{o:Nat->Nat->Int}{F:Nat->Bool}{c:Nat->Int}{h:Nat->List Int}{hv:Nat->Value}(s:SSt W g b o F c h hv){v:Nat}(h6:v<=6):W.cell? ⟨b+1,v,none⟩=some (hv v):=Zfh s.hs (by omega)
theorem SSt.link {W:World}{g b:Nat}{o:Nat->Nat->Int}{F:Nat->Bool}{c:Nat->Int}{h:Nat->List Int}{hv:Nat->Value}(s:SSt W g b o F c h hv){u v:Nat}(h5:u<=6)(h6:v<=6):W.cell? ⟨g,u*7+v,none⟩=some (.int .i64 (o u v)):=Zkq s.ln h5 h6
theorem SSt.setC {W:World}{g b:Nat}{o:Nat->Nat->Int}{F:Nat->Bool}{c:Nat->Int}{h:Nat->List Int}{hv:Nat->Value}(s:SSt W g b o F c h hv){v:Nat}(h1:1<=v)(x:Int):SSt (W.setCell ⟨b,v,none⟩ (.int .i64 x)) g b o F (upd c v x) h hv:=by
 have hg:=s.gb;refine⟨s.gb,(heap_setCell_other W ⟨b,v,none⟩ g _ (by show g≠b;omega)).trans s.ln,?_,(heap_setCell_other W ⟨b,v,none⟩ (b+1) _ (by show b+1≠b;omega)).trans s.hs,(heap_setCell_other W ⟨b,v,none⟩ (b+1+1) _ (by show b+1+1≠b;omega)).trans s.ds,fun u=>ZaH (s.rows u) (by omega),s.short⟩
 rw [Zgc s.cs,Zdt (fun i _=>?_)]
 unfold Zl0 upd;by_cases e:i=v
 ·subst e;rw [if_pos rfl,if_neg (by omega),if_pos rfl]
 ·rw [if_neg e];simp [e]
theorem SSt.setD {W:World}{g b:Nat}{o:Nat->Nat->Int}{F:Nat->Bool}{c:Nat->Int}{h:Nat->List Int}{hv:Nat->Value}(s:SSt W g b o F c h hv)(v:Nat):SSt (W.setCell ⟨b+1+1,v,none⟩ (.bool true)) g b o (fun x=>F x||x==v) c h hv:=by
 have hg:=s.gb;refine⟨s.gb,(heap_setCell_other W ⟨b+1+1,v,none⟩ g _ (by show g≠b+1+1;omega)).trans s.ln,(heap_setCell_other W ⟨b+1+1,v,none⟩ b _ (by show b≠b+1+1;omega)).trans s.cs,(heap_setCell_other W ⟨b+1+1,v,none⟩ (b+1) _ (by show b+1≠b+1+1;omega)).trans s.hs,?_,fun u=>ZaH (s.rows u) (by omega),s.short⟩
 rw [Zgc s.ds,Zdt (fun i _=>?_)]
 unfold doneV;by_cases e:i=v
 ·subst e;simp
 ·simp [e]
theorem SSt.setH {W:World}{g b:Nat}{o:Nat->Nat->Int}{F:Nat->Bool}{c:Nat->Int}{h:Nat->List Int}{hv:Nat->Value}(s:SSt W g b o F c h hv)(v:Nat){x:Value}{l:List Int}(hx:W.ownsRow (b+3) 3 1 x l.length (flat intE l))(hl:l.length<=6):SSt (W.setCell ⟨b+1,v,none⟩ x) g b o F c (upd h v l) (upd hv v x):=by
 have hg:=s.gb;refine⟨s.gb,(heap_setCell_other W ⟨b+1,v,none⟩ g _ (by show g≠b+1;omega)).trans s.ln,(heap_setCell_other W ⟨b+1,v,none⟩ b _ (by show b≠b+1;omega)).trans s.cs,?_,(heap_setCell_other W ⟨b+1,v,none⟩ (b+1+1) _ (by show b+1+1≠b+1;omega)).trans s.ds,fun u=>?_,fun u=>?_⟩
 ·rw [Zgc s.hs];rfl
 ·unfold upd
  by_cases e:u=v
  ·rw [if_pos e,if_pos e];exact ZaH hx (by omega)
  ·rw [if_neg e,if_neg e];exact ZaH (s.rows u) (by omega)
 ·unfold upd
  by_cases e:u=v
  ·rw [if_pos e];exact hl
  ·rw [if_neg e];exact s.short u
theorem SSt.congr {W:World}{g b:Nat}{o:Nat->Nat->Int}{F:Nat->Bool}{c d:Nat->Int}{h:Nat->List Int}{hv:Nat->Value}(s:SSt W g b o F c h hv)(hc:∀ v,1<=v->v<=6->d v=c v):SSt W g b o F d h hv:=by
 refine⟨s.gb,s.ln,?_,s.hs,s.ds,s.rows,s.short⟩
 rw [s.cs,Zdt (fun i hi=>?_)]
 unfold Zl0;by_cases e:i=0
 ·rw [if_pos e,if_pos e]
 ·rw [if_neg e,if_neg e,hc i (by omega) (by omega)]
theorem SSt.start {W:World}{g:Nat}{o:Nat->Nat->Int} (hg:W.heap[g]? = some (.cells (rowA (Zg1 o) 49) 3)):
  SSt (((W.alloc (.cells (rowA (fun _=>.int .i64 0) 7) 3)).alloc (.cells (rowA (fun _=>.slice none 0 0) 7) 37)).alloc (.cells (rowA (fun _=>.bool false) 7) 4)) g W.heap.size o (fun _=>false) (fun _=>0) (fun _=>[]) (fun _=>.slice none 0 0):=by
 have hlt:=Zab hg;refine⟨hlt,?_,?_,?_,?_,fun v=>World.ownsRow_nil _ _ _ _,by simp⟩
 ·rw [Below.heap_alloc _ _ _ (by simp;omega),Below.heap_alloc _ _ _ (by simp;omega),Below.heap_alloc _ _ _ hlt];exact hg
 ·rw [Below.heap_alloc _ _ _ (by simp;omega),Below.heap_alloc _ _ _ (by simp),heap_alloc_new,Zdt (fun i _=>?_)]
  unfold Zl0;simp
 ·rw [Below.heap_alloc _ _ _ (by simp)]
  have e:=heap_alloc_new (W.alloc (.cells (rowA (fun _=>.int .i64 0) 7) 3)) (.cells (rowA (fun _=>.slice none 0 0) 7) 37)
  rw [show (W.alloc (.cells (rowA (fun _=>.int .i64 0) 7) 3)).heap.size=W.heap.size+1 by simp] at e
  exact e
 ·have e:=heap_alloc_new ((W.alloc (.cells (rowA (fun _=>.int .i64 0) 7) 3)).alloc (.cells (rowA (fun _=>.slice none 0 0) 7) 37)) (.cells (rowA (fun _=>.bool false) 7) 4)
  rw [show ((W.alloc (.cells (rowA (fun _=>.int .i64 0) 7) 3)).alloc (.cells (rowA (fun _=>.slice none 0 0) 7) 37)).heap.size=W.heap.size+1+1 by simp] at e
  exact e
theorem ZhI (a b:List Int)(x:Int):∀ k:Nat,x∈addT a b k↔(1<=x/\x<=(k:Int)/\(x∈a\/x∈b))
 | 0=>by simp [addT];omega
 | k+1=>by
  unfold addT;rw [List.mem_append,ZhI a b x k];by_cases e:(k:Int)+1∈a\/(k:Int)+1∈b
  ·rw [if_pos e]
   simp only [List.mem_singleton]
   constructor
   ·rintro (⟨h1,h2,h3⟩ | rfl)
    ·exact ⟨h1,by omega,h3⟩
    ·exact ⟨by omega,by omega,e⟩
   ·rintro ⟨h1,h2,h3⟩
    by_cases e2:x=(k:Int)+1
    ·exact .inr e2
    ·exact .inl ⟨h1,by omega,h3⟩
  ·rw [if_neg e]
   simp only [List.not_mem_nil,or_false]
   constructor
   ·rintro ⟨h1,h2,h3⟩;exact⟨h1,by omega,h3⟩
   ·rintro ⟨h1,h2,h3⟩
    refine⟨h1,?_,h3⟩
    by_cases e2:x=(k:Int)+1
    ·subst e2;exact absurd h3 e
    ·omega
theorem Zke (a b:List Int):∀ k:Nat,(addT a b k).Pairwise (· < ·)
 | 0=>by simp [addT]
 | k+1=>by
  unfold addT;rw [List.pairwise_append];refine⟨Zke a b k,by split <;> simp,?_⟩
  intro x hx y hy;have h1:=(ZhI a b x k).1 hx
  split at hy
  ·simp at hy;omega
  ·cases hy
theorem Zf3 {a b:List Int}{x:Int}:x∈addL a b↔(1<=x/\x<=6/\(x∈a\/x∈b)):=ZhI a b x 6
theorem Zf1 (a b:List Int):(addL a b).Pairwise (· < ·):=Zke a b 6
theorem Zct (a b:List Int):(addL a b).length<=6:=ZhH a b 6
def wayL (src:Nat)(h:Nat->List Int)(u v:Nat):List Int:=if u=src then [(v:Int)] else h u
theorem Zim {src:Nat}{h:Nat->List Int}{u v:Nat}{x:Int}:x∈wayL src h u v↔Zdx src h u v x:=by
 unfold wayL Zdx;by_cases e:u=src
 ·rw [if_pos e];simp [e]
 ·rw [if_neg e];simp [e]
def ZbD (L:Nat->Nat->Int)(src:Nat)(c:Nat->Int)(h:Nat->List Int)(u v:Nat):List Int:=
 if 0<L u v then (if c v<0\/c u+L u v<c v then addL [] (wayL src h u v) else if c u+L u v=c v then addL (h v) (wayL src h u v) else h v) else h v
theorem ZeJ {L:Nat->Nat->Int}{K:Int}{src:Nat}{F:Nat->Bool}{c:Nat->Int}{h:Nat->List Int}(I:Inv L src F c h)(hL:Links L K){u:Nat}(hu:0<=c u)(v:Nat):RelaxH L src c h u v (ZbD L src c h u v):=by
 have hrng:∀ x,0<L u v->Zdx src h u v x->1<=x/\x<=6:=by
  intro x hl ho
  rcases ho with ⟨_,rfl⟩ | ⟨_,h2⟩
  ·have:=(hL.node u v hl).2;unfold ZcO at this;omega
  ·exact I.rng u x h2
 have hneg:c v<0->∀ x,x ∉ h v:=by
  intro hc x hx;by_cases e:v=src
  ·subst e;rw [I.start0] at hx;cases hx
  ·have:=((I.hop v e x).1 hx).1;omega
 unfold ZbD;by_cases h1:0<L u v
 ·rw [if_pos h1]
  by_cases h2:c v<0\/c u+L u v<c v
  ·rw [if_pos h2]
   have e:Zaz L c u v=c u+L u v:=by unfold Zaz;rw [if_pos ⟨h1,h2⟩]
   refine⟨Zf1 _ _,fun x=>?_⟩
   rw [Zf3,e,Zim]
   constructor
   ·rintro ⟨_,_,h5 | h5⟩
    ·cases h5
    ·exact .inr ⟨h1,rfl,h5⟩
   ·rintro (⟨h5,h6⟩ | ⟨_,_,h5⟩)
    ·omega
    ·have:=hrng x h1 h5;exact⟨this.1,this.2,.inr h5⟩
  ·rw [if_neg h2]
   have e:Zaz L c u v=c v:=by unfold Zaz;rw [if_neg (fun hc=>h2 hc.2)]
   by_cases h3:c u+L u v=c v
   ·rw [if_pos h3]
    refine⟨Zf1 _ _,fun x=>?_⟩
    rw [Zf3,e,Zim]
    constructor
    ·rintro ⟨_,_,h5 | h5⟩
     ·exact .inl ⟨h5,rfl⟩
     ·exact .inr ⟨h1,h3.symm,h5⟩
    ·rintro (⟨h5,_⟩ | ⟨_,_,h5⟩)
     ·have:=I.rng v x h5;exact⟨this.1,this.2,.inl h5⟩
     ·have:=hrng x h1 h5;exact⟨this.1,this.2,.inr h5⟩
   ·rw [if_neg h3]
    refine⟨I.asc v,fun x=>?_⟩
    rw [e]
    constructor
    ·intro h5;exact .inl ⟨h5,rfl⟩
    ·rintro (⟨h5,_⟩ | ⟨_,h6,_⟩)
     ·exact h5
     ·omega
 ·rw [if_neg h1]
  have e:Zaz L c u v=c v:=by unfold Zaz;rw [if_neg (fun hc=>h1 hc.1)]
  refine⟨I.asc v,fun x=>?_⟩
  rw [e]
  constructor
  ·intro h5;exact .inl ⟨h5,rfl⟩
  ·rintro (⟨h5,_⟩ | ⟨h6,_⟩)
   ·exact h5
   ·exact absurd h6 h1
def mixC (L:Nat->Nat->Int)(c:Nat->Int)(u j v:Nat):Int:=if v<j then Zaz L c u v else c v
def mixH (L:Nat->Nat->Int)(src:Nat)(c:Nat->Int)(h:Nat->List Int)(u j v:Nat):List Int:=if v<j then ZbD L src c h u v else h v
theorem Zkv {L:Nat->Nat->Int}{K:Int}(hL:Links L K)(c:Nat->Int)(u:Nat):mixC L c u 1=c:=by
 funext v
 unfold mixC;by_cases e:v<1
 ·rw [if_pos e]
  unfold Zaz;rw [if_neg (fun hc=>by have:=(hL.node u v hc.1).2;unfold ZcO at this;omega)]
 ·rw [if_neg e]
theorem Zkx {L:Nat->Nat->Int}{K:Int}(hL:Links L K)(src:Nat)(c:Nat->Int)(h:Nat->List Int)(u:Nat):mixH L src c h u 1=h:=by
 funext v
 unfold mixH;by_cases e:v<1
 ·rw [if_pos e]
  unfold ZbD;rw [if_neg (fun hc=>by have:=(hL.node u v hc).2;unfold ZcO at this;omega)]
 ·rw [if_neg e]
theorem Zdo (L:Nat->Nat->Int)(c:Nat->Int)(u j:Nat):mixC L c u (j+1)=upd (mixC L c u j) j (Zaz L c u j):=by
 funext v
 unfold upd
 show (if v<j+1 then Zaz L c u v else c v)=if v=j then Zaz L c u j else if v<j then Zaz L c u v else c v
 by_cases e:v=j
 ·rw [if_pos (by omega),if_pos e,e]
 ·rw [if_neg e]
  by_cases e2:v<j
  ·rw [if_pos e2,if_pos (by omega)]
  ·rw [if_neg e2,if_neg (by omega)]
theorem Zcd (L:Nat->Nat->Int)(src:Nat)(c:Nat->Int)(h:Nat->List Int)(u j:Nat):mixH L src c h u (j+1)=upd (mixH L src c h u j) j (ZbD L src c h u j):=by
 funext v
 unfold upd
 show (if v<j+1 then ZbD L src c h u v else h v)=if v=j then ZbD L src c h u j else if v<j then ZbD L src c h u v else h v
 by_cases e:v=j
 ·rw [if_pos (by omega),if_pos e,e]
 ·rw [if_neg e]
  by_cases e2:v<j
  ·rw [if_pos e2,if_pos (by omega)]
  ·rw [if_neg e2,if_neg (by omega)]
theorem Zdn {L:Nat->Nat->Int}{c:Nat->Int}{u j:Nat}:mixC L c u j j=c j:=by
 unfold mixC;rw [if_neg (by omega)]
theorem Ze7 {L:Nat->Nat->Int}{src:Nat}{c:Nat->Int}{h:Nat->List Int}{u j:Nat}:mixH L src c h u j j=h j:=by
 unfold mixH;rw [if_neg (by omega)]
theorem ZoN {α:Type}(f:Nat->α)(v:Nat):upd f v (f v)=f:=by
 funext i
 unfold upd;by_cases e:i=v
 ·rw [if_pos e,e]
 ·rw [if_neg e]
theorem ZcR {L:Nat->Nat->Int}{c:Nat->Int}{u j:Nat}(e:Zaz L c u j=c j):mixC L c u (j+1)=mixC L c u j:=by
 rw [Zdo,e, <-Zdn (L:=L) (c:=c) (u:=u) (j:=j),ZoN]
theorem Ze6 {L:Nat->Nat->Int}{src:Nat}{c:Nat->Int}{h:Nat->List Int}{u j:Nat}(e:ZbD L src c h u j=h j):mixH L src c h u (j+1)=mixH L src c h u j:=by
 rw [Zcd,e, <-Ze7 (L:=L) (src:=src) (c:=c) (h:=h) (u:=u) (j:=j),ZoN]
theorem Zku {L:Nat->Nat->Int}{K:Int}(hL:Links L K)(c:Nat->Int)(u:Nat):mixC L c u 7=fun v=>Zaz L c u v:=by
 funext v
 unfold mixC;by_cases e:v<7
 ·rw [if_pos e]
 ·rw [if_neg e]
  unfold Zaz;rw [if_neg (fun hc=>by have:=(hL.node u v hc.1).2;unfold ZcO at this;omega)]
theorem Zkw {L:Nat->Nat->Int}{K:Int}(hL:Links L K)(src:Nat)(c:Nat->Int)(h:Nat->List Int)(u:Nat):mixH L src c h u 7=fun v=>ZbD L src c h u v:=by
 funext v
 unfold mixH;by_cases e:v<7
 ·rw [if_pos e]
 ·rw [if_neg e]
  unfold ZbD;rw [if_neg (fun hc=>by have:=(hL.node u v hc).2;unfold ZcO at this;omega)]
theorem ZeI {L:Nat->Nat->Int}{src:Nat}{c:Nat->Int}{h:Nat->List Int}{u v:Nat}(e:¬0<L u v):ZbD L src c h u v=h v/\Zaz L c u v=c v:=by
 unfold ZbD Zaz;rw [if_neg e,if_neg (fun hc=>e hc.1)]
 exact⟨rfl,rfl⟩
theorem ZdG {L:Nat->Nat->Int}{src:Nat}{c:Nat->Int}{h:Nat->List Int}{u v:Nat}(h0:0<=c v)(e:c v<c u+L u v):ZbD L src c h u v=h v/\Zaz L c u v=c v:=by
 unfold ZbD Zaz
 constructor
 ·split
  ·rw [if_neg (by omega),if_neg (by omega)]
  ·rfl
 ·rw [if_neg (by omega)]
theorem ZcW {L:Nat->Nat->Int}{src:Nat}{c:Nat->Int}{h:Nat->List Int}{u v:Nat}(hl:0<L u v)(e:c v<0\/c u+L u v<c v):ZbD L src c h u v=addL [] (wayL src h u v)/\Zaz L c u v=c u+L u v:=by
 unfold ZbD Zaz;rw [if_pos hl,if_pos e,if_pos ⟨hl,e⟩];exact⟨rfl,rfl⟩
theorem ZeH {L:Nat->Nat->Int}{src:Nat}{c:Nat->Int}{h:Nat->List Int}{u v:Nat}(hl:0<L u v)(h0:0<=c v)(e:c u+L u v=c v):ZbD L src c h u v=addL (h v) (wayL src h u v)/\Zaz L c u v=c v:=by
 unfold ZbD Zaz;rw [if_pos hl,if_neg (by omega),if_pos e,if_neg (by omega)]
 exact⟨rfl,rfl⟩
abbrev WP:=WayD × Value
def encW (p:WP):List Value:=[.int .i64 p.1.to,.int .i64 p.1.cost,p.2]
def Zbg:WayD:=⟨0,0,[]⟩
theorem Zbd (p:WP):(encW p).length=3:=rfl
def ZcP (W:World)(v:Value)(ps:List WP)(B:Nat):Prop:=Za5 encW 3 W v ps B/\∀ p∈ps,ZaP W p.2 p.1.hops B
theorem ZcP.shape {W:World}{v:Value}{ps:List WP}{B:Nat}(h:ZcP W v ps B):∃ a cap,v=.slice a ps.length cap:=by
 obtain⟨⟨a,cap,h,_⟩,_⟩:=h;exact⟨a,cap,h⟩
theorem ZcP.later {W W':World}{v:Value}{ps:List WP}{B C:Nat}(h:ZcP W v ps B)(hb:Below C W W')(hBC:B<=C):ZcP W' v ps B:=
 ⟨ZaR.later h.1 hb hBC,fun p hp=>ZaR.later (h.2 p hp) hb hBC⟩
theorem ZcP.more {W:World}{v:Value}{ps:List WP}{B C:Nat}(h:ZcP W v ps B)(hBC:B<=C):ZcP W v ps C:=
 ⟨ZaR.more h.1 hBC,fun p hp=>ZaR.more (h.2 p hp) hBC⟩
theorem ZcP.then {W W':World}{v:Value}{ps:List WP}(h:ZcP W v ps W.heap.size)(hb:Below W.heap.size W W'):ZcP W' v ps W'.heap.size:=(h.later hb (Nat.le_refl _)).more hb.size
def Zbu (W:World)(lo hi:Nat)(p:WP):Prop:=W.ownsRow lo 3 1 p.2 p.1.hops.length (flat intE p.1.hops)/\∀ k,p.2.ownBlock=some k->k<hi
def ZcB (p q:WP):Prop:=∀ k,p.2.ownBlock=some k->q.2.ownBlock≠some k
structure WaysOwn (W:World) (lo hi:Nat) (v:Value) (ps:List WP):Prop where
 row:W.ownsRow lo 48 3 v ps.length (flat encW ps)
 top:∀ k,v.ownBlock=some k->k<hi
 nears:∀ p∈ps,Zbu W lo hi p
 apart:ps.Pairwise ZcB
theorem Zbu.keep {W W':World}{lo hi:Nat}{p:WP}(h:Zbu W lo hi p)(hk:∀ k,lo<=k->k<hi->k<W.heap.size->W'.heap[k]? = W.heap[k]?):Zbu W' lo hi p:=
 ⟨Zao h.1 (fun k e=>hk k (h.1.lt k e).1 (h.2 k e) (h.1.lt k e).2),h.2⟩
theorem Zbu.wide {W:World}{lo hi lo' hi':Nat}{p:WP}(h:Zbu W lo hi p)(hl:lo'<=lo)(hh:hi<=hi'):Zbu W lo' hi' p:=
 ⟨Zah h.1 hl,fun k e=>Nat.lt_of_lt_of_le (h.2 k e) hh⟩
theorem Zbu.at {W:World}{lo hi:Nat}{p:WP}(h:Zbu W lo hi p):ZaP W p.2 p.1.hops hi:=by
 have h1:=Zar h.1;obtain⟨a,cap,hv,h2⟩:=h1;refine⟨a,cap,hv,?_⟩
 rcases h2 with h0 | ⟨b,off,ha,hb1,hx⟩
 ·exact .inl h0
 ·exact .inr ⟨b,off,ha,h.2 b (by rw [hv,ha];rfl),hx⟩
theorem WaysOwn.keep {W W':World}{lo hi:Nat}{v:Value}{ps:List WP}(h:WaysOwn W lo hi v ps)(hk:∀ k,lo<=k->k<hi->k<W.heap.size->W'.heap[k]? = W.heap[k]?):WaysOwn W' lo hi v ps where
 row:=Zao h.row (fun k e=>hk k (h.row.lt k e).1 (h.top k e) (h.row.lt k e).2)
 top:=h.top
 nears:=fun p hp=>(h.nears p hp).keep hk
 apart:=h.apart
theorem WaysOwn.below {W W':World}{lo hi B:Nat}{v:Value}{ps:List WP}(h:WaysOwn W lo hi v ps)(hb:Below B W W')(hB:hi<=B):WaysOwn W' lo hi v ps:=h.keep (fun k _ h2 _=>hb.block k (by omega))
theorem WaysOwn.wide {W:World}{lo hi lo' hi':Nat}{v:Value}{ps:List WP}(h:WaysOwn W lo hi v ps)(hl:lo'<=lo)(hh:hi<=hi'):WaysOwn W lo' hi' v ps where
 row:=Zah h.row hl
 top:=fun k e=>Nat.lt_of_lt_of_le (h.top k e) hh
 nears:=fun p hp=>(h.nears p hp).wide hl hh
 apart:=h.apart
theorem WaysOwn.at {W:World}{lo hi:Nat}{v:Value}{ps:List WP}(h:WaysOwn W lo hi v ps):ZcP W v ps hi:=by
 refine⟨?_,fun p hp=>(h.nears p hp).at⟩
 have h1:=Zar h.row;obtain⟨a,cap,hv,h2⟩:=h1;refine⟨a,cap,hv,?_⟩
 rcases h2 with h0 | ⟨b,off,ha,hb1,hx⟩
 ·exact .inl h0
 ·exact .inr ⟨b,off,ha,h.top b (by rw [hv,ha];rfl),hx⟩
theorem WaysOwn.frame {W W':World}{lo hi l2 h2:Nat}{v:Value}{ps:List WP}(h:WaysOwn W lo hi v ps)(hb:Frame l2 h2 W W')(hB:hi<=l2\/h2<=lo):WaysOwn W' lo hi v ps:=h.keep (fun k h1 h2 h3=>hb.block k h3 (by omega))
theorem ZkS {W:World}{lo hi:Nat}{ps:List WP}{p:WP}(h:ps.Pairwise ZcB)(hn:∀ q∈ps,Zbu W lo hi q)(hp:∀ k,p.2.ownBlock=some k->hi<=k):(ps++[p]).Pairwise ZcB:=by
 rw [List.pairwise_append];refine⟨h,by simp,?_⟩
 intro a ha b hb;have:b=p:=by simpa using hb
 subst this;intro k hk he;have h1:=(hn a ha).2 k hk;have h2:=hp k he;omega
def totW (ps:List WP):Nat:=(ps.map (fun p=>1+p.1.hops.length)).sum
theorem ZgW (p:WP)(ps:List WP):totW (p::ps)=1+p.1.hops.length+totW ps:=by simp [totW]
theorem Zj9 (a b:List WP):totW (a++b)=totW a+totW b:=by simp [totW]
theorem Zei (ps:List WP):ps.length<=totW ps:=by
 induction ps with
 | nil=>simp [totW]
 | cons p ps ih=>rw [ZgW,List.length_cons];omega
theorem ZkP {ps:List WP}{p:WP}(h:p∈ps):p.1.hops.length<=totW ps:=by
 induction ps with
 | nil=>simp at h
 | cons q ps ih=>
  rw [ZgW]
  rcases List.mem_cons.1 h with rfl | h1
  ·omega
  ·have:=ih h1;omega
theorem ZcP.cells {W:World}{v:Value}{ps:List WP}{B:Nat}(h:ZcP W v ps B)(i:Nat)(p:WP)(hp:ps[i]? = some p):
  ∃ b off cap,v=.slice (some ⟨b,off,none⟩) ps.length cap/\b<B/\W.cell? ⟨b,off+i*3,none⟩=some (.int .i64 p.1.to)/\W.cell? ⟨b,off+i*3+1,none⟩=some (.int .i64 p.1.cost)/\W.cell? ⟨b,off+i*3+2,none⟩=some p.2/\ZaP W p.2 p.1.hops B:=by
 obtain⟨b,off,cap,hv,hb,hc⟩:=Za5.cell h.1 Zbd i p hp;exact⟨b,off,cap,hv,hb,hc 0 _ rfl,hc 1 _ rfl,hc 2 _ rfl,h.2 p (List.mem_of_getElem? hp)⟩
abbrev putW (W:World) (g o:Nat) (p:WP):World:=((W.setCell ⟨g,o,none⟩ (.int .i64 p.1.to)).setCell ⟨g,o+1,none⟩ (.int .i64 p.1.cost)).setCell ⟨g,o+2,none⟩ p.2
theorem Zhv (W:World)(g o:Nat)(p:WP):W.grownBy (putW W g o p) (some g):=Zai (Zai (Zal W g _ _) (Zal _ g _ _)) (Zal _ g _ _)
theorem ZmQ {W:World}{base g cap n j:Nat}{xs:List WP}{p:WP}(h:W.ownsRow base 48 3 (.slice (some ⟨g,0,none⟩) n cap) n (flat encW xs))(hj:j<xs.length):
  (putW W g (j*3) p).ownsRow base 48 3 (.slice (some ⟨g,0,none⟩) n cap) n (flat encW (xs.set j p)):=by
 have e:(((flat encW xs).set (j*3) (.int .i64 p.1.to)).set (j*3+1) (.int .i64 p.1.cost)).set (j*3+2) p.2=flat encW (xs.set j p):=ZhX Zbd xs j p hj;rw [<-e];exact (((h.stored (j*3) _).1.stored (j*3+1) _).1.stored (j*3+2) _).1
theorem Tryz.infoWay:(Tryz.prog.info? 48).map (fun i=>(i.zero,i.size,i.bytes))=some (some (.agg (wayC Zbg (.slice none 0 0))),3,40):=by kernel_rfl
def Zag (ps:List WP):List WayD:=ps.map (·.1)
theorem ZcH {ps:List WP}{i:Nat}{p:WP}(h:ps[i]? = some p):(Zag ps)[i]? = some p.1:=by simp [Zag,h]
theorem Zg9 (ps:List WP):ps.Pairwise ZcB↔(ps.map (·.2)).Pairwise (fun a b:Value=>∀ k,a.ownBlock=some k->b.ownBlock≠some k):=by
 rw [List.pairwise_map];exact Iff.rfl
theorem ZlK {ps:List WP}(h:ps.Pairwise ZcB){i k:Nat}{p q:WP}(hi:ps[i]? = some p)(hk:ps[k]? = some q)(hne:i≠k):ZcB p q:=by
 obtain⟨h1,e1⟩:=List.getElem?_eq_some_iff.1 hi;obtain⟨h2,e2⟩:=List.getElem?_eq_some_iff.1 hk;rw [List.pairwise_iff_getElem] at h
 rcases Nat.lt_or_ge i k with hl | hl
 ·have:=h i k h1 h2 hl
  rw [e1,e2] at this;exact this
 ·have:=h k i h2 h1 (by omega)
  rw [e1,e2] at this;exact fun j hj he=>this j he hj
theorem Zop {ps:List WP}{k:Nat}{p q:WP}(hk:ps[k]? = some p)(h:q.2=p.2):(ps.set k q).map (·.2)=ps.map (·.2):=by
 apply List.ext_getElem?
 intro i;by_cases e:i=k
 ·subst e
  obtain⟨h1,e1⟩:=List.getElem?_eq_some_iff.1 hk;rw [List.getElem?_map,List.getElem?_set_self h1,List.getElem?_map,hk];simp [h]
 ·simp [List.getElem?_set_ne (Ne.symm e)]
theorem WaysOwn.turn {W W8:World}{lo hi g n cap k:Nat}{xs:List WP}{p q:WP}(h:WaysOwn W lo hi (.slice (some ⟨g,0,none⟩) n cap) xs)(hn:xs.length=n)(hk:xs[k]? = some p)(hq:q.2=p.2)
  (row:W8.ownsRow lo 48 3 (.slice (some ⟨g,0,none⟩) n cap) n (flat encW (xs.set k q))) (near:W8.ownsRow lo 3 1 q.2 q.1.hops.length (flat intE q.1.hops))
  (hkeep:∀ j,j<W.heap.size->j≠g->some j≠p.2.ownBlock->W8.heap[j]? = W.heap[j]?):WaysOwn W8 lo hi (.slice (some ⟨g,0,none⟩) n cap) (xs.set k q) where
 row:=by rw [List.length_set,hn];exact row
 top:=h.top
 apart:=by rw [Zg9,Zop hk hq, <-Zg9];exact h.apart
 nears:=by
  intro r hr;obtain⟨i,hi,e⟩:=List.getElem_of_mem hr;have hr2:(xs.set k q)[i]? = some r:=by rw [<-e];exact List.getElem?_eq_getElem hi
  by_cases ek:i=k
  ·subst ek
   rw [List.getElem?_set_self (by simpa using hi)] at hr2
   cases hr2
   refine⟨near,?_⟩
   rw [hq];exact (h.nears p (List.mem_of_getElem? hk)).2
  ·rw [List.getElem?_set_ne (Ne.symm ek)] at hr2
   have ho:=h.nears r (List.mem_of_getElem? hr2);refine⟨Zao ho.1 (fun j hj=>?_),ho.2⟩
   refine hkeep j (ho.1.lt j hj).2 ?_ ?_
   ·rintro rfl
    obtain⟨cur,hh⟩:∃ cur,W.heap[j]? = some (.cells cur 48 (0,0)):=by
     rcases h.row.2 with ⟨h0,_⟩ | ⟨g',cap',cur',hv',_,hh',_⟩
     ·cases h0
     ·cases hv';exact⟨cur',hh'⟩
    rcases ho.1.2 with ⟨h0,_⟩ | ⟨g',cap',cur',hv',_,hh',_⟩
    ·rw [h0] at hj;simp [Value.ownBlock] at hj
    ·rw [hv'] at hj
     simp [Value.ownBlock] at hj
     subst hj;rw [hh] at hh';simp at hh'
   ·intro he
    exact ZlK h.apart hr2 hk ek j hj he.symm
def Zb8 (F:Nat->Bool):Nat:=(F 1).toNat+(F 2).toNat+(F 3).toNat+(F 4).toNat+(F 5).toNat+(F 6).toNat
theorem Zfz {u:Nat}(h:1<=u/\u<=6):u=1\/u=2\/u=3\/u=4\/u=5\/u=6:=by omega
theorem Zd8 {F:Nat->Bool}{u:Nat}(hu:1<=u/\u<=6)(hF:F u=false):Zb8 (fun v=>F v||v==u)=Zb8 F+1:=by
 unfold Zb8
 rcases Zfz hu with rfl | rfl | rfl | rfl | rfl | rfl <;> simp [hF] <;> omega
theorem ZhO (F:Nat->Bool):Zb8 F<=6:=by
 unfold Zb8;have h1:=Bool.toNat_le (F 1);have h2:=Bool.toNat_le (F 2);have h3:=Bool.toNat_le (F 3);have h4:=Bool.toNat_le (F 4);have h5:=Bool.toNat_le (F 5);have h6:=Bool.toNat_le (F 6);omega
theorem ZlX {F:Nat->Bool}(h:Zb8 F=6){u:Nat}(hu:1<=u/\u<=6):F u=true:=by
 cases e:F u with
 | true=>rfl
 | false=>
  have:=Zd8 hu e;have:=ZhO (fun v=>F v||v==u)
  omega
theorem Zgj:Zb8 (fun _=>false)=0:=rfl
def ZcG (c:Nat->Int)(h:Nat->List Int):Nat->List WayD
 | 0=>[]
 | k+1=>ZcG c h k++(if 0<=c (k+1) then [⟨((k+1:Nat):Int),c (k+1),h (k+1)⟩] else [])
theorem Zhc {c d:Nat->Int}{h g:Nat->List Int}(e:∀ v,(0<=c v->d v=c v/\g v=h v)/\(0<=d v->0<=c v)):∀ k,ZcG c h k=ZcG d g k
 | 0=>rfl
 | k+1=>by
  unfold ZcG;rw [Zhc e k]
  congr 1
  by_cases h0:0<=c (k+1)
  ·have:=(e (k+1)).1 h0
   rw [if_pos h0,if_pos (by omega),this.1,this.2]
  ·rw [if_neg h0,if_neg (fun hc=>h0 ((e (k+1)).2 hc))]
theorem Fix.coll {L:Nat->Nat->Int}{src:Nat}{c d:Nat->Int}{h g:Nat->List Int}(A:Fix L src c h)(B:Fix L src d g):ZcG c h 6=ZcG d g 6:=by
 refine Zhc (fun v=>⟨fun h0=>⟨A.cost B v h0,A.hops B v h0⟩,fun h0=>?_⟩) 6
 have:=B.cost A v h0;omega
def Zbn (xs:List RecD)(area src:Int)(ds:List WayD):Prop:=
 if (ZaE xs&&inB src 1 6&&Zfy xs area src)=true then ∃ c h,Fix (Ze3 xs area) src.toNat c h/\ds=ZcG c h 6 else ds=[]
theorem Zbn.unique {xs:List RecD}{area src:Int}{ds es:List WayD}(h1:Zbn xs area src ds)(h2:Zbn xs area src es):ds=es:=by
 unfold Zbn at h1 h2
 split at h1
 ·rename_i e
  rw [if_pos e] at h2;obtain⟨c,h,A,rfl⟩:=h1;obtain⟨d,g,B,rfl⟩:=h2;exact A.coll B
 ·rename_i e
  rw [if_neg e] at h2;rw [h1,h2]
theorem ZeV (c:Nat->Int)(h:Nat->List Int){v:Nat}(hv:1<=v):ZcG c h v=ZcG c h (v-1)++(if 0<=c v then [⟨(v:Int),c v,h v⟩] else []):=by
 obtain⟨k,rfl⟩:∃ k,v=k+1:=⟨v-1,by omega⟩
 rfl
theorem Zkm (c:Nat->Int)(h:Nat->List Int):∀ k,(ZcG c h k).length<=k
 | 0=>by simp [ZcG]
 | k+1=>by
  unfold ZcG;have:=Zkm c h k;rw [List.length_append]
  split <;> simp <;> omega
theorem Zmu {L:Nat->Nat->Int}{c:Nat->Int}{u j:Nat}(hu:0<=c u):mixC L c u j u=c u:=by
 unfold mixC
 split
 ·exact ZdF hu (Int.le_refl _)
 ·rfl
theorem ZeG {L:Nat->Nat->Int}{src:Nat}{c:Nat->Int}{h:Nat->List Int}{u v:Nat}(h0:0<=c v)(hv:c v<=c u):ZbD L src c h u v=h v/\Zaz L c u v=c v:=by
 by_cases hl:0<L u v
 ·exact ZdG h0 (by omega)
 ·exact ZeI hl
theorem ZjT {L:Nat->Nat->Int}{src:Nat}{c:Nat->Int}{h:Nat->List Int}{u j:Nat}(hu:0<=c u):mixH L src c h u j u=h u:=by
 unfold mixH
 split
 ·exact (ZeG hu (Int.le_refl _)).1
 ·rfl
theorem ZfW {L:Nat->Nat->Int}{c:Nat->Int}{u v:Nat}{B:Int}(h:∀ v,c v<=B)(hL:∀ u v,L u v<=1000):Zaz L c u v<=B+1000:=by
 unfold Zaz;have:=h v;have:=h u;have:=hL u v
 split <;> omega
def Zjq (F:Nat->Bool)(c:Nat->Int)(v a:Nat):Prop:=
 (a=0/\∀ x,1<=x->x<v->F x=false->c x<0)\/(1<=a/\a<v/\F a=false/\0<=c a/\∀ x,1<=x->x<v->F x=false->0<=c x->c a<=c x)
theorem Zfx {F:Nat->Bool}{c:Nat->Int}{v a:Nat}(h:Zjq F c v a)(hs:F v=true\/c v<0\/(1<=a/\c a<=c v)):Zjq F c (v+1) a:=by
 rcases h with ⟨h1,h2⟩ | ⟨h1,h2,h3,h4,h5⟩
 ·refine .inl ⟨h1,fun x hx1 hx2 hF=>?_⟩
  by_cases e:x=v
  ·subst e
   rcases hs with h | h | h
   ·rw [hF] at h;cases h
   ·exact h
   ·omega
  ·exact h2 x hx1 (by omega) hF
 ·refine .inr ⟨h1,by omega,h3,h4,fun x hx1 hx2 hF hc=>?_⟩
  by_cases e:x=v
  ·subst e
   rcases hs with h | h | h
   ·rw [hF] at h;cases h
   ·omega
   ·exact h.2
  ·exact h5 x hx1 (by omega) hF hc
theorem Zhn {F:Nat->Bool}{c:Nat->Int}{v a:Nat}(h:Zjq F c v a)(h1v:1<=v)(hF:F v=false)(hc:0<=c v)(hs:a=0\/c v<c a):Zjq F c (v+1) v:=by
 refine .inr ⟨h1v,by omega,hF,hc,fun x hx1 hx2 hFx hcx=>?_⟩
 by_cases e:x=v
 ·subst e;omega
 ·rcases h with ⟨h1,h2⟩ | ⟨h1,h2,h3,h4,h5⟩
  ·have:=h2 x hx1 (by omega) hFx;omega
  ·have:=h5 x hx1 (by omega) hFx hcx;omega
structure AtRound (L:Nat->Nat->Int) (src:Nat) (F:Nat->Bool) (c:Nat->Int) (h:Nat->List Int) (r:Nat):Prop where
 inv:Inv L src F c h
 bnd:∀ v,c v<=1000*(Zb8 F:Int)
 at':Zb8 F+1=r\/(r=7/\∀ v,0<=c v->F v=true)
theorem AtRound.init {L:Nat->Nat->Int}{src:Nat}(hs:ZcO src):AtRound L src (fun _=>false) (fun v=>if v=src then 0 else -1) (fun _=>[]) 1:=by
 refine⟨Inv.init hs,fun v=>?_,.inl rfl⟩
 rw [Zgj]
 show (if v=src then (0:Int) else -1)<=_
 split <;> omega
theorem AtRound.fin {L:Nat->Nat->Int}{src:Nat}{F:Nat->Bool}{c:Nat->Int}{h:Nat->List Int}(a:AtRound L src F c h 7):Fix L src c h/\∀ v,F v=true↔0<=c v:=by
 have hf:∀ v,0<=c v->F v=true:=by
  rcases a.at' with h1 | ⟨_,h1⟩
  ·intro v hv
   exact ZlX (by omega) (a.inv.cnode v hv)
  ·exact h1
 exact⟨⟨F,a.inv,hf⟩,fun v=>⟨fun hv=>(a.inv.fnode v hv).2,hf v⟩⟩
theorem AtRound.none {L:Nat->Nat->Int}{src:Nat}{F:Nat->Bool}{c:Nat->Int}{h:Nat->List Int}{r:Nat}(a:AtRound L src F c h r)(hm:Zjq F c 7 0):AtRound L src F c h 7:=by
 refine⟨a.inv,a.bnd,.inr ⟨rfl,fun v hv=>?_⟩⟩
 have hn:=a.inv.cnode v hv;unfold ZcO at hn;cases e:F v with
 | true=>rfl
 | false=>
  rcases hm with ⟨_,h2⟩ | ⟨h1,_⟩
  ·have:=h2 v hn.1 (by omega) e;omega
  ·omega
theorem AtRound.next {L:Nat->Nat->Int}{src:Nat}{F:Nat->Bool}{c:Nat->Int}{h:Nat->List Int}{r u:Nat}(a:AtRound L src F c h r)(hL:Links L 1000)(hr:r<7)(hm:Zjq F c 7 u)(hu:1<=u):AtRound L src (fun v=>F v||v==u) (fun v=>Zaz L c u v) (fun v=>ZbD L src c h u v) (r+1):=by
 rcases hm with ⟨h1,_⟩ | ⟨h1,h2,h3,h4,h5⟩
 ·omega
 ·have hcard:Zb8 (fun v=>F v||v==u)=Zb8 F+1:=Zd8 ⟨h1,by omega⟩ h3
  refine⟨a.inv.step hL h3 h4 (fun v hv hc=>?_) (fun v=>ZeJ a.inv hL h4 v),fun v=>?_,.inl ?_⟩
  ·have hn:=a.inv.cnode v hc
   unfold ZcO at hn;exact h5 v hn.1 (by omega) hv hc
  ·rw [hcard]
   have:=ZfW (L:=L) (u:=u) (v:=v) a.bnd hL.le;omega
  ·rw [hcard]
   rcases a.at' with h6 | ⟨h6,_⟩
   ·omega
   ·omega
theorem Zfm (W:World)(lo:Nat)(hb:lo<=W.heap.size):WaysOwn (W.alloc (.cells #[] 48)) lo (W.alloc (.cells #[] 48)).heap.size (.slice (some ⟨W.heap.size,0,none⟩) 0 0) [] where
 row:=World.ownsRow_lit W #[] 0 hb (by unfold maxLen;omega) (by simp)
 top:=by intro k hk;simp [Value.ownBlock] at hk;subst hk;simp
 nears:=by simp
 apart:=by simp
end Go.Proofs.YtgdgkgmjpnbbcaaGreat
namespace Go.Proofs.YtgdgkgmjpnbbcaaGreat
open Go.RowKit

open Classical in
noncomputable def Zbm (xs:List RecD) (area src:Int):List WayD:=if h:∃ ds,Zbn xs area src ds then Classical.choose h else []

theorem Zbn.eq {xs:List RecD}{area src:Int}{ds:List WayD}(h:Zbn xs area src ds):ds=Zbm xs area src:=by
 unfold Zbm;rw [dif_pos ⟨ds,h⟩];exact h.unique (Classical.choose_spec (⟨ds,h⟩:∃ ds,Zbn xs area src ds))

def Zel (tog:WayD->WayD->WayD)(best:Option WayD)(w:Option WayD):Option WayD:=match w with
 | none=>best
 | some w=>match best with
  | none=>some w
  | some b=>some (tog b w)

def ZaQ (ds:List WayD)(to:Int):Option WayD:=ds.find? (fun x=>x.to==to)

end Go.Proofs.YtgdgkgmjpnbbcaaGreat
namespace Go.Proofs.YtgdgkgmjpnbbcaaGreat
open Go.RowKit
set_option linter.unusedSimpArgs false
set_option linter.unusedVariables false
set_option maxRecDepth 100000
set_option maxHeartbeats 8000000
def Zbi (x y:WayD):Bool:=decide (x.cost<y.cost)
theorem ZgO (u1 u2:Value)(x y:WayD)(w:World):Calls Tryz.prog 109 #[.agg (wayC x u1),.agg (wayC y u2)] w fun e w'=>e=.returned (.bool (Zbi x y))/\Below w.heap.size w w':=by
 unfold wayC Zbi
 go_enter Tryz.func109,Tryz.ntmps109
 go_wp2
 go_ret
 exact⟨rfl,Za6 _ _⟩
theorem Zcl (u1 u2:Value)(x y:WayD)(w:World):Calls Tryz.prog 88 #[.agg (wayC x u1),.agg (wayC y u2)] w fun e w'=>e=.returned (.bool (Zbi x y))/\Below w.heap.size w w':=by
 unfold wayC Zbi
 go_enter Tryz.func88,Tryz.ntmps88
 go_wp2
 go_ret
 exact⟨rfl,Za6 _ _⟩
end Go.Proofs.YtgdgkgmjpnbbcaaGreat
