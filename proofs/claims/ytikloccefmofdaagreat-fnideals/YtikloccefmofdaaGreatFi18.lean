/-
  Parts.
-/
import Derived.Test.YtikloccefmofdaaGreatFi17
namespace Go.Proofs.YtikloccefmofdaaGreat
open Go.RowKit
set_option linter.unusedSimpArgs false
set_option linter.unusedVariables false
set_option maxRecDepth 100000
set_option maxHeartbeats 8000000
variable {K:Int}{xs:List RecD}{b g j src u v:Nat}{F:Nat->Bool}{c:Nat->Int}{h:Nat->List Int}{L o:Nat->Nat->Int}{hv:Nat->Value}{x:RecD}{W:World}
def Zb3 (xs:List RecD)(area:Int)(u v:Nat):Int:=if (1<=u/\u<=6)/\(1<=v/\v<=6) then Znm xs area u v else 0
theorem Zhk {ns:List Nr}{bk:Int->Int}{v:Nat}(h:∀ n∈ns,1<=n.c/\n.c<=1000):∀ k,0<=Zd9 ns bk v k/\Zd9 ns bk v k<=1000
 | 0=>by simp [Zd9]
 | k+1=>by
  have ih:=Zhk (bk:=bk) (v:=v) h k;cases e:ns[k]? with
  | none=>
   have:Zd9 ns bk v (k+1)=Zd9 ns bk v k:=by
    show (match ns[k]? with
     | some n=>if n.to=(v:Int)/\inB n.to 1 6=true/\0<bk n.to then n.c else Zd9 ns bk v k
     | none=>Zd9 ns bk v k)=_
    rw [e]
   rw [this];exact ih
  | some n=>
   rw [Zex bk v e];have:=h n (YAG e)
   split
   ·omega
   ·exact ih
theorem Zdv {α:Type}{ok:α->Bool}{ls:List α}(h:ZbM ok ls=true){a:α}(ha:a∈ls):ok a=true:=by
 obtain⟨k,hk,e⟩:=List.mem_iff_getElem.1 ha;unfold ZbM at h;rw [List.all_eq_true] at h;have:=h k (by simpa using hk);unfold okAt at this;rw [YAA hk,e] at this;exact this
theorem Zhs (h:ZaW x=true):x.near=[]\/(x.kind=1/\Zbn x.owner x.near=true):=by
 unfold ZaW at h;simp only [YAJ] at h;have h2:=h.2
 split at h2
 ·rename_i e
  simp only [YAJ] at h2;exact .inr ⟨e,h2.1.1.2⟩
 ·split at h2
  ·simp only [YAJ,beq_iff_eq] at h2;exact .inl (YAr h2.1.1.2)
  ·split at h2
   ·simp only [YAJ,beq_iff_eq] at h2;exact .inl (YAr h2.1.2)
   ·cases h2
theorem Zhr (h:ZaW x=true):∀ n∈x.near,1<=n.c/\n.c<=1000:=by
 intro n hn;rcases Zhs h with e | ⟨_,e⟩
 ·rw [e] at hn;cases hn
 ·unfold Zbn at e;simp only [YAJ] at e;have:=Zdv e.1 hn;unfold Zcu at this;simp only [YAJ] at this;exact Zd6.1 this.2
theorem Zj6 {r:RecD}:ZeZ xs r∈xs\/ZeZ xs r=Za9:=by
 rcases ZcY xs r with hz | ⟨j,y,hz,hy,_⟩
 ·exact .inr (Zfv hz).1
 ·rw [(Zi2 hz hy).1];exact .inl (YAG hy)
theorem ZfL {area node:Int}(h:Zax xs=true):∀ n∈(Zcd xs area node).near,1<=n.c/\n.c<=1000:=by
 intro n hn;unfold Zcd at hn;rcases Zj6 (xs:=xs) (r:=ZeL area node) with hm | he
 ·unfold Zax at h;simp only [YAJ] at h;have hr:=Zdv h.1.2 hm;exact Zhr hr n hn
 ·rw [he] at hn;cases hn
theorem ZdQ {area:Int}(h:Zax xs=true):Links (Zb3 xs area) 1000:=by
 refine⟨fun u v=>?_,fun u v=>?_,fun u v hl=>?_⟩
 ·unfold Zb3;split
  ·exact (Zhk (ZfL h) _).1
  ·omega
 ·unfold Zb3;split
  ·exact (Zhk (ZfL h) _).2
  ·omega
 ·unfold Zb3 at hl
  split at hl
  ·rename_i e;exact e
  ·omega
def Zof (c:Nat->Int)(i:Nat):Value:=.int .i64 (if i=0 then 0 else c i)
def doneV (F:Nat->Bool)(i:Nat):Value:=.bool (F i)
def upd {α:Type}(f:Nat->α)(v:Nat)(x:α)(i:Nat):α:=if i=v then x else f i
theorem Zau {α:Type}(f:Nat->α)(v:Nat)(x:α):upd f v x v=x:=by simp [upd]
theorem Zao {α:Type}(f:Nat->α){i:Nat}(x:α)(h:i≠v):upd f v x i=f i:=by simp [upd,h]
structure SSt (W:World) (g b:Nat) (o:Nat->Nat->Int) (F:Nat->Bool) (c:Nat->Int) (h:Nat->List Int) (hv:Nat->Value):Prop where
 gb:g<b
 ln:W.heap[g]? = some (.cells (rowA (ZhL o) 49) 3)
 cs:W.heap[b]? = some (.cells (rowA (Zof c) 7) 3)
 hs:W.heap[b+1]? = some (.cells (rowA hv 7) 40)
 ds:W.heap[b+1+1]? = some (.cells (rowA (doneV F) 7) 4)
 rows:∀ v,W.ownsRow (b+3) 3 1 (hv v) (h v).length (flat intE (h v))
 short:∀ v,(h v).length<=6
theorem SSt.size (s:SSt W g b o F c h hv):b+3<=W.heap.size:=by
 have:=Zab s.ds;omega
theorem SSt.below {W':World}(s:SSt W g b o F c h hv)(hb:Below W.heap.size W W'):SSt W' g b o F c h hv:=
 ⟨s.gb,(hb.block _ (Zab s.ln)).trans s.ln,(hb.block _ (Zab s.cs)).trans s.cs,(hb.block _ (Zab s.hs)).trans s.hs,(hb.block _ (Zab s.ds)).trans s.ds,fun v=>Zad (s.rows v) hb (YA _),s.short⟩
theorem SSt.cost (s:SSt W g b o F c h hv)(h1:1<=v)(h6:v<=6):W.cell? ⟨b,v,none⟩=some (.int .i64 (c v)):=by
 rw [ZfV s.cs (by omega)];unfold Zof;rw [if_neg (by omega)]
theorem SSt.done (s:SSt W g b o F c h hv)(h6:v<=6):W.cell? ⟨b+1+1,v,none⟩=some (.bool (F v)):=by
 rw [ZfV s.ds (by omega)];rfl
theorem SSt.hop (s:SSt W g b o F c h hv)(h6:v<=6):W.cell? ⟨b+1,v,none⟩=some (hv v):=ZfV s.hs (by omega)
theorem SSt.link (s:SSt W g b o F c h hv)(h5:u<=6)(h6:v<=6):W.cell? ⟨g,u*7+v,none⟩=some (.int .i64 (o u v)):=Zmj s.ln h5 h6
theorem SSt.setC (s:SSt W g b o F c h hv)(h1:1<=v)(x:Int):SSt (W.setCell ⟨b,v,none⟩ (.int .i64 x)) g b o F (upd c v x) h hv:=by
 have hg:=s.gb;refine⟨s.gb,(YAO W ⟨b,v,none⟩ g _ (by show g≠b;omega)).trans s.ln,?_,(YAO W ⟨b,v,none⟩ (b+1) _ (by show b+1≠b;omega)).trans s.hs,(YAO W ⟨b,v,none⟩ (b+1+1) _ (by show b+1+1≠b;omega)).trans s.ds,fun u=>ZaG (s.rows u) (by omega),s.short⟩;rw [ZgP s.cs,ZdH (fun i _=>?_)];unfold Zof upd;by_cases e:i=v
 ·subst e;rw [if_pos rfl,if_neg (by omega),if_pos rfl]
 ·rw [if_neg e];simp [e]
theorem SSt.setD (s:SSt W g b o F c h hv)(v:Nat):SSt (W.setCell ⟨b+1+1,v,none⟩ (.bool true)) g b o (fun x=>F x||x==v) c h hv:=by
 have hg:=s.gb;refine⟨s.gb,(YAO W ⟨b+1+1,v,none⟩ g _ (by show g≠b+1+1;omega)).trans s.ln,(YAO W ⟨b+1+1,v,none⟩ b _ (by show b≠b+1+1;omega)).trans s.cs,(YAO W ⟨b+1+1,v,none⟩ (b+1) _ (by show b+1≠b+1+1;omega)).trans s.hs,?_,fun u=>ZaG (s.rows u) (by omega),s.short⟩;rw [ZgP s.ds,ZdH (fun i _=>?_)];unfold doneV;by_cases e:i=v
 ·subst e;simp
 ·simp [e]
theorem SSt.setH (s:SSt W g b o F c h hv)(v:Nat){x:Value}{l:List Int}(hx:W.ownsRow (b+3) 3 1 x l.length (flat intE l))(hl:l.length<=6):SSt (W.setCell ⟨b+1,v,none⟩ x) g b o F c (upd h v l) (upd hv v x):=by
 have hg:=s.gb;refine⟨s.gb,(YAO W ⟨b+1,v,none⟩ g _ (by show g≠b+1;omega)).trans s.ln,(YAO W ⟨b+1,v,none⟩ b _ (by show b≠b+1;omega)).trans s.cs,?_,(YAO W ⟨b+1,v,none⟩ (b+1+1) _ (by show b+1+1≠b+1;omega)).trans s.ds,fun u=>?_,fun u=>?_⟩
 ·rw [ZgP s.hs];rfl
 ·unfold upd;by_cases e:u=v
  ·rw [if_pos e,if_pos e];exact ZaG hx (by omega)
  ·rw [if_neg e,if_neg e];exact ZaG (s.rows u) (by omega)
 ·unfold upd;by_cases e:u=v
  ·rw [if_pos e];exact hl
  ·rw [if_neg e];exact s.short u
theorem SSt.congr {d:Nat->Int}(s:SSt W g b o F c h hv)(hc:∀ v,1<=v->v<=6->d v=c v):SSt W g b o F d h hv:=by
 refine⟨s.gb,s.ln,?_,s.hs,s.ds,s.rows,s.short⟩;rw [s.cs,ZdH (fun i hi=>?_)];unfold Zof;by_cases e:i=0
 ·rw [if_pos e,if_pos e]
 ·rw [if_neg e,if_neg e,hc i (by omega) (by omega)]
theorem SSt.start  (hg:W.heap[g]? = some (.cells (rowA (ZhL o) 49) 3)):
  SSt (((W.alloc (.cells (rowA (fun _=>.int .i64 0) 7) 3)).alloc (.cells (rowA (fun _=>.slice none 0 0) 7) 40)).alloc (.cells (rowA (fun _=>.bool false) 7) 4)) g W.heap.size o (fun _=>false) (fun _=>0) (fun _=>[]) (fun _=>.slice none 0 0):=by
 have hlt:=Zab hg;refine⟨hlt,?_,?_,?_,?_,fun v=>YAZ _ _ _ _,by simp⟩
 ·rw [YAH _ _ _ (by simp;omega),YAH _ _ _ (by simp;omega),YAH _ _ _ hlt];exact hg
 ·rw [YAH _ _ _ (by simp;omega),YAH _ _ _ (by simp),YAE,ZdH (fun i _=>?_)];unfold Zof;simp
 ·rw [YAH _ _ _ (by simp)];have e:=YAE (W.alloc (.cells (rowA (fun _=>.int .i64 0) 7) 3)) (.cells (rowA (fun _=>.slice none 0 0) 7) 40);rw [show (W.alloc (.cells (rowA (fun _=>.int .i64 0) 7) 3)).heap.size=W.heap.size+1 by simp] at e;exact e
 ·have e:=YAE ((W.alloc (.cells (rowA (fun _=>.int .i64 0) 7) 3)).alloc (.cells (rowA (fun _=>.slice none 0 0) 7) 40)) (.cells (rowA (fun _=>.bool false) 7) 4);rw [show ((W.alloc (.cells (rowA (fun _=>.int .i64 0) 7) 3)).alloc (.cells (rowA (fun _=>.slice none 0 0) 7) 40)).heap.size=W.heap.size+1+1 by simp] at e;exact e
theorem ZiE (a b:List Int)(x:Int):∀ k:Nat,x∈addT a b k↔(1<=x/\x<=(k:Int)/\(x∈a\/x∈b))
 | 0=>by simp [addT];omega
 | k+1=>by
  unfold addT;rw [YAF,ZiE a b x k];by_cases e:(k:Int)+1∈a\/(k:Int)+1∈b
  ·rw [if_pos e];simp only [YAw];constructor
   ·rintro (⟨h1,h2,h3⟩ | rfl)
    ·exact ⟨h1,by omega,h3⟩
    ·exact ⟨by omega,by omega,e⟩
   ·rintro ⟨h1,h2,h3⟩;by_cases e2:x=(k:Int)+1
    ·exact .inr e2
    ·exact .inl ⟨h1,by omega,h3⟩
  ·rw [if_neg e];simp only [List.not_mem_nil,or_false];constructor
   ·rintro ⟨h1,h2,h3⟩;exact⟨h1,by omega,h3⟩
   ·rintro ⟨h1,h2,h3⟩;refine⟨h1,?_,h3⟩;by_cases e2:x=(k:Int)+1
    ·subst e2;exact absurd h3 e
    ·omega
theorem ZlZ (a b:List Int):∀ k:Nat,(addT a b k).Pairwise (· < ·)
 | 0=>by simp [addT]
 | k+1=>by
  unfold addT;rw [YAM];refine⟨ZlZ a b k,by split <;> simp,?_⟩;intro x hx y hy;have h1:=(ZiE a b x k).1 hx
  split at hy
  ·simp at hy;omega
  ·cases hy
theorem ZgD {a b:List Int}{x:Int}:x∈addL a b↔(1<=x/\x<=6/\(x∈a\/x∈b)):=ZiE a b x 6
theorem ZgC (a b:List Int):(addL a b).Pairwise (· < ·):=ZlZ a b 6
theorem ZcF (a b:List Int):(addL a b).length<=6:=ZiD a b 6
def wayL (src:Nat)(h:Nat->List Int)(u v:Nat):List Int:=if u=src then [(v:Int)] else h u
theorem ZjH {x:Int}:x∈wayL src h u v↔Zdq src h u v x:=by
 unfold wayL Zdq;by_cases e:u=src
 ·rw [if_pos e];simp [e]
 ·rw [if_neg e];simp [e]
def ZbG (L:Nat->Nat->Int)(src:Nat)(c:Nat->Int)(h:Nat->List Int)(u v:Nat):List Int:=
 if 0<L u v then (if c v<0\/c u+L u v<c v then addL [] (wayL src h u v) else if c u+L u v=c v then addL (h v) (wayL src h u v) else h v) else h v
theorem Zfe (I:Inv L src F c h)(hL:Links L K)(hu:0<=c u)(v:Nat):RelaxH L src c h u v (ZbG L src c h u v):=by
 have hrng:∀ x,0<L u v->Zdq src h u v x->1<=x/\x<=6:=by
  intro x hl ho;rcases ho with ⟨_,rfl⟩ | ⟨_,h2⟩
  ·have:=(hL.node u v hl).2;unfold Zca at this;omega
  ·exact I.rng u x h2
 have hneg:c v<0->∀ x,x ∉ h v:=by
  intro hc x hx;by_cases e:v=src
  ·subst e;rw [I.start0] at hx;cases hx
  ·have:=((I.hop v e x).1 hx).1;omega
 unfold ZbG;by_cases h1:0<L u v
 ·rw [if_pos h1];by_cases h2:c v<0\/c u+L u v<c v
  ·rw [if_pos h2];have e:Zaz L c u v=c u+L u v:=by unfold Zaz;rw [if_pos ⟨h1,h2⟩]
   refine⟨ZgC _ _,fun x=>?_⟩;rw [ZgD,e,ZjH];constructor
   ·rintro ⟨_,_,h5 | h5⟩
    ·cases h5
    ·exact .inr ⟨h1,rfl,h5⟩
   ·rintro (⟨h5,h6⟩ | ⟨_,_,h5⟩)
    ·omega
    ·have:=hrng x h1 h5;exact⟨this.1,this.2,.inr h5⟩
  ·rw [if_neg h2];have e:Zaz L c u v=c v:=by unfold Zaz;rw [if_neg (fun hc=>h2 hc.2)]
   by_cases h3:c u+L u v=c v
   ·rw [if_pos h3];refine⟨ZgC _ _,fun x=>?_⟩;rw [ZgD,e,ZjH];constructor
    ·rintro ⟨_,_,h5 | h5⟩
     ·exact .inl ⟨h5,rfl⟩
     ·exact .inr ⟨h1,h3.symm,h5⟩
    ·rintro (⟨h5,_⟩ | ⟨_,_,h5⟩)
     ·have:=I.rng v x h5;exact⟨this.1,this.2,.inl h5⟩
     ·have:=hrng x h1 h5;exact⟨this.1,this.2,.inr h5⟩
   ·rw [if_neg h3];refine⟨I.asc v,fun x=>?_⟩;rw [e];constructor
    ·intro h5;exact .inl ⟨h5,rfl⟩
    ·rintro (⟨h5,_⟩ | ⟨_,h6,_⟩)
     ·exact h5
     ·omega
 ·rw [if_neg h1];have e:Zaz L c u v=c v:=by unfold Zaz;rw [if_neg (fun hc=>h1 hc.1)]
  refine⟨I.asc v,fun x=>?_⟩;rw [e];constructor
  ·intro h5;exact .inl ⟨h5,rfl⟩
  ·rintro (⟨h5,_⟩ | ⟨h6,_⟩)
   ·exact h5
   ·exact absurd h6 h1
def mixC (L:Nat->Nat->Int)(c:Nat->Int)(u j v:Nat):Int:=if v<j then Zaz L c u v else c v
def mixH (L:Nat->Nat->Int)(src:Nat)(c:Nat->Int)(h:Nat->List Int)(u j v:Nat):List Int:=if v<j then ZbG L src c h u v else h v
theorem Zmo (hL:Links L K)(c:Nat->Int)(u:Nat):mixC L c u 1=c:=by
 funext v;unfold mixC;by_cases e:v<1
 ·rw [if_pos e];unfold Zaz;rw [if_neg (fun hc=>by have:=(hL.node u v hc.1).2;unfold Zca at this;omega)]
 ·rw [if_neg e]
theorem Zmq (hL:Links L K)(src:Nat)(c:Nat->Int)(h:Nat->List Int)(u:Nat):mixH L src c h u 1=h:=by
 funext v;unfold mixH;by_cases e:v<1
 ·rw [if_pos e];unfold ZbG;rw [if_neg (fun hc=>by have:=(hL.node u v hc).2;unfold Zca at this;omega)]
 ·rw [if_neg e]
theorem ZdC (L:Nat->Nat->Int)(c:Nat->Int)(u j:Nat):mixC L c u (j+1)=upd (mixC L c u j) j (Zaz L c u j):=by
 funext v;unfold upd;show (if v<j+1 then Zaz L c u v else c v)=if v=j then Zaz L c u j else if v<j then Zaz L c u v else c v
 by_cases e:v=j
 ·rw [if_pos (by omega),if_pos e,e]
 ·rw [if_neg e];by_cases e2:v<j
  ·rw [if_pos e2,if_pos (by omega)]
  ·rw [if_neg e2,if_neg (by omega)]
theorem Zcj (L:Nat->Nat->Int)(src:Nat)(c:Nat->Int)(h:Nat->List Int)(u j:Nat):mixH L src c h u (j+1)=upd (mixH L src c h u j) j (ZbG L src c h u j):=by
 funext v;unfold upd;show (if v<j+1 then ZbG L src c h u v else h v)=if v=j then ZbG L src c h u j else if v<j then ZbG L src c h u v else h v
 by_cases e:v=j
 ·rw [if_pos (by omega),if_pos e,e]
 ·rw [if_neg e];by_cases e2:v<j
  ·rw [if_pos e2,if_pos (by omega)]
  ·rw [if_neg e2,if_neg (by omega)]
theorem ZdB :mixC L c u j j=c j:=by
 unfold mixC;rw [if_neg (by omega)]
theorem ZfH :mixH L src c h u j j=h j:=by
 unfold mixH;rw [if_neg (by omega)]
theorem ZrC {α:Type}(f:Nat->α)(v:Nat):upd f v (f v)=f:=by
 funext i;unfold upd;by_cases e:i=v
 ·rw [if_pos e,e]
 ·rw [if_neg e]
theorem Zc3 (e:Zaz L c u j=c j):mixC L c u (j+1)=mixC L c u j:=by
 rw [ZdC,e, <-ZdB (L:=L) (c:=c) (u:=u) (j:=j),ZrC]
theorem ZfG (e:ZbG L src c h u j=h j):mixH L src c h u (j+1)=mixH L src c h u j:=by
 rw [Zcj,e, <-ZfH (L:=L) (src:=src) (c:=c) (h:=h) (u:=u) (j:=j),ZrC]
theorem Zmn (hL:Links L K)(c:Nat->Int)(u:Nat):mixC L c u 7=fun v=>Zaz L c u v:=by
 funext v;unfold mixC;by_cases e:v<7
 ·rw [if_pos e]
 ·rw [if_neg e];unfold Zaz;rw [if_neg (fun hc=>by have:=(hL.node u v hc.1).2;unfold Zca at this;omega)]
theorem Zmp (hL:Links L K)(src:Nat)(c:Nat->Int)(h:Nat->List Int)(u:Nat):mixH L src c h u 7=fun v=>ZbG L src c h u v:=by
 funext v;unfold mixH;by_cases e:v<7
 ·rw [if_pos e]
 ·rw [if_neg e];unfold ZbG;rw [if_neg (fun hc=>by have:=(hL.node u v hc).2;unfold Zca at this;omega)]
theorem Zfd (e:¬0<L u v):ZbG L src c h u v=h v/\Zaz L c u v=c v:=by
 unfold ZbG Zaz;rw [if_neg e,if_neg (fun hc=>e hc.1)];exact⟨rfl,rfl⟩
theorem ZdU (h0:0<=c v)(e:c v<c u+L u v):ZbG L src c h u v=h v/\Zaz L c u v=c v:=by
 unfold ZbG Zaz;constructor
 ·split
  ·rw [if_neg (by omega),if_neg (by omega)]
  ·rfl
 ·rw [if_neg (by omega)]
theorem Zc7 (hl:0<L u v)(e:c v<0\/c u+L u v<c v):ZbG L src c h u v=addL [] (wayL src h u v)/\Zaz L c u v=c u+L u v:=by
 unfold ZbG Zaz;rw [if_pos hl,if_pos e,if_pos ⟨hl,e⟩];exact⟨rfl,rfl⟩
theorem Zfc (hl:0<L u v)(h0:0<=c v)(e:c u+L u v=c v):ZbG L src c h u v=addL (h v) (wayL src h u v)/\Zaz L c u v=c v:=by
 unfold ZbG Zaz;rw [if_pos hl,if_neg (by omega),if_pos e,if_neg (by omega)];exact⟨rfl,rfl⟩
theorem Zrm (f:RP->Bool)(ps:List RP):tot (ps.filter f)<=tot ps:=by
 induction ps with
 | nil=>simp [tot]
 | cons p ps ih=>
  rw [List.filter_cons]
  split
  ·rw [ZcE,ZcE];omega
  ·rw [ZcE];omega
theorem Zsm (f g:RP->Bool)(hfg:∀ p,f p=true->g p=false)(ps:List RP):tot (ps.filter f)+tot (ps.filter g)<=tot ps:=by
 induction ps with
 | nil=>simp [tot]
 | cons p ps ih=>
  have:=hfg p;by_cases hf:f p=true
  ·have hg:=this hf;simp only [List.filter_cons,hf,hg,if_true,Bool.false_eq_true,if_false,ZcE];omega
  ·have hf':f p=false:=by simpa using hf
   by_cases hg:g p=true
   ·simp only [List.filter_cons,hf',hg,if_true,Bool.false_eq_true,if_false,ZcE];omega
   ·have hg':g p=false:=by simpa using hg
    simp only [List.filter_cons,hf',hg',Bool.false_eq_true,if_false,ZcE];omega
theorem ZdM {y:RecD}(h:Zak x y=true):Zak y x=false:=by
 unfold Zak at *;simp only [YAv,YAJ,YAS,beq_iff_eq] at h;simp only [Bool.or_eq_false_iff,Bool.and_eq_false_iff,decide_eq_false_iff_not,beq_eq_false_iff_ne];omega
theorem ZjC (ps:List RP)(r:RP):tot (putL ps r)<=tot ps+(1+r.1.near.length):=by
 unfold putL;rw [ZdJ,ZdJ];have h:=Zsm (fun p=>Zak p.1 r.1) (fun p=>Zak r.1 p.1) (fun p hp=>ZdM hp) ps;have e:tot [r]=1+r.1.near.length:=by simp [tot]
 omega
def hinD (ls:List Lk)(id a:Int)(es:List (Int × Int)):List Nr:=(es.filter (fun e=>e.2==a)).map (fun e=>⟨e.1,ZcH ls id e.1 a⟩)
theorem Zqk {ls:List Lk}{id a:Int}{es:List (Int × Int)}{k:Nat}{e:Int × Int}(h:es[k]? = some e):hinD ls id a (es.take (k+1))=hinD ls id a (es.take k)++(if e.2==a then [⟨e.1,ZcH ls id e.1 a⟩] else []):=by
 obtain⟨hk,he⟩:=YAD.1 h;unfold hinD;rw [YAI hk,he,List.filter_append,YAf];congr 1;by_cases h1:(e.2==a)=true
 ·simp [h1]
 ·simp [h1]
theorem Zov (ls:List Lk)(id a:Int)(es:List (Int × Int)):(hinD ls id a es).length<=es.length:=by
 unfold hinD;rw [List.length_map];exact List.length_filter_le _ _
theorem Zlc (v1 v2 v3 v4:Value)(x:SelfD)(a:Int)(w:World)(hl:x.net.ls.length<=1048576)(hh:x.heard.length<=1048576)(h1:ZaK w v1 x.net.ls w.heap.size)(h3:ZaI w v3 x.heard w.heap.size):
  Calls Tryz.prog 82 #[ZlI x v1 v2 v3 v4,.int .i64 a] w fun e w'=>∃ u,e=.returned u/\w'.ownsRow w.heap.size 62 2 u (hinD x.net.ls x.id a (ZaJ x.heard)).length (flat nrE (hinD x.net.ls x.id a (ZaJ x.heard)))/\Below w.heap.size w w':=by
 obtain⟨a1,c1,rfl⟩:=ZaK.shape h1;obtain⟨a3,c3,rfl⟩:=h3.shape;have HC:=hide (fun W (hb:Below w.heap.size w W) (t:Int)=>ZoA (.int .i64 x.net.n) (.slice a1 x.net.ls.length c1) v2 x.net.ls x.id t a W hl (Zav.then h1 hb));have HE:=hide (fun W (hb:Below w.heap.size w W)=>Zi5 (.slice a3 x.heard.length c3) x.heard W hh (h3.then hb));have hpl:=ZfR x.heard;have HPL:=hide hpl;clear h1 h3 hpl;have G0:=hide (YAE w (.cells #[.int .i64 x.id,.int .i64 x.boot,.int .i64 x.net.n,.slice a1 x.net.ls.length c1,v2,.slice a3 x.heard.length c3,v4] 86));have B0:Below w.heap.size w (w.alloc (.cells #[.int .i64 x.id,.int .i64 x.boot,.int .i64 x.net.n,.slice a1 x.net.ls.length c1,v2,.slice a3 x.heard.length c3,v4] 86)):=(YAC _ _).alloc (YA _) _;obtain⟨es,hes⟩:∃ es,es=ZaJ x.heard:=⟨_,rfl⟩;rw [<-hes] at HE HPL |-;clear hes
 go_enter Tryz.func82,Tryz.ntmps82
 go_wp2_with fail
 refine (HE.out _ B0).mono ?_;rintro e w1 ⟨u,rfl,hu,b1⟩;obtain⟨ea,ec,rfl⟩:=Zac hu;have B1:Below w.heap.size w w1:=B0.trans (b1.mono B0.size);have hlt0:=Zab G0.out;have hg1:=(b1.block _ hlt0).trans G0.out;have G1:=hide hg1;have hs1:=b1.size;have hz1:w.heap.size<w1.heap.size:=Zab hg1;have EA:=hide (show ZhU w1 (.slice ea es.length ec) es w1.heap.size from Zam hu);have z0:=Zaa hg1 0;have z2:=Zaa hg1 2;have z3:=Zaa hg1 3;have z4:=Zaa hg1 4;simp at z0 z2 z3 z4;clear hg1 hu b1 G0 B0 HE hlt0;go_wp2
 go_loopw [12,5] (fun i o wr=>∃ (k:Nat) (u:Value),k<=es.length/\i=.int .i64 k/\o=u/\Hid (wr.ownsRow w1.heap.size 62 2 u (hinD x.net.ls x.id a (es.take k)).length (flat nrE (hinD x.net.ls x.id a (es.take k))))/\Below w1.heap.size w1 wr) (fun i _ _=>es.length-(intOf i).toNat)
 case atStart=>exact ⟨0,_,by omega,rfl,rfl,hide (by simp [hinD];exact YAZ _ _ _ _),YAC _ _⟩
 case round=>
  obtain⟨k,u,hk,rfl,rfl,OW,hnx⟩:=hrel;obtain⟨ua,uc,hue⟩:=Zac OW.out;have hsz:=hnx.size;have hel:es.length<=1048576:=by have:=HPL.out;omega
  by_cases hlt:k<es.length
  ·obtain ⟨p,hp⟩:∃ p,es[k]? = some p:=⟨es[k],YAA hlt⟩;obtain⟨b,off,cap',hve,hbb,d0,d1⟩:=ZhU.cells EA.out k p hp;cases hve;replace d0:=(hnx.cell hbb).trans d0;replace d1:=(hnx.cell hbb).trans d1;have HST:=hide (Zqk (ls:=x.net.ls) (id:=x.id) (a:=a) hp);have hki:(0:Int)<=(k:Int):=by omega
   have hkj:(k:Int)<(es.length:Int):=by omega
   have hbr:¬b=wr.heap.size:=by omega
   have HQL:=hide (show (hinD x.net.ls x.id a (es.take k)).length<=1048576 by
    have h2:=Zov x.net.ls x.id a (es.take k);simp at h2;omega)
   clear hp;subst hue;by_cases hpa:p.2=a
   ·have hd:(p.2==a)=true:=by simpa using hpa
    have HD:=hide hd;clear hpa;go_wp2;obtain⟨wx,hwx⟩:∃ wx,wx=wr.alloc (.cells #[.int .i64 p.1,.int .i64 p.2] 155):=⟨_,rfl⟩;rw [<-hwx];have BX0:Below wr.heap.size wr wx:=by rw [hwx];exact (YAC _ _).alloc (YA _) _
    have BX:Below w1.heap.size w1 wx:=hnx.trans (BX0.mono hsz);have OX:=hide (show wx.ownsRow w1.heap.size 62 2 (.slice ua (hinD x.net.ls x.id a (es.take k)).length uc) (hinD x.net.ls x.id a (es.take k)).length (flat nrE (hinD x.net.ls x.id a (es.take k))) from Zad OW.out BX0 (YA _));have ge:wx.heap[wr.heap.size]? = some (.cells #[.int .i64 p.1,.int .i64 p.2] 155):=by rw [hwx];exact YAE _ _
    have e0:=Zaa ge 0;simp at e0;have hxs:wr.heap.size<wx.heap.size:=Zab ge;clear ge hwx BX0;replace z0:=(BX.cell hz1).trans z0;replace z2:=(BX.cell hz1).trans z2;replace z3:=(BX.cell hz1).trans z3;replace z4:=(BX.cell hz1).trans z4;have HCX:=hide (HC.out wx.drew (B1.trans (BX.mono B1.size)).drew p.1);obtain⟨c,hc⟩:∃ c,c=ZcH x.net.ls x.id p.1 a:=⟨_,rfl⟩;rw [<-hc] at HCX HST;clear hc d0 d1;have NE0:some w.heap.size≠(Value.slice ua (hinD x.net.ls x.id a (es.take k)).length uc).ownBlock:=fun e=>by have:=(OX.out.lt _ e.symm).1;omega
    have NE1:some wr.heap.size≠(Value.slice ua (hinD x.net.ls x.id a (es.take k)).length uc).ownBlock:=fun e=>by have:=(OW.out.lt _ e.symm).2;omega
    have hz2:w.heap.size<wx.heap.size:=by omega
    -- REGION
    refine Zag (S:=(fun (W:World)=>W.cell? ⟨w.heap.size,0,none⟩=some (.int .i64 x.id)/\W.cell? ⟨w.heap.size,2,none⟩=some (.int .i64 x.net.n)/\W.cell? ⟨w.heap.size,3,none⟩=some (.slice a1 x.net.ls.length c1)/\W.cell? ⟨w.heap.size,4,none⟩=some (v2)/\W.cell? ⟨wr.heap.size,0,none⟩=some (.int .i64 p.1))) (by kernel_rfl) 15 rfl ⟨z0,z2,z3,z4,e0⟩ (fun ops hops hHeld=>?_)
    iterate 10 (refine TK 15 ?_;try simp only [putS])
    refine TC 10 ?_;intro K hK;go_simp;refine HCX.out.mono ?_;rintro e w2 ⟨rfl,bc⟩;have hbs:wx.heap.size<=w2.heap.size:=bc.size;refine hK.out _ _ ?_ (fun hHeld=>?_)
    ·obtain ⟨m0,m1,m2,m3,m4⟩:=hHeld;exact⟨(bc.cell hz2).trans m0,(bc.cell hz2).trans m1,(bc.cell hz2).trans m2,(bc.cell hz2).trans m3,(bc.cell hxs).trans m4⟩
    clear hK K
    try simp only [putS]
    refine TK 15 ?_
    try simp only [putS]
    refine TC 12 ?_;intro K hK;go_simp;refine hK.out _ _ ?_ (fun hHeld=>?_)
    ·obtain ⟨m0,m1,m2,m3,m4⟩:=hHeld;exact⟨(((YAC w2.heap.size w2).alloc (YA _) _).cell (YAB hz2 bc.size)).trans m0,(((YAC w2.heap.size w2).alloc (YA _) _).cell (YAB hz2 bc.size)).trans m1,(((YAC w2.heap.size w2).alloc (YA _) _).cell (YAB hz2 bc.size)).trans m2,(((YAC w2.heap.size w2).alloc (YA _) _).cell (YAB hz2 bc.size)).trans m3,(((YAC w2.heap.size w2).alloc (YA _) _).cell (YAB hxs bc.size)).trans m4⟩
    clear hK K
    try simp only [putS]
    refine TC 13 ?_;intro K hK;refine ZeR Zjj (by omega) (by omega) _ _ _ 35 rfl w1.heap.size 62 Tryz.underlying35 (nrV nr0) rfl Tryz.infoNr (.slice ua (hinD x.net.ls x.id a (es.take k)).length uc) (hinD x.net.ls x.id a (es.take k)) (⟨p.1,c⟩:Nr) (Zmx _) rfl ((Zad OX.out.drew bc (YA _)).alloc _) ⟨w2.heap.size,0,none⟩ 1 rfl (Zan (cs:=nrE ⟨p.1,c⟩)) (by have:=HQL.out;omega) (by simp;omega) ?_;intro v' w' hown' hgrow;refine hK.out _ _ ?_ (fun hHeld=>?_)
    ·obtain ⟨m0,m1,m2,m3,m4⟩:=hHeld;exact⟨hgrow.cell m0 NE0,hgrow.cell m1 NE0,hgrow.cell m2 NE0,hgrow.cell m3 NE0,hgrow.cell m4 NE1⟩
    clear hK K
    try simp only [putS]
    refine TK 15 ?_
    try simp only [putS]
    refine wpAnyH_done (by rw [hops.out];kernel_rfl) ?_ _;clear hops ops
    -- END
    have hgs:=hgrow.size;have hds:wx.drew.heap.size=wx.heap.size:=rfl;have BF:Below w1.heap.size w1 w':=((BX.drew.trans (bc.mono (by omega))).alloc (by omega) _).grown hgrow (by simp;omega) (fun k hk=>(OX.out.lt k hk).1);have HO:=hide hown';clear hown' hgrow;go_wp2;go_roundw
    case rel=>exact ⟨k+1,v',by omega,by go_num,rfl,hide (by rw [HST.out,HD.out];exact HO.out),BF⟩
    case measure=>simp [intOf];omega
   ·have hd:(p.2==a)=false:=by simpa using hpa
    have HD:=hide hd;clear hpa;go_wp2;go_roundw
    case rel=>exact ⟨k+1,_,by omega,by go_num,rfl,hide (by rw [HST.out,HD.out];simp only [Bool.false_eq_true,if_false,List.append_nil];exact OW.out.alloc _),hnx.alloc hsz _⟩
    case measure=>simp [intOf];omega
  ·have KN:=hide (show es.take k=es from YAL (by omega));subst hue;go_wp2;go_ret;have h1:=OW.out;rw [KN.out] at h1 |-;exact⟨_,rfl,Zaf h1 (by omega),B1.trans (hnx.mono B1.size)⟩
def thgD (id:Int)(t:Th):RecD:=⟨9,3,id,t.k,0,[],t.c,t.f⟩
def Zfj (x:SelfD)(ts:List Th):List RecD:=(ts.filter (fun t=>t.o==x.id)).map (thgD x.id)
theorem ZkG {x:SelfD}{ts:List Th}{k:Nat}{t:Th}(h:ts[k]? = some t):Zfj x (ts.take (k+1))=Zfj x (ts.take k)++(if t.o==x.id then [thgD x.id t] else []):=by
 obtain⟨hk,e⟩:=YAD.1 h;unfold Zfj;rw [YAI hk,e,List.filter_append,YAf];congr 1;by_cases h1:(t.o==x.id)=true
 ·simp [h1]
 ·simp [h1]
theorem Zjv (x:SelfD)(ts:List Th):(Zfj x ts).length<=ts.length:=by
 unfold Zfj;rw [List.length_map];exact List.length_filter_le _ _
theorem ZnO (v1 v2 v3 v4:Value)(x:SelfD)(w:World)(hl:x.net.ts.length<=1048576)(hv:ZaS w v2 x.net.ts w.heap.size):
  Calls Tryz.prog 49 #[ZlI x v1 v2 v3 v4] w fun e w'=>∃ u qs,e=.returned u/\fsts qs=Zfj x x.net.ts/\RecsOwn w' w.heap.size w'.heap.size u qs/\Below w.heap.size w w':=by
 obtain⟨a2,c2,rfl⟩:=ZaS.shape hv;have HV:=hide hv;clear hv;have G0:=hide (YAE w (.cells #[.int .i64 x.id,.int .i64 x.boot,.int .i64 x.net.n,v1,.slice a2 x.net.ts.length c2,v3,v4] 86));have B0:Below w.heap.size w (w.alloc (.cells #[.int .i64 x.id,.int .i64 x.boot,.int .i64 x.net.n,v1,.slice a2 x.net.ts.length c2,v3,v4] 86)):=(YAC _ _).alloc (YA _) _
 go_enter Tryz.func49,Tryz.ntmps49
 go_wp2;generalize w.alloc (.cells #[.int .i64 x.id,.int .i64 x.boot,.int .i64 x.net.n,v1,.slice a2 x.net.ts.length c2,v3,v4] 86)=w0 at *
 go_loopw [10,3] (fun i o wr=>∃ (k:Nat) (qs:List RP) (u:Value),k<=x.net.ts.length/\i=.int .i64 k/\o=u/\Hid (fsts qs=Zfj x (x.net.ts.take k))/\Hid (RecsOwn wr (w.heap.size+1) wr.heap.size u qs)/\Hid (wr.heap[w.heap.size]? = some (.cells #[.int .i64 x.id,.int .i64 x.boot,.int .i64 x.net.n,v1,.slice a2 x.net.ts.length c2,v3,v4] 86))/\Below w.heap.size w wr) (fun i _ _=>x.net.ts.length-(intOf i).toNat)
 case atStart=>exact ⟨0,[],_,by omega,rfl,rfl,hide (by simp [fsts,Zfj]),hide (⟨YAZ _ _ _ _,by intro k hk;simp [Value.ownBlock] at hk,by simp,List.Pairwise.nil⟩),G0,B0⟩
 case round=>
  obtain⟨k,qs,u,hk,rfl,rfl,HM,OW,GB,hnx⟩:=hrel;obtain⟨ua,uc,rfl⟩:=Zac OW.out.row;have hsz:=hnx.size;have hbx:=Zab GB.out;by_cases hlt:k<x.net.ts.length
  ·obtain ⟨t,ht⟩:∃ t,x.net.ts[k]? = some t:=⟨x.net.ts[k],YAA hlt⟩;obtain⟨b,off,cap',hve,hbb,c0,c1,c2',c3⟩:=HV.out.cells k t ht;cases hve;replace c0:=(hnx.cell hbb).trans c0;replace c1:=(hnx.cell hbb).trans c1;rw [<-hnx.cell (p:=⟨b,off+k*4+2,none⟩) hbb] at c2';replace c3:=(hnx.cell hbb).trans c3;have HT:=hide ht;have hki:(0:Int)<=(k:Int):=by omega
   have hkj:(k:Int)<(x.net.ts.length:Int):=by omega
   have s0:=Zaa (w:=wr.alloc (.cells #[.int .i64 t.o,.int .i64 t.k,.int .i64 t.c,.bool t.f] 65)) ((YAH _ _ _ hbx).trans GB.out) 0;simp only [YAd,YAW] at s0;have HQL:=hide (show qs.length<=1048576 by
    have h1:=congrArg List.length HM.out;have h2:=Zjv x (x.net.ts.take k);simp [fsts] at h1 h2;omega)
   clear ht;by_cases h1:t.o=x.id
   ·have hd:(t.o==x.id)=true:=by simpa using h1
    have HD:=hide hd;clear h1
    go_wp2_with (first
     | (at_builtin;refine ZaL Zay (by omega) (by omega) _ rfl _ _ 31 rfl (w.heap.size+1) 37 Tryz.underlying31 (.agg (recC Za9 (.slice none 0 0))) rfl Tryz.infoRec _ qs (thgD x.id t,.slice none 0 0) (ZbY _ _ _ _) rfl ((OW.out.row.alloc _).alloc _) ⟨wr.heap.size+1,0,none⟩ 1 rfl ?news (by have:=HQL.out;omega) (by simp;omega) ?_))
    case news=>
     have h:=Zan (w:=wr.alloc (.cells #[.int .i64 t.o,.int .i64 t.k,.int .i64 t.c,.bool t.f] 65)) (cs:=encP (thgD x.id t,.slice none 0 0)) (t:=37);rw [show (wr.alloc (.cells #[.int .i64 t.o,.int .i64 t.k,.int .i64 t.c,.bool t.f] 65)).heap.size=wr.heap.size+1 by simp] at h;exact h
    intro v' w4 hown' hgrow;have b2:Below wr.heap.size wr (wr.alloc (.cells #[.int .i64 t.o,.int .i64 t.k,.int .i64 t.c,.bool t.f] 65)):=(YAC _ _).alloc (YA _) _;have ow4:=OW.out.push (p:=(thgD x.id t,.slice none 0 0)) (b2.alloc b2.size _) (by omega) ⟨YAZ _ _ _ _,by intro k hk;simp [Value.ownBlock] at hk⟩ hown' hgrow;have g4:=(hgrow.block w.heap.size (by simp;omega) (fun e=>by have:=(OW.out.row.lt _ e.symm).1;omega)).trans ((YAH _ _ _ (by simp;omega)).trans ((YAH _ _ _ hbx).trans GB.out));obtain⟨va,vc,rfl⟩:=Zac hown';have B4:Below w.heap.size w w4:=((hnx.trans (b2.mono hsz)).alloc (by simp;omega) _).grown hgrow (by simp;omega) (fun k hk=>by have:=(OW.out.row.lt k hk).1;omega);have OW4:=hide ow4;have G4:=hide g4;clear ow4 hown' hgrow g4 hd;go_wp2;go_roundw
    case rel=>exact ⟨k+1,qs++[(thgD x.id t,.slice none 0 0)],_,by omega,by go_num,rfl,hide (by rw [ZkG HT.out,HD.out, <-HM.out];simp [fsts]),OW4,G4,B4⟩
    case measure=>simp [intOf];omega
   ·have hd:(t.o==x.id)=false:=by simpa using h1
    have HD:=hide hd;clear h1;go_wp2;go_roundw
    case rel=>exact ⟨k+1,qs,_,by omega,by go_num,rfl,hide (by rw [ZkG HT.out,HD.out, <-HM.out];simp),hide ((OW.out.below ((YAC _ _).alloc (YA _) _) (YA _)).wide (YA _) (by simp)),hide ((YAH _ _ _ hbx).trans GB.out),hnx.alloc hsz _⟩
    case measure=>simp [intOf];omega
  ·go_wp2;go_ret;exact⟨_,qs,rfl,by rw [HM.out,YAL (by omega)],OW.out.wide (by omega) (YA _),hnx⟩
theorem ZdA (w:World):∀ k,k<4->∃ z:Int,(0<=z/\z<=2)/\(w.alloc (.cells #[.int .i64 0,.int .i64 0,.int .i64 1,.int .i64 2] 3)).cell? ⟨w.heap.size,k,none⟩=some (.int .i64 z):=by
 intro k hk;have h:=Zaa (YAE w (.cells #[.int .i64 0,.int .i64 0,.int .i64 1,.int .i64 2] 3)) k
 match k,hk with
 | 0,_=>exact ⟨0,by omega,h⟩
 | 1,_=>exact ⟨0,by omega,h⟩
 | 2,_=>exact ⟨1,by omega,h⟩
 | 3,_=>exact ⟨2,by omega,h⟩
theorem ZqC (p:Nat)(a:Option Addr)(len cap:Nat)(w:World)(hc:Cur w p a len cap):
  Calls Tryz.prog 13 #[.pointer (some ⟨p,0,none⟩)] w fun e w'=>∃ (x:NetD) (v1 v2:Value),e=.returned (.agg #[.int .i64 x.n,v1,v2])/\Za0 x=true/\w'.ownsRow w.heap.size 78 4 v1 x.ls.length (flat lkE x.ls)/\w'.ownsRow w.heap.size 65 4 v2 x.ts.length (flat thE x.ts)/\Cur w' p a len cap/\Below p w w'/\w.grownBy w' (some p):=by
 have hp:=Zci hc;have HC:=hide hc;clear hc
 go_enter Tryz.func13,Tryz.ntmps13
 go_wp2_with fail
 refine (ZbC p a len cap 4 _ (Zcf HC.out _) (by omega) (by omega)).mono ?_;rintro e w1 ⟨y0,rfl,hy0,hy1,hc1,hg1⟩;have hsz1:w.heap.size<w1.heap.size:=by have:=hg1.size;simp at this;omega
 have st0:NetSt w (w1.alloc (.cells #[.int .i64 (2+y0),.slice none 0 0,.slice none 0 0] 27)) p w.heap.size w1.heap.size a len cap (2+y0) (.slice none 0 0) (.slice none 0 0) [] []:=
  {cur:=Zcf hc1 _
   bel:=(((YAC p w).alloc (by omega) _).grown hg1 (by simp;omega) (fun k hk=>by simp at hk;omega)).alloc (by omega) _
   new:=YA _
   gro:=Zai (Zai (World.grownBy_alloc w _ _) hg1) (World.grownBy_alloc w1 _ _)
   box:=YAE w1 _
   res:=by
    rw [YAH _ _ _ hsz1,hg1.block _ (by simp) (by simp;omega)];exact YAE w _
   o1:=⟨by simp [flat],.inl ⟨rfl,rfl⟩⟩
   o2:=⟨by simp [flat],.inl ⟨rfl,rfl⟩⟩ }
 have ST0:=hide st0;clear hc1 hg1 st0 HC;go_wp2
 go_loopw [4] (fun i wr=>∃ (k:Nat) (v1:Value) (ls:List Lk),k<=7/\i=.int .i64 k/\NetSt w wr p w.heap.size w1.heap.size a len cap (2+y0) v1 (.slice none 0 0) ls []/\ZlW (2+y0) ls/\ls.length<=12) (fun i _=>8-(intOf i).toNat)
 case atStart=>exact ⟨0,_,[],by omega,rfl,ST0.out,⟨fun x hx=>by simp at hx,List.Pairwise.nil⟩,by simp⟩
 case round=>
  clear ST0;obtain⟨k,v1,ls,hk,rfl,st,hr,hll⟩:=hrel;obtain⟨b1,c1,rfl⟩:=ZaK.shape (Zam st.o1);have g0:=Zaa st.box 0;simp at g0;have STD:=hide st.drew;have HR:=hide hr;clear hr st;go_wp2
  go_region_held3 (fun W=>W.cell? ⟨w1.heap.size,0,none⟩=some (.int .i64 (2+y0))) (first | go_keep | exact hg2.cell (by assumption) (by simp;omega)) (first | (go_at_call 38;refine (ZbC p a len cap 3 _ STD.out.cur ?_ ?_).mono ?_;omega;omega;rintro e w2 ⟨y,rfl,hy2,hy3,hc2,hg2⟩))
  have st2:=STD.out.grown hc2 hg2 hp hsz1;have ST2:=hide st2;have s0:=Zaa st2.box 0;simp at s0;clear hc2 hg2 st2 STD g0;rw [show IntKind.i64.wrap (2+y0+y)=2+y0+y from ZaH _ (by omega) (by omega)];by_cases hcond:(k:Int)<2+y0+y
  case neg=>
   have wo:World:=wr;go_wp2;clear hcond hk
   go_loopw [8] (fun i wr=>∃ (k:Nat) (v2:Value) (ts:List Th),k<=2/\i=.int .i64 k/\NetSt w wr p w.heap.size w1.heap.size a len cap (2+y0) (.slice b1 ls.length c1) v2 ls ts/\ZlX (2+y0) ts/\ts.length<=k) (fun i _=>3-(intOf i).toNat)
   case atStart=>exact ⟨0,_,[],by omega,rfl,ST2.out,⟨fun x hx=>by simp at hx,List.Pairwise.nil⟩,by simp⟩
   case round=>
    clear ST2 s0;obtain⟨k,v2,ts,hk,rfl,st,hrt,htl⟩:=hrel;obtain⟨b2,c2,rfl⟩:=ZaS.shape (Zam st.o2);have ST:=hide st;have HRT:=hide hrt;clear st hrt
    go_wp2_with fail
    refine (ZbC p a len cap 3 _ ST.out.cur (by omega) (by omega)).mono ?_;rintro e w3 ⟨y3,rfl,hy30,hy31,hc3,hg3⟩;have st3:=ST.out.grown hc3 hg3 hp hsz1;clear hc3 hg3 ST;have e0:=st3.c0;have e1:=st3.c1;have e2:=st3.c2;by_cases hcond:(k:Int)<y3
    ·have hk1:k<=1:=by omega
     have st4:=st3.drew;have d0:=st4.c0;have d2:=st4.c2;clear st3 e0 e1 e2;go_wp2
     go_region_with (first | (go_at_call 38;refine (ZbC p a len cap _ _ (show NetSt w _ p w.heap.size w1.heap.size a len cap (2+y0) (.slice b1 ls.length c1) (.slice b2 ts.length c2) ls ts from by assumption).cur ?_ ?_).mono ?_;omega;omega;rintro e wx ⟨yy,rfl,hh0,hh1,hcc,hgg⟩;have hwr:IntKind.i64.wrap (1+yy)=1+yy:=ZaH _ (by omega) (by omega);have stx:=(show NetSt w _ p w.heap.size w1.heap.size a len cap (2+y0) (.slice b1 ls.length c1) (.slice b2 ts.length c2) ls ts from by assumption).grown hcc hgg hp hsz1;have ex0:=stx.c0;have ex2:=stx.c2;clear hcc hgg) | (go_at_call 14;refine (Zjk p a len cap _ _ (show NetSt w _ p w.heap.size w1.heap.size a len cap (2+y0) (.slice b1 ls.length c1) (.slice b2 ts.length c2) ls ts from by assumption).cur ?_ ?_).mono ?_;omega;omega;rintro e wx ⟨ff,rfl,hcc,hgg⟩;have stx:=(show NetSt w _ p w.heap.size w1.heap.size a len cap (2+y0) (.slice b1 ls.length c1) (.slice b2 ts.length c2) ls ts from by assumption).grown hcc hgg hp hsz1;have ex0:=stx.c0;have ex2:=stx.c2;clear hcc hgg) | (go_at_call 41;refine (Zq1 _ ts ⟨_,_,_,_⟩ _ ?_ (Zam (show NetSt w _ p w.heap.size w1.heap.size a len cap (2+y0) (.slice b1 ls.length c1) (.slice b2 ts.length c2) ls ts from by assumption).o2)).mono ?_;omega;rintro e wy ⟨vv,rfl,oy,hby⟩;obtain⟨b3,c3,rfl⟩:=ZaS.shape (Zam oy);have st8:=(show NetSt w _ p w.heap.size w1.heap.size a len cap (2+y0) (.slice b1 ls.length c1) (.slice b2 ts.length c2) ls ts from by assumption).below hby;have st9:=(show NetSt w _ p w.heap.size w1.heap.size a len cap (2+y0) (.slice b1 ls.length c1) (.slice b2 ts.length c2) ls ts from by assumption).put2 hby oy hp hsz1;have ex2:=st8.c2;have fx2:=Zae st8.box 2;clear oy hby st8))
     all_goals go_wp2
     all_goals exact ⟨⟨k+1,_,_,by omega,by go_num,st9,ZnE HRT.out (Zsh ⟨by omega,by omega⟩ ⟨by omega,by omega⟩ ⟨by omega,by omega⟩),YAK (Zq2 ts _) (by omega)⟩,by simp [intOf];omega⟩
    ·have r0:=Zaa st3.res 0;have r1:=Zaa st3.res 1;have r2:=Zaa st3.res 2;have f0:=Zae st3.res 0;have f1:=Zae st3.res 1;have f2:=Zae st3.res 2;simp at r0 r1 r2;go_wp2;have hfin:(((w3.setCell ⟨w.heap.size,0,none⟩ (.int .i64 (2+y0))).setCell ⟨w.heap.size,1,none⟩ (.slice b1 ls.length c1)).setCell ⟨w.heap.size,2,none⟩ (.slice b2 ts.length c2)).heap[w.heap.size]? = some (.cells #[.int .i64 (2+y0),.slice b1 ls.length c1,.slice b2 ts.length c2] 27):=by
      have k1:=YAU _ _ 0 _ _ (.int .i64 (2+y0)) st3.res;have k2:=YAU _ _ 1 _ _ (.slice b1 ls.length c1) k1;have k3:=YAU _ _ 2 _ _ (.slice b2 ts.length c2) k2;exact k3
     try simp only [Exit.inBlock,Exit.then]
     refine bodyPost_ret (results_cell_row rfl _ _ w.heap.size 27 #[.int .i64 (2+y0),.slice b1 ls.length c1,.slice b2 ts.length c2] (0,0) _ rfl hfin Tryz.underlying27 rfl (by kernel_rfl)) rfl ?_;refine⟨⟨2+y0,ls,ts⟩,_,_,rfl,?_,?_,?_,?_,?_,?_⟩
     ·unfold Za0;simp only [];rw [ZfA (by omega) (by omega),ZoS HR.out hll,ZnN HRT.out (by omega)];rfl
     ·exact Zaf (ZaG (ZaG (ZaG st3.o1 (by omega)) (by omega)) (by omega)) (by omega)
     ·exact Zaf (ZaG (ZaG (ZaG st3.o2 (by omega)) (by omega)) (by omega)) (by omega)
     ·exact ((st3.cur.grown (Zaw _ _ _ _) (fun b hb=>by simp;omega)).grown (Zaw _ _ _ _) (fun b hb=>by simp;omega)).grown (Zaw _ _ _ _) (fun b hb=>by simp;omega)
     ·exact ((st3.bel.setCell (by show p<=w.heap.size;omega) _).setCell (by show p<=w.heap.size;omega) _).setCell (by show p<=w.heap.size;omega) _
     ·refine ⟨st3.gro.os,st3.gro.tape,st3.gro.output,by have:=st3.gro.size;simpa using this,fun b hb hne=>?_⟩;rw [YAO _ ⟨w.heap.size,2,none⟩ _ _ (by show b≠w.heap.size;omega),YAO _ ⟨w.heap.size,1,none⟩ _ _ (by show b≠w.heap.size;omega),YAO _ ⟨w.heap.size,0,none⟩ _ _ (by show b≠w.heap.size;omega)];exact st3.gro.block b hb hne
  have hk6:k<=6:=by omega
  go_wp2_with fail
  refine (ZbC p a len cap (2+y0) _ ST2.out.cur (by omega) (by omega)).mono ?_;rintro e w3 ⟨x,rfl,hx0,hx1,hc3,hg3⟩;have st3:=ST2.out.grown hc3 hg3 hp hsz1;have ST3:=hide st3;have s0:=Zaa st3.box 0;simp at s0;clear hc3 hg3 st3 ST2
  go_wp2_with fail
  refine (ZbC p a len cap (2+y0) _ ST3.out.cur (by omega) (by omega)).mono ?_;rintro e w4 ⟨x2,rfl,hx2,hx3,hc4,hg4⟩;have st4:=ST3.out.grown hc4 hg4 hp hsz1;have ST4:=hide st4;have s0:=Zaa st4.box 0;have s1:=Zaa st4.box 1;simp at s0 s1;clear hc4 hg4 st4 ST3;obtain⟨m,hm⟩:∃ m,(1+x).tmod (2+y0)=m:=⟨_,rfl⟩;have hm1:(1+x<2+y0/\m=1+x)\/(1+x=2+y0/\m=0):=by
   rw [<-hm,Int.tmod_eq_emod_of_nonneg (by omega)];by_cases h:1+x<2+y0
   ·exact .inl ⟨h,Int.emod_eq_of_lt (by omega) h⟩
   ·have e:1+x=2+y0:=by omega
    exact .inr ⟨e,by rw [e];exact Int.emod_self⟩
  have hy00:¬(2+y0=0):=by omega
  go_wp2_with fail
  ·have hab:1<=(k:Int)+1/\(k:Int)+1<(k:Int)+2/\(k:Int)+2<=2+y0:=by
    clear ST4 s0 s1 HR
    (try simp only [beq_eq_false_iff_ne,ne_eq,beq_iff_eq] at *)
    omega
   refine (ZbC p a len cap 4 _ ST4.out.cur (by omega) (by omega)).mono ?_;rintro e w5 ⟨c,rfl,hc0,hc9,hc5,hg5⟩;have st5:=ST4.out.grown hc5 hg5 hp hsz1;have ST5:=hide st5;have hp5:=Zci st5.cur;clear hc5 hg5 st5 ST4 s0 s1
   go_wp2_with fail
   refine (Zeg (fun z=>0<=z/\z<=2) p a len cap w5.heap.size 4 _ (Zcf ST5.out.cur _) (by omega) (by omega) (by omega) (ZdA w5)).mono ?_;rintro e w6 ⟨r,rfl,⟨hr0,hr1⟩,hc6,hg6⟩;have st6:=(ST5.out.alloc _).grown hc6 hg6 hp hsz1;have ST6:=hide st6;have s1:=Zaa st6.box 1;have hbx:=Zab st6.box;simp at s1;clear hc6 hg6 st6 ST5;by_cases h12:(ls.length:Int)<12
   ·go_wp2_with fail
    refine (ZfS _ ls ⟨(k:Int)+1,(k:Int)+2,1+c,r⟩ _ (by omega) (Zam (ST6.out.alloc _).o1)).mono ?_;rintro e w7 ⟨v',rfl,o7,b7⟩;obtain⟨b2,c2,rfl⟩:=ZaK.shape (Zam o7);have st7:=(ST6.out.alloc _).put1 b7 o7 hp hsz1;have t1:=Zaa ((ST6.out.alloc (.cells #[.int .i64 ((k:Int)+1),.int .i64 ((k:Int)+2),.int .i64 (1+c),.int .i64 r] 78)).below b7).box 1;have f1:=Zae ((ST6.out.alloc (.cells #[.int .i64 ((k:Int)+1),.int .i64 ((k:Int)+2),.int .i64 (1+c),.int .i64 r] 78)).below b7).box 1;simp at t1;have ST7:=hide st7;have hr7:=ZdG HR.out (Zd8 (n:=2+y0) (c:=1+c) (r:=r) ⟨by omega,by omega⟩ hab.1 hab.2.1 hab.2.2 ⟨by omega,by omega⟩ ⟨hr0,hr1⟩);have HR7:=hide hr7;have hl7:=ZfU ls ⟨(k:Int)+1,(k:Int)+2,1+c,r⟩;have HL7:=hide hl7;clear o7 b7 st7 hr7 hl7 ST6;go_wp2;exact⟨⟨k+1,_,Zgi ls ⟨(k:Int)+1,(k:Int)+2,1+c,r⟩,by omega,by go_num,ST7.out,HR7.out,by have:=HL7.out;omega⟩,by simp [intOf];omega⟩
   ·go_wp2;exact⟨⟨k+1,_,ls,by omega,by go_num,ST6.out.alloc _,HR.out,hll⟩,by simp [intOf];omega⟩
  ·have hab:1<=m+1/\m+1<1+x/\1+x<=2+y0:=by
    clear ST4 s0 s1 HR
    (try simp only [beq_eq_false_iff_ne,ne_eq,beq_iff_eq] at *)
    omega
   refine (ZbC p a len cap 4 _ ST4.out.cur (by omega) (by omega)).mono ?_;rintro e w5 ⟨c,rfl,hc0,hc9,hc5,hg5⟩;have st5:=ST4.out.grown hc5 hg5 hp hsz1;have ST5:=hide st5;have hp5:=Zci st5.cur;clear hc5 hg5 st5 ST4 s0 s1
   go_wp2_with fail
   refine (Zeg (fun z=>0<=z/\z<=2) p a len cap w5.heap.size 4 _ (Zcf ST5.out.cur _) (by omega) (by omega) (by omega) (ZdA w5)).mono ?_;rintro e w6 ⟨r,rfl,⟨hr0,hr1⟩,hc6,hg6⟩;have st6:=(ST5.out.alloc _).grown hc6 hg6 hp hsz1;have ST6:=hide st6;have s1:=Zaa st6.box 1;have hbx:=Zab st6.box;simp at s1;clear hc6 hg6 st6 ST5;by_cases h12:(ls.length:Int)<12
   ·go_wp2_with fail
    refine (ZfS _ ls ⟨m+1,1+x,1+c,r⟩ _ (by omega) (Zam (ST6.out.alloc _).o1)).mono ?_;rintro e w7 ⟨v',rfl,o7,b7⟩;obtain⟨b2,c2,rfl⟩:=ZaK.shape (Zam o7);have st7:=(ST6.out.alloc _).put1 b7 o7 hp hsz1;have t1:=Zaa ((ST6.out.alloc (.cells #[.int .i64 (m+1),.int .i64 (1+x),.int .i64 (1+c),.int .i64 r] 78)).below b7).box 1;have f1:=Zae ((ST6.out.alloc (.cells #[.int .i64 (m+1),.int .i64 (1+x),.int .i64 (1+c),.int .i64 r] 78)).below b7).box 1;simp at t1;have ST7:=hide st7;have hr7:=ZdG HR.out (Zd8 (n:=2+y0) (c:=1+c) (r:=r) ⟨by omega,by omega⟩ hab.1 hab.2.1 hab.2.2 ⟨by omega,by omega⟩ ⟨hr0,hr1⟩);have HR7:=hide hr7;have hl7:=ZfU ls ⟨m+1,1+x,1+c,r⟩;have HL7:=hide hl7;clear o7 b7 st7 hr7 hl7 ST6;go_wp2;exact⟨⟨k+1,_,Zgi ls ⟨m+1,1+x,1+c,r⟩,by omega,by go_num,ST7.out,HR7.out,by have:=HL7.out;omega⟩,by simp [intOf];omega⟩
   ·go_wp2;exact⟨⟨k+1,_,ls,by omega,by go_num,ST6.out.alloc _,HR.out,hll⟩,by simp [intOf];omega⟩
  ·have hab:1<=1+x/\1+x<m+1/\m+1<=2+y0:=by
    clear ST4 s0 s1 HR
    (try simp only [beq_eq_false_iff_ne,ne_eq,beq_iff_eq] at *)
    omega
   refine (ZbC p a len cap 4 _ ST4.out.cur (by omega) (by omega)).mono ?_;rintro e w5 ⟨c,rfl,hc0,hc9,hc5,hg5⟩;have st5:=ST4.out.grown hc5 hg5 hp hsz1;have ST5:=hide st5;have hp5:=Zci st5.cur;clear hc5 hg5 st5 ST4 s0 s1
   go_wp2_with fail
   refine (Zeg (fun z=>0<=z/\z<=2) p a len cap w5.heap.size 4 _ (Zcf ST5.out.cur _) (by omega) (by omega) (by omega) (ZdA w5)).mono ?_;rintro e w6 ⟨r,rfl,⟨hr0,hr1⟩,hc6,hg6⟩;have st6:=(ST5.out.alloc _).grown hc6 hg6 hp hsz1;have ST6:=hide st6;have s1:=Zaa st6.box 1;have hbx:=Zab st6.box;simp at s1;clear hc6 hg6 st6 ST5;by_cases h12:(ls.length:Int)<12
   ·go_wp2_with fail
    refine (ZfS _ ls ⟨1+x,m+1,1+c,r⟩ _ (by omega) (Zam (ST6.out.alloc _).o1)).mono ?_;rintro e w7 ⟨v',rfl,o7,b7⟩;obtain⟨b2,c2,rfl⟩:=ZaK.shape (Zam o7);have st7:=(ST6.out.alloc _).put1 b7 o7 hp hsz1;have t1:=Zaa ((ST6.out.alloc (.cells #[.int .i64 (1+x),.int .i64 (m+1),.int .i64 (1+c),.int .i64 r] 78)).below b7).box 1;have f1:=Zae ((ST6.out.alloc (.cells #[.int .i64 (1+x),.int .i64 (m+1),.int .i64 (1+c),.int .i64 r] 78)).below b7).box 1;simp at t1;have ST7:=hide st7;have hr7:=ZdG HR.out (Zd8 (n:=2+y0) (c:=1+c) (r:=r) ⟨by omega,by omega⟩ hab.1 hab.2.1 hab.2.2 ⟨by omega,by omega⟩ ⟨hr0,hr1⟩);have HR7:=hide hr7;have hl7:=ZfU ls ⟨1+x,m+1,1+c,r⟩;have HL7:=hide hl7;clear o7 b7 st7 hr7 hl7 ST6;go_wp2;exact⟨⟨k+1,_,Zgi ls ⟨1+x,m+1,1+c,r⟩,by omega,by go_num,ST7.out,HR7.out,by have:=HL7.out;omega⟩,by simp [intOf];omega⟩
   ·go_wp2;exact⟨⟨k+1,_,ls,by omega,by go_num,ST6.out.alloc _,HR.out,hll⟩,by simp [intOf];omega⟩
  ·have hab:1<=1+x2/\1+x2<1+x/\1+x<=2+y0:=by
    clear ST4 s0 s1 HR
    (try simp only [beq_eq_false_iff_ne,ne_eq,beq_iff_eq] at *)
    omega
   refine (ZbC p a len cap 4 _ ST4.out.cur (by omega) (by omega)).mono ?_;rintro e w5 ⟨c,rfl,hc0,hc9,hc5,hg5⟩;have st5:=ST4.out.grown hc5 hg5 hp hsz1;have ST5:=hide st5;have hp5:=Zci st5.cur;clear hc5 hg5 st5 ST4 s0 s1
   go_wp2_with fail
   refine (Zeg (fun z=>0<=z/\z<=2) p a len cap w5.heap.size 4 _ (Zcf ST5.out.cur _) (by omega) (by omega) (by omega) (ZdA w5)).mono ?_;rintro e w6 ⟨r,rfl,⟨hr0,hr1⟩,hc6,hg6⟩;have st6:=(ST5.out.alloc _).grown hc6 hg6 hp hsz1;have ST6:=hide st6;have s1:=Zaa st6.box 1;have hbx:=Zab st6.box;simp at s1;clear hc6 hg6 st6 ST5;by_cases h12:(ls.length:Int)<12
   ·go_wp2_with fail
    refine (ZfS _ ls ⟨1+x2,1+x,1+c,r⟩ _ (by omega) (Zam (ST6.out.alloc _).o1)).mono ?_;rintro e w7 ⟨v',rfl,o7,b7⟩;obtain⟨b2,c2,rfl⟩:=ZaK.shape (Zam o7);have st7:=(ST6.out.alloc _).put1 b7 o7 hp hsz1;have t1:=Zaa ((ST6.out.alloc (.cells #[.int .i64 (1+x2),.int .i64 (1+x),.int .i64 (1+c),.int .i64 r] 78)).below b7).box 1;have f1:=Zae ((ST6.out.alloc (.cells #[.int .i64 (1+x2),.int .i64 (1+x),.int .i64 (1+c),.int .i64 r] 78)).below b7).box 1;simp at t1;have ST7:=hide st7;have hr7:=ZdG HR.out (Zd8 (n:=2+y0) (c:=1+c) (r:=r) ⟨by omega,by omega⟩ hab.1 hab.2.1 hab.2.2 ⟨by omega,by omega⟩ ⟨hr0,hr1⟩);have HR7:=hide hr7;have hl7:=ZfU ls ⟨1+x2,1+x,1+c,r⟩;have HL7:=hide hl7;clear o7 b7 st7 hr7 hl7 ST6;go_wp2;exact⟨⟨k+1,_,Zgi ls ⟨1+x2,1+x,1+c,r⟩,by omega,by go_num,ST7.out,HR7.out,by have:=HL7.out;omega⟩,by simp [intOf];omega⟩
   ·go_wp2;exact⟨⟨k+1,_,ls,by omega,by go_num,ST6.out.alloc _,HR.out,hll⟩,by simp [intOf];omega⟩
  ·have hab:1<=1+x/\1+x<1+x2/\1+x2<=2+y0:=by
    clear ST4 s0 s1 HR
    (try simp only [beq_eq_false_iff_ne,ne_eq,beq_iff_eq] at *)
    omega
   refine (ZbC p a len cap 4 _ ST4.out.cur (by omega) (by omega)).mono ?_;rintro e w5 ⟨c,rfl,hc0,hc9,hc5,hg5⟩;have st5:=ST4.out.grown hc5 hg5 hp hsz1;have ST5:=hide st5;have hp5:=Zci st5.cur;clear hc5 hg5 st5 ST4 s0 s1
   go_wp2_with fail
   refine (Zeg (fun z=>0<=z/\z<=2) p a len cap w5.heap.size 4 _ (Zcf ST5.out.cur _) (by omega) (by omega) (by omega) (ZdA w5)).mono ?_;rintro e w6 ⟨r,rfl,⟨hr0,hr1⟩,hc6,hg6⟩;have st6:=(ST5.out.alloc _).grown hc6 hg6 hp hsz1;have ST6:=hide st6;have s1:=Zaa st6.box 1;have hbx:=Zab st6.box;simp at s1;clear hc6 hg6 st6 ST5;by_cases h12:(ls.length:Int)<12
   ·go_wp2_with fail
    refine (ZfS _ ls ⟨1+x,1+x2,1+c,r⟩ _ (by omega) (Zam (ST6.out.alloc _).o1)).mono ?_;rintro e w7 ⟨v',rfl,o7,b7⟩;obtain⟨b2,c2,rfl⟩:=ZaK.shape (Zam o7);have st7:=(ST6.out.alloc _).put1 b7 o7 hp hsz1;have t1:=Zaa ((ST6.out.alloc (.cells #[.int .i64 (1+x),.int .i64 (1+x2),.int .i64 (1+c),.int .i64 r] 78)).below b7).box 1;have f1:=Zae ((ST6.out.alloc (.cells #[.int .i64 (1+x),.int .i64 (1+x2),.int .i64 (1+c),.int .i64 r] 78)).below b7).box 1;simp at t1;have ST7:=hide st7;have hr7:=ZdG HR.out (Zd8 (n:=2+y0) (c:=1+c) (r:=r) ⟨by omega,by omega⟩ hab.1 hab.2.1 hab.2.2 ⟨by omega,by omega⟩ ⟨hr0,hr1⟩);have HR7:=hide hr7;have hl7:=ZfU ls ⟨1+x,1+x2,1+c,r⟩;have HL7:=hide hl7;clear o7 b7 st7 hr7 hl7 ST6;go_wp2;exact⟨⟨k+1,_,Zgi ls ⟨1+x,1+x2,1+c,r⟩,by omega,by go_num,ST7.out,HR7.out,by have:=HL7.out;omega⟩,by simp [intOf];omega⟩
   ·go_wp2;exact⟨⟨k+1,_,ls,by omega,by go_num,ST6.out.alloc _,HR.out,hll⟩,by simp [intOf];omega⟩
theorem Zr1 (p:Nat)(a:Option Addr)(len cap:Nat)(w:World)(hc:Cur w p a len cap):
  Calls Tryz.prog 13 #[.pointer (some ⟨p,0,none⟩)] w fun e w'=>∃ (x:NetD) (v1 v2:Value),e=.returned (.agg #[.int .i64 x.n,v1,v2])/\Za0 x=true/\w'.ownsRow w.heap.size 78 4 v1 x.ls.length (flat lkE x.ls)/\w'.ownsRow w.heap.size 65 4 v2 x.ts.length (flat thE x.ts)/\Cur w' p a len cap/\Below p w w':=by
 refine (ZqC p a len cap w hc).mono ?_;rintro e w' ⟨x,v1,v2,h1,h2,h3,h4,h5,h6,_⟩;exact⟨x,v1,v2,h1,h2,h3,h4,h5,h6⟩
end Go.Proofs.YtikloccefmofdaaGreat
