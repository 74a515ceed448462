/-
  Parts.
-/
import Derived.Test.YtdhnddfnckgbjaaGreatZi10
namespace Go.Proofs.YtdhnddfnckgbjaaGreat
open Go.RowKit
set_option linter.unusedSimpArgs false
set_option linter.unusedVariables false
set_option maxRecDepth 100000
set_option maxHeartbeats 8000000
variable {K:Int}{xs:List RecD}{b g j src u v:Nat}{F:Nat->Bool}{c:Nat->Int}{h:Nat->List Int}{L o:Nat->Nat->Int}{hv:Nat->Value}{W:World}
def Zhx (xs:List RecD)(area:Int)(u v:Nat):Int:=if (1<=u/\u<=6)/\(1<=v/\v<=6) then Zm5 xs area u v else 0
theorem ZfY {ns:List Nr}{bk:Int->Int}{v:Nat}(h:∀ n∈ns,1<=n.c/\n.c<=1000):∀ k,0<=Zd5 ns bk v k/\Zd5 ns bk v k<=1000
 | 0=>by simp [Zd5]
 | k+1=>by
  have ih:=ZfY (bk:=bk) (v:=v) h k;cases e:ns[k]? with
  | none=>
   have:Zd5 ns bk v (k+1)=Zd5 ns bk v k:=by
    show (match ns[k]? with
     | some n=>if n.to=(v:Int)/\inB n.to 1 6=true/\0<bk n.to then n.c else Zd5 ns bk v k
     | none=>Zd5 ns bk v k)=_
    rw [e]
   rw [this];exact ih
  | some n=>
   rw [ZeX bk v e];have:=h n (YAF e)
   split
   ·omega
   ·exact ih
theorem Zdo {α:Type}{ok:α->Bool}{ls:List α}(h:ZcE ok ls=true){a:α}(ha:a∈ls):ok a=true:=by
 obtain⟨k,hk,e⟩:=List.mem_iff_getElem.1 ha;unfold ZcE at h;rw [List.all_eq_true] at h;have:=h k (by simpa using hk);unfold okAt at this;rw [YAA hk,e] at this;exact this
theorem Zjm {x:RecD}(h:Za7 x=true):x.near=[]\/(x.kind=1/\Zb2 x.owner x.near=true):=by
 unfold Za7 at h;simp only [YAO] at h;have h2:=h.2
 split at h2
 ·rename_i e
  simp only [YAO] at h2;exact .inr ⟨e,h2.1.1.2⟩
 ·split at h2
  ·simp only [YAO,beq_iff_eq] at h2;exact .inl (YAq h2.1.1.2)
  ·split at h2
   ·simp only [YAO,beq_iff_eq] at h2;exact .inl (YAq h2.1.2)
   ·cases h2
theorem Zf7 {x:RecD}(h:Za7 x=true):∀ n∈x.near,1<=n.c/\n.c<=1000:=by
 intro n hn;rcases Zjm h with e | ⟨_,e⟩
 ·rw [e] at hn;cases hn
 ·unfold Zb2 at e;simp only [YAO] at e;have:=Zdo e.1 hn;unfold Zdb at this;simp only [YAO] at this;exact ZfU.1 this.2
theorem ZlD {r:RecD}:Zi3 xs r∈xs\/Zi3 xs r=Zb3:=by
 rcases ZfD xs r with hz | ⟨j,y,hz,hy,_⟩
 ·exact .inr (Zie hz).1
 ·rw [(ZlE hz hy).1];exact .inl (YAF hy)
theorem Zin {area node:Int}(h:ZaN xs=true):∀ n∈(ZdR xs area node).near,1<=n.c/\n.c<=1000:=by
 intro n hn;unfold ZdR at hn;rcases ZlD (xs:=xs) (r:=Zim area node) with hm | he
 ·unfold ZaN at h;simp only [YAO] at h;have hr:=Zdo h.1.2 hm;exact Zf7 hr n hn
 ·rw [he] at hn;cases hn
theorem ZfX {area:Int}(h:ZaN xs=true):Links (Zhx xs area) 1000:=by
 refine⟨fun u v=>?_,fun u v=>?_,fun u v hl=>?_⟩
 ·unfold Zhx;split
  ·exact (ZfY (Zin h) _).1
  ·omega
 ·unfold Zhx;split
  ·exact (ZfY (Zin h) _).2
  ·omega
 ·unfold Zhx at hl
  split at hl
  ·rename_i e;exact e
  ·omega
def Zlv (c:Nat->Int)(i:Nat):Value:=.int .i64 (if i=0 then 0 else c i)
def doneV (F:Nat->Bool)(i:Nat):Value:=.bool (F i)
def upd {α:Type}(f:Nat->α)(v:Nat)(x:α)(i:Nat):α:=if i=v then x else f i
theorem ZaT {α:Type}(f:Nat->α)(v:Nat)(x:α):upd f v x v=x:=by simp [upd]
theorem Za8 {α:Type}(f:Nat->α){i:Nat}(x:α)(h:i≠v):upd f v x i=f i:=by simp [upd,h]
structure SSt (W:World) (g b:Nat) (o:Nat->Nat->Int) (F:Nat->Bool) (c:Nat->Int) (h:Nat->List Int) (hv:Nat->Value):Prop where
 gb:g<b
 ln:W.heap[g]? = some (.cells (rowA (Zgu o) 49) 3)
 cs:W.heap[b]? = some (.cells (rowA (Zlv c) 7) 3)
 hs:W.heap[b+1]? = some (.cells (rowA hv 7) 37)
 ds:W.heap[b+1+1]? = some (.cells (rowA (doneV F) 7) 4)
 rows:∀ v,W.ownsRow (b+3) 3 1 (hv v) (h v).length (flat intE (h v))
 short:∀ v,(h v).length<=6
theorem SSt.size (s:SSt W g b o F c h hv):b+3<=W.heap.size:=by
 have:=Zab s.ds;omega
theorem SSt.below {W':World}(s:SSt W g b o F c h hv)(hb:Below W.heap.size W W'):SSt W' g b o F c h hv:=
 ⟨s.gb,(hb.block _ (Zab s.ln)).trans s.ln,(hb.block _ (Zab s.cs)).trans s.cs,(hb.block _ (Zab s.hs)).trans s.hs,(hb.block _ (Zab s.ds)).trans s.ds,fun v=>Zad (s.rows v) hb (YA _),s.short⟩
theorem SSt.cost (s:SSt W g b o F c h hv)(h1:1<=v)(h6:v<=6):W.cell? ⟨b,v,none⟩=some (.int .i64 (c v)):=by
 rw [Zcy s.cs (by omega)];unfold Zlv;rw [if_neg (by omega)]
theorem SSt.done (s:SSt W g b o F c h hv)(h6:v<=6):W.cell? ⟨b+1+1,v,none⟩=some (.bool (F v)):=by
 rw [Zcy s.ds (by omega)];rfl
theorem SSt.hop (s:SSt W g b o F c h hv)(h6:v<=6):W.cell? ⟨b+1,v,none⟩=some (hv v):=Zcy s.hs (by omega)
theorem SSt.link (s:SSt W g b o F c h hv)(h5:u<=6)(h6:v<=6):W.cell? ⟨g,u*7+v,none⟩=some (.int .i64 (o u v)):=ZjY s.ln h5 h6
theorem SSt.setC (s:SSt W g b o F c h hv)(h1:1<=v)(x:Int):SSt (W.setCell ⟨b,v,none⟩ (.int .i64 x)) g b o F (upd c v x) h hv:=by
 have hg:=s.gb;refine⟨s.gb,(YAQ W ⟨b,v,none⟩ g _ (by show g≠b;omega)).trans s.ln,?_,(YAQ W ⟨b,v,none⟩ (b+1) _ (by show b+1≠b;omega)).trans s.hs,(YAQ W ⟨b,v,none⟩ (b+1+1) _ (by show b+1+1≠b;omega)).trans s.ds,fun u=>ZaH (s.rows u) (by omega),s.short⟩;rw [ZdP s.cs,Zco (fun i _=>?_)];unfold Zlv upd;by_cases e:i=v
 ·subst e;rw [if_pos rfl,if_neg (by omega),if_pos rfl]
 ·rw [if_neg e];simp [e]
theorem SSt.setD (s:SSt W g b o F c h hv)(v:Nat):SSt (W.setCell ⟨b+1+1,v,none⟩ (.bool true)) g b o (fun x=>F x||x==v) c h hv:=by
 have hg:=s.gb;refine⟨s.gb,(YAQ W ⟨b+1+1,v,none⟩ g _ (by show g≠b+1+1;omega)).trans s.ln,(YAQ W ⟨b+1+1,v,none⟩ b _ (by show b≠b+1+1;omega)).trans s.cs,(YAQ W ⟨b+1+1,v,none⟩ (b+1) _ (by show b+1≠b+1+1;omega)).trans s.hs,?_,fun u=>ZaH (s.rows u) (by omega),s.short⟩;rw [ZdP s.ds,Zco (fun i _=>?_)];unfold doneV;by_cases e:i=v
 ·subst e;simp
 ·simp [e]
theorem SSt.setH (s:SSt W g b o F c h hv)(v:Nat){x:Value}{l:List Int}(hx:W.ownsRow (b+3) 3 1 x l.length (flat intE l))(hl:l.length<=6):SSt (W.setCell ⟨b+1,v,none⟩ x) g b o F c (upd h v l) (upd hv v x):=by
 have hg:=s.gb;refine⟨s.gb,(YAQ W ⟨b+1,v,none⟩ g _ (by show g≠b+1;omega)).trans s.ln,(YAQ W ⟨b+1,v,none⟩ b _ (by show b≠b+1;omega)).trans s.cs,?_,(YAQ W ⟨b+1,v,none⟩ (b+1+1) _ (by show b+1+1≠b+1;omega)).trans s.ds,fun u=>?_,fun u=>?_⟩
 ·rw [ZdP s.hs];rfl
 ·unfold upd;by_cases e:u=v
  ·rw [if_pos e,if_pos e];exact ZaH hx (by omega)
  ·rw [if_neg e,if_neg e];exact ZaH (s.rows u) (by omega)
 ·unfold upd;by_cases e:u=v
  ·rw [if_pos e];exact hl
  ·rw [if_neg e];exact s.short u
theorem SSt.congr {d:Nat->Int}(s:SSt W g b o F c h hv)(hc:∀ v,1<=v->v<=6->d v=c v):SSt W g b o F d h hv:=by
 refine⟨s.gb,s.ln,?_,s.hs,s.ds,s.rows,s.short⟩;rw [s.cs,Zco (fun i hi=>?_)];unfold Zlv;by_cases e:i=0
 ·rw [if_pos e,if_pos e]
 ·rw [if_neg e,if_neg e,hc i (by omega) (by omega)]
theorem SSt.start  (hg:W.heap[g]? = some (.cells (rowA (Zgu o) 49) 3)):
  SSt (((W.alloc (.cells (rowA (fun _=>.int .i64 0) 7) 3)).alloc (.cells (rowA (fun _=>.slice none 0 0) 7) 37)).alloc (.cells (rowA (fun _=>.bool false) 7) 4)) g W.heap.size o (fun _=>false) (fun _=>0) (fun _=>[]) (fun _=>.slice none 0 0):=by
 have hlt:=Zab hg;refine⟨hlt,?_,?_,?_,?_,fun v=>YAj _ _ _ _,by simp⟩
 ·rw [YAI _ _ _ (by simp;omega),YAI _ _ _ (by simp;omega),YAI _ _ _ hlt];exact hg
 ·rw [YAI _ _ _ (by simp;omega),YAI _ _ _ (by simp),YAE,Zco (fun i _=>?_)];unfold Zlv;simp
 ·rw [YAI _ _ _ (by simp)];have e:=YAE (W.alloc (.cells (rowA (fun _=>.int .i64 0) 7) 3)) (.cells (rowA (fun _=>.slice none 0 0) 7) 37);rw [show (W.alloc (.cells (rowA (fun _=>.int .i64 0) 7) 3)).heap.size=W.heap.size+1 by simp] at e;exact e
 ·have e:=YAE ((W.alloc (.cells (rowA (fun _=>.int .i64 0) 7) 3)).alloc (.cells (rowA (fun _=>.slice none 0 0) 7) 37)) (.cells (rowA (fun _=>.bool false) 7) 4);rw [show ((W.alloc (.cells (rowA (fun _=>.int .i64 0) 7) 3)).alloc (.cells (rowA (fun _=>.slice none 0 0) 7) 37)).heap.size=W.heap.size+1+1 by simp] at e;exact e
theorem Zhi (a b:List Int)(x:Int):∀ k:Nat,x∈addT a b k↔(1<=x/\x<=(k:Int)/\(x∈a\/x∈b))
 | 0=>by simp [addT];omega
 | k+1=>by
  unfold addT;rw [YAH,Zhi a b x k];by_cases e:(k:Int)+1∈a\/(k:Int)+1∈b
  ·rw [if_pos e];simp only [YAl];constructor
   ·rintro (⟨h1,h2,h3⟩ | rfl)
    ·exact ⟨h1,by omega,h3⟩
    ·exact ⟨by omega,by omega,e⟩
   ·rintro ⟨h1,h2,h3⟩;by_cases e2:x=(k:Int)+1
    ·exact .inr e2
    ·exact .inl ⟨h1,by omega,h3⟩
  ·rw [if_neg e];simp only [List.not_mem_nil,or_false];constructor
   ·rintro ⟨h1,h2,h3⟩;exact⟨h1,by omega,h3⟩
   ·rintro ⟨h1,h2,h3⟩;refine⟨h1,?_,h3⟩;by_cases e2:x=(k:Int)+1
    ·subst e2;exact absurd h3 e
    ·omega
theorem ZjG (a b:List Int):∀ k:Nat,(addT a b k).Pairwise (· < ·)
 | 0=>by simp [addT]
 | k+1=>by
  unfold addT;rw [YAP];refine⟨ZjG a b k,by split <;> simp,?_⟩;intro x hx y hy;have h1:=(Zhi a b x k).1 hx
  split at hy
  ·simp at hy;omega
  ·cases hy
theorem Zfp {a b:List Int}{x:Int}:x∈addL a b↔(1<=x/\x<=6/\(x∈a\/x∈b)):=Zhi a b x 6
theorem Zfn (a b:List Int):(addL a b).Pairwise (· < ·):=ZjG a b 6
theorem ZcP (a b:List Int):(addL a b).length<=6:=Zhh a b 6
def wayL (src:Nat)(h:Nat->List Int)(u v:Nat):List Int:=if u=src then [(v:Int)] else h u
theorem Zkd {x:Int}:x∈wayL src h u v↔Zc1 src h u v x:=by
 unfold wayL Zc1;by_cases e:u=src
 ·rw [if_pos e];simp [e]
 ·rw [if_neg e];simp [e]
def ZbG (L:Nat->Nat->Int)(src:Nat)(c:Nat->Int)(h:Nat->List Int)(u v:Nat):List Int:=
 if 0<L u v then (if c v<0\/c u+L u v<c v then addL [] (wayL src h u v) else if c u+L u v=c v then addL (h v) (wayL src h u v) else h v) else h v
theorem Zjn (I:Inv L src F c h)(hL:Links L K)(hu:0<=c u)(v:Nat):RelaxH L src c h u v (ZbG L src c h u v):=by
 have hrng:∀ x,0<L u v->Zc1 src h u v x->1<=x/\x<=6:=by
  intro x hl ho;rcases ho with ⟨_,rfl⟩ | ⟨_,h2⟩
  ·have:=(hL.node u v hl).2;unfold ZcG at this;omega
  ·exact I.rng u x h2
 have hneg:c v<0->∀ x,x ∉ h v:=by
  intro hc x hx;by_cases e:v=src
  ·subst e;rw [I.start0] at hx;cases hx
  ·have:=((I.hop v e x).1 hx).1;omega
 unfold ZbG;by_cases h1:0<L u v
 ·rw [if_pos h1];by_cases h2:c v<0\/c u+L u v<c v
  ·rw [if_pos h2];have e:Zar L c u v=c u+L u v:=by unfold Zar;rw [if_pos ⟨h1,h2⟩]
   refine⟨Zfn _ _,fun x=>?_⟩;rw [Zfp,e,Zkd];constructor
   ·rintro ⟨_,_,h5 | h5⟩
    ·cases h5
    ·exact .inr ⟨h1,rfl,h5⟩
   ·rintro (⟨h5,h6⟩ | ⟨_,_,h5⟩)
    ·omega
    ·have:=hrng x h1 h5;exact⟨this.1,this.2,.inr h5⟩
  ·rw [if_neg h2];have e:Zar L c u v=c v:=by unfold Zar;rw [if_neg (fun hc=>h2 hc.2)]
   by_cases h3:c u+L u v=c v
   ·rw [if_pos h3];refine⟨Zfn _ _,fun x=>?_⟩;rw [Zfp,e,Zkd];constructor
    ·rintro ⟨_,_,h5 | h5⟩
     ·exact .inl ⟨h5,rfl⟩
     ·exact .inr ⟨h1,h3.symm,h5⟩
    ·rintro (⟨h5,_⟩ | ⟨_,_,h5⟩)
     ·have:=I.rng v x h5;exact⟨this.1,this.2,.inl h5⟩
     ·have:=hrng x h1 h5;exact⟨this.1,this.2,.inr h5⟩
   ·rw [if_neg h3];refine⟨I.asc v,fun x=>?_⟩;rw [e];constructor
    ·intro h5;exact .inl ⟨h5,rfl⟩
    ·rintro (⟨h5,_⟩ | ⟨_,h6,_⟩)
     ·exact h5
     ·omega
 ·rw [if_neg h1];have e:Zar L c u v=c v:=by unfold Zar;rw [if_neg (fun hc=>h1 hc.1)]
  refine⟨I.asc v,fun x=>?_⟩;rw [e];constructor
  ·intro h5;exact .inl ⟨h5,rfl⟩
  ·rintro (⟨h5,_⟩ | ⟨h6,_⟩)
   ·exact h5
   ·exact absurd h6 h1
def mixC (L:Nat->Nat->Int)(c:Nat->Int)(u j v:Nat):Int:=if v<j then Zar L c u v else c v
def mixH (L:Nat->Nat->Int)(src:Nat)(c:Nat->Int)(h:Nat->List Int)(u j v:Nat):List Int:=if v<j then ZbG L src c h u v else h v
theorem Zna (hL:Links L K)(c:Nat->Int)(u:Nat):mixC L c u 1=c:=by
 funext v;unfold mixC;by_cases e:v<1
 ·rw [if_pos e];unfold Zar;rw [if_neg (fun hc=>by have:=(hL.node u v hc.1).2;unfold ZcG at this;omega)]
 ·rw [if_neg e]
theorem Znc (hL:Links L K)(src:Nat)(c:Nat->Int)(h:Nat->List Int)(u:Nat):mixH L src c h u 1=h:=by
 funext v;unfold mixH;by_cases e:v<1
 ·rw [if_pos e];unfold ZbG;rw [if_neg (fun hc=>by have:=(hL.node u v hc).2;unfold ZcG at this;omega)]
 ·rw [if_neg e]
theorem ZdC (L:Nat->Nat->Int)(c:Nat->Int)(u j:Nat):mixC L c u (j+1)=upd (mixC L c u j) j (Zar L c u j):=by
 funext v;unfold upd;show (if v<j+1 then Zar L c u v else c v)=if v=j then Zar L c u j else if v<j then Zar L c u v else c v
 by_cases e:v=j
 ·rw [if_pos (by omega),if_pos e,e]
 ·rw [if_neg e];by_cases e2:v<j
  ·rw [if_pos e2,if_pos (by omega)]
  ·rw [if_neg e2,if_neg (by omega)]
theorem Zcu (L:Nat->Nat->Int)(src:Nat)(c:Nat->Int)(h:Nat->List Int)(u j:Nat):mixH L src c h u (j+1)=upd (mixH L src c h u j) j (ZbG L src c h u j):=by
 funext v;unfold upd;show (if v<j+1 then ZbG L src c h u v else h v)=if v=j then ZbG L src c h u j else if v<j then ZbG L src c h u v else h v
 by_cases e:v=j
 ·rw [if_pos (by omega),if_pos e,e]
 ·rw [if_neg e];by_cases e2:v<j
  ·rw [if_pos e2,if_pos (by omega)]
  ·rw [if_neg e2,if_neg (by omega)]
theorem Zij :mixC L c u j j=c j:=by
 unfold mixC;rw [if_neg (by omega)]
theorem Zf1 :mixH L src c h u j j=h j:=by
 unfold mixH;rw [if_neg (by omega)]
theorem Zn7 {α:Type}(f:Nat->α)(v:Nat):upd f v (f v)=f:=by
 funext i;unfold upd;by_cases e:i=v
 ·rw [if_pos e,e]
 ·rw [if_neg e]
theorem ZdB (e:Zar L c u j=c j):mixC L c u (j+1)=mixC L c u j:=by
 rw [ZdC,e, <-Zij (L:=L) (c:=c) (u:=u) (j:=j),Zn7]
theorem Zf0 (e:ZbG L src c h u j=h j):mixH L src c h u (j+1)=mixH L src c h u j:=by
 rw [Zcu,e, <-Zf1 (L:=L) (src:=src) (c:=c) (h:=h) (u:=u) (j:=j),Zn7]
theorem Zm9 (hL:Links L K)(c:Nat->Int)(u:Nat):mixC L c u 7=fun v=>Zar L c u v:=by
 funext v;unfold mixC;by_cases e:v<7
 ·rw [if_pos e]
 ·rw [if_neg e];unfold Zar;rw [if_neg (fun hc=>by have:=(hL.node u v hc.1).2;unfold ZcG at this;omega)]
theorem Znb (hL:Links L K)(src:Nat)(c:Nat->Int)(h:Nat->List Int)(u:Nat):mixH L src c h u 7=fun v=>ZbG L src c h u v:=by
 funext v;unfold mixH;by_cases e:v<7
 ·rw [if_pos e]
 ·rw [if_neg e];unfold ZbG;rw [if_neg (fun hc=>by have:=(hL.node u v hc).2;unfold ZcG at this;omega)]
theorem Zga (e:¬0<L u v):ZbG L src c h u v=h v/\Zar L c u v=c v:=by
 unfold ZbG Zar;rw [if_neg e,if_neg (fun hc=>e hc.1)];exact⟨rfl,rfl⟩
theorem Zeb (h0:0<=c v)(e:c v<c u+L u v):ZbG L src c h u v=h v/\Zar L c u v=c v:=by
 unfold ZbG Zar;constructor
 ·split
  ·rw [if_neg (by omega),if_neg (by omega)]
  ·rfl
 ·rw [if_neg (by omega)]
theorem Zdf (hl:0<L u v)(e:c v<0\/c u+L u v<c v):ZbG L src c h u v=addL [] (wayL src h u v)/\Zar L c u v=c u+L u v:=by
 unfold ZbG Zar;rw [if_pos hl,if_pos e,if_pos ⟨hl,e⟩];exact⟨rfl,rfl⟩
theorem Zf9 (hl:0<L u v)(h0:0<=c v)(e:c u+L u v=c v):ZbG L src c h u v=addL (h v) (wayL src h u v)/\Zar L c u v=c v:=by
 unfold ZbG Zar;rw [if_pos hl,if_neg (by omega),if_pos e,if_neg (by omega)];exact⟨rfl,rfl⟩
abbrev PS:=Int × LnD × Option Addr × Nat × Nat
instance:Inhabited PS:=⟨(0,ZdW,none,0,0)⟩
def psP (p:PS):PlP:=(p.1,(p.2.1,.slice p.2.2.1 p.2.2.2.1 p.2.2.2.2))
def Zbz (p:PS):List Value:=Zbu (psP p)
theorem ZfO (p:PS):∀ u∈Zbz p,u.oneCell'=true:=by
 intro u hu;simp [Zbz,Zbu,psP] at hu;rcases hu with rfl | rfl | rfl | rfl <;> rfl
def cfPS (p q:PS):Int:=cmpN p.1 q.1
theorem Zhm (a b:Int):cmpN a b<0↔a<b:=by
 unfold cmpN
 split
 ·omega
 ·split <;> omega
theorem swoPS :Go.Sort.SWO (Go.Proofs.ltOf cfPS) where
 irrefl x:=by unfold Go.Proofs.ltOf cfPS;rw [decide_eq_false_iff_not,Zhm];omega
 trans x y z h1 h2:=by
  unfold Go.Proofs.ltOf cfPS at *;rw [YAk,Zhm] at *;omega
 ntrans x y z h1 h2:=by
  unfold Go.Proofs.ltOf cfPS at *;rw [decide_eq_false_iff_not,Zhm] at *;omega
def ZfB (qs:List PlP):Prop:=qs.Pairwise (fun a b=>¬cmpN b.1 a.1<0)
theorem Zlt (p q:PS)(w:World):Calls Tryz.prog 36 #[.agg #[.int .i64 p.1,.bool p.2.1.thing,.int .i64 p.2.1.to,.slice p.2.2.1 p.2.2.2.1 p.2.2.2.2],.agg #[.int .i64 q.1,.bool q.2.1.thing,.int .i64 q.2.1.to,.slice q.2.2.1 q.2.2.2.1 q.2.2.2.2]] w fun e w'=>e=.returned (.int .i64 (cfPS p q))/\Below w.heap.size w w'/\w.drawn<=w'.drawn:=by
 unfold cfPS
 go_enter Tryz.func36,Tryz.ntmps36
 go_wp2_with fail
 refine (Zc4 _ _ _).mono ?_;rintro e w1 ⟨rfl,rfl⟩;go_wp2;go_ret;exact⟨rfl,ZaK _ _,YA _⟩
theorem ZmP (blk off size:Nat)(w:World):CmpLays Tryz.prog 36 #[] Zbz 4 cfPS blk off size w:=
 fun _ _ _ _ x y=>(Zlt x y _).mono fun _ _ ⟨h1,h2,h3⟩=>⟨h1,ZjV h2 h3⟩
theorem as_ps :∀ {os:List PlP},(∀ q∈os,∃ a n c,q.2.2=.slice a n c)->∃ ss:List PS,ss.map psP=os
 | [],_=>⟨[],rfl⟩
 | q::os,h=>by
  obtain⟨ss,hs⟩:=as_ps (os:=os) (fun x hx=>h x (by simp [hx]));obtain⟨a,n,c,e⟩:=h q (by simp);refine⟨(q.1,q.2.1,a,n,c)::ss,?_⟩;rw [List.map_cons,hs];congr 1;unfold psP;rw [<-e]
theorem Tryz.aggPlaced :∀ w,(isAgg 68).run Tryz.prog w=.ok true w:=fun w=>by kernel_rfl
theorem Tryz.sizePlaced :∀ w,(Go.sizeOf 68).run Tryz.prog w=.ok 4 w:=fun w=>by kernel_rfl
theorem ZiB (v:Value)(os:List PlP)(base:Nat)(w:World)(h:w.ownsRow base 68 4 v os.length (flat Zbu os))(hsl:∀ q∈os,∃ a n c,q.2.2=.slice a n c)(hlen:os.length<=1048576):
  Calls Tryz.prog 35 #[v,.func (.func 36) #[] #[]] w fun e w'=>e=.returned (.tuple #[])/\∃ qs:List PlP,qs.Perm os/\ZfB qs/\w'.ownsRow base 68 4 v qs.length (flat Zbu qs)/\w.grownBy w' v.ownBlock:=by
 obtain⟨ss,hss⟩:=as_ps hsl;rcases h.2 with ⟨e0,hn0⟩ | ⟨g,cap,cur,e0,hb,hg,hn,hm,hs,ht⟩
 ·subst e0;have hos:os=[]:=List.length_eq_zero_iff.1 hn0;subst hos;have hc:=Go.Proofs.AnyF.slices_SortFunc_none Tryz.sortP none 0 (.func (.func 36) #[] #[]) w;change Calls Tryz.prog 35 _ _ _ at hc;refine hc.mono fun e w' ⟨h1,h2⟩=>⟨h1,[],List.Perm.refl _,by simp [ZfB],?_,?_⟩
  ·exact YAj _ _ _ _
  ·rw [h2];exact⟨rfl,rfl,rfl,YA _,fun _ _ _=>rfl⟩
 ·subst e0;have hsl2:ss.length=os.length:=by rw [<-hss,YAb]
  have hflat:flat Zbu os=flat Zbz ss:=by
   rw [<-hss];unfold flat Zbz;rw [List.flatMap_map]
  have hcell:∀ i c,i<ss.length->c<4->(flat Zbz ss)[i*4+c]? = (Zbz ss[i]!)[c]? := fun i c hi hc=>by
   exact Zbi (sz:=4) (fun _=>rfl) ss i c ss[i]! (by rw [getElem!_pos _ i hi];exact YAA hi) hc
  have hgl:=Zab hg;have hH:Go.Sort.HoldsK Zbz 4 w g 0 ss.toArray:=by
   intro j hj;rw [Go.Sort.size_flatK] at hj;simp only [List.size_toArray] at hj;refine⟨?_,by simp [World.frozen?,hg]⟩;rw [Go.Sort.get_flatK _ _ _ j (by simpa using hj)];have hd:j / 4<ss.length:=by omega
   have e1:(flat Zbu os)[j]? = (Zbz ss[j / 4]!)[j%4]? := by
    rw [hflat, <-hcell (j / 4) (j%4) hd (by omega)];congr 1;omega
   have e2:cur[j]? = (flat Zbu os)[j]? := by
    rw [<-ht,List.getElem?_take,if_pos (by omega),Array.getElem?_toList]
   simp only [World.cell?,hg,Nat.zero_add];simp only [Option.isSome_none,Bool.false_eq_true,if_false];rw [e2,e1];have e3:(ss.toArray[j / 4]! : PS)=ss[j / 4]! := by simp
   rw [e3,YAA (show j%4<(Zbz ss[j / 4]!).length by show j%4<4;omega),getElem!_pos _ (j%4) (show j%4<(Zbz ss[j / 4]!).length by show j%4<4;omega)];rfl
  have hc:=Go.Proofs.AnyQ.slices_SortFunc Tryz.sortP 4 Tryz.aggPlaced Tryz.sizePlaced Zbz (fun _=>rfl) (fun x u hu=>ZfO _ u hu) cfPS swoPS 36 #[] g 0 cap ss.toArray w (enters_of Tryz.func36 (by kernel_rfl) rfl) (ZmP g 0 ss.toArray.size w) hH hgl (by simp;omega);change Calls Tryz.prog 35 _ _ _ at hc;rw [show ss.toArray.size=os.length by simp [hsl2]] at hc;refine hc.mono fun e w' ⟨h1,d',n,os',hp,hso,hw⟩=>⟨h1,d'.toList.map psP,?_,?_,?_,?_⟩
  ·have hpp:=hp.2.2;have hds:d'.size=os.length:=by rw [hp.1];simp [hsl2]
   rw [Array.extract_eq_self_of_le (by omega),Array.extract_eq_self_of_le (by simp [hsl2])] at hpp;have:=hpp.map psP;rw [hss] at this;exact this
  ·have hds:d'.size=os.length:=by rw [hp.1];simp [hsl2]
   unfold ZfB;rw [YAY,YAf];intro i j hi hj hij;simp only [Array.length_toList] at hi hj;have h3:=hso i j (by omega) hij (by omega);rw [getElem!_pos d' i hi,getElem!_pos d' j hj] at h3;unfold Go.Proofs.ltOf cfPS at h3;have h4:¬cmpN d'[j].1 d'[i].1<0:=by simpa using h3
   exact h4
  ·have hds:d'.size=os.length:=by rw [hp.1];simp [hsl2]
   obtain⟨cur',hg',hs'⟩:=ZdE (enc:=Zbz) (k:=4) (m:=n) (dk:=d') (os:=os') hg;have hH':=Go.Proofs.holdsK_sortWorldK_c Zbz 4 w g 0 ss.toArray d' n os' hH hgl (by rw [hds];simp [hsl2]);rw [hw];have hlm:(d'.toList.map psP).length=os.length:=by simp [hds]
   rw [hlm];refine ZgX hg' hb hn hm (by rw [hs',hs]) (by rw [ZcK Zds,hlm]) (fun j hj=>?_);have hd:j / 4<d'.size:=by omega
   have h6:=hH'.cell (i:=j / 4) (c:=j%4) hd (by omega);rw [show 0+j / 4*4+j%4=j by omega] at h6;rw [h6.1];have e1:(flat Zbu (d'.toList.map psP))[j / 4*4+j%4]? = (Zbu (psP d'[j / 4]!))[j%4]? := Zbi Zds _ _ _ _ (by rw [YAZ,Array.getElem?_toList,Array.getElem?_eq_getElem hd,getElem!_pos d' _ hd];rfl) (by omega);rw [show j / 4*4+j%4=j by omega] at e1;rw [e1];show some (Zbz d'[j / 4]!)[j%4]! = (Zbz d'[j / 4]!)[j%4]?;rw [YAA (show j%4<(Zbz d'[j / 4]!).length by show j%4<4;omega),getElem!_pos _ (j%4) (show j%4<(Zbz d'[j / 4]!).length by show j%4<4;omega)]
  ·rw [hw];exact ZdF
end Go.Proofs.YtdhnddfnckgbjaaGreat
namespace Go.Proofs.YtdhnddfnckgbjaaGreat
open Go.RowKit
open Go.ChangeMaps (setBlock)

set_option linter.unusedVariables false
set_option linter.unusedSimpArgs false

theorem Tryz.infoPlaced9:(Tryz.prog.info? 68).map (fun i=>(i.zero,i.size,i.bytes))=some (some (.agg #[.int .i64 0,.bool false,.int .i64 0,.slice none 0 0]),4,48):=by kernel_rfl

theorem ZcO {P:Program}{o:Oper}{ev:Operand->Value}{w:World}(ty:TypeId)(x:Operand)(ho:o.op=.load ty x)
  (g:Nat) (hx:ev x=.pointer (some ⟨g,0,none⟩)) (t:TypeId) (cs:Array Value) (fr:Nat × Nat) (d:TypeDesc) (hg:w.heap[g]? = some (.cells cs t fr))
  (hu:P.underlying ty=some d) (hd:(match d with | .struct _ | .array _ _=>true | _=>false)=true) (hi:(P.info? ty).map (·.size)=some cs.size):(execOp ev o).run P w=.ok (.value (.agg cs)) w:=by
 unfold execOp;simp only [ho,hx,Instr.loadAt,Instr.sureAddr,Sem.run_bind,Sem.run_pure,Result.andThen_ok,run_loadVar_row w g t ty cs fr d hg hu hd hi]

def ZcT:Array Oper:=#[{ dst:=some 14,op:=Go.Op.move (Go.Operand.tmp 3),type:=43,pos := "l11_table.go:53",after:=#[],guard:=none }, { dst:=some 15,op:=Go.Op.load 39 (Go.Operand.tmp 5),type:=39,pos := "l11_table.go:53",after:=#[],guard:=none }, { dst:=some 16,op:=Go.Op.call { callee:=Go.Callee.value (Go.Operand.func 17),args:=#[Go.Operand.tmp 15],argTypes:=#[39] },type:=46,pos := "l11_table.go:53",after:=#[{ on:=1,ground:=Go.Ground.data }],guard:=none }, { dst:=some 17,op:=Go.Op.move (Go.Operand.tmp 3),type:=43,pos := "l11_table.go:53",after:=#[],guard:=none }, { dst:=some 18,op:=Go.Op.load 39 (Go.Operand.tmp 5),type:=39,pos := "l11_table.go:53",after:=#[],guard:=none }, { dst:=some 19,op:=Go.Op.call { callee:=Go.Callee.value (Go.Operand.func 17),args:=#[Go.Operand.tmp 18],argTypes:=#[39] },type:=46,pos := "l11_table.go:53",after:=#[{ on:=4,ground:=Go.Ground.data }, { on:=2,ground:=Go.Ground.chain }],guard:=none }, { dst:=some 20,op:=Go.Op.lookup 43 (Go.Operand.tmp 17) (Go.Operand.tmp 19) false,type:=66,pos := "l11_table.go:53",after:=#[{ on:=3,ground:=Go.Ground.data }, { on:=5,ground:=Go.Ground.data }],guard:=none }, { dst:=some 21,op:=Go.Op.move (Go.Operand.tmp 4),type:=3,pos := "l11_table.go:53",after:=#[],guard:=none }, { dst:=some 22,op:=Go.Op.load 39 (Go.Operand.tmp 5),type:=39,pos := "l11_table.go:53",after:=#[],guard:=none }, { dst:=some 23,op:=Go.Op.build 68 #[(0,Go.Operand.tmp 21),(1,Go.Operand.tmp 22)],type:=68,pos := "l11_table.go:53",after:=#[{ on:=7,ground:=Go.Ground.data }, { on:=8,ground:=Go.Ground.data }],guard:=none }, { dst:=some 24,op:=Go.Op.buildSlice 66 1 #[(0,Go.Operand.tmp 23)],type:=66,pos := "l11_table.go:53",after:=#[{ on:=9,ground:=Go.Ground.data }],guard:=none }, { dst:=some 25,op:=Go.Op.call { callee:=Go.Callee.builtin Go.Builtin.append,args:=#[Go.Operand.tmp 20,Go.Operand.tmp 24],argTypes:=#[66,66] },type:=66,pos := "l11_table.go:53",after:=#[{ on:=6,ground:=Go.Ground.data }, { on:=10,ground:=Go.Ground.data }, { on:=5,ground:=Go.Ground.chain }],guard:=none }, { dst:=none,op:=Go.Op.mapUpdate 43 (Go.Operand.tmp 14) (Go.Operand.tmp 16) (Go.Operand.tmp 25),type:=0,pos := "l11_table.go:53",after:=#[{ on:=0,ground:=Go.Ground.data }, { on:=2,ground:=Go.Ground.data }, { on:=11,ground:=Go.Ground.data }, { on:=11,ground:=Go.Ground.chain }, { on:=0,ground:=Go.Ground.phase }, { on:=1,ground:=Go.Ground.phase }, { on:=2,ground:=Go.Ground.phase }, { on:=3,ground:=Go.Ground.phase }, { on:=4,ground:=Go.Ground.phase }, { on:=5,ground:=Go.Ground.phase }, { on:=6,ground:=Go.Ground.phase }, { on:=7,ground:=Go.Ground.phase }, { on:=8,ground:=Go.Ground.phase }, { on:=9,ground:=Go.Ground.phase }, { on:=10,ground:=Go.Ground.phase }, { on:=11,ground:=Go.Ground.phase }],guard:=none }]

set_option maxRecDepth 100000 in
set_option maxHeartbeats 8000000 in
theorem lm_dag {t0 t1 t2 t6 t7 t8 t9 t10 t11 t12 t13 t14 t15 t16 t17 t18 t19 t20 t21 t22 t23 t24 t25 t26 t27:Value}(q m:Nat)(x:LnD)(hv:Value) (hone:∀ u∈Zbu ((0,(x,hv)):PlP),u.oneCell'=true) (pl:Int) (es:Array MapEntry) (clock:Nat) (ks:List (Bool × Int)) (w1:World) (Q:Exit->Act->World->Prop) (ops:Array Oper) (hops:Hid (ops=ZcT)) (hq:q<w1.heap.size) (hmw:m<w1.heap.size) (hqm:q≠m)
  (hcall:∀ W,Calls Tryz.prog 17 #[.agg #[.bool x.thing,.int .i64 x.to,hv]] W fun e w'=>e=.returned (kV x.thing x.to)/\Below W.heap.size W w')
  (HB:w1.heap[q]? = some (.cells #[.bool x.thing,.int .i64 x.to,hv] 39)) (HM:w1.heap[m]? = some (.map es clock)) (hks:es.toList.map (·.key)=ks.map (fun k=>kV k.1 k.2)) (hno:Zbe ks x.thing x.to=none)
  (hend:∀ W g1 v,Below w1.heap.size w1 W->W.ownsRow w1.heap.size 68 4 v 1 (Zbu ((pl,(x,hv)):PlP))->Q .normal { tmps:=#[t0,t1,t2,.map (some m),.int .i64 pl,.pointer (some ⟨q,0,none⟩),t6,t7,t8,t9,t10,t11,t12,t13,.map (some m),.agg #[.bool x.thing,.int .i64 x.to,hv],kV x.thing x.to,.map (some m),.agg #[.bool x.thing,.int .i64 x.to,hv],kV x.thing x.to,.slice none 0 0,.int .i64 pl,.agg #[.bool x.thing,.int .i64 x.to,hv],.agg #[.int .i64 pl,.bool x.thing,.int .i64 x.to,hv],(.slice (some ⟨g1,0,none⟩) 1 1),v,t26,t27],defers:=[] } (setBlock W m (.map (es.push ⟨kV x.thing x.to,v,clock⟩) (clock+1)))):
  wpAnyH Tryz.prog .any ops (NoPanic Q) (fun W=>W.heap[q]? = some (.cells #[.bool x.thing,.int .i64 x.to,hv] 39)) 13 #[false,false,false,false,false,false,false,false,false,false,false,false,false] { tmps:=#[t0,t1,t2,.map (some m),.int .i64 pl,.pointer (some ⟨q,0,none⟩),t6,t7,t8,t9,t10,t11,t12,t13,t14,t15,t16,t17,t18,t19,t20,t21,t22,t23,t24,t25,t26,t27],defers:=[] } w1:=by
 have hone:∀ u∈Zbu ((pl,(x,hv)):PlP),u.oneCell'=true:=by
  intro u hu;simp only [Zbu,YAR,List.not_mem_nil,or_false] at hu;rcases hu with rfl | rfl | rfl | rfl
  ·rfl
  ·rfl
  ·rfl
  ·exact hone _ (by simp [Zbu])
 have hHeld:=HB;have h31:∀ (W:World) (g1:Nat),Below w1.heap.size w1 W->W.heap[g1]? = some (.cells #[.int .i64 pl,.bool x.thing,.int .i64 x.to,hv] 68)->w1.heap.size<=g1->wpAnyH Tryz.prog .any ops (NoPanic Q) (fun W=>W.heap[q]? = some (.cells #[.bool x.thing,.int .i64 x.to,hv] 39)) 2 #[true,true,true,true,true,true,true,true,true,true,true,false,false] { tmps:=#[t0,t1,t2,.map (some m),.int .i64 pl,.pointer (some ⟨q,0,none⟩),t6,t7,t8,t9,t10,t11,t12,t13,.map (some m),.agg #[.bool x.thing,.int .i64 x.to,hv],kV x.thing x.to,.map (some m),.agg #[.bool x.thing,.int .i64 x.to,hv],kV x.thing x.to,.slice none 0 0,.int .i64 pl,.agg #[.bool x.thing,.int .i64 x.to,hv],.agg #[.int .i64 pl,.bool x.thing,.int .i64 x.to,hv],(.slice (some ⟨g1,0,none⟩) 1 1),t25,t26,t27],defers:=[] } W:=by
  intro W g1 g n1 l1;have gs:=g.size;refine wpAnyH_ready (rs:=[11]) (by rw [hops.out];kernel_rfl) (by simp) ?_;refine AllReadyH.cons (o:=?_) ?_ (fun K hK=>?_) ?_
  rotate_left 1
  ·rw [hops.out];unfold ZcT;simp only [getS];rfl
  ·rw [if_pos (by rfl)];refine ZdV Zds (by omega) (by omega) W _ _ 66 rfl w1.heap.size 68 Tryz.underlying66 (.agg #[.int .i64 0,.bool false,.int .i64 0,.slice none 0 0]) rfl Tryz.infoPlaced9 (.slice none 0 0) [] ((pl,(x,hv)):PlP) hone rfl (YAj _ _ _ _) ⟨g1,0,none⟩ 1 rfl ?_ (by simp) g.size ?_
   ·intro j u hj;rw [show ((⟨g1,0,none⟩:Addr).add j)=⟨g1,j,none⟩ by simp only [Addr.add];split <;> simp_all];have:=Zaa n1 j;rw [this];simpa [Zbu] using hj
   intro v w2 ho gr;have g2:=g.grown gr g.size (fun j hj=>by simp [Value.ownBlock] at hj);refine hK.out _ _ ((g2.block q hq).trans HB) (fun _=>?_)
   try simp only [putS]
   refine wpAnyH_ready (rs:=[12]) (by rw [hops.out];kernel_rfl) (by simp) ?_;refine AllReadyH.cons (o:=?_) ?_ (fun K hK=>?_) ?_
   rotate_left 1
   ·rw [hops.out];unfold ZcT;simp only [getS];rfl
   ·rw [if_pos (by rfl)];have hm:=(g2.block m hmw).trans HM;have hup:=Zjl w2 m es clock ks x.thing x.to v hm hks hno;have hE:=hend w2 g1 v g2 (by simpa [flat] using ho);have hSQ:(setBlock w2 m (.map (es.push ⟨kV x.thing x.to,v,clock⟩) (clock+1))).heap[q]? = some (.cells #[.bool x.thing,.int .i64 x.to,hv] 39):=(Go.ChangeMaps.heap_setBlock_other hm _ hqm).trans ((g2.block q hq).trans HB);go_simp;refine hK.out _ _ hSQ (fun _=>?_);exact wpAnyH_done (by rw [hops.out];kernel_rfl) (NoPanic.normal hE) _
   exact AllReadyH.nil
  exact AllReadyH.nil
 have h21:∀ (W:World) (g1:Nat),Below w1.heap.size w1 W->W.heap[g1]? = some (.cells #[.int .i64 pl,.bool x.thing,.int .i64 x.to,hv] 68)->w1.heap.size<=g1->wpAnyH Tryz.prog .any ops (NoPanic Q) (fun W=>W.heap[q]? = some (.cells #[.bool x.thing,.int .i64 x.to,hv] 39)) 3 #[true,true,true,true,true,true,false,true,true,true,true,false,false] { tmps:=#[t0,t1,t2,.map (some m),.int .i64 pl,.pointer (some ⟨q,0,none⟩),t6,t7,t8,t9,t10,t11,t12,t13,.map (some m),.agg #[.bool x.thing,.int .i64 x.to,hv],kV x.thing x.to,.map (some m),.agg #[.bool x.thing,.int .i64 x.to,hv],kV x.thing x.to,t20,.int .i64 pl,.agg #[.bool x.thing,.int .i64 x.to,hv],.agg #[.int .i64 pl,.bool x.thing,.int .i64 x.to,hv],(.slice (some ⟨g1,0,none⟩) 1 1),t25,t26,t27],defers:=[] } W:=by
  intro W g1 g n1 l1;have gs:=g.size;refine wpAnyH_ready (rs:=[6]) (by rw [hops.out];kernel_rfl) (by simp) ?_;refine AllReadyH.cons (o:=?_) ?_ (fun K hK=>?_) ?_
  rotate_left 1
  ·rw [hops.out];unfold ZcT;simp only [getS];rfl
  ·rw [if_pos (by rfl)];have hm:=(g.block m hmw).trans HM;have hlk:=Zey W m es clock ks x.thing x.to hm hks;rw [hno] at hlk;simp only [Option.bind_none] at hlk;go_simp;refine hK.out _ _ ((g.block q hq).trans HB) (fun _=>?_);exact h31 W g1 g n1 l1
  exact AllReadyH.nil
 have h11:∀ (W:World) (g1:Nat),Below w1.heap.size w1 W->W.heap[g1]? = some (.cells #[.int .i64 pl,.bool x.thing,.int .i64 x.to,hv] 68)->w1.heap.size<=g1->wpAnyH Tryz.prog .any ops (NoPanic Q) (fun W=>W.heap[q]? = some (.cells #[.bool x.thing,.int .i64 x.to,hv] 39)) 4 #[true,true,true,true,true,false,false,true,true,true,true,false,false] { tmps:=#[t0,t1,t2,.map (some m),.int .i64 pl,.pointer (some ⟨q,0,none⟩),t6,t7,t8,t9,t10,t11,t12,t13,.map (some m),.agg #[.bool x.thing,.int .i64 x.to,hv],kV x.thing x.to,.map (some m),.agg #[.bool x.thing,.int .i64 x.to,hv],t19,t20,.int .i64 pl,.agg #[.bool x.thing,.int .i64 x.to,hv],.agg #[.int .i64 pl,.bool x.thing,.int .i64 x.to,hv],(.slice (some ⟨g1,0,none⟩) 1 1),t25,t26,t27],defers:=[] } W:=by
  intro W g1 g n1 l1;have gs:=g.size;refine wpAnyH_ready (rs:=[5]) (by rw [hops.out];kernel_rfl) (by simp) ?_;refine AllReadyH.cons (o:=?_) ?_ (fun K hK=>?_) ?_
  rotate_left 1
  ·rw [hops.out];unfold ZcT;simp only [getS];rfl
  ·rw [if_pos (by rfl)];have hpk:=hcall W;go_simp;refine hpk.mono ?_;rintro e w2 ⟨rfl,b2⟩;have g2:=g.trans (b2.mono g.size);refine hK.out _ _ ((g2.block q hq).trans HB) (fun _=>?_);exact h21 w2 g1 g2 ((b2.block g1 (Zab n1)).trans n1) l1
  exact AllReadyH.nil
 have h01:∀ (W:World) (g1:Nat),Below w1.heap.size w1 W->W.heap[g1]? = some (.cells #[.int .i64 pl,.bool x.thing,.int .i64 x.to,hv] 68)->w1.heap.size<=g1->wpAnyH Tryz.prog .any ops (NoPanic Q) (fun W=>W.heap[q]? = some (.cells #[.bool x.thing,.int .i64 x.to,hv] 39)) 5 #[true,true,false,true,true,false,false,true,true,true,true,false,false] { tmps:=#[t0,t1,t2,.map (some m),.int .i64 pl,.pointer (some ⟨q,0,none⟩),t6,t7,t8,t9,t10,t11,t12,t13,.map (some m),.agg #[.bool x.thing,.int .i64 x.to,hv],t16,.map (some m),.agg #[.bool x.thing,.int .i64 x.to,hv],t19,t20,.int .i64 pl,.agg #[.bool x.thing,.int .i64 x.to,hv],.agg #[.int .i64 pl,.bool x.thing,.int .i64 x.to,hv],(.slice (some ⟨g1,0,none⟩) 1 1),t25,t26,t27],defers:=[] } W:=by
  intro W g1 g n1 l1;have gs:=g.size;refine wpAnyH_ready (rs:=[2]) (by rw [hops.out];kernel_rfl) (by simp) ?_;refine AllReadyH.cons (o:=?_) ?_ (fun K hK=>?_) ?_
  rotate_left 1
  ·rw [hops.out];unfold ZcT;simp only [getS];rfl
  ·rw [if_pos (by rfl)];have hpk:=hcall W;go_simp;refine hpk.mono ?_;rintro e w2 ⟨rfl,b2⟩;have g2:=g.trans (b2.mono g.size);refine hK.out _ _ ((g2.block q hq).trans HB) (fun _=>?_);exact h11 w2 g1 g2 ((b2.block g1 (Zab n1)).trans n1) l1
  exact AllReadyH.nil
 have h30:∀ (W:World) (g1:Nat),Below w1.heap.size w1 W->wpAnyH Tryz.prog .any ops (NoPanic Q) (fun W=>W.heap[q]? = some (.cells #[.bool x.thing,.int .i64 x.to,hv] 39)) 3 #[true,true,true,true,true,true,true,true,true,true,false,false,false] { tmps:=#[t0,t1,t2,.map (some m),.int .i64 pl,.pointer (some ⟨q,0,none⟩),t6,t7,t8,t9,t10,t11,t12,t13,.map (some m),.agg #[.bool x.thing,.int .i64 x.to,hv],kV x.thing x.to,.map (some m),.agg #[.bool x.thing,.int .i64 x.to,hv],kV x.thing x.to,.slice none 0 0,.int .i64 pl,.agg #[.bool x.thing,.int .i64 x.to,hv],.agg #[.int .i64 pl,.bool x.thing,.int .i64 x.to,hv],t24,t25,t26,t27],defers:=[] } W:=by
  intro W g1 g;have gs:=g.size;refine wpAnyH_ready (rs:=[10]) (by rw [hops.out];kernel_rfl) (by simp) ?_;refine AllReadyH.cons (o:=?_) ?_ (fun K hK=>?_) ?_
  rotate_left 1
  ·rw [hops.out];unfold ZcT;simp only [getS];rfl
  ·rw [if_pos (by rfl)];go_simp;have g2:=g.alloc g.size (.cells #[.int .i64 pl,.bool x.thing,.int .i64 x.to,hv] 68);refine hK.out _ _ ((g2.block q hq).trans HB) (fun _=>?_);exact h31 _ W.heap.size g2 (YAE W _) g.size
  exact AllReadyH.nil
 have h20:∀ (W:World) (g1:Nat),Below w1.heap.size w1 W->wpAnyH Tryz.prog .any ops (NoPanic Q) (fun W=>W.heap[q]? = some (.cells #[.bool x.thing,.int .i64 x.to,hv] 39)) 4 #[true,true,true,true,true,true,false,true,true,true,false,false,false] { tmps:=#[t0,t1,t2,.map (some m),.int .i64 pl,.pointer (some ⟨q,0,none⟩),t6,t7,t8,t9,t10,t11,t12,t13,.map (some m),.agg #[.bool x.thing,.int .i64 x.to,hv],kV x.thing x.to,.map (some m),.agg #[.bool x.thing,.int .i64 x.to,hv],kV x.thing x.to,t20,.int .i64 pl,.agg #[.bool x.thing,.int .i64 x.to,hv],.agg #[.int .i64 pl,.bool x.thing,.int .i64 x.to,hv],t24,t25,t26,t27],defers:=[] } W:=by
  intro W g1 g;have gs:=g.size;refine wpAnyH_ready (rs:=[6,10]) (by rw [hops.out];kernel_rfl) (by simp) ?_;refine AllReadyH.cons (o:=?_) ?_ (fun K hK=>?_) ?_
  rotate_left 1
  ·rw [hops.out];unfold ZcT;simp only [getS];rfl
  ·rw [if_pos (by rfl)];have hm:=(g.block m hmw).trans HM;have hlk:=Zey W m es clock ks x.thing x.to hm hks;rw [hno] at hlk;simp only [Option.bind_none] at hlk;go_simp;refine hK.out _ _ ((g.block q hq).trans HB) (fun _=>?_);exact h30 W g1 g
  refine AllReadyH.cons (o:=?_) ?_ (fun K hK=>?_) ?_
  rotate_left 1
  ·rw [hops.out];unfold ZcT;simp only [getS];rfl
  ·rw [if_pos (by rfl)];go_simp;have g2:=g.alloc g.size (.cells #[.int .i64 pl,.bool x.thing,.int .i64 x.to,hv] 68);refine hK.out _ _ ((g2.block q hq).trans HB) (fun _=>?_);exact h21 _ W.heap.size g2 (YAE W _) g.size
  exact AllReadyH.nil
 have h10:∀ (W:World) (g1:Nat),Below w1.heap.size w1 W->wpAnyH Tryz.prog .any ops (NoPanic Q) (fun W=>W.heap[q]? = some (.cells #[.bool x.thing,.int .i64 x.to,hv] 39)) 5 #[true,true,true,true,true,false,false,true,true,true,false,false,false] { tmps:=#[t0,t1,t2,.map (some m),.int .i64 pl,.pointer (some ⟨q,0,none⟩),t6,t7,t8,t9,t10,t11,t12,t13,.map (some m),.agg #[.bool x.thing,.int .i64 x.to,hv],kV x.thing x.to,.map (some m),.agg #[.bool x.thing,.int .i64 x.to,hv],t19,t20,.int .i64 pl,.agg #[.bool x.thing,.int .i64 x.to,hv],.agg #[.int .i64 pl,.bool x.thing,.int .i64 x.to,hv],t24,t25,t26,t27],defers:=[] } W:=by
  intro W g1 g;have gs:=g.size;refine wpAnyH_ready (rs:=[5,10]) (by rw [hops.out];kernel_rfl) (by simp) ?_;refine AllReadyH.cons (o:=?_) ?_ (fun K hK=>?_) ?_
  rotate_left 1
  ·rw [hops.out];unfold ZcT;simp only [getS];rfl
  ·rw [if_pos (by rfl)];have hpk:=hcall W;go_simp;refine hpk.mono ?_;rintro e w2 ⟨rfl,b2⟩;have g2:=g.trans (b2.mono g.size);refine hK.out _ _ ((g2.block q hq).trans HB) (fun _=>?_);exact h20 w2 g1 g2
  refine AllReadyH.cons (o:=?_) ?_ (fun K hK=>?_) ?_
  rotate_left 1
  ·rw [hops.out];unfold ZcT;simp only [getS];rfl
  ·rw [if_pos (by rfl)];go_simp;have g2:=g.alloc g.size (.cells #[.int .i64 pl,.bool x.thing,.int .i64 x.to,hv] 68);refine hK.out _ _ ((g2.block q hq).trans HB) (fun _=>?_);exact h11 _ W.heap.size g2 (YAE W _) g.size
  exact AllReadyH.nil
 have h00:∀ (W:World) (g1:Nat),Below w1.heap.size w1 W->wpAnyH Tryz.prog .any ops (NoPanic Q) (fun W=>W.heap[q]? = some (.cells #[.bool x.thing,.int .i64 x.to,hv] 39)) 6 #[true,true,false,true,true,false,false,true,true,true,false,false,false] { tmps:=#[t0,t1,t2,.map (some m),.int .i64 pl,.pointer (some ⟨q,0,none⟩),t6,t7,t8,t9,t10,t11,t12,t13,.map (some m),.agg #[.bool x.thing,.int .i64 x.to,hv],t16,.map (some m),.agg #[.bool x.thing,.int .i64 x.to,hv],t19,t20,.int .i64 pl,.agg #[.bool x.thing,.int .i64 x.to,hv],.agg #[.int .i64 pl,.bool x.thing,.int .i64 x.to,hv],t24,t25,t26,t27],defers:=[] } W:=by
  intro W g1 g;have gs:=g.size;refine wpAnyH_ready (rs:=[2,10]) (by rw [hops.out];kernel_rfl) (by simp) ?_;refine AllReadyH.cons (o:=?_) ?_ (fun K hK=>?_) ?_
  rotate_left 1
  ·rw [hops.out];unfold ZcT;simp only [getS];rfl
  ·rw [if_pos (by rfl)];have hpk:=hcall W;go_simp;refine hpk.mono ?_;rintro e w2 ⟨rfl,b2⟩;have g2:=g.trans (b2.mono g.size);refine hK.out _ _ ((g2.block q hq).trans HB) (fun _=>?_);exact h10 w2 g1 g2
  refine AllReadyH.cons (o:=?_) ?_ (fun K hK=>?_) ?_
  rotate_left 1
  ·rw [hops.out];unfold ZcT;simp only [getS];rfl
  ·rw [if_pos (by rfl)];go_simp;have g2:=g.alloc g.size (.cells #[.int .i64 pl,.bool x.thing,.int .i64 x.to,hv] 68);refine hK.out _ _ ((g2.block q hq).trans HB) (fun _=>?_);exact h01 _ W.heap.size g2 (YAE W _) g.size
  exact AllReadyH.nil
 refine Zax 0 ?_ ?_ ?_ (by rw [hops.out];kernel_rfl) ?_ ?_ (by assumption) ?_
 rotate_left 2
 ·rw [hops.out];unfold ZcT;simp only [getS];rfl
 ·intro W hW;(try dsimp only at hW);go_simp <;> with_reducible rfl
 ·exact fun _ _ _=>id
 try simp only [putS]
 refine Zax 1 ?_ ?_ ?_ (by rw [hops.out];kernel_rfl) ?_ ?_ (by assumption) ?_
 rotate_left 2
 ·rw [hops.out];unfold ZcT;simp only [getS];rfl
 ·intro W hW;refine ZcO 39 (.tmp 5) ?_ q ?_ 39 _ (0,0) _ hW Tryz.underlying39 rfl (by kernel_rfl) <;> rfl
 ·exact fun _ _ _=>id
 try simp only [putS]
 refine Zax 3 ?_ ?_ ?_ (by rw [hops.out];kernel_rfl) ?_ ?_ (by assumption) ?_
 rotate_left 2
 ·rw [hops.out];unfold ZcT;simp only [getS];rfl
 ·intro W hW;(try dsimp only at hW);go_simp <;> with_reducible rfl
 ·exact fun _ _ _=>id
 try simp only [putS]
 refine Zax 4 ?_ ?_ ?_ (by rw [hops.out];kernel_rfl) ?_ ?_ (by assumption) ?_
 rotate_left 2
 ·rw [hops.out];unfold ZcT;simp only [getS];rfl
 ·intro W hW;refine ZcO 39 (.tmp 5) ?_ q ?_ 39 _ (0,0) _ hW Tryz.underlying39 rfl (by kernel_rfl) <;> rfl
 ·exact fun _ _ _=>id
 try simp only [putS]
 refine Zax 7 ?_ ?_ ?_ (by rw [hops.out];kernel_rfl) ?_ ?_ (by assumption) ?_
 rotate_left 2
 ·rw [hops.out];unfold ZcT;simp only [getS];rfl
 ·intro W hW;(try dsimp only at hW);go_simp <;> with_reducible rfl
 ·exact fun _ _ _=>id
 try simp only [putS]
 refine Zax 8 ?_ ?_ ?_ (by rw [hops.out];kernel_rfl) ?_ ?_ (by assumption) ?_
 rotate_left 2
 ·rw [hops.out];unfold ZcT;simp only [getS];rfl
 ·intro W hW;refine ZcO 39 (.tmp 5) ?_ q ?_ 39 _ (0,0) _ hW Tryz.underlying39 rfl (by kernel_rfl) <;> rfl
 ·exact fun _ _ _=>id
 try simp only [putS]
 refine Zax 9 ?_ ?_ ?_ (by rw [hops.out];kernel_rfl) ?_ ?_ (by assumption) ?_
 rotate_left 2
 ·rw [hops.out];unfold ZcT;simp only [getS];rfl
 ·intro W hW;(try dsimp only at hW);go_simp <;> with_reducible rfl
 ·exact fun _ _ _=>id
 try simp only [putS]
 exact h00 w1 0 (YAB _ _)
end Go.Proofs.YtdhnddfnckgbjaaGreat
namespace Go.Proofs.YtdhnddfnckgbjaaGreat
open Go.RowKit
set_option linter.unusedSimpArgs false
set_option linter.unusedVariables false
set_option maxRecDepth 100000
set_option maxHeartbeats 8000000
variable {x:LnD}
abbrev TQ:=Bool × Bool × Int × (Option Addr × Nat × Nat)
def encT (q:TQ):List Value:=[.bool q.1,.bool q.2.1,.int .i64 q.2.2.1,.slice q.2.2.2.1 q.2.2.2.2.1 q.2.2.2.2.2]
theorem Zhs (q:TQ):(encT q).length=4:=rfl
theorem Zht (q:TQ):∀ u∈encT q,u.oneCell'=true:=by
 intro u hu;simp only [encT,YAR,List.not_mem_nil,or_false] at hu;rcases hu with rfl | rfl | rfl | rfl <;> rfl
theorem Tryz.infoTn :(Tryz.prog.info? 41).map (fun i=>(i.zero,i.size,i.bytes))=some (some (.agg #[.bool false,.bool false,.int .i64 0,.slice none 0 0]),4,48):=by kernel_rfl
theorem Zi9 {xs:List LnD}(h:hasK xs x=true):0<=idxZ xs x.thing x.to:=by
 rcases Zb4 xs x.thing x.to with h1 | ⟨k,y,h1,_⟩
 ·exfalso;obtain⟨y,hy,hk⟩:=Zes.1 h;unfold idxZ at h1;cases e:xs.findIdx? (isLn x.thing x.to) with
  | some i=>rw [e] at h1;simp only [] at h1;omega
  | none=>
   rw [List.findIdx?_eq_none_iff] at e;have:=e y hy;rw [Zfx] at hk;simp [isLn,hk.1,hk.2] at this
 ·omega
def ZeT (a b:List LnD)(k:Nat):Nat:=((a.take k).filter (fun x => !hasK b x)).length
def newN (a b:List LnD)(k:Nat):Nat:=((b.take k).filter (fun x => !a.contains x)).length
theorem Zkw {a b:List LnD}{k:Nat}(h:a[k]? = some x):ZeT a b (k+1)=ZeT a b k+(if hasK b x then 0 else 1):=by
 obtain⟨hk,e⟩:=YAD.1 h;unfold ZeT;rw [YAJ hk,List.filter_append,e];cases hc:hasK b x <;> simp [hc]
theorem Zl0 {a b:List LnD}{k:Nat}(h:b[k]? = some x):newN a b (k+1)=newN a b k+(if a.contains x then 0 else 1):=by
 obtain⟨hk,e⟩:=YAD.1 h;unfold newN;rw [YAJ hk,List.filter_append,e];cases hc:a.contains x <;> simp [hc,List.filter_cons, -List.contains_eq_mem]
theorem Zer (a b:List LnD)(k:Nat):ZeT a b k<=k:=by
 unfold ZeT;exact YAG (List.length_filter_le _ _) (by simp;omega)
theorem Zjf (a b:List LnD)(k:Nat):newN a b k<=k:=by
 unfold newN;exact YAG (List.length_filter_le _ _) (by simp;omega)
theorem ZgK (a b:List LnD):(Zbn a b).length=ZeT a b a.length+newN a b b.length:=by
 unfold Zbn ZeT newN;rw [YAX,YAX];simp
theorem Zjp (v1 v2:Value)(ps qs:List JP)(lo:Nat)(w:World)(h1:Zb8 w v1 ps w.heap.size)(h2:LnsOwn w lo w.heap.size v2 qs)(hk1:ZaP (Zag ps))(hn:totJ ps<=1048576)(hm:totJ qs<=1048576):
  Calls Tryz.prog 13 #[v1,v2] w fun e w'=>∃ a c,e=.returned (.slice a (Zbn (Zag ps) (Zag qs)).length c)/\Below w.heap.size w w':=by
 have hln:=Zbj ps;have hlm:=Zbj qs;obtain⟨a1,c1,rfl⟩:=h1.shape;obtain⟨a2,c2,rfl⟩:=h2.at.shape;have H1:=hide h1;have H2:=hide h2;have HA:=hide (show (Zag ps).length=ps.length by simp [Zag]);have HB:=hide (show (Zag qs).length=qs.length by simp [Zag]);have HKD:=hide hk1;clear h1 h2 hk1
 go_enter Tryz.func13,Tryz.ntmps13
 go_wp2;have BL:=(YAB w.heap.size w).alloc (YA _) (.cells #[] 41);have OL:=hide (show (w.alloc (.cells #[] 41)).ownsRow w.heap.size 41 4 (.slice (some ⟨w.heap.size,0,none⟩) 0 0) ([]:List TQ).length (flat encT []) from YAU w #[] 0 (YA _) (by unfold maxLen;omega) (by simp))
 go_loopw [5,6] (fun s i wr=>∃ (k:Nat) (l:List TQ),k<=ps.length/\i=.int .i64 k/\Hid (l.length=ZeT (Zag ps) (Zag qs) k)/\Hid (wr.ownsRow w.heap.size 41 4 s l.length (flat encT l))/\Below w.heap.size w wr) (fun _ i _=>ps.length-(intOf i).toNat)
 case atStart=>exact ⟨0,[],by omega,rfl,hide (by simp [ZeT]),OL,BL⟩
 case round=>
  clear BL OL;obtain⟨k,l,hk,rfl,HL,HO,hnx⟩:=hrel;have hsz:=hnx.size;obtain⟨sa,sc,rfl⟩:=Zac HO.out;by_cases hlt:k<ps.length
  ·obtain ⟨p,hp⟩:∃ p,ps[k]? = some p:=⟨ps[k],YAA hlt⟩;obtain⟨b,off,cp,hve,hbb,c0,c1',c2',hh⟩:=H1.out.cells k p hp;obtain⟨rfl,rfl⟩:a1=some ⟨b,off,none⟩/\c1=cp:=by cases hve;exact⟨rfl,rfl⟩
   obtain⟨u1,u2,hpe⟩:=Zal.shape hh;rw [hpe] at c2';have A1:=hide (fun W (hb:Below w.heap.size w W)=>Zdz (.slice a2 qs.length c2) qs p.1 (.slice u1 p.1.hops.length u2) W (H2.out.at.then hb) (by omega));unfold lnC at A1;have C0:=hide c0;have C1:=hide c1';replace c0:=(hnx.cell hbb).trans c0;rw [<-hnx.cell (p:=⟨b,off+k*3+1,none⟩) hbb] at c1';rw [<-hnx.cell (p:=⟨b,off+k*3+2,none⟩) hbb] at c2';have hki:(0:Int)<=(k:Int):=by omega
   have hkj:(k:Int)<(ps.length:Int):=by omega
   have hb1:b<w.heap.size:=hbb;have HST:=hide (Zkw (b:=Zag qs) (Zc7 hp));obtain⟨z,hz⟩:∃ z,z=idxZ (Zag qs) p.1.thing p.1.to:=⟨_,rfl⟩;rw [<-hz] at A1;clear hp hve hh hpe;cases hK:hasK (Zag qs) p.1 with
   | true=>
    have hz0:¬z<0:=by have:=Zi9 hK;omega
    have HK:=hide hK;clear hz hK
    go_wp2_with fail
    refine (A1.out _ hnx).mono ?_;rintro e w1 ⟨rfl,b1⟩;go_wp2;go_roundw
    case rel=>exact ⟨k+1,l,by omega,by go_num,hide (by rw [HST.out,HK.out,HL.out];simp),hide (Zad HO.out b1 (YA _)),hnx.trans (b1.mono hsz)⟩
    case measure=>simp [intOf];omega
   | false=>
    have hz0:z<0:=by have:=Zi7 hK;omega
    have HK:=hide hK;clear hz hK
    go_wp2_with fail
    refine (A1.out _ hnx).mono ?_;rintro e w1 ⟨rfl,b1⟩;have B1:Below w.heap.size w w1:=hnx.trans (b1.mono hsz);have O1:=hide (Zad HO.out b1 (YA _));clear c0 c1' c2' b1;have B1D:=B1.drew;have s1:=B1D.size;go_wp2;refine wp_region_noPanic ?_;refine Zah (S:=(fun W=>W.cell? ⟨b,off+k*3,none⟩=some (.bool p.1.thing)/\W.cell? ⟨b,off+k*3+1,none⟩=some (.int .i64 p.1.to))) (by kernel_rfl) 16 rfl ⟨(B1D.cell (p:=⟨b,off+k*3,none⟩) hb1).trans C0.out,(B1D.cell (p:=⟨b,off+k*3+1,none⟩) hb1).trans C1.out⟩ (fun ops hops HSW=>?_)
    iterate 13
     refine Zmq 16 ?_ ?_ ?_ (by rw [hops.out];kernel_rfl) ?_ ?_ (by assumption) ?_
     rotate_left 2
     ·rw [hops.out];simp only [getS,Nat.reduceSub,Nat.reduceAdd];rfl
     ·intro W hW;obtain⟨m1,m2⟩:=hW;go_simp <;> with_reducible rfl
     ·exact fun _ _ _=>id
     try simp only [putS]
    refine TC 13 ?_;intro K hK;go_simp;have B2D:=B1D.alloc s1 (.cells #[.bool true,.bool p.1.thing,.int .i64 p.1.to,.slice none 0 0] 41);refine hK.out _ _ ⟨(B2D.cell (p:=⟨b,off+k*3,none⟩) hb1).trans C0.out,(B2D.cell (p:=⟨b,off+k*3+1,none⟩) hb1).trans C1.out⟩ (fun HSW=>?_);clear hK
    try simp only [putS]
    refine TC 14 ?_;intro K hK;refine ZdV Zhs (by omega) (by omega) _ _ _ 27 rfl w.heap.size 41 Tryz.underlying27 (.agg #[.bool false,.bool false,.int .i64 0,.slice none 0 0]) rfl Tryz.infoTn _ l ((true,p.1.thing,p.1.to,(none,0,0)):TQ) (Zht _) rfl (World.ownsRow.alloc (w:=w1.drew) O1.out _) ⟨w1.heap.size,0,none⟩ 1 rfl ?_ (by have:=HL.out;have:=Zer (Zag ps) (Zag qs) k;omega) B2D.size ?_
    ·exact Zak (w:=w1.drew) (cs:=encT ((true,p.1.thing,p.1.to,(none,0,0)):TQ))
    intro v' w9 ho9 gr9;have B9:Below w.heap.size w w9:=B2D.grown gr9 B2D.size (fun j hj=>(O1.out.lt j hj).1);refine hK.out _ _ ⟨(B9.cell (p:=⟨b,off+k*3,none⟩) hb1).trans C0.out,(B9.cell (p:=⟨b,off+k*3+1,none⟩) hb1).trans C1.out⟩ (fun HSW=>?_);clear hK
    try simp only [putS]
    refine Zax 15 ?_ ?_ ?_ (by rw [hops.out];kernel_rfl) ?_ ?_ (by assumption) ?_
    rotate_left 2
    ·rw [hops.out];simp only [getS];rfl
    ·intro W hW;obtain⟨m1,m2⟩:=hW;go_simp <;> with_reducible rfl
    ·exact fun _ _ _=>id
    try simp only [putS]
    have HO9:=hide ho9;refine wpAnyH_done (by rw [hops.out];kernel_rfl) (NoPanic.normal ?_) _;clear hops ops HSW ho9 gr9 B2D B1D;go_wp2;go_roundw
    case rel=>exact ⟨k+1,l++[((true,p.1.thing,p.1.to,(none,0,0)):TQ)],by omega,by go_num,hide (by rw [HST.out,HK.out,YAM,HL.out];simp),HO9,B9⟩
    case measure=>simp [intOf];omega
  ·have hlt':¬(k:Int)<(ps.length:Int):=by omega
   have hkp:k=ps.length:=by omega
   have HL1:=hide (show l.length=ZeT (Zag ps) (Zag qs) (Zag ps).length+newN (Zag ps) (Zag qs) 0 by rw [HL.out,HA.out,hkp];simp [newN]);have hl0:l.length<=ps.length:=by have:=HL.out;have:=Zer (Zag ps) (Zag qs) k;omega
   obtain⟨wo,rfl⟩:∃ wo:World,wo=wr:=⟨_,rfl⟩;clear hkp HL;go_wp2;clear hlt hlt' hk
   go_loopw [5,7] (fun s i wr=>∃ (k:Nat) (l:List TQ),k<=qs.length/\i=.int .i64 k/\Hid (l.length=ZeT (Zag ps) (Zag qs) (Zag ps).length+newN (Zag ps) (Zag qs) k)/\Hid (wr.ownsRow w.heap.size 41 4 s l.length (flat encT l))/\Below w.heap.size w wr) (fun _ i _=>qs.length-(intOf i).toNat)
   case atStart=>exact ⟨0,l,by omega,rfl,HL1,HO,hnx⟩
   case round=>
    clear HL1 HO hnx hsz hl0;obtain⟨k,l,hk,rfl,HL,HO,hnx⟩:=hrel;have hsz:=hnx.size;obtain⟨sa,sc,rfl⟩:=Zac HO.out;by_cases hlt:k<qs.length
    ·obtain ⟨q,hq⟩:∃ q,qs[k]? = some q:=⟨qs[k],YAA hlt⟩;obtain⟨b,off,cp,hve,hbb,e0,e1,e2,hh⟩:=H2.out.at.cells k q hq;obtain⟨rfl,rfl⟩:a2=some ⟨b,off,none⟩/\c2=cp:=by cases hve;exact⟨rfl,rfl⟩
     obtain⟨u1,u2,hpe⟩:=Zal.shape hh;rw [hpe] at e2;have A1:=hide (fun W (hb:Below w.heap.size w W)=>Zdz (.slice a1 ps.length c1) ps q.1 (.slice u1 q.1.hops.length u2) W (H1.out.then hb) (by omega));unfold lnC at A1;have E0:=hide e0;have E1:=hide e1;have E2:=hide e2;replace e0:=(hnx.cell hbb).trans e0;replace e1:=(hnx.cell hbb).trans e1;replace e2:=(hnx.cell hbb).trans e2;have hki:(0:Int)<=(k:Int):=by omega
     have hkj:(k:Int)<(qs.length:Int):=by omega
     have hb1:b<w.heap.size:=hbb;have HST:=hide (Zl0 (a:=Zag ps) (Zc7 hq));have HQT:=hide (ZbO (YAF hq));have HQO:=hide (H2.out.nears q (YAF hq)).1;rw [hpe] at hh HQO;have HHQ:=hide hh;clear hq hve hpe hh;rcases Zb4 (Zag ps) q.1.thing q.1.to with hz | ⟨kk,x,hz,hx,hix⟩
     ·have HC:=hide (show (Zag ps).contains q.1=false by
       cases hc:(Zag ps).contains q.1 with
       | false=>rfl
       | true=>
        exfalso;have hm:q.1∈Zag ps:=by simpa using hc
        have:=Zi9 (Zes.2 ⟨q.1,hm,Zdy q.1⟩);omega)
      rw [hz] at A1;clear hz
      go_wp2_with fail
      refine (A1.out _ hnx).mono ?_;rintro e w1 ⟨rfl,b1⟩;have B1:Below w.heap.size w w1:=hnx.trans (b1.mono hsz);have HO1:=hide (Zad HO.out b1 (YA _));clear e0 e1 e2 b1;go_wp2;refine wp_region_noPanic ?_;refine Zah (S:=fun _=>True) (by kernel_rfl) 16 rfl trivial (fun ops hops HSW=>?_)
      iterate 3 (refine TK 16 ?_;try simp only [putS])
      iterate 12 (refine TS 16 ?_;try simp only [putS])
      refine TK 16 ?_
      try simp only [putS]
      refine wpAnyH_done (by rw [hops.out];kernel_rfl) (NoPanic.normal ?_) _;clear hops ops HSW;have e0:=(B1.drew.cell (p:=⟨b,off+k*3,none⟩) hb1).trans E0.out;have e1:=(B1.drew.cell (p:=⟨b,off+k*3+1,none⟩) hb1).trans E1.out;have e2:=(B1.drew.cell (p:=⟨b,off+k*3+2,none⟩) hb1).trans E2.out
      go_wp2_with fail
      refine (Zem q.1 (.slice u1 q.1.hops.length u2) lo _ (Zad HQO.out B1.drew (YA _)) (by have:=HQT.out;omega)).mono ?_;rintro e w7 ⟨vh,rfl,ohv,b7⟩;obtain⟨n1,n2,rfl⟩:=Zac ohv;have B7:Below w.heap.size w w7:=B1.drew.trans (b7.mono (B1.drew).size);have HO7:=hide (Zad (show w1.drew.ownsRow w.heap.size 41 4 (.slice sa l.length sc) l.length (flat encT l) from HO1.out) b7 (YA _));have s7:=B7.size;unfold lnC;clear b7 ohv e0 e1 e2
      go_wp2_with (first | (at_builtin;refine Zaz Zhs (by omega) Zht (by omega) _ rfl _ _ 27 rfl w.heap.size 41 Tryz.underlying27 (.agg #[.bool false,.bool false,.int .i64 0,.slice none 0 0]) rfl Tryz.infoTn (.slice sa l.length sc) l ((false,q.1.thing,q.1.to,(n1,q.1.hops.length,n2)):TQ) rfl (HO7.out.alloc _) ⟨w7.heap.size,0,none⟩ 1 rfl (Zak (cs:=encT ((false,q.1.thing,q.1.to,(n1,q.1.hops.length,n2)):TQ))) (by have:=HL.out;have:=Zer (Zag ps) (Zag qs) (Zag ps).length;have:=Zjf (Zag ps) (Zag qs) k;have:=HA.out;omega) (by simp;omega) ?_))
      intro v9 w9 l9 hl9 ho9 gr9;have B9:Below w.heap.size w w9:=(B7.alloc B7.size _).grown gr9 (B7.alloc B7.size _).size (fun j hj=>(HO7.out.lt j hj).1);have HO9:=hide ho9;have HL9:=hide (show l9.length=ZeT (Zag ps) (Zag qs) (Zag ps).length+newN (Zag ps) (Zag qs) (k+1) by rw [hl9.out,HST.out,HC.out,YAM,HL.out];simp;omega);clear ho9 gr9 hl9;go_wp2;go_roundw
      case rel=>exact ⟨k+1,l9,by omega,by go_num,HL9,HO9,B9⟩
      case measure=>simp [intOf];omega
     ·obtain ⟨p5,hp5,ex⟩:=ZeR hx;have hkl:kk<ps.length:=(YAD.1 hp5).1;obtain⟨b5,off5,cp5,hve,hb5,_,_,d2,hd⟩:=H1.out.cells kk p5 hp5;obtain⟨rfl,rfl⟩:a1=some ⟨b5,off5,none⟩/\c1=cp5:=by cases hve;exact⟨rfl,rfl⟩
      obtain⟨u5,u6,hde⟩:=Zal.shape hd;rw [hde] at d2 hd;rw [ex] at d2 hd;have D2:=hide d2;have hxl:x.hops.length<=1048576:=by have:=ZbO (YAF hp5);rw [ex] at this;omega
      have S1:=hide (fun W (hb:Below w.heap.size w W)=>Ze3 (.slice u5 x.hops.length u6) (.slice u1 q.1.hops.length u2) x.hops q.1.hops W (Zal.then hd hb).ints (Zal.then HHQ.out hb).ints hxl);have hmx:x∈Zag ps:=YAF hx;have hky:keyB q.1 x=true:=by simpa [isLn,keyB] using hix
      obtain⟨R,hR⟩:∃ R,R=decide (x.hops=q.1.hops):=⟨_,rfl⟩;rw [<-hR] at S1;have HC:=hide (show (Zag ps).contains q.1=R by
       rw [hR,Bool.eq_iff_iff,decide_eq_true_iff];constructor
       ·intro hc;have hm:q.1∈Zag ps:=by simpa using hc
        rw [HKD.out.one hm hmx hky]
       ·intro hc;have e:q.1=x:=by
         rw [Zfx] at hky;obtain⟨t1,t2,t3⟩:=x;obtain⟨⟨r1,r2,r3⟩,r4⟩:=q;simp only [] at hky hc;simp only [LnD.mk.injEq];exact⟨hky.1.symm,hky.2.symm,hc.symm⟩
        rw [e];simpa using hmx)
      rw [hz] at A1;have hRR:R=true\/R=false:=by cases R <;> simp
      clear hR;rcases hRR with rfl | rfl
      all_goals
       have hk0:(0:Int)<=(kk:Int):=by omega
       have hk9:(kk:Int)<(ps.length:Int):=by omega
       have hz1:¬(kk:Int)<0:=by omega
       clear hz hx hix hp5 ex hve d2 hd hde hmx hky
       go_wp2_with fail
       refine (A1.out _ hnx).mono ?_;rintro e w1 ⟨rfl,b1⟩;have B1:Below w.heap.size w w1:=hnx.trans (b1.mono hsz);have HO1:=hide (Zad HO.out b1 (YA _));have B1D:=B1.drew;clear e0 e1 e2 b1;go_wp2;refine wp_region_noPanic ?_;refine Zah (S:=(fun W=>W.cell? ⟨b5,off5+kk*3+2,none⟩=some (.slice u5 x.hops.length u6)/\W.cell? ⟨b,off+k*3+2,none⟩=some (.slice u1 q.1.hops.length u2))) (by kernel_rfl) 16 rfl ⟨(B1D.cell (p:=⟨b5,off5+kk*3+2,none⟩) hb5).trans D2.out,(B1D.cell (p:=⟨b,off+k*3+2,none⟩) hb1).trans E2.out⟩ (fun ops hops HSW=>?_)
       iterate 13
        refine Zmq 16 ?_ ?_ ?_ (by rw [hops.out];kernel_rfl) ?_ ?_ (by assumption) ?_
        rotate_left 2
        ·rw [hops.out];simp only [getS,Nat.reduceSub,Nat.reduceAdd];rfl
        ·intro W hW;obtain⟨m1,m2⟩:=hW;go_simp <;> with_reducible rfl
        ·exact fun _ _ _=>id
        try simp only [putS]
       refine TC 13 ?_;intro K hK;go_simp;refine (S1.out _ B1D).mono ?_;rintro e w3 ⟨rfl,b3⟩;have B3:=B1D.trans (b3.mono B1D.size);refine hK.out _ _ ⟨(B3.cell (p:=⟨b5,off5+kk*3+2,none⟩) hb5).trans D2.out,(B3.cell (p:=⟨b,off+k*3+2,none⟩) hb1).trans E2.out⟩ (fun HSW=>?_);clear hK
       try simp only [putS]
       refine Zax 14 ?_ ?_ ?_ (by rw [hops.out];kernel_rfl) ?_ ?_ (by assumption) ?_
       rotate_left 2
       ·rw [hops.out];simp only [getS];rfl
       ·intro W hW;obtain⟨m1,m2⟩:=hW;go_simp <;> with_reducible rfl
       ·exact fun _ _ _=>id
       try simp only [putS]
       refine Zax 15 ?_ ?_ ?_ (by rw [hops.out];kernel_rfl) ?_ ?_ (by assumption) ?_
       rotate_left 2
       ·rw [hops.out];simp only [getS];rfl
       ·intro W hW;obtain⟨m1,m2⟩:=hW;go_simp <;> with_reducible rfl
       ·exact fun _ _ _=>id
       try simp only [putS]
       have HO3:=hide (Zad (show w1.drew.ownsRow w.heap.size 41 4 (.slice sa l.length sc) l.length (flat encT l) from HO1.out) b3 (YA _));refine wpAnyH_done (by rw [hops.out];kernel_rfl) (NoPanic.normal ?_) _;clear hops ops HSW b3;have e0:=(B3.cell (p:=⟨b,off+k*3,none⟩) hb1).trans E0.out;have e1:=(B3.cell (p:=⟨b,off+k*3+1,none⟩) hb1).trans E1.out;have e2:=(B3.cell (p:=⟨b,off+k*3+2,none⟩) hb1).trans E2.out
      ·go_wp2;go_roundw
       case rel=>exact ⟨k+1,l,by omega,by go_num,hide (by rw [HST.out,HC.out,HL.out];simp),HO3,B3⟩
       case measure=>simp [intOf];omega
      ·go_wp2_with fail
       refine (Zem q.1 (.slice u1 q.1.hops.length u2) lo _ (Zad HQO.out B3 (YA _)) (by have:=HQT.out;omega)).mono ?_;rintro e w7 ⟨vh,rfl,ohv,b7⟩;obtain⟨n1,n2,rfl⟩:=Zac ohv;have B7:Below w.heap.size w w7:=B3.trans (b7.mono (B3).size);have HO7:=hide (Zad HO3.out b7 (YA _));have s7:=B7.size;unfold lnC;clear b7 ohv e0 e1 e2
       go_wp2_with (first | (at_builtin;refine Zaz Zhs (by omega) Zht (by omega) _ rfl _ _ 27 rfl w.heap.size 41 Tryz.underlying27 (.agg #[.bool false,.bool false,.int .i64 0,.slice none 0 0]) rfl Tryz.infoTn (.slice sa l.length sc) l ((false,q.1.thing,q.1.to,(n1,q.1.hops.length,n2)):TQ) rfl (HO7.out.alloc _) ⟨w7.heap.size,0,none⟩ 1 rfl (Zak (cs:=encT ((false,q.1.thing,q.1.to,(n1,q.1.hops.length,n2)):TQ))) (by have:=HL.out;have:=Zer (Zag ps) (Zag qs) (Zag ps).length;have:=Zjf (Zag ps) (Zag qs) k;have:=HA.out;omega) (by simp;omega) ?_))
       intro v9 w9 l9 hl9 ho9 gr9;have B9:Below w.heap.size w w9:=(B7.alloc B7.size _).grown gr9 (B7.alloc B7.size _).size (fun j hj=>(HO7.out.lt j hj).1);have HO9:=hide ho9;have HL9:=hide (show l9.length=ZeT (Zag ps) (Zag qs) (Zag ps).length+newN (Zag ps) (Zag qs) (k+1) by rw [hl9.out,HST.out,HC.out,YAM,HL.out];simp;omega);clear ho9 gr9 hl9;go_wp2;go_roundw
       case rel=>exact ⟨k+1,l9,by omega,by go_num,HL9,HO9,B9⟩
       case measure=>simp [intOf];omega
    ·have hlt':¬(k:Int)<(qs.length:Int):=by omega
     have hkq:k=qs.length:=by omega
     have HLF:=hide (show l.length=(Zbn (Zag ps) (Zag qs)).length by rw [ZgK,HB.out,HL.out,hkq]);have HV:=hide (show Ending.returned (.slice sa l.length sc)=.returned (.slice sa (Zbn (Zag ps) (Zag qs)).length sc) by rw [HLF.out]);clear hkq;go_wp2;go_ret
     first | exact ⟨_,_,HV.out,hnx⟩ | exact ⟨⟨_,_,HV.out⟩,hnx⟩
end Go.Proofs.YtdhnddfnckgbjaaGreat
