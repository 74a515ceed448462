/-
  MergeS WSt HinI ThgI
-/
import Derived.Test.YtadokhjefnkajaaGreatIe26
import Derived.Test.YtadokhjefnkajaaGreatIe17
import Derived.Test.YtadokhjefnkajaaGreatIe3
import Derived.Test.YtadokhjefnkajaaGreatIe14
import Derived.Test.YtadokhjefnkajaaGreatIe27
import Derived.Test.YtadokhjefnkajaaGreatIe11
import Derived.Test.YtadokhjefnkajaaGreatIe4
import Derived.Test.YtadokhjefnkajaaGreatIe13
namespace Go.Proofs.YtadokhjefnkajaaGreat
open Go.RowKit
set_option linter.unusedSimpArgs false
set_option linter.unusedVariables false
set_option maxRecDepth 100000
set_option maxHeartbeats 8000000
theorem Zpc (f:RP->Bool)(ps:List RP):tot (ps.filter f)<=tot ps:=by
 induction ps with
 | nil=>simp [tot]
 | cons p ps ih=>
  rw [List.filter_cons]
  split
  ·rw [Zb9,Zb9];omega
  ·rw [Zb9];omega
theorem Zp3 (f g:RP->Bool)(hfg:∀ p,f p=true->g p=false)(ps:List RP):tot (ps.filter f)+tot (ps.filter g)<=tot ps:=by
 induction ps with
 | nil=>simp [tot]
 | cons p ps ih=>
  have:=hfg p;by_cases hf:f p=true
  ·have hg:=this hf
   simp only [List.filter_cons,hf,hg,if_true,Bool.false_eq_true,if_false,Zb9]
   omega
  ·have hf':f p=false:=by simpa using hf
   by_cases hg:g p=true
   ·simp only [List.filter_cons,hf',hg,if_true,Bool.false_eq_true,if_false,Zb9]
    omega
   ·have hg':g p=false:=by simpa using hg
    simp only [List.filter_cons,hf',hg',Bool.false_eq_true,if_false,Zb9]
    omega
theorem Zdg {x y:RecD}(h:Zam x y=true):Zam y x=false:=by
 unfold Zam at *;simp only [Bool.or_eq_true,Bool.and_eq_true,decide_eq_true_eq,beq_iff_eq] at h
 simp only [Bool.or_eq_false_iff,Bool.and_eq_false_iff,decide_eq_false_iff_not,beq_eq_false_iff_ne]
 omega
theorem Zie (ps:List RP)(r:RP):tot (putL ps r)<=tot ps+(1+r.1.near.length):=by
 unfold putL;rw [ZcE,ZcE];have h:=Zp3 (fun p=>Zam p.1 r.1) (fun p=>Zam r.1 p.1) (fun p hp=>Zdg hp) ps
 have e:tot [r]=1+r.1.near.length:=by simp [tot]
 omega
def Zdz (xs:List RecD)(area:Int)(u v:Nat):Int:=if (1<=u/\u<=6)/\(1<=v/\v<=6) then ZlD xs area u v else 0
theorem Zga {ns:List Nr}{bk:Int->Int}{v:Nat}(h:∀ n∈ns,1<=n.c/\n.c<=1000):∀ k,0<=ZdA ns bk v k/\ZdA ns bk v k<=1000
 | 0=>by simp [ZdA]
 | k+1=>by
  have ih:=Zga (bk:=bk) (v:=v) h k;cases e:ns[k]? with
  | none=>
   have:ZdA ns bk v (k+1)=ZdA ns bk v k:=by
    show (match ns[k]? with
     | some n=>if n.to=(v:Int)/\inB n.to 1 6=true/\0<bk n.to then n.c else ZdA ns bk v k
     | none=>ZdA ns bk v k)=_
    rw [e]
   rw [this];exact ih
  | some n=>
   rw [ZdW bk v e];have:=h n (List.mem_of_getElem? e)
   split
   ·omega
   ·exact ih
theorem Zdr {α:Type}{ok:α->Bool}{ls:List α}(h:ZbJ ok ls=true){a:α}(ha:a∈ls):ok a=true:=by
 obtain⟨k,hk,e⟩:=List.mem_iff_getElem.1 ha;unfold ZbJ at h;rw [List.all_eq_true] at h;have:=h k (by simpa using hk)
 unfold okAt at this;rw [List.getElem?_eq_getElem hk,e] at this;exact this
theorem Zgr {x:RecD}(h:ZaX x=true):x.near=[]\/(x.kind=1/\Zbi x.owner x.near=true):=by
 unfold ZaX at h;simp only [Bool.and_eq_true] at h
 have h2:=h.2
 split at h2
 ·rename_i e
  simp only [Bool.and_eq_true] at h2
  exact .inr ⟨e,h2.1.1.2⟩
 ·split at h2
  ·simp only [Bool.and_eq_true,beq_iff_eq] at h2
   exact .inl (List.eq_nil_of_length_eq_zero h2.1.1.2)
  ·split at h2
   ·simp only [Bool.and_eq_true,beq_iff_eq] at h2
    exact .inl (List.eq_nil_of_length_eq_zero h2.1.2)
   ·cases h2
theorem Zgq {x:RecD}(h:ZaX x=true):∀ n∈x.near,1<=n.c/\n.c<=1000:=by
 intro n hn
 rcases Zgr h with e | ⟨_,e⟩
 ·rw [e] at hn;cases hn
 ·unfold Zbi at e
  simp only [Bool.and_eq_true] at e
  have:=Zdr e.1 hn;unfold Zch at this;simp only [Bool.and_eq_true] at this
  exact Zdx.1 this.2
theorem ZiG {xs:List RecD}{r:RecD}:ZeI xs r∈xs\/ZeI xs r=Za6:=by
 rcases Zdt xs r with hz | ⟨j,y,hz,hy,_⟩
 ·exact .inr (ZeJ hz).1
 ·rw [(ZhM hz hy).1];exact .inl (List.mem_of_getElem? hy)
theorem Zgk {xs:List RecD}{area node:Int}(h:ZaI xs=true):∀ n∈(Zci xs area node).near,1<=n.c/\n.c<=1000:=by
 intro n hn;unfold Zci at hn
 rcases ZiG (xs:=xs) (r:=ZfA area node) with hm | he
 ·unfold ZaI at h
  simp only [Bool.and_eq_true] at h
  have hr:=Zdr h.1.2 hm;exact Zgq hr n hn
 ·rw [he] at hn;cases hn
theorem Zej {xs:List RecD}{area:Int}(h:ZaI xs=true):Links (Zdz xs area) 1000:=by
 refine⟨fun u v=>?_,fun u v=>?_,fun u v hl=>?_⟩
 ·unfold Zdz;split
  ·exact (Zga (Zgk h) _).1
  ·omega
 ·unfold Zdz;split
  ·exact (Zga (Zgk h) _).2
  ·omega
 ·unfold Zdz at hl
  split at hl
  ·rename_i e;exact e
  ·omega
def Zmw (c:Nat->Int)(i:Nat):Value:=.int .i64 (if i=0 then 0 else c i)
def doneV (F:Nat->Bool)(i:Nat):Value:=.bool (F i)
def upd {α:Type}(f:Nat->α)(v:Nat)(x:α)(i:Nat):α:=if i=v then x else f i
theorem Zax {α:Type}(f:Nat->α)(v:Nat)(x:α):upd f v x v=x:=by simp [upd]
theorem Zao {α:Type}(f:Nat->α){v i:Nat}(x:α)(h:i≠v):upd f v x i=f i:=by simp [upd,h]
structure SSt (W:World) (g b:Nat) (o:Nat->Nat->Int) (F:Nat->Bool) (c:Nat->Int) (h:Nat->List Int) (hv:Nat->Value):Prop where
 gb:g<b
 ln:W.heap[g]? = some (.cells (rowA (ZgJ o) 49) 3)
 cs:W.heap[b]? = some (.cells (rowA (Zmw c) 7) 3)
 hs:W.heap[b+1]? = some (.cells (rowA hv 7) 28)
 ds:W.heap[b+1+1]? = some (.cells (rowA (doneV F) 7) 4)
 rows:∀ v,W.ownsRow (b+3) 3 1 (hv v) (h v).length (flat intE (h v))
 short:∀ v,(h v).length<=6
theorem SSt.size {W:World}{g b:Nat}{o:Nat->Nat->Int}{F:Nat->Bool}{c:Nat->Int}{h:Nat->List Int}{hv:Nat->Value}(s:SSt W g b o F c h hv):b+3<=W.heap.size:=by
 have:=Zab s.ds;omega
theorem SSt.below {W W':World}{g b:Nat}{o:Nat->Nat->Int}{F:Nat->Bool}{c:Nat->Int}{h:Nat->List Int}{hv:Nat->Value}(s:SSt W g b o F c h hv)(hb:Below W.heap.size W W'):SSt W' g b o F c h hv:=
 ⟨s.gb,(hb.block _ (Zab s.ln)).trans s.ln,(hb.block _ (Zab s.cs)).trans s.cs,(hb.block _ (Zab s.hs)).trans s.hs,(hb.block _ (Zab s.ds)).trans s.ds,fun v=>Zae (s.rows v) hb (Nat.le_refl _),s.short⟩
theorem SSt.cost {W:World}{g b:Nat}{o:Nat->Nat->Int}{F:Nat->Bool}{c:Nat->Int}{h:Nat->List Int}{hv:Nat->Value}(s:SSt W g b o F c h hv){v:Nat}(h1:1<=v)(h6:v<=6):W.cell? ⟨b,v,none⟩=some (.int .i64 (c v)):=by
 rw [Ze1 s.cs (by omega)];unfold Zmw;rw [if_neg (by omega)]
theorem SSt.done {W:World}{g b:Nat}{o:Nat->Nat->Int}{F:Nat->Bool}{c:Nat->Int}{h:Nat->List Int}{hv:Nat->Value}(s:SSt W g b o F c h hv){v:Nat}(h6:v<=6):W.cell? ⟨b+1+1,v,none⟩=some (.bool (F v)):=by
 rw [Ze1 s.ds (by omega)];rfl
theorem SSt.hop {W:World}{g b:Nat}{o:Nat->Nat->Int}{F:Nat->Bool}{c:Nat->Int}{h:Nat->List Int}{hv:Nat->Value}(s:SSt W g b o F c h hv){v:Nat}(h6:v<=6):W.cell? ⟨b+1,v,none⟩=some (hv v):=Ze1 s.hs (by omega)
theorem SSt.link {W:World}{g b:Nat}{o:Nat->Nat->Int}{F:Nat->Bool}{c:Nat->Int}{h:Nat->List Int}{hv:Nat->Value}(s:SSt W g b o F c h hv){u v:Nat}(h5:u<=6)(h6:v<=6):W.cell? ⟨g,u*7+v,none⟩=some (.int .i64 (o u v)):=ZkL s.ln h5 h6
theorem SSt.setC {W:World}{g b:Nat}{o:Nat->Nat->Int}{F:Nat->Bool}{c:Nat->Int}{h:Nat->List Int}{hv:Nat->Value}(s:SSt W g b o F c h hv){v:Nat}(h1:1<=v)(x:Int):SSt (W.setCell ⟨b,v,none⟩ (.int .i64 x)) g b o F (upd c v x) h hv:=by
 have hg:=s.gb;refine⟨s.gb,(heap_setCell_other W ⟨b,v,none⟩ g _ (by show g≠b;omega)).trans s.ln,?_,(heap_setCell_other W ⟨b,v,none⟩ (b+1) _ (by show b+1≠b;omega)).trans s.hs,(heap_setCell_other W ⟨b,v,none⟩ (b+1+1) _ (by show b+1+1≠b;omega)).trans s.ds,fun u=>Zbe (s.rows u) (by omega),s.short⟩
 rw [ZfK s.cs,Zdc (fun i _=>?_)]
 unfold Zmw upd;by_cases e:i=v
 ·subst e;rw [if_pos rfl,if_neg (by omega),if_pos rfl]
 ·rw [if_neg e];simp [e]
theorem SSt.setD {W:World}{g b:Nat}{o:Nat->Nat->Int}{F:Nat->Bool}{c:Nat->Int}{h:Nat->List Int}{hv:Nat->Value}(s:SSt W g b o F c h hv)(v:Nat):SSt (W.setCell ⟨b+1+1,v,none⟩ (.bool true)) g b o (fun x=>F x||x==v) c h hv:=by
 have hg:=s.gb;refine⟨s.gb,(heap_setCell_other W ⟨b+1+1,v,none⟩ g _ (by show g≠b+1+1;omega)).trans s.ln,(heap_setCell_other W ⟨b+1+1,v,none⟩ b _ (by show b≠b+1+1;omega)).trans s.cs,(heap_setCell_other W ⟨b+1+1,v,none⟩ (b+1) _ (by show b+1≠b+1+1;omega)).trans s.hs,?_,fun u=>Zbe (s.rows u) (by omega),s.short⟩
 rw [ZfK s.ds,Zdc (fun i _=>?_)]
 unfold doneV;by_cases e:i=v
 ·subst e;simp
 ·simp [e]
theorem SSt.setH {W:World}{g b:Nat}{o:Nat->Nat->Int}{F:Nat->Bool}{c:Nat->Int}{h:Nat->List Int}{hv:Nat->Value}(s:SSt W g b o F c h hv)(v:Nat){x:Value}{l:List Int}(hx:W.ownsRow (b+3) 3 1 x l.length (flat intE l))(hl:l.length<=6):SSt (W.setCell ⟨b+1,v,none⟩ x) g b o F c (upd h v l) (upd hv v x):=by
 have hg:=s.gb;refine⟨s.gb,(heap_setCell_other W ⟨b+1,v,none⟩ g _ (by show g≠b+1;omega)).trans s.ln,(heap_setCell_other W ⟨b+1,v,none⟩ b _ (by show b≠b+1;omega)).trans s.cs,?_,(heap_setCell_other W ⟨b+1,v,none⟩ (b+1+1) _ (by show b+1+1≠b+1;omega)).trans s.ds,fun u=>?_,fun u=>?_⟩
 ·rw [ZfK s.hs];rfl
 ·unfold upd
  by_cases e:u=v
  ·rw [if_pos e,if_pos e];exact Zbe hx (by omega)
  ·rw [if_neg e,if_neg e];exact Zbe (s.rows u) (by omega)
 ·unfold upd
  by_cases e:u=v
  ·rw [if_pos e];exact hl
  ·rw [if_neg e];exact s.short u
theorem SSt.congr {W:World}{g b:Nat}{o:Nat->Nat->Int}{F:Nat->Bool}{c d:Nat->Int}{h:Nat->List Int}{hv:Nat->Value}(s:SSt W g b o F c h hv)(hc:∀ v,1<=v->v<=6->d v=c v):SSt W g b o F d h hv:=by
 refine⟨s.gb,s.ln,?_,s.hs,s.ds,s.rows,s.short⟩
 rw [s.cs,Zdc (fun i hi=>?_)]
 unfold Zmw;by_cases e:i=0
 ·rw [if_pos e,if_pos e]
 ·rw [if_neg e,if_neg e,hc i (by omega) (by omega)]
theorem SSt.start {W:World}{g:Nat}{o:Nat->Nat->Int} (hg:W.heap[g]? = some (.cells (rowA (ZgJ o) 49) 3)):
  SSt (((W.alloc (.cells (rowA (fun _=>.int .i64 0) 7) 3)).alloc (.cells (rowA (fun _=>.slice none 0 0) 7) 28)).alloc (.cells (rowA (fun _=>.bool false) 7) 4)) g W.heap.size o (fun _=>false) (fun _=>0) (fun _=>[]) (fun _=>.slice none 0 0):=by
 have hlt:=Zab hg;refine⟨hlt,?_,?_,?_,?_,fun v=>World.ownsRow_nil _ _ _ _,by simp⟩
 ·rw [Below.heap_alloc _ _ _ (by simp;omega),Below.heap_alloc _ _ _ (by simp;omega),Below.heap_alloc _ _ _ hlt];exact hg
 ·rw [Below.heap_alloc _ _ _ (by simp;omega),Below.heap_alloc _ _ _ (by simp),heap_alloc_new,Zdc (fun i _=>?_)]
  unfold Zmw;simp
 ·rw [Below.heap_alloc _ _ _ (by simp)]
  have e:=heap_alloc_new (W.alloc (.cells (rowA (fun _=>.int .i64 0) 7) 3)) (.cells (rowA (fun _=>.slice none 0 0) 7) 28)
  rw [show (W.alloc (.cells (rowA (fun _=>.int .i64 0) 7) 3)).heap.size=W.heap.size+1 by simp] at e
  exact e
 ·have e:=heap_alloc_new ((W.alloc (.cells (rowA (fun _=>.int .i64 0) 7) 3)).alloc (.cells (rowA (fun _=>.slice none 0 0) 7) 28)) (.cells (rowA (fun _=>.bool false) 7) 4)
  rw [show ((W.alloc (.cells (rowA (fun _=>.int .i64 0) 7) 3)).alloc (.cells (rowA (fun _=>.slice none 0 0) 7) 28)).heap.size=W.heap.size+1+1 by simp] at e
  exact e
theorem Zhr (a b:List Int)(x:Int):∀ k:Nat,x∈addT a b k↔(1<=x/\x<=(k:Int)/\(x∈a\/x∈b))
 | 0=>by simp [addT];omega
 | k+1=>by
  unfold addT;rw [List.mem_append,Zhr a b x k];by_cases e:(k:Int)+1∈a\/(k:Int)+1∈b
  ·rw [if_pos e]
   simp only [List.mem_singleton]
   constructor
   ·rintro (⟨h1,h2,h3⟩ | rfl)
    ·exact ⟨h1,by omega,h3⟩
    ·exact ⟨by omega,by omega,e⟩
   ·rintro ⟨h1,h2,h3⟩
    by_cases e2:x=(k:Int)+1
    ·exact .inr e2
    ·exact .inl ⟨h1,by omega,h3⟩
  ·rw [if_neg e]
   simp only [List.not_mem_nil,or_false]
   constructor
   ·rintro ⟨h1,h2,h3⟩;exact⟨h1,by omega,h3⟩
   ·rintro ⟨h1,h2,h3⟩
    refine⟨h1,?_,h3⟩
    by_cases e2:x=(k:Int)+1
    ·subst e2;exact absurd h3 e
    ·omega
theorem Zku (a b:List Int):∀ k:Nat,(addT a b k).Pairwise (· < ·)
 | 0=>by simp [addT]
 | k+1=>by
  unfold addT;rw [List.pairwise_append];refine⟨Zku a b k,by split <;> simp,?_⟩
  intro x hx y hy;have h1:=(Zhr a b x k).1 hx
  split at hy
  ·simp at hy;omega
  ·cases hy
theorem ZfC {a b:List Int}{x:Int}:x∈addL a b↔(1<=x/\x<=6/\(x∈a\/x∈b)):=Zhr a b x 6
theorem ZfB (a b:List Int):(addL a b).Pairwise (· < ·):=Zku a b 6
theorem Zcu (a b:List Int):(addL a b).length<=6:=Zhq a b 6
def wayL (src:Nat)(h:Nat->List Int)(u v:Nat):List Int:=if u=src then [(v:Int)] else h u
theorem Zih {src:Nat}{h:Nat->List Int}{u v:Nat}{x:Int}:x∈wayL src h u v↔Zdd src h u v x:=by
 unfold wayL Zdd;by_cases e:u=src
 ·rw [if_pos e];simp [e]
 ·rw [if_neg e];simp [e]
def Zby (L:Nat->Nat->Int)(src:Nat)(c:Nat->Int)(h:Nat->List Int)(u v:Nat):List Int:=
 if 0<L u v then (if c v<0\/c u+L u v<c v then addL [] (wayL src h u v) else if c u+L u v=c v then addL (h v) (wayL src h u v) else h v) else h v
theorem Zes {L:Nat->Nat->Int}{K:Int}{src:Nat}{F:Nat->Bool}{c:Nat->Int}{h:Nat->List Int}(I:Inv L src F c h)(hL:Links L K){u:Nat}(hu:0<=c u)(v:Nat):RelaxH L src c h u v (Zby L src c h u v):=by
 have hrng:∀ x,0<L u v->Zdd src h u v x->1<=x/\x<=6:=by
  intro x hl ho
  rcases ho with ⟨_,rfl⟩ | ⟨_,h2⟩
  ·have:=(hL.node u v hl).2;unfold ZcH at this;omega
  ·exact I.rng u x h2
 have hneg:c v<0->∀ x,x ∉ h v:=by
  intro hc x hx;by_cases e:v=src
  ·subst e;rw [I.start0] at hx;cases hx
  ·have:=((I.hop v e x).1 hx).1;omega
 unfold Zby;by_cases h1:0<L u v
 ·rw [if_pos h1]
  by_cases h2:c v<0\/c u+L u v<c v
  ·rw [if_pos h2]
   have e:ZaA L c u v=c u+L u v:=by unfold ZaA;rw [if_pos ⟨h1,h2⟩]
   refine⟨ZfB _ _,fun x=>?_⟩
   rw [ZfC,e,Zih]
   constructor
   ·rintro ⟨_,_,h5 | h5⟩
    ·cases h5
    ·exact .inr ⟨h1,rfl,h5⟩
   ·rintro (⟨h5,h6⟩ | ⟨_,_,h5⟩)
    ·omega
    ·have:=hrng x h1 h5;exact⟨this.1,this.2,.inr h5⟩
  ·rw [if_neg h2]
   have e:ZaA L c u v=c v:=by unfold ZaA;rw [if_neg (fun hc=>h2 hc.2)]
   by_cases h3:c u+L u v=c v
   ·rw [if_pos h3]
    refine⟨ZfB _ _,fun x=>?_⟩
    rw [ZfC,e,Zih]
    constructor
    ·rintro ⟨_,_,h5 | h5⟩
     ·exact .inl ⟨h5,rfl⟩
     ·exact .inr ⟨h1,h3.symm,h5⟩
    ·rintro (⟨h5,_⟩ | ⟨_,_,h5⟩)
     ·have:=I.rng v x h5;exact⟨this.1,this.2,.inl h5⟩
     ·have:=hrng x h1 h5;exact⟨this.1,this.2,.inr h5⟩
   ·rw [if_neg h3]
    refine⟨I.asc v,fun x=>?_⟩
    rw [e]
    constructor
    ·intro h5;exact .inl ⟨h5,rfl⟩
    ·rintro (⟨h5,_⟩ | ⟨_,h6,_⟩)
     ·exact h5
     ·omega
 ·rw [if_neg h1]
  have e:ZaA L c u v=c v:=by unfold ZaA;rw [if_neg (fun hc=>h1 hc.1)]
  refine⟨I.asc v,fun x=>?_⟩
  rw [e]
  constructor
  ·intro h5;exact .inl ⟨h5,rfl⟩
  ·rintro (⟨h5,_⟩ | ⟨h6,_⟩)
   ·exact h5
   ·exact absurd h6 h1
def mixC (L:Nat->Nat->Int)(c:Nat->Int)(u j v:Nat):Int:=if v<j then ZaA L c u v else c v
def mixH (L:Nat->Nat->Int)(src:Nat)(c:Nat->Int)(h:Nat->List Int)(u j v:Nat):List Int:=if v<j then Zby L src c h u v else h v
theorem ZkR {L:Nat->Nat->Int}{K:Int}(hL:Links L K)(c:Nat->Int)(u:Nat):mixC L c u 1=c:=by
 funext v
 unfold mixC;by_cases e:v<1
 ·rw [if_pos e]
  unfold ZaA;rw [if_neg (fun hc=>by have:=(hL.node u v hc.1).2;unfold ZcH at this;omega)]
 ·rw [if_neg e]
theorem ZkT {L:Nat->Nat->Int}{K:Int}(hL:Links L K)(src:Nat)(c:Nat->Int)(h:Nat->List Int)(u:Nat):mixH L src c h u 1=h:=by
 funext v
 unfold mixH;by_cases e:v<1
 ·rw [if_pos e]
  unfold Zby;rw [if_neg (fun hc=>by have:=(hL.node u v hc).2;unfold ZcH at this;omega)]
 ·rw [if_neg e]
theorem Zc9 (L:Nat->Nat->Int)(c:Nat->Int)(u j:Nat):mixC L c u (j+1)=upd (mixC L c u j) j (ZaA L c u j):=by
 funext v
 unfold upd
 show (if v<j+1 then ZaA L c u v else c v)=if v=j then ZaA L c u j else if v<j then ZaA L c u v else c v
 by_cases e:v=j
 ·rw [if_pos (by omega),if_pos e,e]
 ·rw [if_neg e]
  by_cases e2:v<j
  ·rw [if_pos e2,if_pos (by omega)]
  ·rw [if_neg e2,if_neg (by omega)]
theorem Zb5 (L:Nat->Nat->Int)(src:Nat)(c:Nat->Int)(h:Nat->List Int)(u j:Nat):mixH L src c h u (j+1)=upd (mixH L src c h u j) j (Zby L src c h u j):=by
 funext v
 unfold upd
 show (if v<j+1 then Zby L src c h u v else h v)=if v=j then Zby L src c h u j else if v<j then Zby L src c h u v else h v
 by_cases e:v=j
 ·rw [if_pos (by omega),if_pos e,e]
 ·rw [if_neg e]
  by_cases e2:v<j
  ·rw [if_pos e2,if_pos (by omega)]
  ·rw [if_neg e2,if_neg (by omega)]
theorem Zc8 {L:Nat->Nat->Int}{c:Nat->Int}{u j:Nat}:mixC L c u j j=c j:=by
 unfold mixC;rw [if_neg (by omega)]
theorem ZeT {L:Nat->Nat->Int}{src:Nat}{c:Nat->Int}{h:Nat->List Int}{u j:Nat}:mixH L src c h u j j=h j:=by
 unfold mixH;rw [if_neg (by omega)]
theorem Zpq {α:Type}(f:Nat->α)(v:Nat):upd f v (f v)=f:=by
 funext i
 unfold upd;by_cases e:i=v
 ·rw [if_pos e,e]
 ·rw [if_neg e]
theorem ZcM {L:Nat->Nat->Int}{c:Nat->Int}{u j:Nat}(e:ZaA L c u j=c j):mixC L c u (j+1)=mixC L c u j:=by
 rw [Zc9,e, <-Zc8 (L:=L) (c:=c) (u:=u) (j:=j),Zpq]
theorem ZeS {L:Nat->Nat->Int}{src:Nat}{c:Nat->Int}{h:Nat->List Int}{u j:Nat}(e:Zby L src c h u j=h j):mixH L src c h u (j+1)=mixH L src c h u j:=by
 rw [Zb5,e, <-ZeT (L:=L) (src:=src) (c:=c) (h:=h) (u:=u) (j:=j),Zpq]
theorem ZkQ {L:Nat->Nat->Int}{K:Int}(hL:Links L K)(c:Nat->Int)(u:Nat):mixC L c u 7=fun v=>ZaA L c u v:=by
 funext v
 unfold mixC;by_cases e:v<7
 ·rw [if_pos e]
 ·rw [if_neg e]
  unfold ZaA;rw [if_neg (fun hc=>by have:=(hL.node u v hc.1).2;unfold ZcH at this;omega)]
theorem ZkS {L:Nat->Nat->Int}{K:Int}(hL:Links L K)(src:Nat)(c:Nat->Int)(h:Nat->List Int)(u:Nat):mixH L src c h u 7=fun v=>Zby L src c h u v:=by
 funext v
 unfold mixH;by_cases e:v<7
 ·rw [if_pos e]
 ·rw [if_neg e]
  unfold Zby;rw [if_neg (fun hc=>by have:=(hL.node u v hc).2;unfold ZcH at this;omega)]
theorem Zer {L:Nat->Nat->Int}{src:Nat}{c:Nat->Int}{h:Nat->List Int}{u v:Nat}(e:¬0<L u v):Zby L src c h u v=h v/\ZaA L c u v=c v:=by
 unfold Zby ZaA;rw [if_neg e,if_neg (fun hc=>e hc.1)]
 exact⟨rfl,rfl⟩
theorem Zdn {L:Nat->Nat->Int}{src:Nat}{c:Nat->Int}{h:Nat->List Int}{u v:Nat}(h0:0<=c v)(e:c v<c u+L u v):Zby L src c h u v=h v/\ZaA L c u v=c v:=by
 unfold Zby ZaA
 constructor
 ·split
  ·rw [if_neg (by omega),if_neg (by omega)]
  ·rfl
 ·rw [if_neg (by omega)]
theorem ZcP {L:Nat->Nat->Int}{src:Nat}{c:Nat->Int}{h:Nat->List Int}{u v:Nat}(hl:0<L u v)(e:c v<0\/c u+L u v<c v):Zby L src c h u v=addL [] (wayL src h u v)/\ZaA L c u v=c u+L u v:=by
 unfold Zby ZaA;rw [if_pos hl,if_pos e,if_pos ⟨hl,e⟩];exact⟨rfl,rfl⟩
theorem Zeq {L:Nat->Nat->Int}{src:Nat}{c:Nat->Int}{h:Nat->List Int}{u v:Nat}(hl:0<L u v)(h0:0<=c v)(e:c u+L u v=c v):Zby L src c h u v=addL (h v) (wayL src h u v)/\ZaA L c u v=c v:=by
 unfold Zby ZaA;rw [if_pos hl,if_neg (by omega),if_pos e,if_neg (by omega)]
 exact⟨rfl,rfl⟩
def hinD (ls:List Lk)(id a:Int)(es:List (Int × Int)):List Nr:=(es.filter (fun e=>e.2==a)).map (fun e=>⟨e.1,Zcw ls id e.1 a⟩)
theorem Zok {ls:List Lk}{id a:Int}{es:List (Int × Int)}{k:Nat}{e:Int × Int}(h:es[k]? = some e):hinD ls id a (es.take (k+1))=hinD ls id a (es.take k)++(if e.2==a then [⟨e.1,Zcw ls id e.1 a⟩] else []):=by
 obtain⟨hk,he⟩:=List.getElem?_eq_some_iff.1 h;unfold hinD;rw [List.take_succ_eq_append_getElem hk,he,List.filter_append,List.map_append]
 congr 1
 by_cases h1:(e.2==a)=true
 ·simp [h1]
 ·simp [h1]
theorem ZmI (ls:List Lk)(id a:Int)(es:List (Int × Int)):(hinD ls id a es).length<=es.length:=by
 unfold hinD;rw [List.length_map];exact List.length_filter_le _ _
theorem ZjK (v1 v2 v3 v4:Value)(x:SelfD)(a:Int)(w:World)(hl:x.net.ls.length<=1048576)(hh:x.heard.length<=1048576)(h1:ZaS w v1 x.net.ls w.heap.size)(h3:ZaM w v3 x.heard w.heap.size):
  Calls Tryz.prog 149 #[Zkh x v1 v2 v3 v4,.int .i64 a] w fun e w'=>∃ u,e=.returned u/\w'.ownsRow w.heap.size 107 2 u (hinD x.net.ls x.id a (ZaJ x.heard)).length (flat nrE (hinD x.net.ls x.id a (ZaJ x.heard)))/\Below w.heap.size w w':=by
 obtain⟨a1,c1,rfl⟩:=ZaS.shape h1;obtain⟨a3,c3,rfl⟩:=h3.shape;have HC:=hide (fun W (hb:Below w.heap.size w W) (t:Int)=>ZmN (.int .i64 x.net.n) (.slice a1 x.net.ls.length c1) v2 x.net.ls x.id t a W hl (ZaE.then h1 hb))
 have HE:=hide (fun W (hb:Below w.heap.size w W)=>ZhO (.slice a3 x.heard.length c3) x.heard W hh (h3.then hb))
 have hpl:=ZeZ x.heard;have HPL:=hide hpl;clear h1 h3 hpl;have G0:=hide (heap_alloc_new w (.cells #[.int .i64 x.id,.int .i64 x.boot,.int .i64 x.net.n,.slice a1 x.net.ls.length c1,v2,.slice a3 x.heard.length c3,v4] 31));have B0:Below w.heap.size w (w.alloc (.cells #[.int .i64 x.id,.int .i64 x.boot,.int .i64 x.net.n,.slice a1 x.net.ls.length c1,v2,.slice a3 x.heard.length c3,v4] 31)):=(Below.refl _ _).alloc (Nat.le_refl _) _;obtain⟨es,hes⟩:∃ es,es=ZaJ x.heard:=⟨_,rfl⟩;rw [<-hes] at HE HPL |-;clear hes
 go_enter Tryz.func149,Tryz.ntmps149
 go_wp2_with fail
 refine (HE.out _ B0).mono ?_
 rintro e w1 ⟨u,rfl,hu,b1⟩;obtain⟨ea,ec,rfl⟩:=Zac hu;have B1:Below w.heap.size w w1:=B0.trans (b1.mono B0.size);have hlt0:=Zab G0.out;have hg1:=(b1.block _ hlt0).trans G0.out;have G1:=hide hg1;have hs1:=b1.size;have hz1:w.heap.size<w1.heap.size:=Zab hg1;have EA:=hide (show ZgR w1 (.slice ea es.length ec) es w1.heap.size from Zap hu)
 have z0:=Zaa hg1 0;have z2:=Zaa hg1 2;have z3:=Zaa hg1 3;have z4:=Zaa hg1 4;simp at z0 z2 z3 z4
 clear hg1 hu b1 G0 B0 HE hlt0
 go_wp2
 go_loopw [12,5] (fun i o wr=>∃ (k:Nat) (u:Value),k<=es.length/\i=.int .i64 k/\o=u/\Hid (wr.ownsRow w1.heap.size 107 2 u (hinD x.net.ls x.id a (es.take k)).length (flat nrE (hinD x.net.ls x.id a (es.take k))))/\Below w1.heap.size w1 wr) (fun i _ _=>es.length-(intOf i).toNat)
 case atStart=>exact ⟨0,_,by omega,rfl,rfl,hide (by simp [hinD];exact World.ownsRow_nil _ _ _ _),Below.refl _ _⟩
 case round=>
  obtain⟨k,u,hk,rfl,rfl,OW,hnx⟩:=hrel;obtain⟨ua,uc,hue⟩:=Zac OW.out;have hsz:=hnx.size;have hel:es.length<=1048576:=by have:=HPL.out;omega
  by_cases hlt:k<es.length
  ·obtain ⟨p,hp⟩:∃ p,es[k]? = some p:=⟨es[k],List.getElem?_eq_getElem hlt⟩
   obtain⟨b,off,cap',hve,hbb,d0,d1⟩:=ZgR.cells EA.out k p hp;cases hve
   rw [<-hnx.cell (p:=⟨b,off+k*2,none⟩) hbb] at d0;rw [<-hnx.cell (p:=⟨b,off+k*2+1,none⟩) hbb] at d1;have HST:=hide (Zok (ls:=x.net.ls) (id:=x.id) (a:=a) hp);have hki:(0:Int)<=(k:Int):=by omega
   have hkj:(k:Int)<(es.length:Int):=by omega
   have hbr:¬b=wr.heap.size:=by omega
   have HQL:=hide (show (hinD x.net.ls x.id a (es.take k)).length<=1048576 by
    have h2:=ZmI x.net.ls x.id a (es.take k);simp at h2
    omega)
   clear hp;subst hue;by_cases hpa:p.2=a
   ·have hd:(p.2==a)=true:=by simpa using hpa
    have HD:=hide hd;clear hpa
    go_wp2
    obtain⟨wx,hwx⟩:∃ wx,wx=wr.alloc (.cells #[.int .i64 p.1,.int .i64 p.2] 168):=⟨_,rfl⟩;rw [<-hwx];have BX0:Below wr.heap.size wr wx:=by rw [hwx];exact (Below.refl _ _).alloc (Nat.le_refl _) _
    have BX:Below w1.heap.size w1 wx:=hnx.trans (BX0.mono hsz);have OX:=hide (show wx.ownsRow w1.heap.size 107 2 (.slice ua (hinD x.net.ls x.id a (es.take k)).length uc) (hinD x.net.ls x.id a (es.take k)).length (flat nrE (hinD x.net.ls x.id a (es.take k))) from Zae OW.out BX0 (Nat.le_refl _))
    have ge:wx.heap[wr.heap.size]? = some (.cells #[.int .i64 p.1,.int .i64 p.2] 168):=by rw [hwx];exact heap_alloc_new _ _
    have e0:=Zaa ge 0;simp at e0
    have hxs:wr.heap.size<wx.heap.size:=Zab ge;clear ge hwx BX0;rw [<-BX.cell (p:=⟨w.heap.size,0,none⟩) hz1] at z0;rw [<-BX.cell (p:=⟨w.heap.size,2,none⟩) hz1] at z2;rw [<-BX.cell (p:=⟨w.heap.size,3,none⟩) hz1] at z3;rw [<-BX.cell (p:=⟨w.heap.size,4,none⟩) hz1] at z4;have HCX:=hide (HC.out wx.drew (B1.trans (BX.mono B1.size)).drew p.1);obtain⟨c,hc⟩:∃ c,c=Zcw x.net.ls x.id p.1 a:=⟨_,rfl⟩;rw [<-hc] at HCX HST;clear hc d0 d1;have NE0:some w.heap.size≠(Value.slice ua (hinD x.net.ls x.id a (es.take k)).length uc).ownBlock:=fun e=>by have:=(OX.out.lt _ e.symm).1;omega
    have NE1:some wr.heap.size≠(Value.slice ua (hinD x.net.ls x.id a (es.take k)).length uc).ownBlock:=fun e=>by have:=(OW.out.lt _ e.symm).2;omega
    have hz2:w.heap.size<wx.heap.size:=by omega
    -- REGION
    refine Zag (S:=(fun (W:World)=>W.cell? ⟨w.heap.size,0,none⟩=some (.int .i64 x.id)/\W.cell? ⟨w.heap.size,2,none⟩=some (.int .i64 x.net.n)/\W.cell? ⟨w.heap.size,3,none⟩=some (.slice a1 x.net.ls.length c1)/\W.cell? ⟨w.heap.size,4,none⟩=some (v2)/\W.cell? ⟨wr.heap.size,0,none⟩=some (.int .i64 p.1))) (by kernel_rfl) 15 rfl ⟨z0,z2,z3,z4,e0⟩ (fun ops hops hHeld=>?_)
    iterate 10
     refine Zar 15 ?_ ?_ ?_ (by rw [hops.out];kernel_rfl) ?_ ?_ (by assumption) ?_
     rotate_left 2
     ·rw [hops.out];simp only [getS,Nat.reduceSub,Nat.reduceAdd];rfl
     ·intro W hW;(try dsimp only at hW);go_simp <;> with_reducible rfl
     ·exact fun _ _ _=>id
     try simp only [putS]
    refine Zak 10 (oi:=?_) ?_ (by rw [hops.out];kernel_rfl) ?_ ?_
    rotate_left 1
    ·rw [hops.out];simp only [getS];rfl
    ·rw [hops.out];kernel_rfl
    intro K hK
    go_simp
    refine HCX.out.mono ?_
    rintro e w2 ⟨rfl,bc⟩;have hbs:wx.heap.size<=w2.heap.size:=bc.size;refine hK.out _ _ ?_ (fun hHeld=>?_)
    ·obtain ⟨m0,m1,m2,m3,m4⟩:=hHeld
     exact⟨(bc.cell hz2).trans m0,(bc.cell hz2).trans m1,(bc.cell hz2).trans m2,(bc.cell hz2).trans m3,(bc.cell hxs).trans m4⟩
    clear hK K
    try simp only [putS]
    refine ZaP 11 ?_ ?_ ?_ (by rw [hops.out];kernel_rfl) ?_ ?_ (by assumption) ?_
    rotate_left 2
    ·rw [hops.out];simp only [getS];rfl
    ·intro W hW;(try dsimp only at hW);go_simp <;> with_reducible rfl
    ·exact fun _ _ _=>id
    try simp only [putS]
    refine Zak 12 (oi:=?_) ?_ (by rw [hops.out];kernel_rfl) ?_ ?_
    rotate_left 1
    ·rw [hops.out];simp only [getS];rfl
    ·rw [hops.out];kernel_rfl
    intro K hK
    go_simp
    refine hK.out _ _ ?_ (fun hHeld=>?_)
    ·obtain ⟨m0,m1,m2,m3,m4⟩:=hHeld
     exact⟨(((Below.refl w2.heap.size w2).alloc (Nat.le_refl _) _).cell (Nat.lt_of_lt_of_le hz2 bc.size)).trans m0,(((Below.refl w2.heap.size w2).alloc (Nat.le_refl _) _).cell (Nat.lt_of_lt_of_le hz2 bc.size)).trans m1,(((Below.refl w2.heap.size w2).alloc (Nat.le_refl _) _).cell (Nat.lt_of_lt_of_le hz2 bc.size)).trans m2,(((Below.refl w2.heap.size w2).alloc (Nat.le_refl _) _).cell (Nat.lt_of_lt_of_le hz2 bc.size)).trans m3,(((Below.refl w2.heap.size w2).alloc (Nat.le_refl _) _).cell (Nat.lt_of_lt_of_le hxs bc.size)).trans m4⟩
    clear hK K
    try simp only [putS]
    refine Zak 13 (oi:=?_) ?_ (by rw [hops.out];kernel_rfl) ?_ ?_
    rotate_left 1
    ·rw [hops.out];simp only [getS];rfl
    ·rw [hops.out];kernel_rfl
    intro K hK;refine Zec Zgl (by omega) (by omega) _ _ _ 37 rfl w1.heap.size 107 Tryz.underlying37 (nrV nr0) rfl Tryz.infoNr (.slice ua (hinD x.net.ls x.id a (es.take k)).length uc) (hinD x.net.ls x.id a (es.take k)) (⟨p.1,c⟩:Nr) (ZkZ _) rfl ((Zae OX.out.drew bc (Nat.le_refl _)).alloc _) ⟨w2.heap.size,0,none⟩ 1 rfl (Zay (cs:=nrE ⟨p.1,c⟩)) (by have:=HQL.out;omega) (by simp;omega) ?_
    intro v' w' hown' hgrow;refine hK.out _ _ ?_ (fun hHeld=>?_)
    ·obtain ⟨m0,m1,m2,m3,m4⟩:=hHeld
     exact⟨hgrow.cell m0 NE0,hgrow.cell m1 NE0,hgrow.cell m2 NE0,hgrow.cell m3 NE0,hgrow.cell m4 NE1⟩
    clear hK K
    try simp only [putS]
    refine ZaP 14 ?_ ?_ ?_ (by rw [hops.out];kernel_rfl) ?_ ?_ (by assumption) ?_
    rotate_left 2
    ·rw [hops.out];simp only [getS];rfl
    ·intro W hW;(try dsimp only at hW);go_simp <;> with_reducible rfl
    ·exact fun _ _ _=>id
    try simp only [putS]
    refine wpAnyH_done (by rw [hops.out];kernel_rfl) ?_ _
    clear hops ops
    -- END
    have hgs:=hgrow.size;have hds:wx.drew.heap.size=wx.heap.size:=rfl;have BF:Below w1.heap.size w1 w':=((BX.drew.trans (bc.mono (by omega))).alloc (by omega) _).grown hgrow (by simp;omega) (fun k hk=>(OX.out.lt k hk).1)
    have HO:=hide hown';clear hown' hgrow
    go_wp2
    go_roundw
    case rel=>exact ⟨k+1,v',by omega,by go_num,rfl,hide (by rw [HST.out,HD.out];exact HO.out),BF⟩
    case measure=>simp [intOf];omega
   ·have hd:(p.2==a)=false:=by simpa using hpa
    have HD:=hide hd;clear hpa
    go_wp2
    go_roundw
    case rel=>exact ⟨k+1,_,by omega,by go_num,rfl,hide (by rw [HST.out,HD.out];simp only [Bool.false_eq_true,if_false,List.append_nil];exact OW.out.alloc _),hnx.alloc hsz _⟩
    case measure=>simp [intOf];omega
  ·have KN:=hide (show es.take k=es from List.take_of_length_le (by omega))
   subst hue
   go_wp2
   go_ret
   have h1:=OW.out;rw [KN.out] at h1 |-;exact⟨_,rfl,Zaj h1 (by omega),B1.trans (hnx.mono B1.size)⟩
def thgD (id:Int)(t:Th):RecD:=⟨9,3,id,t.k,0,[],t.c,t.f⟩
def Zey (x:SelfD)(ts:List Th):List RecD:=(ts.filter (fun t=>t.o==x.id)).map (thgD x.id)
theorem Zjf {x:SelfD}{ts:List Th}{k:Nat}{t:Th}(h:ts[k]? = some t):Zey x (ts.take (k+1))=Zey x (ts.take k)++(if t.o==x.id then [thgD x.id t] else []):=by
 obtain⟨hk,e⟩:=List.getElem?_eq_some_iff.1 h;unfold Zey;rw [List.take_succ_eq_append_getElem hk,e,List.filter_append,List.map_append]
 congr 1
 by_cases h1:(t.o==x.id)=true
 ·simp [h1]
 ·simp [h1]
theorem Zh9 (x:SelfD)(ts:List Th):(Zey x ts).length<=ts.length:=by
 unfold Zey;rw [List.length_map];exact List.length_filter_le _ _
theorem Zmb (v1 v2 v3 v4:Value)(x:SelfD)(w:World)(hl:x.net.ts.length<=1048576)(hv:ZaV w v2 x.net.ts w.heap.size):
  Calls Tryz.prog 76 #[Zkh x v1 v2 v3 v4] w fun e w'=>∃ u qs,e=.returned u/\fsts qs=Zey x x.net.ts/\RecsOwn w' w.heap.size w'.heap.size u qs/\Below w.heap.size w w':=by
 obtain⟨a2,c2,rfl⟩:=ZaV.shape hv;have HV:=hide hv;clear hv;have G0:=hide (heap_alloc_new w (.cells #[.int .i64 x.id,.int .i64 x.boot,.int .i64 x.net.n,v1,.slice a2 x.net.ts.length c2,v3,v4] 31));have B0:Below w.heap.size w (w.alloc (.cells #[.int .i64 x.id,.int .i64 x.boot,.int .i64 x.net.n,v1,.slice a2 x.net.ts.length c2,v3,v4] 31)):=(Below.refl _ _).alloc (Nat.le_refl _) _
 go_enter Tryz.func76,Tryz.ntmps76
 go_wp2
 generalize w.alloc (.cells #[.int .i64 x.id,.int .i64 x.boot,.int .i64 x.net.n,v1,.slice a2 x.net.ts.length c2,v3,v4] 31)=w0 at *
 go_loopw [10,3] (fun i o wr=>∃ (k:Nat) (qs:List RP) (u:Value),k<=x.net.ts.length/\i=.int .i64 k/\o=u/\Hid (fsts qs=Zey x (x.net.ts.take k))/\Hid (RecsOwn wr (w.heap.size+1) wr.heap.size u qs)/\Hid (wr.heap[w.heap.size]? = some (.cells #[.int .i64 x.id,.int .i64 x.boot,.int .i64 x.net.n,v1,.slice a2 x.net.ts.length c2,v3,v4] 31))/\Below w.heap.size w wr) (fun i _ _=>x.net.ts.length-(intOf i).toNat)
 case atStart=>exact ⟨0,[],_,by omega,rfl,rfl,hide (by simp [fsts,Zey]),hide (⟨World.ownsRow_nil _ _ _ _,by intro k hk;simp [Value.ownBlock] at hk,by simp,List.Pairwise.nil⟩),G0,B0⟩
 case round=>
  obtain⟨k,qs,u,hk,rfl,rfl,HM,OW,GB,hnx⟩:=hrel;obtain⟨ua,uc,rfl⟩:=Zac OW.out.row;have hsz:=hnx.size;have hbx:=Zab GB.out;by_cases hlt:k<x.net.ts.length
  ·obtain ⟨t,ht⟩:∃ t,x.net.ts[k]? = some t:=⟨x.net.ts[k],List.getElem?_eq_getElem hlt⟩
   obtain⟨b,off,cap',hve,hbb,c0,c1,c2',c3⟩:=HV.out.cells k t ht;cases hve
   rw [<-hnx.cell (p:=⟨b,off+k*4,none⟩) hbb] at c0;rw [<-hnx.cell (p:=⟨b,off+k*4+1,none⟩) hbb] at c1;rw [<-hnx.cell (p:=⟨b,off+k*4+2,none⟩) hbb] at c2';rw [<-hnx.cell (p:=⟨b,off+k*4+3,none⟩) hbb] at c3;have HT:=hide ht;have hki:(0:Int)<=(k:Int):=by omega
   have hkj:(k:Int)<(x.net.ts.length:Int):=by omega
   have s0:=Zaa (w:=wr.alloc (.cells #[.int .i64 t.o,.int .i64 t.k,.int .i64 t.c,.bool t.f] 120)) ((Below.heap_alloc _ _ _ hbx).trans GB.out) 0;simp only [List.getElem?_toArray,List.getElem?_cons_zero] at s0
   have HQL:=hide (show qs.length<=1048576 by
    have h1:=congrArg List.length HM.out;have h2:=Zh9 x (x.net.ts.take k);simp [fsts] at h1 h2
    omega)
   clear ht;by_cases h1:t.o=x.id
   ·have hd:(t.o==x.id)=true:=by simpa using h1
    have HD:=hide hd;clear h1
    go_wp2_with (first
     | (at_builtin;refine ZaL Zav (by omega) (by omega) _ rfl _ _ 29 rfl (w.heap.size+1) 39 Tryz.underlying29 (.agg (recC Za6 (.slice none 0 0))) rfl Tryz.infoRec _ qs (thgD x.id t,.slice none 0 0) (ZbS _ _ _ _) rfl ((OW.out.row.alloc _).alloc _) ⟨wr.heap.size+1,0,none⟩ 1 rfl ?news (by have:=HQL.out;omega) (by simp;omega) ?_))
    case news=>
     have h:=Zay (w:=wr.alloc (.cells #[.int .i64 t.o,.int .i64 t.k,.int .i64 t.c,.bool t.f] 120)) (cs:=encP (thgD x.id t,.slice none 0 0)) (t:=39);rw [show (wr.alloc (.cells #[.int .i64 t.o,.int .i64 t.k,.int .i64 t.c,.bool t.f] 120)).heap.size=wr.heap.size+1 by simp] at h
     exact h
    intro v' w4 hown' hgrow;have b2:Below wr.heap.size wr (wr.alloc (.cells #[.int .i64 t.o,.int .i64 t.k,.int .i64 t.c,.bool t.f] 120)):=(Below.refl _ _).alloc (Nat.le_refl _) _;have ow4:=OW.out.push (p:=(thgD x.id t,.slice none 0 0)) (b2.alloc b2.size _) (by omega) ⟨World.ownsRow_nil _ _ _ _,by intro k hk;simp [Value.ownBlock] at hk⟩ hown' hgrow
    have g4:=(hgrow.block w.heap.size (by simp;omega) (fun e=>by have:=(OW.out.row.lt _ e.symm).1;omega)).trans ((Below.heap_alloc _ _ _ (by simp;omega)).trans ((Below.heap_alloc _ _ _ hbx).trans GB.out))
    obtain⟨va,vc,rfl⟩:=Zac hown';have B4:Below w.heap.size w w4:=((hnx.trans (b2.mono hsz)).alloc (by simp;omega) _).grown hgrow (by simp;omega) (fun k hk=>by have:=(OW.out.row.lt k hk).1;omega)
    have OW4:=hide ow4;have G4:=hide g4;clear ow4 hown' hgrow g4 hd
    go_wp2
    go_roundw
    case rel=>exact ⟨k+1,qs++[(thgD x.id t,.slice none 0 0)],_,by omega,by go_num,rfl,hide (by rw [Zjf HT.out,HD.out, <-HM.out];simp [fsts]),OW4,G4,B4⟩
    case measure=>simp [intOf];omega
   ·have hd:(t.o==x.id)=false:=by simpa using h1
    have HD:=hide hd;clear h1
    go_wp2
    go_roundw
    case rel=>exact ⟨k+1,qs,_,by omega,by go_num,rfl,hide (by rw [Zjf HT.out,HD.out, <-HM.out];simp),hide ((OW.out.below ((Below.refl _ _).alloc (Nat.le_refl _) _) (Nat.le_refl _)).wide (Nat.le_refl _) (by simp)),hide ((Below.heap_alloc _ _ _ hbx).trans GB.out),hnx.alloc hsz _⟩
    case measure=>simp [intOf];omega
  ·go_wp2
   go_ret
   exact⟨_,qs,rfl,by rw [HM.out,List.take_of_length_le (by omega)],OW.out.wide (by omega) (Nat.le_refl _),hnx⟩
end Go.Proofs.YtadokhjefnkajaaGreat
