/-
  NetSt
-/
import Derived.Test.YtcimbiinljcifaaGreatLn2
import Derived.Test.YtcimbiinljcifaaGreatLn4
namespace Go.Proofs.YtcimbiinljcifaaGreat
open Go.RowKit

theorem ZfQ (a b:Lk):Zbi a b=true↔(a.a<b.a\/(a.a=b.a/\(a.b<b.b\/(a.b=b.b/\a.r<b.r)))):=by
 simp [Zbi]

theorem Zgl (a b:Th):Zbj a b=true↔(a.k<b.k\/(a.k=b.k/\a.o<b.o)):=by
 simp [Zbj]

def Ziz (n:Int)(ls:List Lk):Prop:=(∀ x∈ls,ZaY n x=true)/\ls.Pairwise (fun x y=>Zbi x y=true)

def ZiA (n:Int)(ts:List Th):Prop:=(∀ x∈ts,Zcw n x=true)/\ts.Pairwise (fun x y=>Zbj x y=true)

theorem Zei {α:Type}{p q:α->Bool}(h:∀ x,p x=true->q x=true->False):∀ ls:List α,(ls.filter p).length+(ls.filter q).length<=ls.length
 | []=>by simp
 | x::xs=>by
  have ih:=Zei h xs;have hx:=h x;cases hp:p x <;> cases hq:q x <;> simp_all <;> omega

theorem Zd6 (ls:List Lk)(l:Lk):(Zeq ls l).length<=ls.length+1:=by
 have h:=Zei (p:=fun x=>Zbi x l) (q:=fun x=>Zbi l x) (fun x h1 h2=>by
  simp only [ZfQ] at h1 h2;omega) ls
 unfold Zeq;simp only [List.length_append,List.length_cons,List.length_nil]
 omega

theorem ZlD (ls:List Th)(l:Th):(putT ls l).length<=ls.length+1:=by
 have h:=Zei (p:=fun x=>Zbj x l) (q:=fun x=>Zbj l x) (fun x h1 h2=>by
  simp only [Zgl] at h1 h2;omega) ls
 unfold putT;simp only [List.length_append,List.length_cons,List.length_nil]
 omega

theorem ZcM {n:Int}{ls:List Lk}{l:Lk}(h:Ziz n ls)(hl:ZaY n l=true):Ziz n (Zeq ls l):=by
 refine⟨?_,?_⟩
 ·intro x hx
  simp only [Zeq,List.mem_append,List.mem_filter,List.mem_cons,List.not_mem_nil,or_false] at hx
  rcases hx with (⟨h1,_⟩ | rfl) | ⟨h1,_⟩
  ·exact h.1 x h1
  ·exact hl
  ·exact h.1 x h1
 ·unfold Zeq
  refine List.pairwise_append.2 ⟨List.pairwise_append.2 ⟨h.2.filter _,List.pairwise_singleton _ _,?_⟩,h.2.filter _,?_⟩
  ·intro x hx y hy
   simp only [List.mem_filter,List.mem_cons,List.not_mem_nil,or_false] at hx hy
   rw [hy];exact hx.2
  ·intro x hx y hy
   simp only [List.mem_append,List.mem_filter,List.mem_cons,List.not_mem_nil,or_false] at hx hy
   rcases hx with ⟨_,h1⟩ | rfl
   ·have h2:=hy.2
    simp only [ZfQ] at h1 h2 |-
    omega
   ·exact hy.2

theorem Zjz {n:Int}{ls:List Th}{l:Th}(h:ZiA n ls)(hl:Zcw n l=true):ZiA n (putT ls l):=by
 refine⟨?_,?_⟩
 ·intro x hx
  simp only [putT,List.mem_append,List.mem_filter,List.mem_cons,List.not_mem_nil,or_false] at hx
  rcases hx with (⟨h1,_⟩ | rfl) | ⟨h1,_⟩
  ·exact h.1 x h1
  ·exact hl
  ·exact h.1 x h1
 ·unfold putT
  refine List.pairwise_append.2 ⟨List.pairwise_append.2 ⟨h.2.filter _,List.pairwise_singleton _ _,?_⟩,h.2.filter _,?_⟩
  ·intro x hx y hy
   simp only [List.mem_filter,List.mem_cons,List.not_mem_nil,or_false] at hx hy
   rw [hy];exact hx.2
  ·intro x hx y hy
   simp only [List.mem_append,List.mem_filter,List.mem_cons,List.not_mem_nil,or_false] at hx hy
   rcases hx with ⟨_,h1⟩ | rfl
   ·have h2:=hy.2
    simp only [Zgl] at h1 h2 |-
    omega
   ·exact hy.2

theorem ZiD {α:Type}{ok:α->Bool}{ls:List α}(h:∀ x∈ls,ok x=true):Zbl ok ls=true:=ZaG fun j hj=>by
 rw [Zbh (List.getElem?_eq_getElem hj)];exact h _ (List.getElem_mem hj)

theorem ZjP {α:Type}{ord:α->α->Int}{ls:List α}(h:ls.Pairwise (fun x y=>ord x y<0)):ascB ord ls=true:=ZaG fun j hj=>by
 match j,hj with
 | 0,_=>rfl
 | j+1,hj=>
  rw [Za6 (List.getElem?_eq_getElem (by omega)) (List.getElem?_eq_getElem hj)]
  exact decide_eq_true (List.pairwise_iff_getElem.1 h j (j+1) (by omega) hj (by omega))

theorem Zkd {n:Int}{ls:List Lk}(h:Ziz n ls)(hl:ls.length<=12):ZbV n ls=true:=by
 unfold ZbV;rw [decide_eq_true hl,ZiD h.1,ZjP (h.2.imp fun hxy=>by rw [Zg4] at hxy;exact of_decide_eq_true hxy)]
 rfl

theorem ZjK {n:Int}{ls:List Th}(h:ZiA n ls)(hl:ls.length<=4):Zbn n ls=true:=by
 unfold Zbn;rw [decide_eq_true hl,ZiD h.1,ZjP (h.2.imp fun hxy=>by rw [ZhN] at hxy;exact of_decide_eq_true hxy)]
 rfl

theorem ZcK {x a b:Int}(h1:a<=x)(h2:x<=b):inB x a b=true:=by simp [inB,h1,h2]

theorem Zde {n a b c r:Int}(hn:1<=n/\n<=6)(ha:1<=a)(hab:a<b)(hb:b<=n)(hc:1<=c/\c<=1000)(hr:0<=r/\r<=2):ZaY n ⟨a,b,c,r⟩=true:=by
 unfold ZaY;simp only []
 rw [ZcK hn.1 hn.2,ZcK ha (by omega),ZcK (by omega) hb,ZcK hc.1 hc.2,ZcK hr.1 hr.2,decide_eq_true hab]
 rfl

theorem Zmt {n o k c:Int}{f:Bool}(ho:1<=o/\o<=n)(hk:1<=k/\k<=9)(hc:1<=c/\c<=1000):Zcw n ⟨o,k,c,f⟩=true:=by
 unfold Zcw;simp only []
 rw [ZcK ho.1 ho.2,ZcK hk.1 hk.2,ZcK hc.1 hc.2]
 rfl

structure NetSt (w wr:World) (p B0 z:Nat) (a:Option Addr) (len cap:Nat) (N:Int) (v1 v2:Value) (ls:List Lk) (ts:List Th):Prop where
 cur:Cur wr p a len cap
 bel:Below p w wr
 new:w.heap.size<=B0
 gro:w.grownBy wr (some p)
 box:wr.heap[z]? = some (.cells #[.int .i64 N,v1,v2] 27)
 res:wr.heap[B0]? = some (.cells #[.int .i64 0,.slice none 0 0,.slice none 0 0] 27)
 o1:wr.ownsRow (z+1) 127 4 v1 ls.length (flat lkE ls)
 o2:wr.ownsRow (z+1) 131 4 v2 ts.length (flat thE ts)

theorem Zba {w w':World}{base size p:Nat}{e:TypeId}{v:Value}{n:Nat}{xs:List Value}(h:w.ownsRow base e size v n xs)(hg:w.grownBy w' (some p))(hp:p<base):w'.ownsRow base e size v n xs:=h.kept hg (by
 rcases h.2 with ⟨e,_⟩ | ⟨g,cp,cur,e,hb,_⟩
 ·exact .inl (by rw [e];rfl)
 ·refine .inr ?_
  rw [e];intro h;simp [Value.ownBlock] at h
  omega)

theorem Zdd {w w':World}(hb:Below w.heap.size w w'):w.grownBy w' none:=⟨hb.os,hb.tape,hb.output,hb.size,fun k hk _=>hb.block k hk⟩

section
variable {w wr w':World} {p B0 z:Nat} {a:Option Addr} {len cap:Nat} {N:Int} {v1 v2:Value} {ls:List Lk} {ts:List Th}

theorem NetSt.grown (h:NetSt w wr p B0 z a len cap N v1 v2 ls ts)(hc:Cur w' p a len cap)(hg:wr.grownBy w' (some p))(hp:p<B0)(hz:B0<z):NetSt w w' p B0 z a len cap N v1 v2 ls ts where
 cur:=hc
 bel:=h.bel.grown hg (by have:=ZaQ h.cur;omega) (fun k hk=>by simp at hk;omega)
 new:=h.new
 gro:=Zaj h.gro hg
 box:=by rw [hg.block z (Zab h.box) (by simp;omega)];exact h.box
 res:=by rw [hg.block B0 (Zab h.res) (by simp;omega)];exact h.res
 o1:=Zba h.o1 hg (by omega)
 o2:=Zba h.o2 hg (by omega)

theorem NetSt.below (h:NetSt w wr p B0 z a len cap N v1 v2 ls ts)(hb:Below wr.heap.size wr w'):NetSt w w' p B0 z a len cap N v1 v2 ls ts where
 cur:=h.cur.grown (Zdd hb) (fun b _=>by simp)
 bel:=h.bel.trans (hb.mono (by have:=ZaQ h.cur;omega))
 new:=h.new
 gro:=Zaj h.gro ⟨hb.os,hb.tape,hb.output,hb.size,fun k hk _=>hb.block k hk⟩
 box:=by rw [hb.block z (Zab h.box)];exact h.box
 res:=by rw [hb.block B0 (Zab h.res)];exact h.res
 o1:=Zah h.o1 hb (Nat.le_refl _)
 o2:=Zah h.o2 hb (Nat.le_refl _)

theorem NetSt.alloc (h:NetSt w wr p B0 z a len cap N v1 v2 ls ts)(o:Obj):NetSt w (wr.alloc o) p B0 z a len cap N v1 v2 ls ts:=h.below ((Below.refl _ _).alloc (Nat.le_refl _) _)

theorem NetSt.put1 (h:NetSt w wr p B0 z a len cap N v1 v2 ls ts)(hb:Below wr.heap.size wr w'){v':Value}{ls':List Lk}(ho:w'.ownsRow (wr.heap.size+1) 127 4 v' ls'.length (flat lkE ls'))(hp:p<B0)(hz:B0<z):NetSt w (w'.setCell ⟨z,1,none⟩ v') p B0 z a len cap N v' v2 ls' ts:=
 have h2:=h.below hb;have hzl:=Zab h.box
 {cur:=h2.cur.grown (Zag w' z 1 v') (fun b hb=>by simp;omega)
  bel:=h2.bel.setCell (by show p<=z;omega) _
  new:=h.new
  gro:=⟨h2.gro.os,h2.gro.tape,h2.gro.output,by have:=h2.gro.size;simpa using this,fun b hb hne=>by rw [heap_setCell_other w' ⟨z,1,none⟩ _ _ (by show b≠z;have:=h.new;omega)];exact h2.gro.block b hb hne⟩
  box:=heap_setCell_same _ _ 1 _ _ v' h2.box
  res:=by rw [heap_setCell_other w' ⟨z,1,none⟩ _ _ (by show B0≠z;omega)];exact h2.res
  o1:=Zau (Zal ho (by omega)) (by omega)
  o2:=Zau h2.o2 (by omega) }

theorem NetSt.put2 (h:NetSt w wr p B0 z a len cap N v1 v2 ls ts)(hb:Below wr.heap.size wr w'){v':Value}{ts':List Th}(ho:w'.ownsRow (wr.heap.size+1) 131 4 v' ts'.length (flat thE ts'))(hp:p<B0)(hz:B0<z):NetSt w (w'.setCell ⟨z,2,none⟩ v') p B0 z a len cap N v1 v' ls ts':=
 have h2:=h.below hb;have hzl:=Zab h.box
 {cur:=h2.cur.grown (Zag w' z 2 v') (fun b hb=>by simp;omega)
  bel:=h2.bel.setCell (by show p<=z;omega) _
  new:=h.new
  gro:=⟨h2.gro.os,h2.gro.tape,h2.gro.output,by have:=h2.gro.size;simpa using this,fun b hb hne=>by rw [heap_setCell_other w' ⟨z,2,none⟩ _ _ (by show b≠z;have:=h.new;omega)];exact h2.gro.block b hb hne⟩
  box:=heap_setCell_same _ _ 2 _ _ v' h2.box
  res:=by rw [heap_setCell_other w' ⟨z,2,none⟩ _ _ (by show B0≠z;omega)];exact h2.res
  o1:=Zau h2.o1 (by omega)
  o2:=Zau (Zal ho (by omega)) (by omega) }

theorem NetSt.c0 (h:NetSt w wr p B0 z a len cap N v1 v2 ls ts):wr.cell? ⟨z,0,none⟩=some (.int .i64 N):=by rw [Zaa h.box];rfl

theorem NetSt.c1 (h:NetSt w wr p B0 z a len cap N v1 v2 ls ts):wr.cell? ⟨z,1,none⟩=some v1:=by rw [Zaa h.box];rfl

theorem NetSt.c2 (h:NetSt w wr p B0 z a len cap N v1 v2 ls ts):wr.cell? ⟨z,2,none⟩=some v2:=by rw [Zaa h.box];rfl

theorem NetSt.drew (h:NetSt w wr p B0 z a len cap N v1 v2 ls ts):NetSt w wr.drew p B0 z a len cap N v1 v2 ls ts:=h.below (Below.refl _ _).drew
end
end Go.Proofs.YtcimbiinljcifaaGreat
