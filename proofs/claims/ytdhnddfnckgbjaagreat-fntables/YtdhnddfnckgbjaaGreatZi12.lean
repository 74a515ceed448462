/-
  Parts.
-/
import Derived.Test.YtdhnddfnckgbjaaGreatZi10
namespace Go.Proofs.YtdhnddfnckgbjaaGreat
open Go.RowKit
set_option linter.unusedSimpArgs false
set_option linter.unusedVariables false
set_option maxRecDepth 100000
set_option maxHeartbeats 8000000
theorem ZnT (f:RP->Bool)(ps:List RP):tot (ps.filter f)<=tot ps:=by
 induction ps with
 | nil=>simp [tot]
 | cons p ps ih=>
  rw [List.filter_cons]
  split
  ·rw [Zcl,Zcl];omega
  ·rw [Zcl];omega
theorem ZoH (f g:RP->Bool)(hfg:∀ p,f p=true->g p=false)(ps:List RP):tot (ps.filter f)+tot (ps.filter g)<=tot ps:=by
 induction ps with
 | nil=>simp [tot]
 | cons p ps ih=>
  have:=hfg p;by_cases hf:f p=true
  ·have hg:=this hf;simp only [List.filter_cons,hf,hg,if_true,Bool.false_eq_true,if_false,Zcl];omega
  ·have hf':f p=false:=by simpa using hf
   by_cases hg:g p=true
   ·simp only [List.filter_cons,hf',hg,if_true,Bool.false_eq_true,if_false,Zcl];omega
   ·have hg':g p=false:=by simpa using hg
    simp only [List.filter_cons,hf',hg',Bool.false_eq_true,if_false,Zcl];omega
theorem ZfF {x y:RecD}(h:Zat x y=true):Zat y x=false:=by
 unfold Zat at *;simp only [Bool.or_eq_true,YAO,YAk,beq_iff_eq] at h;simp only [Bool.or_eq_false_iff,Bool.and_eq_false_iff,decide_eq_false_iff_not,beq_eq_false_iff_ne];omega
theorem ZhO (ps:List RP)(r:RP):tot (putL ps r)<=tot ps+(1+r.1.near.length):=by
 unfold putL;rw [ZcY,ZcY];have h:=ZoH (fun p=>Zat p.1 r.1) (fun p=>Zat r.1 p.1) (fun p hp=>ZfF hp) ps;have e:tot [r]=1+r.1.near.length:=by simp [tot]
 omega

end Go.Proofs.YtdhnddfnckgbjaaGreat
namespace Go.Proofs.YtdhnddfnckgbjaaGreat
open Go.RowKit

def ZeL (N:Int)(k:Nat)(x x2:Int):Int × Int:=
 if (k:Int)+1<N then ((k:Int)+1,(k:Int)+2)
 else if 1+x=1+x2 then (if (1+x).tmod N+1<1+x then ((1+x).tmod N+1,1+x) else (1+x,(1+x).tmod N+1))
 else if 1+x2<1+x then (1+x2,1+x) else (1+x,1+x2)

def lnkF (σ:Nat->Int)(N:Int):Nat->Nat->Nat->List Lk->Nat × List Lk
 | 0,_,t,ls=>(t,ls)
 | f+1,k,t,ls=>if (k:Int)<N+σ t%3 then lnkF σ N f (k+1) (t+1+1+1+1+1) (if ls.length<12 then Zd9 ls ⟨(ZeL N k (σ (t+1)%N) (σ (t+1+1)%N)).1,(ZeL N k (σ (t+1)%N) (σ (t+1+1)%N)).2,1+σ (t+1+1+1)%4,Zf5 (σ (t+1+1+1+1)%4)⟩ else ls) else (t+1,ls)

def thgF (σ:Nat->Int)(N:Int):Nat->Nat->Nat->List Th->Nat × List Th
 | 0,_,t,ts=>(t,ts)
 | f+1,k,t,ts=>if (k:Int)<σ t%3 then thgF σ N f (k+1) (t+1+1+1+1+1) (putT ts ⟨1+σ (t+1)%N,1+σ (t+1+1)%3,1+σ (t+1+1+1)%5,decide (σ (t+1+1+1+1)%2=0)⟩) else (t+1,ts)

def netF (σ:Nat->Int)(t:Nat):NetD × Nat:=
 let N:=2+σ t%4
 let l:=lnkF σ N 8 0 (t+1) []
 let h:=thgF σ N 3 0 l.1 []
 (⟨N,l.2,h.2⟩,h.1)

theorem Zex {σ:Nat->Int}{N y x x2 c r A B:Int}{k t:Nat}{ls:List Lk}{R:Nat × List Lk}(h:Hid (lnkF σ N (8-k) k t ls=R))(hk:k<=6)(hy:Hid (y=σ t%3))(hlt:(k:Int)<N+y)(hx:Hid (x=σ (t+1)%N))(hx2:Hid (x2=σ (t+1+1)%N))(he:Hid (ZeL N k x x2=(A,B)))(hc:Hid (c=σ (t+1+1+1)%4)) (hr:Hid (r=Zf5 (σ (t+1+1+1+1)%4))) (hl:(ls.length:Int)<12):
  Hid (lnkF σ N (8-(k+1)) (k+1) (t+1+1+1+1+1) (Zd9 ls ⟨A,B,1+c,r⟩)=R):=by
 have h1:=h.out;rw [show 8-k=(8-(k+1))+1 by omega] at h1;unfold lnkF at h1;rw [if_pos (by rw [<-hy.out];exact hlt),if_pos (by omega), <-hx.out, <-hx2.out,he.out, <-hc.out, <-hr.out] at h1;exact h1

theorem Zew {σ:Nat->Int}{N y:Int}{k t:Nat}{ls:List Lk}{R:Nat × List Lk}(h:Hid (lnkF σ N (8-k) k t ls=R))(hk:k<=6)(hy:Hid (y=σ t%3))(hlt:(k:Int)<N+y)(hl:¬(ls.length:Int)<12):
  Hid (lnkF σ N (8-(k+1)) (k+1) (t+1+1+1+1+1) ls=R):=by
 have h1:=h.out;rw [show 8-k=(8-(k+1))+1 by omega] at h1;unfold lnkF at h1;rw [if_pos (by rw [<-hy.out];exact hlt),if_neg (by omega)] at h1;exact h1

theorem Zoj {σ:Nat->Int}{N y:Int}{k t:Nat}{ls:List Lk}{R:Nat × List Lk}(h:Hid (lnkF σ N (8-k) k t ls=R))(hk:k<=7)(hy:Hid (y=σ t%3))(hlt:¬(k:Int)<N+y):R=(t+1,ls):=by
 have h1:=h.out;rw [show 8-k=(7-k)+1 by omega] at h1;unfold lnkF at h1;rw [if_neg (by rw [<-hy.out];exact hlt)] at h1;exact h1.symm

theorem ZnO {σ:Nat->Int}{N y x1 x2 x3:Int}{f:Bool}{k t:Nat}{ts:List Th}{R:Nat × List Th}(h:Hid (thgF σ N (3-k) k t ts=R))(hk:k<=1)(hy:Hid (y=σ t%3))(hlt:(k:Int)<y)(h1:Hid (x1=σ (t+1)%N))(h2:Hid (x2=σ (t+1+1)%3))(h3:Hid (x3=σ (t+1+1+1)%5)) (h4:Hid (f=decide (σ (t+1+1+1+1)%2=0))):
  Hid (thgF σ N (3-(k+1)) (k+1) (t+1+1+1+1+1) (putT ts ⟨1+x1,1+x2,1+x3,f⟩)=R):=by
 have h9:=h.out;rw [show 3-k=(3-(k+1))+1 by omega] at h9;unfold thgF at h9;rw [if_pos (by rw [<-hy.out];exact hlt), <-h1.out, <-h2.out, <-h3.out, <-h4.out] at h9;exact h9

theorem ZoF {σ:Nat->Int}{N y:Int}{k t:Nat}{ts:List Th}{R:Nat × List Th}(h:Hid (thgF σ N (3-k) k t ts=R))(hk:k<=2)(hy:Hid (y=σ t%3))(hlt:¬(k:Int)<y):R=(t+1,ts):=by
 have h1:=h.out;rw [show 3-k=(2-k)+1 by omega] at h1;unfold thgF at h1;rw [if_neg (by rw [<-hy.out];exact hlt)] at h1;exact h1.symm

structure NetSd (w wr:World) (p B0 z:Nat) (a:Option Addr) (len cap:Nat) (σ:Nat->Int) (t:Nat) (N:Int) (v1 v2:Value) (ls:List Lk) (ts:List Th):Prop where
 cur:CurT wr p a len cap σ t
 bel:Below p w wr
 new:w.heap.size<=B0
 gro:w.grownBy wr (some p)
 box:wr.heap[z]? = some (.cells #[.int .i64 N,v1,v2] 81)
 res:wr.heap[B0]? = some (.cells #[.int .i64 0,.slice none 0 0,.slice none 0 0] 81)
 o1:wr.ownsRow (z+1) 99 4 v1 ls.length (flat lkE ls)
 o2:wr.ownsRow (z+1) 103 4 v2 ts.length (flat thE ts)

section
variable {w wr w':World} {p B0 z:Nat} {a:Option Addr} {len cap:Nat} {σ:Nat->Int} {t u:Nat} {N:Int} {v1 v2:Value} {ls:List Lk} {ts:List Th}

theorem NetSd.grown (h:NetSd w wr p B0 z a len cap σ t N v1 v2 ls ts)(hc:CurT w' p a len cap σ u)(hg:wr.grownBy w' (some p))(hp:p<B0)(hz:B0<z):NetSd w w' p B0 z a len cap σ u N v1 v2 ls ts where
 cur:=hc
 bel:=h.bel.grown hg (by have:=h.cur.lt;omega) (fun k hk=>by simp at hk;omega)
 new:=h.new
 gro:=Zaq h.gro hg
 box:=by rw [hg.block z (Zab h.box) (by simp;omega)];exact h.box
 res:=by rw [hg.block B0 (Zab h.res) (by simp;omega)];exact h.res
 o1:=Zda h.o1 hg (by omega)
 o2:=Zda h.o2 hg (by omega)

theorem NetSd.below (h:NetSd w wr p B0 z a len cap σ t N v1 v2 ls ts)(hb:Below wr.heap.size wr w'):NetSd w w' p B0 z a len cap σ t N v1 v2 ls ts where
 cur:=h.cur.grown (Zdw hb) (fun b _=>by simp)
 bel:=h.bel.trans (hb.mono (by have:=h.cur.lt;omega))
 new:=h.new
 gro:=Zaq h.gro ⟨hb.os,hb.tape,hb.output,hb.size,fun k hk _=>hb.block k hk⟩
 box:=by rw [hb.block z (Zab h.box)];exact h.box
 res:=by rw [hb.block B0 (Zab h.res)];exact h.res
 o1:=Zad h.o1 hb (YA _)
 o2:=Zad h.o2 hb (YA _)

theorem NetSd.alloc (h:NetSd w wr p B0 z a len cap σ t N v1 v2 ls ts)(o:Obj):NetSd w (wr.alloc o) p B0 z a len cap σ t N v1 v2 ls ts:=h.below ((YAB _ _).alloc (YA _) _)

theorem NetSd.put1 (h:NetSd w wr p B0 z a len cap σ t N v1 v2 ls ts)(hb:Below wr.heap.size wr w'){v':Value}{ls':List Lk}(ho:w'.ownsRow (wr.heap.size+1) 99 4 v' ls'.length (flat lkE ls'))(hp:p<B0)(hz:B0<z):NetSd w (w'.setCell ⟨z,1,none⟩ v') p B0 z a len cap σ t N v' v2 ls' ts:=
 have h2:=h.below hb;have hzl:=Zab h.box
 {cur:=h2.cur.grown (Zaj w' z 1 v') (fun b hb=>by simp;omega)
  bel:=h2.bel.setCell (by show p<=z;omega) _
  new:=h.new
  gro:=⟨h2.gro.os,h2.gro.tape,h2.gro.output,by have:=h2.gro.size;simpa using this,fun b hb hne=>by rw [YAQ w' ⟨z,1,none⟩ _ _ (by show b≠z;have:=h.new;omega)];exact h2.gro.block b hb hne⟩
  box:=YAS _ _ 1 _ _ v' h2.box
  res:=by rw [YAQ w' ⟨z,1,none⟩ _ _ (by show B0≠z;omega)];exact h2.res
  o1:=ZaH (Zaf ho (by omega)) (by omega)
  o2:=ZaH h2.o2 (by omega) }

theorem NetSd.put2 (h:NetSd w wr p B0 z a len cap σ t N v1 v2 ls ts)(hb:Below wr.heap.size wr w'){v':Value}{ts':List Th}(ho:w'.ownsRow (wr.heap.size+1) 103 4 v' ts'.length (flat thE ts'))(hp:p<B0)(hz:B0<z):NetSd w (w'.setCell ⟨z,2,none⟩ v') p B0 z a len cap σ t N v1 v' ls ts':=
 have h2:=h.below hb;have hzl:=Zab h.box
 {cur:=h2.cur.grown (Zaj w' z 2 v') (fun b hb=>by simp;omega)
  bel:=h2.bel.setCell (by show p<=z;omega) _
  new:=h.new
  gro:=⟨h2.gro.os,h2.gro.tape,h2.gro.output,by have:=h2.gro.size;simpa using this,fun b hb hne=>by rw [YAQ w' ⟨z,2,none⟩ _ _ (by show b≠z;have:=h.new;omega)];exact h2.gro.block b hb hne⟩
  box:=YAS _ _ 2 _ _ v' h2.box
  res:=by rw [YAQ w' ⟨z,2,none⟩ _ _ (by show B0≠z;omega)];exact h2.res
  o1:=ZaH h2.o1 (by omega)
  o2:=ZaH (Zaf ho (by omega)) (by omega) }

theorem NetSd.c0 (h:NetSd w wr p B0 z a len cap σ t N v1 v2 ls ts):wr.cell? ⟨z,0,none⟩=some (.int .i64 N):=by rw [Zaa h.box];rfl

theorem NetSd.c1 (h:NetSd w wr p B0 z a len cap σ t N v1 v2 ls ts):wr.cell? ⟨z,1,none⟩=some v1:=by rw [Zaa h.box];rfl

theorem NetSd.c2 (h:NetSd w wr p B0 z a len cap σ t N v1 v2 ls ts):wr.cell? ⟨z,2,none⟩=some v2:=by rw [Zaa h.box];rfl

theorem NetSd.drew (h:NetSd w wr p B0 z a len cap σ t N v1 v2 ls ts):NetSd w wr.drew p B0 z a len cap σ t N v1 v2 ls ts:=h.below (YAB _ _).drew
end
end Go.Proofs.YtdhnddfnckgbjaaGreat
