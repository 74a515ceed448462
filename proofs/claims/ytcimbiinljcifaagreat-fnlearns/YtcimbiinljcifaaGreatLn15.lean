/-
  SfSt RdK RcSt RecDag DrawRecA
-/
import Derived.Test.YtcimbiinljcifaaGreatLn6
import Derived.Test.YtcimbiinljcifaaGreatLn1
import Derived.Test.YtcimbiinljcifaaGreatLn7
import Derived.Test.YtcimbiinljcifaaGreatLn8
import Derived.Test.YtcimbiinljcifaaGreatLn14
import Derived.Deep.RegionHeld3
import Derived.Deep.QuietTactic
import Derived.BigQuiet
import Derived.Test.YtcimbiinljcifaaGreatLn2
import Derived.Test.YtcimbiinljcifaaGreatLn3
namespace Go.Proofs.YtcimbiinljcifaaGreat
open Go.RowKit

theorem ZbE {W:World}{b s n z:Nat}{e t:TypeId}{v:Value}{xs:List Value}{cs:Array Value}(h:W.ownsRow b e s v n xs)(hz:W.heap[z]? = some (.cells cs t))(he:e≠t):v.ownBlock≠some z:=by
 intro k
 rcases h.2 with ⟨h,_⟩ | ⟨g,cap,cur,hv,_,hh,_⟩
 ·rw [h] at k;simp [Value.ownBlock] at k
 ·rw [hv] at k
  simp [Value.ownBlock] at k
  subst k;rw [hz] at hh;simp at hh
  exact he hh.2.symm

theorem ZbS {W:World}{b s n z j:Nat}{e t:TypeId}{v u:Value}{xs:List Value}{cs:Array Value}(h:W.ownsRow b e s v n xs)(hz:W.heap[z]? = some (.cells cs t))(he:e≠t):(W.setCell ⟨z,j,none⟩ u).ownsRow b e s v n xs:=
 h.kept (Zag W z j u) (.inr (ZbE h hz he))

theorem RecsIn.box {W W':World}{hi z:Nat}{v:Value}{ps:List RP}{cs:Array Value}(h:RecsIn W hi v ps)(hz:W.heap[z]? = some (.cells cs 31))(hg:W.grownBy W' (some z)):RecsIn W' hi v ps where
 row:=h.row.kept hg (.inr (ZbE h.row hz (by decide)))
 top:=h.top
 nears:=fun q hq=>⟨(h.nears q hq).1.kept hg (.inr (ZbE (h.nears q hq).1 hz (by decide))),(h.nears q hq).2⟩

structure SfSt (w W:World) (p z:Nat) (a:Option Addr) (len cap:Nat) (id boot n:Int) (ls:List Lk) (ts:List Th) (hd:List Int) (v1 v2 v3 v4:Value):Prop where
 cur:Cur W p a len cap
 gro:w.grownBy W (some p)
 new:w.heap.size<z
 res:W.heap[w.heap.size]? = some (.cells #[.int .i64 0,.int .i64 0,.int .i64 0,.slice none 0 0,.slice none 0 0,.slice none 0 0,.slice none 0 0] 31)
 box:W.heap[z]? = some (.cells #[.int .i64 id,.int .i64 boot,.int .i64 n,v1,v2,v3,v4] 31)
 o1:W.ownsRow (w.heap.size+1) 127 4 v1 ls.length (flat lkE ls)
 o2:W.ownsRow (w.heap.size+1) 131 4 v2 ts.length (flat thE ts)
 o3:W.ownsRow (z+1) 3 1 v3 hd.length (flat intE hd)

section
variable {w W W':World} {p z:Nat} {a:Option Addr} {len cap:Nat} {id boot n:Int} {ls:List Lk} {ts:List Th} {hd:List Int} {v1 v2 v3 v4:Value}

theorem SfSt.grown (h:SfSt w W p z a len cap id boot n ls ts hd v1 v2 v3 v4)(hc:Cur W' p a len cap)(hg:W.grownBy W' (some p))(hp:p<w.heap.size):SfSt w W' p z a len cap id boot n ls ts hd v1 v2 v3 v4 where
 cur:=hc
 gro:=Zaj h.gro hg
 new:=h.new
 res:=by rw [hg.block _ (Zab h.res) (by simp;omega)];exact h.res
 box:=by rw [hg.block _ (Zab h.box) (by have:=h.new;simp;omega)];exact h.box
 o1:=Zba h.o1 hg (by omega)
 o2:=Zba h.o2 hg (by omega)
 o3:=Zba h.o3 hg (by have:=h.new;omega)

theorem SfSt.below (h:SfSt w W p z a len cap id boot n ls ts hd v1 v2 v3 v4)(hb:Below W.heap.size W W'):SfSt w W' p z a len cap id boot n ls ts hd v1 v2 v3 v4 where
 cur:=h.cur.grown (Zdd hb) (fun b _=>by simp)
 gro:=Zaj h.gro ⟨hb.os,hb.tape,hb.output,hb.size,fun k hk _=>hb.block k hk⟩
 new:=h.new
 res:=by rw [hb.block _ (Zab h.res)];exact h.res
 box:=by rw [hb.block _ (Zab h.box)];exact h.box
 o1:=Zah h.o1 hb (Nat.le_refl _)
 o2:=Zah h.o2 hb (Nat.le_refl _)
 o3:=Zah h.o3 hb (Nat.le_refl _)

theorem SfSt.alloc (h:SfSt w W p z a len cap id boot n ls ts hd v1 v2 v3 v4)(o:Obj):SfSt w (W.alloc o) p z a len cap id boot n ls ts hd v1 v2 v3 v4:=h.below ((Below.refl _ _).alloc (Nat.le_refl _) _)

theorem SfSt.drew (h:SfSt w W p z a len cap id boot n ls ts hd v1 v2 v3 v4):SfSt w W.drew p z a len cap id boot n ls ts hd v1 v2 v3 v4:=h.below (Below.refl _ _).drew

theorem SfSt.setId (h:SfSt w W p z a len cap id boot n ls ts hd v1 v2 v3 v4)(hp:p<w.heap.size)(id':Int):SfSt w (W.setCell ⟨z,0,none⟩ (.int .i64 id')) p z a len cap id' boot n ls ts hd v1 v2 v3 v4:=
 have hn:=h.new
 {cur:=h.cur.grown (Zag W z 0 _) (fun b hb=>by simp;omega)
  gro:=⟨h.gro.os,h.gro.tape,h.gro.output,by have:=h.gro.size;simpa using this,fun b hb hne=>by rw [heap_setCell_other W ⟨z,0,none⟩ _ _ (by show b≠z;omega)];exact h.gro.block b hb hne⟩
  new:=hn
  res:=by rw [heap_setCell_other W ⟨z,0,none⟩ _ _ (by show w.heap.size≠z;omega)];exact h.res
  box:=heap_setCell_same _ _ 0 _ _ (.int .i64 id') h.box
  o1:=ZbS h.o1 h.box (by decide)
  o2:=ZbS h.o2 h.box (by decide)
  o3:=ZbS h.o3 h.box (by decide) }

theorem SfSt.setStore (h:SfSt w W p z a len cap id boot n ls ts hd v1 v2 v3 v4)(hp:p<w.heap.size)(v4':Value):SfSt w (W.setCell ⟨z,6,none⟩ v4') p z a len cap id boot n ls ts hd v1 v2 v3 v4':=
 have hn:=h.new
 {cur:=h.cur.grown (Zag W z 6 _) (fun b hb=>by simp;omega)
  gro:=⟨h.gro.os,h.gro.tape,h.gro.output,by have:=h.gro.size;simpa using this,fun b hb hne=>by rw [heap_setCell_other W ⟨z,6,none⟩ _ _ (by show b≠z;omega)];exact h.gro.block b hb hne⟩
  new:=hn
  res:=by rw [heap_setCell_other W ⟨z,6,none⟩ _ _ (by show w.heap.size≠z;omega)];exact h.res
  box:=heap_setCell_same _ _ 6 _ _ v4' h.box
  o1:=ZbS h.o1 h.box (by decide)
  o2:=ZbS h.o2 h.box (by decide)
  o3:=ZbS h.o3 h.box (by decide) }

theorem SfSt.hear (h:SfSt w W p z a len cap id boot n ls ts hd v1 v2 v3 v4)(hp:p<w.heap.size){v3':Value}{hd':List Int}(hg:W.grownBy W' v3.ownBlock)(ho:W'.ownsRow (z+1) 3 1 v3' hd'.length (flat intE hd')):SfSt w (W'.setCell ⟨z,5,none⟩ v3') p z a len cap id boot n ls ts hd' v1 v2 v3' v4:=
 have hn:=h.new;have l3:=h.o3.lt;have hgs:=h.gro.size;have hbox:W'.heap[z]? = some (.cells #[.int .i64 id,.int .i64 boot,.int .i64 n,v1,v2,v3,v4] 31):=(hg.block z (Zab h.box) (fun e=>by have:=l3 z e.symm;omega)).trans h.box
 have hres:=(hg.block w.heap.size (Zab h.res) (fun e=>by have:=l3 _ e.symm;omega)).trans h.res
 have k1:W'.ownsRow (w.heap.size+1) 127 4 v1 ls.length (flat lkE ls):=Zd4 h.o3 h.o1 (by decide) hg
 have k2:W'.ownsRow (w.heap.size+1) 131 4 v2 ts.length (flat thE ts):=Zd4 h.o3 h.o2 (by decide) hg
 {cur:=(h.cur.grown hg (fun b hb e=>by have:=l3 b e.symm;have:=h.new;omega)).grown (Zag W' z 5 _) (fun b hb=>by simp;omega)
  gro:=⟨(Zag W' z 5 v3').os.trans (hg.os.trans h.gro.os),(Zag W' z 5 v3').tape.trans (hg.tape.trans h.gro.tape),(Zag W' z 5 v3').output.trans (hg.output.trans h.gro.output),by have:=hg.size;simp;omega,fun b hb hne=>by
   rw [heap_setCell_other W' ⟨z,5,none⟩ _ _ (by show b≠z;omega),hg.block b (by omega) (fun e=>by have:=l3 b e.symm;omega)]
   exact h.gro.block b hb hne⟩
  new:=hn
  res:=by rw [heap_setCell_other W' ⟨z,5,none⟩ _ _ (by show w.heap.size≠z;omega)];exact hres
  box:=heap_setCell_same _ _ 5 _ _ v3' hbox
  o1:=ZbS k1 hbox (by decide)
  o2:=ZbS k2 hbox (by decide)
  o3:=ZbS ho hbox (by decide) }

theorem SfSt.other (h:SfSt w W p z a len cap id boot n ls ts hd v1 v2 v3 v4)(hp:p<w.heap.size){B:Nat}{cs:Array Value}(hg:W.grownBy W' (some B))(hB:z<B)(hb:W.heap[B]? = some (.cells cs 4)):SfSt w W' p z a len cap id boot n ls ts hd v1 v2 v3 v4:=
 have hn:=h.new;have hgs:=h.gro.size
 {cur:=h.cur.grown hg (fun b hb=>by simp;omega)
  gro:=⟨hg.os.trans h.gro.os,hg.tape.trans h.gro.tape,hg.output.trans h.gro.output,by have:=hg.size;omega,fun b hb hne=>by
   rw [hg.block b (by omega) (by simp;omega)]
   exact h.gro.block b hb hne⟩
  new:=hn
  res:=by rw [hg.block _ (Zab h.res) (by simp;omega)];exact h.res
  box:=by rw [hg.block _ (Zab h.box) (by simp;omega)];exact h.box
  o1:=h.o1.kept hg (.inr (ZbE h.o1 hb (by decide)))
  o2:=h.o2.kept hg (.inr (ZbE h.o2 hb (by decide)))
  o3:=h.o3.kept hg (.inr (ZbE h.o3 hb (by decide))) }

theorem SfSt.out (h:SfSt w W p z a len cap id boot n ls ts hd v1 v2 v3 v4)(hp:p<w.heap.size){ps:List RP}(hr:RecsIn W W.heap.size v4 ps):
  (((((((W.setCell ⟨w.heap.size,0,none⟩ (.int .i64 id)).setCell ⟨w.heap.size,1,none⟩ (.int .i64 boot)).setCell ⟨w.heap.size,2,none⟩ (.int .i64 n)).setCell ⟨w.heap.size,3,none⟩ v1).setCell ⟨w.heap.size,4,none⟩ v2).setCell ⟨w.heap.size,5,none⟩ v3).setCell ⟨w.heap.size,6,none⟩ v4).heap[w.heap.size]? = some (.cells #[.int .i64 id,.int .i64 boot,.int .i64 n,v1,v2,v3,v4] 31)/\SelfSrc (((((((W.setCell ⟨w.heap.size,0,none⟩ (.int .i64 id)).setCell ⟨w.heap.size,1,none⟩ (.int .i64 boot)).setCell ⟨w.heap.size,2,none⟩ (.int .i64 n)).setCell ⟨w.heap.size,3,none⟩ v1).setCell ⟨w.heap.size,4,none⟩ v2).setCell ⟨w.heap.size,5,none⟩ v3).setCell ⟨w.heap.size,6,none⟩ v4) (((((((W.setCell ⟨w.heap.size,0,none⟩ (.int .i64 id)).setCell ⟨w.heap.size,1,none⟩ (.int .i64 boot)).setCell ⟨w.heap.size,2,none⟩ (.int .i64 n)).setCell ⟨w.heap.size,3,none⟩ v1).setCell ⟨w.heap.size,4,none⟩ v2).setCell ⟨w.heap.size,5,none⟩ v3).setCell ⟨w.heap.size,6,none⟩ v4).heap.size v1 v2 v3 v4 ⟨id,boot,⟨n,ls,ts⟩,hd⟩ ps/\Cur (((((((W.setCell ⟨w.heap.size,0,none⟩ (.int .i64 id)).setCell ⟨w.heap.size,1,none⟩ (.int .i64 boot)).setCell ⟨w.heap.size,2,none⟩ (.int .i64 n)).setCell ⟨w.heap.size,3,none⟩ v1).setCell ⟨w.heap.size,4,none⟩ v2).setCell ⟨w.heap.size,5,none⟩ v3).setCell ⟨w.heap.size,6,none⟩ v4) p a len cap/\w.grownBy (((((((W.setCell ⟨w.heap.size,0,none⟩ (.int .i64 id)).setCell ⟨w.heap.size,1,none⟩ (.int .i64 boot)).setCell ⟨w.heap.size,2,none⟩ (.int .i64 n)).setCell ⟨w.heap.size,3,none⟩ v1).setCell ⟨w.heap.size,4,none⟩ v2).setCell ⟨w.heap.size,5,none⟩ v3).setCell ⟨w.heap.size,6,none⟩ v4) (some p):=by
 have e0:=heap_setCell_same _ _ 0 _ _ (.int .i64 id) h.res;have e1:=heap_setCell_same _ _ 1 _ _ (.int .i64 boot) e0;have e2:=heap_setCell_same _ _ 2 _ _ (.int .i64 n) e1;have e3:=heap_setCell_same _ _ 3 _ _ v1 e2;have e4:=heap_setCell_same _ _ 4 _ _ v2 e3;have e5:=heap_setCell_same _ _ 5 _ _ v3 e4;have e6:=heap_setCell_same _ _ 6 _ _ v4 e5;have hg:W.grownBy (((((((W.setCell ⟨w.heap.size,0,none⟩ (.int .i64 id)).setCell ⟨w.heap.size,1,none⟩ (.int .i64 boot)).setCell ⟨w.heap.size,2,none⟩ (.int .i64 n)).setCell ⟨w.heap.size,3,none⟩ v1).setCell ⟨w.heap.size,4,none⟩ v2).setCell ⟨w.heap.size,5,none⟩ v3).setCell ⟨w.heap.size,6,none⟩ v4) (some w.heap.size):=(Zaj (Zaj (Zaj (Zaj (Zaj (Zaj (Zag W w.heap.size _ _) (Zag _ w.heap.size _ _)) (Zag _ w.heap.size _ _)) (Zag _ w.heap.size _ _)) (Zag _ w.heap.size _ _)) (Zag _ w.heap.size _ _)) (Zag _ w.heap.size _ _));obtain⟨V,hV⟩:∃ V,V=(((((((W.setCell ⟨w.heap.size,0,none⟩ (.int .i64 id)).setCell ⟨w.heap.size,1,none⟩ (.int .i64 boot)).setCell ⟨w.heap.size,2,none⟩ (.int .i64 n)).setCell ⟨w.heap.size,3,none⟩ v1).setCell ⟨w.heap.size,4,none⟩ v2).setCell ⟨w.heap.size,5,none⟩ v3).setCell ⟨w.heap.size,6,none⟩ v4):=⟨_,rfl⟩;rw [<-hV] at hg e6 |-;have hgs:=hg.size;have k1:=h.o1.kept hg (.inr (ZbE h.o1 h.res (by decide)))
 have k2:=h.o2.kept hg (.inr (ZbE h.o2 h.res (by decide)))
 have k3:=h.o3.kept hg (.inr (ZbE h.o3 h.res (by decide)))
 refine⟨e6,⟨Zal k1 (Nat.zero_le _),fun k e=>(k1.lt k e).2,Zal k2 (Nat.zero_le _),fun k e=>(k2.lt k e).2,Zal k3 (Nat.zero_le _),fun k e=>(k3.lt k e).2,(hr.box h.res hg).wide hgs⟩,h.cur.grown hg (fun b hb=>by simp;omega),?_⟩
 exact⟨hg.os.trans h.gro.os,hg.tape.trans h.gro.tape,hg.output.trans h.gro.output,Nat.le_trans h.gro.size hgs,fun b hb hne=>by
  rw [hg.block b (by have:=h.gro.size;omega) (by simp;omega)]
  exact h.gro.block b hb hne⟩
end
end Go.Proofs.YtcimbiinljcifaaGreat
namespace Go.Proofs.YtcimbiinljcifaaGreat
open Go.RowKit
set_option linter.unusedSimpArgs false
set_option linter.unusedVariables false
set_option maxRecDepth 100000
set_option maxHeartbeats 8000000
theorem Zjj {w w':World}{base size p:Nat}{e:TypeId}{v:Value}{n:Nat}{xs:List Value}(h:w.ownsRow base e size v n xs)(hg:w.grownBy w' (some p))(hp:p<base):w'.ownsRow base e size v n xs:=h.kept hg (by
 rcases h.2 with ⟨e,_⟩ | ⟨g,cp,cur,e,hb,_⟩
 ·exact .inl (by rw [e];rfl)
 ·refine .inr ?_
  rw [e];intro h;simp [Value.ownBlock] at h
  omega)
theorem Zmn (a:Nr):∀ u∈nrE a,u.oneCell'=true:=by
 intro u hu;simp [nrE] at hu
 rcases hu with rfl | rfl <;> rfl
end Go.Proofs.YtcimbiinljcifaaGreat
namespace Go.Proofs.YtcimbiinljcifaaGreat
open Go.RowKit

def Ziy:Array Value:=#[.int .i64 0,.int .i64 0,.int .i64 0,.int .i64 0,.int .i64 0,.slice none 0 0,.int .i64 0,.bool false]

structure RcSt (w wr:World) (p B0 z:Nat) (a:Option Addr) (len cap:Nat) (v:Value) (x:RecD):Prop where
 cur:Cur wr p a len cap
 low:w.heap.size<=B0
 gro:w.grownBy wr (some p)
 box:wr.heap[z]? = some (.cells (recC x v) 40)
 res:wr.heap[B0]? = some (.cells Ziy 40)
 own:wr.ownsRow (B0+1) 98 2 v x.near.length (flat nrE x.near)
 djn:some z≠v.ownBlock

theorem Zb2 {w w':World}(hb:Below w.heap.size w w'):w.grownBy w' none:=⟨hb.os,hb.tape,hb.output,hb.size,fun k hk _=>hb.block k hk⟩

theorem ZcY {w a b:World}{p:Nat}{row:Option Nat}(h:w.grownBy a (some p))(g:a.grownBy b row)(hr:∀ k,row=some k->k=p\/w.heap.size<=k):w.grownBy b (some p):=
 ⟨g.os.trans h.os,g.tape.trans h.tape,g.output.trans h.output,Nat.le_trans h.size g.size,fun k hk hne=>by
  rw [g.block k (Nat.lt_of_lt_of_le hk h.size) (fun e=>by
   rcases hr k e.symm with h1 | h1
   ·exact hne (by rw [h1])
   ·omega),h.block k hk hne]⟩

theorem ZiN (w:World)(row:Option Nat):w.grownBy w row:=⟨rfl,rfl,rfl,Nat.le_refl _,fun _ _ _=>rfl⟩

theorem ZdX {w a:World}{p:Nat}(h:w.grownBy a (some p))(o:Obj):w.grownBy (a.alloc o) (some p):=
 ZcY h (row:=none) ⟨rfl,rfl,rfl,by simp,fun k hk _=>Below.heap_alloc _ _ _ hk⟩ (fun k e=>by cases e)

theorem ZcX {w a b:World}{p:Nat}(h:w.grownBy a (some p))(g:a.grownBy b (some p)):w.grownBy b (some p):=ZcY h g (fun k e=>.inl (by simpa using e.symm))

theorem Zcj {w a:World}{p:Nat}(h:w.grownBy a (some p))(z i:Nat)(u:Value)(hz:w.heap.size<=z):w.grownBy (a.setCell ⟨z,i,none⟩ u) (some p):=
 ZcY h (Zag a z i u) (fun k e=>.inr (by simp at e;omega))

section
variable {w wr w':World} {p B0 z:Nat} {a:Option Addr} {len cap:Nat} {v:Value} {x:RecD}

theorem RcSt.grown (h:RcSt w wr p B0 z a len cap v x)(hc:Cur w' p a len cap)(hg:wr.grownBy w' (some p))(hp:p<B0)(hz:B0<z):RcSt w w' p B0 z a len cap v x where
 cur:=hc
 low:=h.low
 gro:=ZcX h.gro hg
 box:=by rw [hg.block z (Zab h.box) (by simp;omega)];exact h.box
 res:=by rw [hg.block B0 (Zab h.res) (by simp;omega)];exact h.res
 own:=Zjj h.own hg (by omega)
 djn:=h.djn

theorem RcSt.below (h:RcSt w wr p B0 z a len cap v x)(hb:Below wr.heap.size wr w'):RcSt w w' p B0 z a len cap v x where
 cur:=h.cur.grown (Zb2 hb) (fun b _=>by simp)
 low:=h.low
 gro:=ZcY h.gro (Zb2 hb) (fun k e=>by cases e)
 box:=by rw [hb.block z (Zab h.box)];exact h.box
 res:=by rw [hb.block B0 (Zab h.res)];exact h.res
 own:=Zah h.own hb (Nat.le_refl _)
 djn:=h.djn

theorem RcSt.alloc (h:RcSt w wr p B0 z a len cap v x)(o:Obj):RcSt w (wr.alloc o) p B0 z a len cap v x:=h.below ((Below.refl _ _).alloc (Nat.le_refl _) _)

theorem RcSt.drew (h:RcSt w wr p B0 z a len cap v x):RcSt w wr.drew p B0 z a len cap v x:=h.below (Below.refl _ _).drew

theorem RcSt.set (h:RcSt w wr p B0 z a len cap v x)(i:Nat)(u:Value)(y:RecD)(hy:y.near=x.near)(hC:(recC x v).setIfInBounds i u=recC y v)(hp:p<B0)(hz:B0<z):RcSt w (wr.setCell ⟨z,i,none⟩ u) p B0 z a len cap v y where
 cur:=h.cur.grown (Zag wr z i u) (fun b hb=>by simp;omega)
 low:=h.low
 gro:=Zcj h.gro z i u (by have:=h.low;omega)
 box:=by rw [heap_setCell_same _ _ i _ _ u h.box,hC]
 res:=by rw [heap_setCell_other wr ⟨z,i,none⟩ _ _ (by show B0≠z;omega)];exact h.res
 own:=by
  rw [hy];refine h.own.kept (Zag wr z i u) ?_
  cases hv:v.ownBlock with
  | none=>exact .inl rfl
  | some g=>exact .inr (fun e=>h.djn (by rw [hv];exact e.symm))
 djn:=h.djn

theorem RcSt.put (h:RcSt w wr p B0 z a len cap v x){o:Obj}{v':Value}{l:List Nr}(hg:(wr.alloc o).grownBy w' v.ownBlock)(ho:w'.ownsRow (B0+1) 98 2 v' l.length (flat nrE l))(hd:some z≠v'.ownBlock)(hp:p<B0)(hz:B0<z):
  RcSt w (w'.setCell ⟨z,5,none⟩ v') p B0 z a len cap v' { x with near:=l }:=
 have hlt:=h.own.lt;have hcu:Cur w' p a len cap:=(ZaX h.cur o).grown hg (fun b hb e=>by have:=(hlt b e.symm).1;omega)
 have hbx:w'.heap[z]? = some (.cells (recC x v) 40):=by
  rw [hg.block z (by have:=Zab h.box;simp;omega) h.djn,Below.heap_alloc _ _ _ (Zab h.box)];exact h.box
 have hrs:w'.heap[B0]? = some (.cells Ziy 40):=by
  rw [hg.block B0 (by have:=Zab h.res;simp;omega) (fun e=>by have:=(hlt B0 e.symm).1;omega),Below.heap_alloc _ _ _ (Zab h.res)];exact h.res
 {cur:=hcu.grown (Zag w' z 5 v') (fun b hb=>by simp;omega)
  low:=h.low
  gro:=Zcj (ZcY (ZdX h.gro o) hg (fun k hk=>.inr (by have:=(hlt k hk).1;have:=h.low;omega))) z 5 v' (by have:=h.low;omega)
  box:=heap_setCell_same _ _ 5 _ _ v' hbx
  res:=by rw [heap_setCell_other w' ⟨z,5,none⟩ _ _ (by show B0≠z;omega)];exact hrs
  own:=by
   refine ho.kept (Zag w' z 5 v') ?_
   cases hv:v'.ownBlock with
   | none=>exact .inl rfl
   | some g=>exact .inr (fun e=>hd (by rw [hv];exact e.symm))
  djn:=hd }
end

theorem ZjA {W:World}{base z n:Nat}{v:Value}{xs:List Value}{C:Array Value}{fr:Nat × Nat}(ho:W.ownsRow base 98 2 v n xs)(h:W.heap[z]? = some (.cells C 40 fr)):some z≠v.ownBlock:=by
 intro eq
 rcases ho.2 with ⟨h1,_⟩ | ⟨g',cap',cur',hv',_,hh',_⟩
 ·rw [h1] at eq;simp [Value.ownBlock] at eq
 ·rw [hv'] at eq
  simp [Value.ownBlock] at eq
  subst eq;rw [h] at hh';simp at hh'
end Go.Proofs.YtcimbiinljcifaaGreat
namespace Go.Proofs.YtcimbiinljcifaaGreat
open Go.RowKit

set_option linter.unusedSimpArgs false

theorem ZeJ {α:Type}{enc:α->List Value}{sz bytes:Nat}(hlen:∀ a,(enc a).length=sz)(hpos:0<sz)(hone:∀ a,∀ u∈enc a,u.oneCell'=true)(hbb:bytes<=100){P:Program}(w:World){o:Oper}{a:Act}{K:Act->World->Prop}{Q:Exit->Act->World->Prop}(s x:Operand)(t:TypeId)
  (ho:o.op=.call { callee:=.builtin .append,args:=#[s,x],argTypes:=#[t,t] }) (base:Nat) (e:TypeId) (ht:P.underlying t=some (.slice e)) (zv:Value) (hzv:zv.cells.size=sz)
  (hinfo:(P.info? e).map (fun i=>(i.zero,i.size,i.bytes))=some (some zv,sz,bytes))
  (v:Value) (l:List α) (y:α) (hs:a.eval s=v) (hown:w.ownsRow base e sz v l.length (flat enc l))
  (ad:Addr) (c:Nat) (hx:a.eval x=.slice (some ad) 1 c) (hnews:∀ j u,(enc y)[j]? = some u->w.cell? (ad.add j)=some u)
  (hl:l.length+1<=1000000000) (hbase:base<=w.heap.size)
  (h:∀ v' w' l',Hid (l'=l++[y])->w'.ownsRow base e sz v' l'.length (flat enc l')->w.grownBy w' v.ownBlock->K (a.put o.dst v') w'):Oper.wp P o a w K Q:=by
 obtain⟨i0,hi,hz0,hz1,hz2⟩:=info_parts hinfo;refine wp_append_own w s x t ho base e i0 zv sz bytes ht hi hz0 hz1 hz2 hzv hpos v l.length (flat enc l) hs hown ad 1 c (enc y) hx (by rw [hlen];omega) hnews (hone y) (by unfold maxLen;omega) ?_ hbase ?_
 ·have:(l.length+1)*bytes<=1000000000*100:=Nat.mul_le_mul hl hbb
  omega
 ·intro v' w' h1 h2 _
  have e1:flat enc l++enc y=flat enc (l++[y]):=by rw [ZaL];simp [flat]
  rw [e1] at h1;exact h v' w' (l++[y]) rfl (by simpa using h1) h2

section
variable {w wr w':World} {p B0 z:Nat} {a:Option Addr} {len cap:Nat} {v:Value} {x:RecD}

theorem RcSt.box_app (h:RcSt w wr p B0 z a len cap v x)(hg:wr.grownBy w' v.ownBlock):w'.heap[z]? = some (.cells (recC x v) 40):=by
 rw [hg.block z (Zab h.box) h.djn];exact h.box

theorem RcSt.put2 (h:RcSt w wr p B0 z a len cap v x){v':Value}{l:List Nr}(hg:wr.grownBy w' v.ownBlock)(ho:w'.ownsRow (B0+1) 98 2 v' l.length (flat nrE l))(hp:p<B0)(hz:B0<z):
  RcSt w (w'.setCell ⟨z,5,none⟩ v') p B0 z a len cap v' { x with near:=l }:=
 have hlt:=h.own.lt;have hbx:=h.box_app hg;have hd:some z≠v'.ownBlock:=ZjA ho hbx;have hcu:Cur w' p a len cap:=h.cur.grown hg (fun b hb e=>by have:=(hlt b e.symm).1;omega)
 have hrs:w'.heap[B0]? = some (.cells Ziy 40):=by
  rw [hg.block B0 (Zab h.res) (fun e=>by have:=(hlt B0 e.symm).1;omega)];exact h.res
 {cur:=hcu.grown (Zag w' z 5 v') (fun b hb=>by simp;omega)
  low:=h.low
  gro:=Zcj (ZcY h.gro hg (fun k hk=>.inr (by have:=(hlt k hk).1;have:=h.low;omega))) z 5 v' (by have:=h.low;omega)
  box:=heap_setCell_same _ _ 5 _ _ v' hbx
  res:=by rw [heap_setCell_other w' ⟨z,5,none⟩ _ _ (by show B0≠z;omega)];exact hrs
  own:=by
   refine ho.kept (Zag w' z 5 v') ?_
   cases hv:v'.ownBlock with
   | none=>exact .inl rfl
   | some g=>exact .inr (fun e=>hd (by rw [hv];exact e.symm))
  djn:=hd }
end

def ZbW:Array Oper:=#[{ dst:=some 33,op:=Go.Op.fieldAddr 40 (Go.Operand.tmp 3) 5,type:=0,pos := "l04_record.go:154",after:=#[],guard:=none }, { dst:=some 34,op:=Go.Op.load 38 (Go.Operand.tmp 33),type:=38,pos := "l04_record.go:154",after:=#[{ on:=0,ground:=Go.Ground.data }],guard:=none }, { dst:=some 35,op:=Go.Op.move (Go.Operand.tmp 4),type:=3,pos := "l04_record.go:154",after:=#[],guard:=none }, { dst:=some 36,op:=Go.Op.move (Go.Operand.tmp 0),type:=59,pos := "l04_record.go:154",after:=#[],guard:=none }, { dst:=some 37,op:=Go.Op.call { callee:=Go.Callee.value (Go.Operand.func 26),args:=#[Go.Operand.tmp 36,Go.Operand.const (Go.Value.int Go.IntKind.i64 4)],argTypes:=#[59,3] },type:=3,pos := "l04_record.go:154",after:=#[{ on:=3,ground:=Go.Ground.data }],guard:=none }, { dst:=some 38,op:=Go.Op.binOp Go.BinOp.add 3 (Go.Operand.const (Go.Value.int Go.IntKind.i64 1)) (Go.Operand.tmp 37) 3,type:=3,pos := "l04_record.go:154",after:=#[{ on:=4,ground:=Go.Ground.data }],guard:=none }, { dst:=some 39,op:=Go.Op.build 98 #[(0,Go.Operand.tmp 35),(1,Go.Operand.tmp 38)],type:=98,pos := "l04_record.go:154",after:=#[{ on:=2,ground:=Go.Ground.data }, { on:=5,ground:=Go.Ground.data }],guard:=none }, { dst:=some 40,op:=Go.Op.buildSlice 38 1 #[(0,Go.Operand.tmp 39)],type:=38,pos := "l04_record.go:154",after:=#[{ on:=6,ground:=Go.Ground.data }],guard:=none }, { dst:=some 41,op:=Go.Op.call { callee:=Go.Callee.builtin Go.Builtin.append,args:=#[Go.Operand.tmp 34,Go.Operand.tmp 40],argTypes:=#[38,38] },type:=38,pos := "l04_record.go:154",after:=#[{ on:=1,ground:=Go.Ground.data }, { on:=7,ground:=Go.Ground.data }, { on:=4,ground:=Go.Ground.chain }],guard:=none }, { dst:=some 42,op:=Go.Op.fieldAddr 40 (Go.Operand.tmp 3) 5,type:=0,pos := "l04_record.go:154",after:=#[{ on:=0,ground:=Go.Ground.phase }, { on:=1,ground:=Go.Ground.phase }, { on:=2,ground:=Go.Ground.phase }, { on:=3,ground:=Go.Ground.phase }, { on:=4,ground:=Go.Ground.phase }, { on:=5,ground:=Go.Ground.phase }, { on:=6,ground:=Go.Ground.phase }, { on:=7,ground:=Go.Ground.phase }, { on:=8,ground:=Go.Ground.phase }],guard:=none }, { dst:=none,op:=Go.Op.store 38 (Go.Operand.tmp 42) (Go.Operand.tmp 41),type:=0,pos := "l04_record.go:154",after:=#[{ on:=9,ground:=Go.Ground.data }, { on:=8,ground:=Go.Ground.data }, { on:=8,ground:=Go.Ground.chain }, { on:=0,ground:=Go.Ground.phase }, { on:=1,ground:=Go.Ground.phase }, { on:=2,ground:=Go.Ground.phase }, { on:=3,ground:=Go.Ground.phase }, { on:=4,ground:=Go.Ground.phase }, { on:=5,ground:=Go.Ground.phase }, { on:=6,ground:=Go.Ground.phase }, { on:=7,ground:=Go.Ground.phase }, { on:=8,ground:=Go.Ground.phase }],guard:=none }]

set_option maxRecDepth 100000 in
set_option maxHeartbeats 1000000 in
theorem Zmo (t1 t2 t5 t6 t7 t8 t9 t10 t11 t12 t13 t14 t15 t16 t17 t18 t19 t20 t21 t22 t23 t24 t25 t26 t27 t28 t29 t30 t31 t32 t33 t34 t35 t36 t37 t38 t39 t40 t41 t42 t43 t44 t45 t46 t47 t48 t49 t50 t51 t52 t53 t54 t55 t56 t57 t58 t59 t60 t61 t62 t63 t64 t65 t66 t67:Value)(w W0:World)(p B0 z:Nat)(a:Option Addr)(len cap:Nat)(va:Option Addr)(vc:Nat)(x:RecD)(vv:Int)(Q:Exit->Act->World->Prop)(ops:Array Oper)(hops:Hid (ops=ZbW))(hpan:∀ c a1 a2 w,Q (.panic c) a1 w->Q (.panic c) a2 w)(hp:p<B0)(hz:B0<z)(hxl:x.near.length<=1000)
  (st0:RcSt w W0 p B0 z a len cap (.slice va x.near.length vc) x)
  (hend:∀ (W:World) (y:Int) (na:Option Addr) (nc:Nat) (l:List Nr),Hid (l=x.near++[⟨vv,1+y⟩])->0<=y->y<4->RcSt w W p B0 z a len cap (.slice na l.length nc) { x with near:=l }->∀ sb,Q .normal { tmps:=#[.pointer (some ⟨p,0,none⟩),t1,t2,.pointer (some ⟨z,0,none⟩),.int .i64 vv,t5,t6,t7,t8,t9,t10,t11,t12,t13,t14,t15,t16,t17,t18,t19,t20,t21,t22,t23,t24,t25,t26,t27,t28,t29,t30,t31,t32,.pointer (some ⟨z,5,none⟩),.slice va x.near.length vc,.int .i64 vv,.pointer (some ⟨p,0,none⟩),.int .i64 y,.int .i64 (1+y),.agg #[.int .i64 vv,.int .i64 (1+y)],.slice (some ⟨sb,0,none⟩) 1 1,.slice na l.length nc,.pointer (some ⟨z,5,none⟩),t43,t44,t45,t46,t47,t48,t49,t50,t51,t52,t53,t54,t55,t56,t57,t58,t59,t60,t61,t62,t63,t64,t65,t66,t67],defers:=[] } W):
  wpAnyH Tryz.prog .any ops Q (fun _=>True) 11 (Array.replicate 11 false) { tmps:=#[.pointer (some ⟨p,0,none⟩),t1,t2,.pointer (some ⟨z,0,none⟩),.int .i64 vv,t5,t6,t7,t8,t9,t10,t11,t12,t13,t14,t15,t16,t17,t18,t19,t20,t21,t22,t23,t24,t25,t26,t27,t28,t29,t30,t31,t32,t33,t34,t35,t36,t37,t38,t39,t40,t41,t42,t43,t44,t45,t46,t47,t48,t49,t50,t51,t52,t53,t54,t55,t56,t57,t58,t59,t60,t61,t62,t63,t64,t65,t66,t67],defers:=[] } W0:=by
 have h12:∀ (W:World) (y:Int) (sb:Nat),RcSt w W p B0 z a len cap (.slice va x.near.length vc) x->0<=y->y<4->W.cell? ⟨sb,0,none⟩=some (.int .i64 vv)->W.cell? ⟨sb,1,none⟩=some (.int .i64 (1+y))->wpAnyH Tryz.prog .any ops Q (fun _=>True) 3 #[true,true,true,true,true,true,true,true,false,false,false] { tmps:=#[.pointer (some ⟨p,0,none⟩),t1,t2,.pointer (some ⟨z,0,none⟩),.int .i64 vv,t5,t6,t7,t8,t9,t10,t11,t12,t13,t14,t15,t16,t17,t18,t19,t20,t21,t22,t23,t24,t25,t26,t27,t28,t29,t30,t31,t32,.pointer (some ⟨z,5,none⟩),.slice va x.near.length vc,.int .i64 vv,.pointer (some ⟨p,0,none⟩),.int .i64 y,.int .i64 (1+y),.agg #[.int .i64 vv,.int .i64 (1+y)],.slice (some ⟨sb,0,none⟩) 1 1,t41,t42,t43,t44,t45,t46,t47,t48,t49,t50,t51,t52,t53,t54,t55,t56,t57,t58,t59,t60,t61,t62,t63,t64,t65,t66,t67],defers:=[] } W:=by
  intro W y sb st hy0 hy1 k0 k1;refine wpAnyH_ready (rs:=[8]) (by rw [hops.out];kernel_rfl) (by simp) ?_
  refine AllReadyH.cons (o:=?_) ?_ (fun K hK=>?_) ?_
  rotate_left 1
  ·rw [hops.out];unfold ZbW;simp only [getS];rfl
  ·rw [if_pos (by rfl)]
   refine ZeJ ZgS (by omega) Zmn (by omega) _ _ _ 38 rfl (B0+1) 98 Tryz.underlying38 (nrV nr0) rfl Tryz.infoNr (.slice va x.near.length vc) x.near ⟨vv,1+y⟩ rfl st.own ⟨sb,0,none⟩ 1 rfl ?_ (by omega) (by have:=Zab st.res;omega) ?_
   ·intro j u hj
    match j,hj with
    | 0,hj=>simp [nrE] at hj;subst hj;exact k0
    | 1,hj=>simp [nrE] at hj;subst hj;exact k1
   intro v' W' l' hl' hown' hgrow;obtain⟨na,nc,rfl⟩:=Zac hown';have st2:=st.put2 hgrow hown' hp hz;refine hK.out _ _ trivial (fun _=>?_)
   clear hK K
   try simp only [putS]
   refine Zay 9 ?_ ?_ ?_ (by rw [hops.out];kernel_rfl) ?_ ?_ trivial ?_
   rotate_left 2
   ·rw [hops.out];unfold ZbW;simp only [getS];rfl
   ·intro W _;go_simp <;> with_reducible rfl
   ·exact fun c _ w h=>hpan c _ _ w h
   try simp only [putS]
   refine wpAnyH_ready (rs:=[10]) (by rw [hops.out];kernel_rfl) (by simp) ?_
   refine AllReadyH.cons (o:=?_) ?_ (fun K hK=>?_) ?_
   rotate_left 1
   ·rw [hops.out];unfold ZbW;simp only [getS];rfl
   ·rw [if_pos (by rfl)]
    have bx:=st.box_app hgrow;have c5:=Zaa bx 5;simp only [recC] at c5
    have c6:W'.cell? ⟨z,5,none⟩=some (.slice va x.near.length vc):=c5;have f6:=Zae bx 5;clear c5 bx
    go_simp
    refine hK.out _ _ trivial (fun _=>?_)
    refine wpAnyH_done (by rw [hops.out];kernel_rfl) ?_ _
    exact hend _ y na nc l' hl' hy0 hy1 st2 sb
   ·exact AllReadyH.nil
  ·exact AllReadyH.nil
 have h02:∀ (W:World) (y:Int) (sb:Nat),RcSt w W p B0 z a len cap (.slice va x.near.length vc) x->0<=y->y<4->W.cell? ⟨sb,0,none⟩=some (.int .i64 vv)->W.cell? ⟨sb,1,none⟩=some (.int .i64 (1+y))->wpAnyH Tryz.prog .any ops Q (fun _=>True) 4 #[true,false,true,true,true,true,true,true,false,false,false] { tmps:=#[.pointer (some ⟨p,0,none⟩),t1,t2,.pointer (some ⟨z,0,none⟩),.int .i64 vv,t5,t6,t7,t8,t9,t10,t11,t12,t13,t14,t15,t16,t17,t18,t19,t20,t21,t22,t23,t24,t25,t26,t27,t28,t29,t30,t31,t32,.pointer (some ⟨z,5,none⟩),t34,.int .i64 vv,.pointer (some ⟨p,0,none⟩),.int .i64 y,.int .i64 (1+y),.agg #[.int .i64 vv,.int .i64 (1+y)],.slice (some ⟨sb,0,none⟩) 1 1,t41,t42,t43,t44,t45,t46,t47,t48,t49,t50,t51,t52,t53,t54,t55,t56,t57,t58,t59,t60,t61,t62,t63,t64,t65,t66,t67],defers:=[] } W:=by
  intro W y sb st hy0 hy1 k0 k1;refine wpAnyH_ready (rs:=[1]) (by rw [hops.out];kernel_rfl) (by simp) ?_
  refine AllReadyH.cons (o:=?_) ?_ (fun K hK=>?_) ?_
  rotate_left 1
  ·rw [hops.out];unfold ZbW;simp only [getS];rfl
  ·rw [if_pos (by rfl)]
   have c5:=Zaa st.box 5;simp only [recC] at c5
   have c6:W.cell? ⟨z,5,none⟩=some (.slice va x.near.length vc):=c5;clear c5
   go_simp
   refine hK.out _ _ trivial (fun _=>?_)
   exact h12 W y sb st hy0 hy1 k0 k1
  exact AllReadyH.nil
 have h11:∀ (W:World) (y:Int),RcSt w W p B0 z a len cap (.slice va x.near.length vc) x->0<=y->y<4->wpAnyH Tryz.prog .any ops Q (fun _=>True) 4 #[true,true,true,true,true,true,true,false,false,false,false] { tmps:=#[.pointer (some ⟨p,0,none⟩),t1,t2,.pointer (some ⟨z,0,none⟩),.int .i64 vv,t5,t6,t7,t8,t9,t10,t11,t12,t13,t14,t15,t16,t17,t18,t19,t20,t21,t22,t23,t24,t25,t26,t27,t28,t29,t30,t31,t32,.pointer (some ⟨z,5,none⟩),.slice va x.near.length vc,.int .i64 vv,.pointer (some ⟨p,0,none⟩),.int .i64 y,.int .i64 (1+y),.agg #[.int .i64 vv,.int .i64 (1+y)],t40,t41,t42,t43,t44,t45,t46,t47,t48,t49,t50,t51,t52,t53,t54,t55,t56,t57,t58,t59,t60,t61,t62,t63,t64,t65,t66,t67],defers:=[] } W:=by
  intro W y st hy0 hy1;refine wpAnyH_ready (rs:=[7]) (by rw [hops.out];kernel_rfl) (by simp) ?_
  refine AllReadyH.cons (o:=?_) ?_ (fun K hK=>?_) ?_
  rotate_left 1
  ·rw [hops.out];unfold ZbW;simp only [getS];rfl
  ·rw [if_pos (by rfl)]
   go_simp
   refine hK.out _ _ trivial (fun _=>?_)
   have n:=heap_alloc_new W (.cells #[.int .i64 vv,.int .i64 (1+y)] 98);exact h12 _ y W.heap.size (st.alloc _) hy0 hy1 (Zaa n 0) (Zaa n 1)
  exact AllReadyH.nil
 have h01:∀ (W:World) (y:Int),RcSt w W p B0 z a len cap (.slice va x.near.length vc) x->0<=y->y<4->wpAnyH Tryz.prog .any ops Q (fun _=>True) 5 #[true,false,true,true,true,true,true,false,false,false,false] { tmps:=#[.pointer (some ⟨p,0,none⟩),t1,t2,.pointer (some ⟨z,0,none⟩),.int .i64 vv,t5,t6,t7,t8,t9,t10,t11,t12,t13,t14,t15,t16,t17,t18,t19,t20,t21,t22,t23,t24,t25,t26,t27,t28,t29,t30,t31,t32,.pointer (some ⟨z,5,none⟩),t34,.int .i64 vv,.pointer (some ⟨p,0,none⟩),.int .i64 y,.int .i64 (1+y),.agg #[.int .i64 vv,.int .i64 (1+y)],t40,t41,t42,t43,t44,t45,t46,t47,t48,t49,t50,t51,t52,t53,t54,t55,t56,t57,t58,t59,t60,t61,t62,t63,t64,t65,t66,t67],defers:=[] } W:=by
  intro W y st hy0 hy1;refine wpAnyH_ready (rs:=[1,7]) (by rw [hops.out];kernel_rfl) (by simp) ?_
  refine AllReadyH.cons (o:=?_) ?_ (fun K hK=>?_) ?_
  rotate_left 1
  ·rw [hops.out];unfold ZbW;simp only [getS];rfl
  ·rw [if_pos (by rfl)]
   have c5:=Zaa st.box 5;simp only [recC] at c5
   have c6:W.cell? ⟨z,5,none⟩=some (.slice va x.near.length vc):=c5;clear c5
   go_simp
   refine hK.out _ _ trivial (fun _=>?_)
   exact h11 W y st hy0 hy1
  refine AllReadyH.cons (o:=?_) ?_ (fun K hK=>?_) ?_
  rotate_left 1
  ·rw [hops.out];unfold ZbW;simp only [getS];rfl
  ·rw [if_pos (by rfl)]
   go_simp
   refine hK.out _ _ trivial (fun _=>?_)
   have n:=heap_alloc_new W (.cells #[.int .i64 vv,.int .i64 (1+y)] 98);exact h02 _ y W.heap.size (st.alloc _) hy0 hy1 (Zaa n 0) (Zaa n 1)
  exact AllReadyH.nil
 have h10:∀ (W:World),RcSt w W p B0 z a len cap (.slice va x.near.length vc) x->wpAnyH Tryz.prog .any ops Q (fun _=>True) 7 #[true,true,true,true,false,false,false,false,false,false,false] { tmps:=#[.pointer (some ⟨p,0,none⟩),t1,t2,.pointer (some ⟨z,0,none⟩),.int .i64 vv,t5,t6,t7,t8,t9,t10,t11,t12,t13,t14,t15,t16,t17,t18,t19,t20,t21,t22,t23,t24,t25,t26,t27,t28,t29,t30,t31,t32,.pointer (some ⟨z,5,none⟩),.slice va x.near.length vc,.int .i64 vv,.pointer (some ⟨p,0,none⟩),t37,t38,t39,t40,t41,t42,t43,t44,t45,t46,t47,t48,t49,t50,t51,t52,t53,t54,t55,t56,t57,t58,t59,t60,t61,t62,t63,t64,t65,t66,t67],defers:=[] } W:=by
  intro W st;refine wpAnyH_ready (rs:=[4]) (by rw [hops.out];kernel_rfl) (by simp) ?_
  refine AllReadyH.cons (o:=?_) ?_ (fun K hK=>?_) ?_
  rotate_left 1
  ·rw [hops.out];unfold ZbW;simp only [getS];rfl
  ·rw [if_pos (by rfl)]
   go_simp
   refine (ZaB p a len cap 4 _ st.cur (by omega) (by omega)).mono ?_
   rintro e w2 ⟨y,rfl,hy0,hy1,hc,hg⟩;have st2:=st.grown hc hg hp hz;have hw1:IntKind.i64.wrap (1+y)=1+y:=ZaD _ (by omega) (by omega)
   refine hK.out _ _ trivial (fun _=>?_)
   clear hK K
   try simp only [putS]
   refine Zay 5 ?_ ?_ ?_ (by rw [hops.out];kernel_rfl) ?_ ?_ trivial ?_
   rotate_left 2
   ·rw [hops.out];unfold ZbW;simp only [getS];rfl
   ·intro W _;go_simp <;> with_reducible rfl
   ·exact fun c _ w h=>hpan c _ _ w h
   try simp only [putS]
   refine Zay 6 ?_ ?_ ?_ (by rw [hops.out];kernel_rfl) ?_ ?_ trivial ?_
   rotate_left 2
   ·rw [hops.out];unfold ZbW;simp only [getS];rfl
   ·intro W _;go_simp <;> with_reducible rfl
   ·exact fun c _ w h=>hpan c _ _ w h
   try simp only [putS]
   exact h11 w2 y st2 hy0 hy1
  exact AllReadyH.nil
 have h00:∀ (W:World),RcSt w W p B0 z a len cap (.slice va x.near.length vc) x->wpAnyH Tryz.prog .any ops Q (fun _=>True) 8 #[true,false,true,true,false,false,false,false,false,false,false] { tmps:=#[.pointer (some ⟨p,0,none⟩),t1,t2,.pointer (some ⟨z,0,none⟩),.int .i64 vv,t5,t6,t7,t8,t9,t10,t11,t12,t13,t14,t15,t16,t17,t18,t19,t20,t21,t22,t23,t24,t25,t26,t27,t28,t29,t30,t31,t32,.pointer (some ⟨z,5,none⟩),t34,.int .i64 vv,.pointer (some ⟨p,0,none⟩),t37,t38,t39,t40,t41,t42,t43,t44,t45,t46,t47,t48,t49,t50,t51,t52,t53,t54,t55,t56,t57,t58,t59,t60,t61,t62,t63,t64,t65,t66,t67],defers:=[] } W:=by
  intro W st;refine wpAnyH_ready (rs:=[1,4]) (by rw [hops.out];kernel_rfl) (by simp) ?_
  refine AllReadyH.cons (o:=?_) ?_ (fun K hK=>?_) ?_
  rotate_left 1
  ·rw [hops.out];unfold ZbW;simp only [getS];rfl
  ·rw [if_pos (by rfl)]
   have c5:=Zaa st.box 5;simp only [recC] at c5
   have c6:W.cell? ⟨z,5,none⟩=some (.slice va x.near.length vc):=c5;clear c5
   go_simp
   refine hK.out _ _ trivial (fun _=>?_)
   exact h10 W st
  refine AllReadyH.cons (o:=?_) ?_ (fun K hK=>?_) ?_
  rotate_left 1
  ·rw [hops.out];unfold ZbW;simp only [getS];rfl
  ·rw [if_pos (by rfl)]
   go_simp
   refine (ZaB p a len cap 4 _ st.cur (by omega) (by omega)).mono ?_
   rintro e w2 ⟨y,rfl,hy0,hy1,hc,hg⟩;have st2:=st.grown hc hg hp hz;have hw1:IntKind.i64.wrap (1+y)=1+y:=ZaD _ (by omega) (by omega)
   refine hK.out _ _ trivial (fun _=>?_)
   clear hK K
   try simp only [putS]
   refine Zay 5 ?_ ?_ ?_ (by rw [hops.out];kernel_rfl) ?_ ?_ trivial ?_
   rotate_left 2
   ·rw [hops.out];unfold ZbW;simp only [getS];rfl
   ·intro W _;go_simp <;> with_reducible rfl
   ·exact fun c _ w h=>hpan c _ _ w h
   try simp only [putS]
   refine Zay 6 ?_ ?_ ?_ (by rw [hops.out];kernel_rfl) ?_ ?_ trivial ?_
   rotate_left 2
   ·rw [hops.out];unfold ZbW;simp only [getS];rfl
   ·intro W _;go_simp <;> with_reducible rfl
   ·exact fun c _ w h=>hpan c _ _ w h
   try simp only [putS]
   exact h01 w2 y st2 hy0 hy1
  exact AllReadyH.nil
 show wpAnyH Tryz.prog .any ops Q (fun _=>True) 11 #[false,false,false,false,false,false,false,false,false,false,false] _ W0
 refine Zay 0 ?_ ?_ ?_ (by rw [hops.out];kernel_rfl) ?_ ?_ trivial ?_
 rotate_left 2
 ·rw [hops.out];unfold ZbW;simp only [getS];rfl
 ·intro W _;go_simp <;> with_reducible rfl
 ·exact fun c _ w h=>hpan c _ _ w h
 try simp only [putS]
 refine Zay 2 ?_ ?_ ?_ (by rw [hops.out];kernel_rfl) ?_ ?_ trivial ?_
 rotate_left 2
 ·rw [hops.out];unfold ZbW;simp only [getS];rfl
 ·intro W _;go_simp <;> with_reducible rfl
 ·exact fun c _ w h=>hpan c _ _ w h
 try simp only [putS]
 refine Zay 3 ?_ ?_ ?_ (by rw [hops.out];kernel_rfl) ?_ ?_ trivial ?_
 rotate_left 2
 ·rw [hops.out];unfold ZbW;simp only [getS];rfl
 ·intro W _;go_simp <;> with_reducible rfl
 ·exact fun c _ w h=>hpan c _ _ w h
 try simp only [putS]
 exact h00 W0 st0
end Go.Proofs.YtcimbiinljcifaaGreat
namespace Go.Proofs.YtcimbiinljcifaaGreat
open Go.RowKit
set_option linter.unusedSimpArgs false
set_option linter.unusedVariables false
set_option maxRecDepth 100000
set_option maxHeartbeats 8000000
abbrev put8 (W:World) (g:Nat) (v0 v1 v2 v3 v4 v5 v6 v7:Value):World:=(((((((W.setCell ⟨g,0,none⟩ v0).setCell ⟨g,1,none⟩ v1).setCell ⟨g,2,none⟩ v2).setCell ⟨g,3,none⟩ v3).setCell ⟨g,4,none⟩ v4).setCell ⟨g,5,none⟩ v5).setCell ⟨g,6,none⟩ v6).setCell ⟨g,7,none⟩ v7
theorem RcSt.fin {w wr:World}{p B0 z:Nat}{a:Option Addr}{len cap:Nat}{v:Value}{x:RecD}(h:RcSt w wr p B0 z a len cap v x)(hp:p<B0)(_:B0<wr.heap.size):
  (put8 wr B0 (.int .i64 x.area) (.int .i64 x.kind) (.int .i64 x.owner) (.int .i64 x.key) (.int .i64 x.seq) v (.int .i64 x.cost) (.bool x.far)).heap[B0]? = some (.cells (recC x v) 40) /\
  Cur (put8 wr B0 (.int .i64 x.area) (.int .i64 x.kind) (.int .i64 x.owner) (.int .i64 x.key) (.int .i64 x.seq) v (.int .i64 x.cost) (.bool x.far)) p a len cap /\
  w.grownBy (put8 wr B0 (.int .i64 x.area) (.int .i64 x.kind) (.int .i64 x.owner) (.int .i64 x.key) (.int .i64 x.seq) v (.int .i64 x.cost) (.bool x.far)) (some p) /\
  (put8 wr B0 (.int .i64 x.area) (.int .i64 x.kind) (.int .i64 x.owner) (.int .i64 x.key) (.int .i64 x.seq) v (.int .i64 x.cost) (.bool x.far)).ownsRow (B0+1) 98 2 v x.near.length (flat nrE x.near):=by
 have k0:=h.res;unfold Ziy at k0;have k1:=heap_setCell_same _ _ 0 _ _ (.int .i64 x.area) k0;have k2:=heap_setCell_same _ _ 1 _ _ (.int .i64 x.kind) k1;have k3:=heap_setCell_same _ _ 2 _ _ (.int .i64 x.owner) k2;have k4:=heap_setCell_same _ _ 3 _ _ (.int .i64 x.key) k3;have k5:=heap_setCell_same _ _ 4 _ _ (.int .i64 x.seq) k4;have k6:=heap_setCell_same _ _ 5 _ _ v k5;have k7:=heap_setCell_same _ _ 6 _ _ (.int .i64 x.cost) k6;have k8:=heap_setCell_same _ _ 7 _ _ (.bool x.far) k7;have hne:∀ b,b<=p->some b≠some B0:=fun b hb=>by simp;omega
 refine⟨by unfold recC;exact k8,?_,?_,?_⟩
 ·exact ((((((((h.cur.grown (Zag _ B0 _ _) hne).grown (Zag _ B0 _ _) hne).grown (Zag _ B0 _ _) hne).grown (Zag _ B0 _ _) hne).grown (Zag _ B0 _ _) hne).grown (Zag _ B0 _ _) hne).grown (Zag _ B0 _ _) hne).grown (Zag _ B0 _ _) hne)
 ·have hlo:=h.low
  exact Zcj (Zcj (Zcj (Zcj (Zcj (Zcj (Zcj (Zcj h.gro B0 0 _ hlo) B0 1 _ hlo) B0 2 _ hlo) B0 3 _ hlo) B0 4 _ hlo) B0 5 _ hlo) B0 6 _ hlo) B0 7 _ hlo
 ·have hlt:B0<B0+1:=by omega
  exact Zau (j:=7) (Zau (j:=6) (Zau (j:=5) (Zau (j:=4) (Zau (j:=3) (Zau (j:=2) (Zau (j:=1) (Zau (j:=0) (h.own) hlt) hlt) hlt) hlt) hlt) hlt) hlt) hlt
end Go.Proofs.YtcimbiinljcifaaGreat
