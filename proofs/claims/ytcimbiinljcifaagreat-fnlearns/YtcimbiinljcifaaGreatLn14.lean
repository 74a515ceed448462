/-
  LcDag
-/
import Derived.Test.YtcimbiinljcifaaGreatLn13
import Derived.Test.YtcimbiinljcifaaGreatLn3
namespace Go.Proofs.YtcimbiinljcifaaGreat
open Go.RowKit
set_option linter.unusedSimpArgs false
set_option linter.unusedVariables false
set_option maxRecDepth 100000
set_option maxHeartbeats 8000000
theorem Zd4 {w w':World}{b1 b2 s1 s2 n m:Nat}{e1 e2:TypeId}{v1 v2:Value}{xs ys:List Value}(h1:w.ownsRow b1 e1 s1 v1 n xs)(h2:w.ownsRow b2 e2 s2 v2 m ys)(he:e1≠e2)(hg:w.grownBy w' v1.ownBlock):w'.ownsRow b2 e2 s2 v2 m ys:=by
 refine⟨h2.1,?_⟩
 rcases h2.2 with h | ⟨g,cap,cur,hv,hgb,hh,r⟩
 ·exact .inl h
 ·refine .inr ⟨g,cap,cur,hv,hgb,?_,r⟩
  rw [hg.block g (Zab hh) ?_]
  ·exact hh
  ·intro e
   rcases h1.2 with ⟨h,_⟩ | ⟨g',cap',cur',hv',_,hh',_⟩
   ·rw [h] at e;simp [Value.ownBlock] at e
   ·rw [hv'] at e
    simp [Value.ownBlock] at e
    subst e;rw [hh] at hh';simp at hh'
    exact he hh'.2.symm
theorem ZbU {α:Type}{enc:α->List Value}{sz bytes:Nat}(hlen:∀ l:List α,(flat enc l).length=l.length*sz)(hpos:0<sz)(hone:∀ a,∀ u∈enc a,u.oneCell'=true)(hbb:bytes<=100){P:Program}(w:World){o:Oper}{a:Act}{K:Act->World->Prop}{Q:Exit->Act->World->Prop}(s x:Operand)(t:TypeId)
  (ho:o.op=.call { callee:=.builtin .append,args:=#[s,x],argTypes:=#[t,t] }) (base:Nat) (e:TypeId) (ht:P.underlying t=some (.slice e)) (zv:Value) (hzv:zv.cells.size=sz)
  (hinfo:(P.info? e).map (fun i=>(i.zero,i.size,i.bytes))=some (some zv,sz,bytes))
  (v:Value) (l:List α) (hs:a.eval s=v) (hown:w.ownsRow base e sz v l.length (flat enc l))
  (base2:Nat) (v2:Value) (l2:List α) (hx:a.eval x=v2) (hown2:w.ownsRow base2 e sz v2 l2.length (flat enc l2))
  (hl:l.length+l2.length<=1000000000) (hbase:base<=w.heap.size)
  (h:∀ v' w',w'.ownsRow base e sz v' (l++l2).length (flat enc (l++l2))->w.grownBy w' v.ownBlock->K (a.put o.dst v') w'):o.wp P a w K Q:=by
 obtain⟨i0,hi,hz0,hz1,hz2⟩:=info_parts hinfo
 rcases hown2.2 with ⟨e1,e2⟩ | ⟨g,cap,cur,e1,_⟩
 ·have e3:l2=[]:=List.eq_nil_of_length_eq_zero e2
  subst e3;have hrun:=run_append_owned_none (P:=P) (w:=w) base t o.type e i0 sz ht hi v l.length (flat enc l) hown;have hx2:=hx.trans e1;have hf:=h v w (by simpa using hown) (ZcJ w _)
  unfold Oper.wp;simp [execOp,ho,resolve,invoke,builtin,hs,hx2,hrun,Result.andThen]
  exact hf
 ·refine wp_append_own w s x t ho base e i0 zv sz bytes ht hi hz0 hz1 hz2 hzv hpos v l.length (flat enc l) hs hown ⟨g,0,none⟩ l2.length cap (flat enc l2) (hx.trans e1) (hlen l2) (hown2.cells (by rw [e1];rfl)) ?_ (by unfold maxLen;omega) ?_ hbase ?_
  ·intro u hu
   simp only [flat,List.mem_flatMap] at hu
   obtain⟨b,_,hb⟩:=hu;exact hone b u hb
  ·have:(l.length+l2.length)*bytes<=1000000000*100:=Nat.mul_le_mul hl hbb
   omega
  ·intro v' w' h1 h2 _
   have e1:flat enc l++flat enc l2=flat enc (l++l2):=by rw [ZaL]
   rw [e1] at h1;exact h v' w' (by simpa using h1) h2
def Zbb:Array Oper:=#[{ dst:=some 3,op:=Go.Op.fieldAddr 31 (Go.Operand.tmp 1) 2,type:=0,pos := "l08_tell.go:95",after:=#[],guard:=none }, { dst:=some 4,op:=Go.Op.fieldAddr 27 (Go.Operand.tmp 3) 0,type:=0,pos := "l08_tell.go:95",after:=#[{ on:=0,ground:=Go.Ground.data }],guard:=none }, { dst:=some 5,op:=Go.Op.load 3 (Go.Operand.tmp 4),type:=3,pos := "l08_tell.go:95",after:=#[{ on:=1,ground:=Go.Ground.data }],guard:=none }, { dst:=some 6,op:=Go.Op.buildSlice 24 0 #[],type:=24,pos := "l08_tell.go:95",after:=#[],guard:=none }, { dst:=some 7,op:=Go.Op.fieldAddr 31 (Go.Operand.tmp 1) 2,type:=0,pos := "l08_tell.go:95",after:=#[],guard:=none }, { dst:=some 8,op:=Go.Op.fieldAddr 27 (Go.Operand.tmp 7) 1,type:=0,pos := "l08_tell.go:95",after:=#[{ on:=4,ground:=Go.Ground.data }],guard:=none }, { dst:=some 9,op:=Go.Op.load 24 (Go.Operand.tmp 8),type:=24,pos := "l08_tell.go:95",after:=#[{ on:=5,ground:=Go.Ground.data }],guard:=none }, { dst:=some 10,op:=Go.Op.call { callee:=Go.Callee.builtin Go.Builtin.append,args:=#[Go.Operand.tmp 6,Go.Operand.tmp 9],argTypes:=#[24,24] },type:=24,pos := "l08_tell.go:95",after:=#[{ on:=3,ground:=Go.Ground.data }, { on:=6,ground:=Go.Ground.data }],guard:=none }, { dst:=some 11,op:=Go.Op.buildSlice 25 0 #[],type:=25,pos := "l08_tell.go:95",after:=#[],guard:=none }, { dst:=some 12,op:=Go.Op.fieldAddr 31 (Go.Operand.tmp 1) 2,type:=0,pos := "l08_tell.go:95",after:=#[],guard:=none }, { dst:=some 13,op:=Go.Op.fieldAddr 27 (Go.Operand.tmp 12) 2,type:=0,pos := "l08_tell.go:95",after:=#[{ on:=9,ground:=Go.Ground.data }],guard:=none }, { dst:=some 14,op:=Go.Op.load 25 (Go.Operand.tmp 13),type:=25,pos := "l08_tell.go:95",after:=#[{ on:=10,ground:=Go.Ground.data }],guard:=none }, { dst:=some 15,op:=Go.Op.call { callee:=Go.Callee.builtin Go.Builtin.append,args:=#[Go.Operand.tmp 11,Go.Operand.tmp 14],argTypes:=#[25,25] },type:=25,pos := "l08_tell.go:95",after:=#[{ on:=8,ground:=Go.Ground.data }, { on:=11,ground:=Go.Ground.data }, { on:=7,ground:=Go.Ground.chain }],guard:=none }, { dst:=some 16,op:=Go.Op.build 27 #[(0,Go.Operand.tmp 5),(1,Go.Operand.tmp 10),(2,Go.Operand.tmp 15)],type:=27,pos := "l08_tell.go:95",after:=#[{ on:=2,ground:=Go.Ground.data }, { on:=7,ground:=Go.Ground.data }, { on:=12,ground:=Go.Ground.data }],guard:=none }, { dst:=some 17,op:=Go.Op.fieldAddr 31 (Go.Operand.tmp 1) 2,type:=0,pos := "l08_tell.go:95",after:=#[{ on:=0,ground:=Go.Ground.phase }, { on:=1,ground:=Go.Ground.phase }, { on:=2,ground:=Go.Ground.phase }, { on:=3,ground:=Go.Ground.phase }, { on:=4,ground:=Go.Ground.phase }, { on:=5,ground:=Go.Ground.phase }, { on:=6,ground:=Go.Ground.phase }, { on:=7,ground:=Go.Ground.phase }, { on:=8,ground:=Go.Ground.phase }, { on:=9,ground:=Go.Ground.phase }, { on:=10,ground:=Go.Ground.phase }, { on:=11,ground:=Go.Ground.phase }, { on:=12,ground:=Go.Ground.phase }, { on:=13,ground:=Go.Ground.phase }],guard:=none }, { dst:=none,op:=Go.Op.store 27 (Go.Operand.tmp 17) (Go.Operand.tmp 16),type:=0,pos := "l08_tell.go:95",after:=#[{ on:=14,ground:=Go.Ground.data }, { on:=13,ground:=Go.Ground.data }, { on:=12,ground:=Go.Ground.chain }, { on:=0,ground:=Go.Ground.phase }, { on:=1,ground:=Go.Ground.phase }, { on:=2,ground:=Go.Ground.phase }, { on:=3,ground:=Go.Ground.phase }, { on:=4,ground:=Go.Ground.phase }, { on:=5,ground:=Go.Ground.phase }, { on:=6,ground:=Go.Ground.phase }, { on:=7,ground:=Go.Ground.phase }, { on:=8,ground:=Go.Ground.phase }, { on:=9,ground:=Go.Ground.phase }, { on:=10,ground:=Go.Ground.phase }, { on:=11,ground:=Go.Ground.phase }, { on:=12,ground:=Go.Ground.phase }, { on:=13,ground:=Go.Ground.phase }],guard:=none }]
theorem lc_dag {t0 t2 t6 t9 t10 t11 t14 t15 t16 t17 t18 t19 t20 t21 t22 t23 t24 t25 t26 t27:Value}(n:Int)(ls:List Lk)(ts:List Th)(a1 a2:Option Addr)(c1 c2 b0:Nat)(n1:Nat)(w1:World)(Q:Exit->Act->World->Prop)(S:World->Prop)(ops:Array Oper)(hops:Hid (ops=Zbb))(hn1:n1<=w1.heap.size)(hl:ls.length<=1048576)(ht:ts.length<=1048576)
  (hS:∀ W,Below n1 w1 W->S W) (hSs:∀ W,Below n1 w1 W->∀ u1 u2,S (((W.setCell ⟨b0,2,none⟩ (.int .i64 n)).setCell ⟨b0,3,none⟩ u1).setCell ⟨b0,4,none⟩ u2))
  (c00 c01 c05 c06:Value) (HB:∀ W,Below n1 w1 W->W.heap[b0]? = some (.cells #[c00,c01,.int .i64 n,(.slice a1 ls.length c1),(.slice a2 ts.length c2),c05,c06] 31))
  (HS1:∀ W,Below n1 w1 W->W.ownsRow 0 127 4 (.slice a1 ls.length c1) ls.length (flat lkE ls)) (HS2:∀ W,Below n1 w1 W->W.ownsRow 0 131 4 (.slice a2 ts.length c2) ts.length (flat thE ts))
  (hend:∀ W G1 G2 p1a p2a p1c p2c,Below n1 w1 W->n1<=W.heap.size->W.ownsRow n1 127 4 (.slice p1a ls.length p1c) ls.length (flat lkE ls)->W.ownsRow n1 131 4 (.slice p2a ts.length p2c) ts.length (flat thE ts)->Q .normal { tmps:=#[t0,.pointer (some ⟨b0,0,none⟩),t2,.pointer (some ⟨b0,2,none⟩),.pointer (some ⟨b0,2,none⟩),.int .i64 n,(.slice (some ⟨G1,0,none⟩) 0 0),.pointer (some ⟨b0,2,none⟩),.pointer (some ⟨b0,3,none⟩),(.slice a1 ls.length c1),(.slice p1a ls.length p1c),(.slice (some ⟨G2,0,none⟩) 0 0),.pointer (some ⟨b0,2,none⟩),.pointer (some ⟨b0,4,none⟩),(.slice a2 ts.length c2),(.slice p2a ts.length p2c),.agg #[.int .i64 n,(.slice p1a ls.length p1c),(.slice p2a ts.length p2c)],.pointer (some ⟨b0,2,none⟩),t18,t19,t20,t21,t22,t23,t24,t25,t26,t27],defers:=[] } (((W.setCell ⟨b0,2,none⟩ (.int .i64 n)).setCell ⟨b0,3,none⟩ (.slice p1a ls.length p1c)).setCell ⟨b0,4,none⟩ (.slice p2a ts.length p2c))):
  wpAnyH Tryz.prog .any ops (NoPanic Q) S 9 #[true,true,true,false,true,true,false,false,false,true,true,false,false,false,false,false] { tmps:=#[t0,.pointer (some ⟨b0,0,none⟩),t2,.pointer (some ⟨b0,2,none⟩),.pointer (some ⟨b0,2,none⟩),.int .i64 n,t6,.pointer (some ⟨b0,2,none⟩),.pointer (some ⟨b0,3,none⟩),t9,t10,t11,.pointer (some ⟨b0,2,none⟩),.pointer (some ⟨b0,4,none⟩),t14,t15,t16,t17,t18,t19,t20,t21,t22,t23,t24,t25,t26,t27],defers:=[] } w1:=by
 have h111111:∀ (W:World) (g1 g2:Nat) (p1a p2a:Option Addr) (p1c p2c:Nat),Below n1 w1 W->n1<=W.heap.size->W.ownsRow n1 127 4 (.slice p1a ls.length p1c) ls.length (flat lkE ls)->W.ownsRow n1 131 4 (.slice p2a ts.length p2c) ts.length (flat thE ts)->wpAnyH Tryz.prog .any ops (NoPanic Q) S 3 #[true,true,true,true,true,true,true,true,true,true,true,true,true,false,false,false] { tmps:=#[t0,.pointer (some ⟨b0,0,none⟩),t2,.pointer (some ⟨b0,2,none⟩),.pointer (some ⟨b0,2,none⟩),.int .i64 n,(.slice (some ⟨g1,0,none⟩) 0 0),.pointer (some ⟨b0,2,none⟩),.pointer (some ⟨b0,3,none⟩),(.slice a1 ls.length c1),(.slice p1a ls.length p1c),(.slice (some ⟨g2,0,none⟩) 0 0),.pointer (some ⟨b0,2,none⟩),.pointer (some ⟨b0,4,none⟩),(.slice a2 ts.length c2),(.slice p2a ts.length p2c),t16,t17,t18,t19,t20,t21,t22,t23,t24,t25,t26,t27],defers:=[] } W:=by
  intro W g1 g2 p1a p2a p1c p2c g hn k1 k2;have hSW:=hS W g;refine Zay 13 ?_ ?_ ?_ (by rw [hops.out];kernel_rfl) ?_ ?_ (by assumption) ?_
  rotate_left 2
  ·rw [hops.out];unfold Zbb;simp only [getS];rfl
  ·intro W hW;(try dsimp only at hW);go_simp <;> with_reducible rfl
  ·exact fun _ _ _=>id
  try simp only [putS]
  refine Zay 14 ?_ ?_ ?_ (by rw [hops.out];kernel_rfl) ?_ ?_ (by assumption) ?_
  rotate_left 2
  ·rw [hops.out];unfold Zbb;simp only [getS];rfl
  ·intro W hW;(try dsimp only at hW);go_simp <;> with_reducible rfl
  ·exact fun _ _ _=>id
  try simp only [putS]
  refine wpAnyH_ready (rs:=[15]) (by rw [hops.out];kernel_rfl) (by simp) ?_
  refine AllReadyH.cons (o:=?_) ?_ (fun K hK=>?_) ?_
  rotate_left 1
  ·rw [hops.out];unfold Zbb;simp only [getS];rfl
  ·rw [if_pos (by rfl)]
   have hb:=HB W g;have y2:=Zaa hb 2;have y3:=Zaa hb 3;have y4:=Zaa hb 4;simp at y2 y3 y4
   have f2:=Zae hb 2;have f3:=Zae hb 3;have f4:=Zae hb 4;have hS2:=hSs W g (.slice p1a ls.length p1c) (.slice p2a ts.length p2c);have hE:=hend W g1 g2 p1a p2a p1c p2c g hn k1 k2
   go_simp
   refine hK.out _ _ hS2 (fun _=>?_)
   exact wpAnyH_done (by rw [hops.out];kernel_rfl) (NoPanic.normal hE) _
  exact AllReadyH.nil
 have h111110:∀ (W:World) (g1 g2:Nat) (p1a p2a:Option Addr) (p1c p2c:Nat),Below n1 w1 W->n1<=W.heap.size->W.ownsRow n1 127 4 (.slice p1a ls.length p1c) ls.length (flat lkE ls)->W.ownsRow n1 131 4 (.slice (some ⟨g2,0,none⟩) 0 0) 0 (flat thE [])->wpAnyH Tryz.prog .any ops (NoPanic Q) S 4 #[true,true,true,true,true,true,true,true,true,true,true,true,false,false,false,false] { tmps:=#[t0,.pointer (some ⟨b0,0,none⟩),t2,.pointer (some ⟨b0,2,none⟩),.pointer (some ⟨b0,2,none⟩),.int .i64 n,(.slice (some ⟨g1,0,none⟩) 0 0),.pointer (some ⟨b0,2,none⟩),.pointer (some ⟨b0,3,none⟩),(.slice a1 ls.length c1),(.slice p1a ls.length p1c),(.slice (some ⟨g2,0,none⟩) 0 0),.pointer (some ⟨b0,2,none⟩),.pointer (some ⟨b0,4,none⟩),(.slice a2 ts.length c2),t15,t16,t17,t18,t19,t20,t21,t22,t23,t24,t25,t26,t27],defers:=[] } W:=by
  intro W g1 g2 p1a p2a p1c p2c g hn k1 k2;refine wpAnyH_ready (rs:=[12]) (by rw [hops.out];kernel_rfl) (by simp) ?_
  refine AllReadyH.cons (o:=?_) ?_ (fun K hK=>?_) ?_
  rotate_left 1
  ·rw [hops.out];unfold Zbb;simp only [getS];rfl
  ·rw [if_pos (by rfl)]
   refine ZbU Zi4 (by omega) Zi3 (by omega) W _ _ 25 rfl n1 131 Tryz.underlying25 (.agg #[.int .i64 0,.int .i64 0,.int .i64 0,.bool false]) rfl Tryz.infoTh4 _ [] rfl k2 0 _ ts rfl (HS2 W g) (by simp;omega) hn ?_
   intro v' w2 ho gr;simp only [List.nil_append] at ho
   obtain⟨va,vc,rfl⟩:=Zac ho;have g2':Below n1 w1 w2:=g.grown gr hn (fun k hk=>(k2.lt k hk).1)
   have hn2:n1<=w2.heap.size:=Nat.le_trans hn gr.size;refine hK.out _ _ (hS _ g2') (fun _=>?_)
   exact h111111 w2 g1 g2 p1a va p1c vc g2' hn2 (Zd4 k2 k1 (by decide) gr) ho
  exact AllReadyH.nil
 have h110110:∀ (W:World) (g1 g2:Nat) (p1a p2a:Option Addr) (p1c p2c:Nat),Below n1 w1 W->n1<=W.heap.size->W.ownsRow n1 127 4 (.slice (some ⟨g1,0,none⟩) 0 0) 0 (flat lkE [])->W.ownsRow n1 131 4 (.slice (some ⟨g2,0,none⟩) 0 0) 0 (flat thE [])->wpAnyH Tryz.prog .any ops (NoPanic Q) S 5 #[true,true,true,true,true,true,true,false,true,true,true,true,false,false,false,false] { tmps:=#[t0,.pointer (some ⟨b0,0,none⟩),t2,.pointer (some ⟨b0,2,none⟩),.pointer (some ⟨b0,2,none⟩),.int .i64 n,(.slice (some ⟨g1,0,none⟩) 0 0),.pointer (some ⟨b0,2,none⟩),.pointer (some ⟨b0,3,none⟩),(.slice a1 ls.length c1),t10,(.slice (some ⟨g2,0,none⟩) 0 0),.pointer (some ⟨b0,2,none⟩),.pointer (some ⟨b0,4,none⟩),(.slice a2 ts.length c2),t15,t16,t17,t18,t19,t20,t21,t22,t23,t24,t25,t26,t27],defers:=[] } W:=by
  intro W g1 g2 p1a p2a p1c p2c g hn k1 k2;refine wpAnyH_ready (rs:=[7]) (by rw [hops.out];kernel_rfl) (by simp) ?_
  refine AllReadyH.cons (o:=?_) ?_ (fun K hK=>?_) ?_
  rotate_left 1
  ·rw [hops.out];unfold Zbb;simp only [getS];rfl
  ·rw [if_pos (by rfl)]
   refine ZbU Zd1 (by omega) Zd0 (by omega) W _ _ 24 rfl n1 127 Tryz.underlying24 (.agg #[.int .i64 0,.int .i64 0,.int .i64 0,.int .i64 0]) rfl Tryz.infoLk4 _ [] rfl k1 0 _ ls rfl (HS1 W g) (by simp;omega) hn ?_
   intro v' w2 ho gr;simp only [List.nil_append] at ho
   obtain⟨va,vc,rfl⟩:=Zac ho;have g2':Below n1 w1 w2:=g.grown gr hn (fun k hk=>(k1.lt k hk).1)
   have hn2:n1<=w2.heap.size:=Nat.le_trans hn gr.size;refine hK.out _ _ (hS _ g2') (fun _=>?_)
   exact h111110 w2 g1 g2 va p2a vc p2c g2' hn2 ho (Zd4 k1 k2 (by decide) gr)
  exact AllReadyH.nil
 have h111010:∀ (W:World) (g1 g2:Nat) (p1a p2a:Option Addr) (p1c p2c:Nat),Below n1 w1 W->n1<=W.heap.size->W.ownsRow n1 127 4 (.slice p1a ls.length p1c) ls.length (flat lkE ls)->wpAnyH Tryz.prog .any ops (NoPanic Q) S 5 #[true,true,true,true,true,true,true,true,false,true,true,true,false,false,false,false] { tmps:=#[t0,.pointer (some ⟨b0,0,none⟩),t2,.pointer (some ⟨b0,2,none⟩),.pointer (some ⟨b0,2,none⟩),.int .i64 n,(.slice (some ⟨g1,0,none⟩) 0 0),.pointer (some ⟨b0,2,none⟩),.pointer (some ⟨b0,3,none⟩),(.slice a1 ls.length c1),(.slice p1a ls.length p1c),t11,.pointer (some ⟨b0,2,none⟩),.pointer (some ⟨b0,4,none⟩),(.slice a2 ts.length c2),t15,t16,t17,t18,t19,t20,t21,t22,t23,t24,t25,t26,t27],defers:=[] } W:=by
  intro W g1 g2 p1a p2a p1c p2c g hn k1;refine wpAnyH_ready (rs:=[8]) (by rw [hops.out];kernel_rfl) (by simp) ?_
  refine AllReadyH.cons (o:=?_) ?_ (fun K hK=>?_) ?_
  rotate_left 1
  ·rw [hops.out];unfold Zbb;simp only [getS];rfl
  ·rw [if_pos (by rfl)]
   go_simp
   have g2':Below n1 w1 (W.alloc (.cells #[] 131)):=g.alloc hn _;refine hK.out _ _ (hS _ g2') (fun _=>?_)
   exact h111110 _ g1 W.heap.size p1a p2a p1c p2c g2' (by simp;omega) (k1.alloc _) (World.ownsRow_lit W #[] 0 hn (by unfold maxLen;omega) (by simp))
  exact AllReadyH.nil
 have h111100:∀ (W:World) (g1 g2:Nat) (p1a p2a:Option Addr) (p1c p2c:Nat),Below n1 w1 W->n1<=W.heap.size->W.ownsRow n1 127 4 (.slice p1a ls.length p1c) ls.length (flat lkE ls)->W.ownsRow n1 131 4 (.slice (some ⟨g2,0,none⟩) 0 0) 0 (flat thE [])->wpAnyH Tryz.prog .any ops (NoPanic Q) S 5 #[true,true,true,true,true,true,true,true,true,true,true,false,false,false,false,false] { tmps:=#[t0,.pointer (some ⟨b0,0,none⟩),t2,.pointer (some ⟨b0,2,none⟩),.pointer (some ⟨b0,2,none⟩),.int .i64 n,(.slice (some ⟨g1,0,none⟩) 0 0),.pointer (some ⟨b0,2,none⟩),.pointer (some ⟨b0,3,none⟩),(.slice a1 ls.length c1),(.slice p1a ls.length p1c),(.slice (some ⟨g2,0,none⟩) 0 0),.pointer (some ⟨b0,2,none⟩),.pointer (some ⟨b0,4,none⟩),t14,t15,t16,t17,t18,t19,t20,t21,t22,t23,t24,t25,t26,t27],defers:=[] } W:=by
  intro W g1 g2 p1a p2a p1c p2c g hn k1 k2;refine wpAnyH_ready (rs:=[11]) (by rw [hops.out];kernel_rfl) (by simp) ?_
  refine AllReadyH.cons (o:=?_) ?_ (fun K hK=>?_) ?_
  rotate_left 1
  ·rw [hops.out];unfold Zbb;simp only [getS];rfl
  ·rw [if_pos (by rfl)]
   have hb:=HB W g;have y:=Zaa hb 4;simp at y
   have hSW:=hS W g
   go_simp
   refine hK.out _ _ hSW (fun _=>?_)
   exact h111110 W g1 g2 p1a p2a p1c p2c g hn k1 k2
  exact AllReadyH.nil
 have h010110:∀ (W:World) (g1 g2:Nat) (p1a p2a:Option Addr) (p1c p2c:Nat),Below n1 w1 W->n1<=W.heap.size->W.ownsRow n1 131 4 (.slice (some ⟨g2,0,none⟩) 0 0) 0 (flat thE [])->wpAnyH Tryz.prog .any ops (NoPanic Q) S 6 #[true,true,true,false,true,true,true,false,true,true,true,true,false,false,false,false] { tmps:=#[t0,.pointer (some ⟨b0,0,none⟩),t2,.pointer (some ⟨b0,2,none⟩),.pointer (some ⟨b0,2,none⟩),.int .i64 n,t6,.pointer (some ⟨b0,2,none⟩),.pointer (some ⟨b0,3,none⟩),(.slice a1 ls.length c1),t10,(.slice (some ⟨g2,0,none⟩) 0 0),.pointer (some ⟨b0,2,none⟩),.pointer (some ⟨b0,4,none⟩),(.slice a2 ts.length c2),t15,t16,t17,t18,t19,t20,t21,t22,t23,t24,t25,t26,t27],defers:=[] } W:=by
  intro W g1 g2 p1a p2a p1c p2c g hn k2;refine wpAnyH_ready (rs:=[3]) (by rw [hops.out];kernel_rfl) (by simp) ?_
  refine AllReadyH.cons (o:=?_) ?_ (fun K hK=>?_) ?_
  rotate_left 1
  ·rw [hops.out];unfold Zbb;simp only [getS];rfl
  ·rw [if_pos (by rfl)]
   go_simp
   have g2':Below n1 w1 (W.alloc (.cells #[] 127)):=g.alloc hn _;refine hK.out _ _ (hS _ g2') (fun _=>?_)
   exact h110110 _ W.heap.size g2 p1a p2a p1c p2c g2' (by simp;omega) (World.ownsRow_lit W #[] 0 hn (by unfold maxLen;omega) (by simp)) (k2.alloc _)
  exact AllReadyH.nil
 have h100110:∀ (W:World) (g1 g2:Nat) (p1a p2a:Option Addr) (p1c p2c:Nat),Below n1 w1 W->n1<=W.heap.size->W.ownsRow n1 127 4 (.slice (some ⟨g1,0,none⟩) 0 0) 0 (flat lkE [])->W.ownsRow n1 131 4 (.slice (some ⟨g2,0,none⟩) 0 0) 0 (flat thE [])->wpAnyH Tryz.prog .any ops (NoPanic Q) S 6 #[true,true,true,true,true,true,false,false,true,true,true,true,false,false,false,false] { tmps:=#[t0,.pointer (some ⟨b0,0,none⟩),t2,.pointer (some ⟨b0,2,none⟩),.pointer (some ⟨b0,2,none⟩),.int .i64 n,(.slice (some ⟨g1,0,none⟩) 0 0),.pointer (some ⟨b0,2,none⟩),.pointer (some ⟨b0,3,none⟩),t9,t10,(.slice (some ⟨g2,0,none⟩) 0 0),.pointer (some ⟨b0,2,none⟩),.pointer (some ⟨b0,4,none⟩),(.slice a2 ts.length c2),t15,t16,t17,t18,t19,t20,t21,t22,t23,t24,t25,t26,t27],defers:=[] } W:=by
  intro W g1 g2 p1a p2a p1c p2c g hn k1 k2;refine wpAnyH_ready (rs:=[6]) (by rw [hops.out];kernel_rfl) (by simp) ?_
  refine AllReadyH.cons (o:=?_) ?_ (fun K hK=>?_) ?_
  rotate_left 1
  ·rw [hops.out];unfold Zbb;simp only [getS];rfl
  ·rw [if_pos (by rfl)]
   have hb:=HB W g;have y:=Zaa hb 3;simp at y
   have hSW:=hS W g
   go_simp
   refine hK.out _ _ hSW (fun _=>?_)
   exact h110110 W g1 g2 p1a p2a p1c p2c g hn k1 k2
  exact AllReadyH.nil
 have h110010:∀ (W:World) (g1 g2:Nat) (p1a p2a:Option Addr) (p1c p2c:Nat),Below n1 w1 W->n1<=W.heap.size->W.ownsRow n1 127 4 (.slice (some ⟨g1,0,none⟩) 0 0) 0 (flat lkE [])->wpAnyH Tryz.prog .any ops (NoPanic Q) S 6 #[true,true,true,true,true,true,true,false,false,true,true,true,false,false,false,false] { tmps:=#[t0,.pointer (some ⟨b0,0,none⟩),t2,.pointer (some ⟨b0,2,none⟩),.pointer (some ⟨b0,2,none⟩),.int .i64 n,(.slice (some ⟨g1,0,none⟩) 0 0),.pointer (some ⟨b0,2,none⟩),.pointer (some ⟨b0,3,none⟩),(.slice a1 ls.length c1),t10,t11,.pointer (some ⟨b0,2,none⟩),.pointer (some ⟨b0,4,none⟩),(.slice a2 ts.length c2),t15,t16,t17,t18,t19,t20,t21,t22,t23,t24,t25,t26,t27],defers:=[] } W:=by
  intro W g1 g2 p1a p2a p1c p2c g hn k1;refine wpAnyH_ready (rs:=[7,8]) (by rw [hops.out];kernel_rfl) (by simp) ?_
  refine AllReadyH.cons (o:=?_) ?_ (fun K hK=>?_) ?_
  rotate_left 1
  ·rw [hops.out];unfold Zbb;simp only [getS];rfl
  ·rw [if_pos (by rfl)]
   refine ZbU Zd1 (by omega) Zd0 (by omega) W _ _ 24 rfl n1 127 Tryz.underlying24 (.agg #[.int .i64 0,.int .i64 0,.int .i64 0,.int .i64 0]) rfl Tryz.infoLk4 _ [] rfl k1 0 _ ls rfl (HS1 W g) (by simp;omega) hn ?_
   intro v' w2 ho gr;simp only [List.nil_append] at ho
   obtain⟨va,vc,rfl⟩:=Zac ho;have g2':Below n1 w1 w2:=g.grown gr hn (fun k hk=>(k1.lt k hk).1)
   have hn2:n1<=w2.heap.size:=Nat.le_trans hn gr.size;refine hK.out _ _ (hS _ g2') (fun _=>?_)
   exact h111010 w2 g1 g2 va p2a vc p2c g2' hn2 ho 
  refine AllReadyH.cons (o:=?_) ?_ (fun K hK=>?_) ?_
  rotate_left 1
  ·rw [hops.out];unfold Zbb;simp only [getS];rfl
  ·rw [if_pos (by rfl)]
   go_simp
   have g2':Below n1 w1 (W.alloc (.cells #[] 131)):=g.alloc hn _;refine hK.out _ _ (hS _ g2') (fun _=>?_)
   exact h110110 _ g1 W.heap.size p1a p2a p1c p2c g2' (by simp;omega) (k1.alloc _) (World.ownsRow_lit W #[] 0 hn (by unfold maxLen;omega) (by simp))
  exact AllReadyH.nil
 have h110100:∀ (W:World) (g1 g2:Nat) (p1a p2a:Option Addr) (p1c p2c:Nat),Below n1 w1 W->n1<=W.heap.size->W.ownsRow n1 127 4 (.slice (some ⟨g1,0,none⟩) 0 0) 0 (flat lkE [])->W.ownsRow n1 131 4 (.slice (some ⟨g2,0,none⟩) 0 0) 0 (flat thE [])->wpAnyH Tryz.prog .any ops (NoPanic Q) S 6 #[true,true,true,true,true,true,true,false,true,true,true,false,false,false,false,false] { tmps:=#[t0,.pointer (some ⟨b0,0,none⟩),t2,.pointer (some ⟨b0,2,none⟩),.pointer (some ⟨b0,2,none⟩),.int .i64 n,(.slice (some ⟨g1,0,none⟩) 0 0),.pointer (some ⟨b0,2,none⟩),.pointer (some ⟨b0,3,none⟩),(.slice a1 ls.length c1),t10,(.slice (some ⟨g2,0,none⟩) 0 0),.pointer (some ⟨b0,2,none⟩),.pointer (some ⟨b0,4,none⟩),t14,t15,t16,t17,t18,t19,t20,t21,t22,t23,t24,t25,t26,t27],defers:=[] } W:=by
  intro W g1 g2 p1a p2a p1c p2c g hn k1 k2;refine wpAnyH_ready (rs:=[7,11]) (by rw [hops.out];kernel_rfl) (by simp) ?_
  refine AllReadyH.cons (o:=?_) ?_ (fun K hK=>?_) ?_
  rotate_left 1
  ·rw [hops.out];unfold Zbb;simp only [getS];rfl
  ·rw [if_pos (by rfl)]
   refine ZbU Zd1 (by omega) Zd0 (by omega) W _ _ 24 rfl n1 127 Tryz.underlying24 (.agg #[.int .i64 0,.int .i64 0,.int .i64 0,.int .i64 0]) rfl Tryz.infoLk4 _ [] rfl k1 0 _ ls rfl (HS1 W g) (by simp;omega) hn ?_
   intro v' w2 ho gr;simp only [List.nil_append] at ho
   obtain⟨va,vc,rfl⟩:=Zac ho;have g2':Below n1 w1 w2:=g.grown gr hn (fun k hk=>(k1.lt k hk).1)
   have hn2:n1<=w2.heap.size:=Nat.le_trans hn gr.size;refine hK.out _ _ (hS _ g2') (fun _=>?_)
   exact h111100 w2 g1 g2 va p2a vc p2c g2' hn2 ho (Zd4 k1 k2 (by decide) gr)
  refine AllReadyH.cons (o:=?_) ?_ (fun K hK=>?_) ?_
  rotate_left 1
  ·rw [hops.out];unfold Zbb;simp only [getS];rfl
  ·rw [if_pos (by rfl)]
   have hb:=HB W g;have y:=Zaa hb 4;simp at y
   have hSW:=hS W g
   go_simp
   refine hK.out _ _ hSW (fun _=>?_)
   exact h110110 W g1 g2 p1a p2a p1c p2c g hn k1 k2
  exact AllReadyH.nil
 have h111000:∀ (W:World) (g1 g2:Nat) (p1a p2a:Option Addr) (p1c p2c:Nat),Below n1 w1 W->n1<=W.heap.size->W.ownsRow n1 127 4 (.slice p1a ls.length p1c) ls.length (flat lkE ls)->wpAnyH Tryz.prog .any ops (NoPanic Q) S 6 #[true,true,true,true,true,true,true,true,false,true,true,false,false,false,false,false] { tmps:=#[t0,.pointer (some ⟨b0,0,none⟩),t2,.pointer (some ⟨b0,2,none⟩),.pointer (some ⟨b0,2,none⟩),.int .i64 n,(.slice (some ⟨g1,0,none⟩) 0 0),.pointer (some ⟨b0,2,none⟩),.pointer (some ⟨b0,3,none⟩),(.slice a1 ls.length c1),(.slice p1a ls.length p1c),t11,.pointer (some ⟨b0,2,none⟩),.pointer (some ⟨b0,4,none⟩),t14,t15,t16,t17,t18,t19,t20,t21,t22,t23,t24,t25,t26,t27],defers:=[] } W:=by
  intro W g1 g2 p1a p2a p1c p2c g hn k1;refine wpAnyH_ready (rs:=[8,11]) (by rw [hops.out];kernel_rfl) (by simp) ?_
  refine AllReadyH.cons (o:=?_) ?_ (fun K hK=>?_) ?_
  rotate_left 1
  ·rw [hops.out];unfold Zbb;simp only [getS];rfl
  ·rw [if_pos (by rfl)]
   go_simp
   have g2':Below n1 w1 (W.alloc (.cells #[] 131)):=g.alloc hn _;refine hK.out _ _ (hS _ g2') (fun _=>?_)
   exact h111100 _ g1 W.heap.size p1a p2a p1c p2c g2' (by simp;omega) (k1.alloc _) (World.ownsRow_lit W #[] 0 hn (by unfold maxLen;omega) (by simp))
  refine AllReadyH.cons (o:=?_) ?_ (fun K hK=>?_) ?_
  rotate_left 1
  ·rw [hops.out];unfold Zbb;simp only [getS];rfl
  ·rw [if_pos (by rfl)]
   have hb:=HB W g;have y:=Zaa hb 4;simp at y
   have hSW:=hS W g
   go_simp
   refine hK.out _ _ hSW (fun _=>?_)
   exact h111010 W g1 g2 p1a p2a p1c p2c g hn k1
  exact AllReadyH.nil
 have h000110:∀ (W:World) (g1 g2:Nat) (p1a p2a:Option Addr) (p1c p2c:Nat),Below n1 w1 W->n1<=W.heap.size->W.ownsRow n1 131 4 (.slice (some ⟨g2,0,none⟩) 0 0) 0 (flat thE [])->wpAnyH Tryz.prog .any ops (NoPanic Q) S 7 #[true,true,true,false,true,true,false,false,true,true,true,true,false,false,false,false] { tmps:=#[t0,.pointer (some ⟨b0,0,none⟩),t2,.pointer (some ⟨b0,2,none⟩),.pointer (some ⟨b0,2,none⟩),.int .i64 n,t6,.pointer (some ⟨b0,2,none⟩),.pointer (some ⟨b0,3,none⟩),t9,t10,(.slice (some ⟨g2,0,none⟩) 0 0),.pointer (some ⟨b0,2,none⟩),.pointer (some ⟨b0,4,none⟩),(.slice a2 ts.length c2),t15,t16,t17,t18,t19,t20,t21,t22,t23,t24,t25,t26,t27],defers:=[] } W:=by
  intro W g1 g2 p1a p2a p1c p2c g hn k2;refine wpAnyH_ready (rs:=[3,6]) (by rw [hops.out];kernel_rfl) (by simp) ?_
  refine AllReadyH.cons (o:=?_) ?_ (fun K hK=>?_) ?_
  rotate_left 1
  ·rw [hops.out];unfold Zbb;simp only [getS];rfl
  ·rw [if_pos (by rfl)]
   go_simp
   have g2':Below n1 w1 (W.alloc (.cells #[] 127)):=g.alloc hn _;refine hK.out _ _ (hS _ g2') (fun _=>?_)
   exact h100110 _ W.heap.size g2 p1a p2a p1c p2c g2' (by simp;omega) (World.ownsRow_lit W #[] 0 hn (by unfold maxLen;omega) (by simp)) (k2.alloc _)
  refine AllReadyH.cons (o:=?_) ?_ (fun K hK=>?_) ?_
  rotate_left 1
  ·rw [hops.out];unfold Zbb;simp only [getS];rfl
  ·rw [if_pos (by rfl)]
   have hb:=HB W g;have y:=Zaa hb 3;simp at y
   have hSW:=hS W g
   go_simp
   refine hK.out _ _ hSW (fun _=>?_)
   exact h010110 W g1 g2 p1a p2a p1c p2c g hn k2
  exact AllReadyH.nil
 have h010010:∀ (W:World) (g1 g2:Nat) (p1a p2a:Option Addr) (p1c p2c:Nat),Below n1 w1 W->n1<=W.heap.size->wpAnyH Tryz.prog .any ops (NoPanic Q) S 7 #[true,true,true,false,true,true,true,false,false,true,true,true,false,false,false,false] { tmps:=#[t0,.pointer (some ⟨b0,0,none⟩),t2,.pointer (some ⟨b0,2,none⟩),.pointer (some ⟨b0,2,none⟩),.int .i64 n,t6,.pointer (some ⟨b0,2,none⟩),.pointer (some ⟨b0,3,none⟩),(.slice a1 ls.length c1),t10,t11,.pointer (some ⟨b0,2,none⟩),.pointer (some ⟨b0,4,none⟩),(.slice a2 ts.length c2),t15,t16,t17,t18,t19,t20,t21,t22,t23,t24,t25,t26,t27],defers:=[] } W:=by
  intro W g1 g2 p1a p2a p1c p2c g hn;refine wpAnyH_ready (rs:=[3,8]) (by rw [hops.out];kernel_rfl) (by simp) ?_
  refine AllReadyH.cons (o:=?_) ?_ (fun K hK=>?_) ?_
  rotate_left 1
  ·rw [hops.out];unfold Zbb;simp only [getS];rfl
  ·rw [if_pos (by rfl)]
   go_simp
   have g2':Below n1 w1 (W.alloc (.cells #[] 127)):=g.alloc hn _;refine hK.out _ _ (hS _ g2') (fun _=>?_)
   exact h110010 _ W.heap.size g2 p1a p2a p1c p2c g2' (by simp;omega) (World.ownsRow_lit W #[] 0 hn (by unfold maxLen;omega) (by simp))
  refine AllReadyH.cons (o:=?_) ?_ (fun K hK=>?_) ?_
  rotate_left 1
  ·rw [hops.out];unfold Zbb;simp only [getS];rfl
  ·rw [if_pos (by rfl)]
   go_simp
   have g2':Below n1 w1 (W.alloc (.cells #[] 131)):=g.alloc hn _;refine hK.out _ _ (hS _ g2') (fun _=>?_)
   exact h010110 _ g1 W.heap.size p1a p2a p1c p2c g2' (by simp;omega) (World.ownsRow_lit W #[] 0 hn (by unfold maxLen;omega) (by simp))
  exact AllReadyH.nil
 have h010100:∀ (W:World) (g1 g2:Nat) (p1a p2a:Option Addr) (p1c p2c:Nat),Below n1 w1 W->n1<=W.heap.size->W.ownsRow n1 131 4 (.slice (some ⟨g2,0,none⟩) 0 0) 0 (flat thE [])->wpAnyH Tryz.prog .any ops (NoPanic Q) S 7 #[true,true,true,false,true,true,true,false,true,true,true,false,false,false,false,false] { tmps:=#[t0,.pointer (some ⟨b0,0,none⟩),t2,.pointer (some ⟨b0,2,none⟩),.pointer (some ⟨b0,2,none⟩),.int .i64 n,t6,.pointer (some ⟨b0,2,none⟩),.pointer (some ⟨b0,3,none⟩),(.slice a1 ls.length c1),t10,(.slice (some ⟨g2,0,none⟩) 0 0),.pointer (some ⟨b0,2,none⟩),.pointer (some ⟨b0,4,none⟩),t14,t15,t16,t17,t18,t19,t20,t21,t22,t23,t24,t25,t26,t27],defers:=[] } W:=by
  intro W g1 g2 p1a p2a p1c p2c g hn k2;refine wpAnyH_ready (rs:=[3,11]) (by rw [hops.out];kernel_rfl) (by simp) ?_
  refine AllReadyH.cons (o:=?_) ?_ (fun K hK=>?_) ?_
  rotate_left 1
  ·rw [hops.out];unfold Zbb;simp only [getS];rfl
  ·rw [if_pos (by rfl)]
   go_simp
   have g2':Below n1 w1 (W.alloc (.cells #[] 127)):=g.alloc hn _;refine hK.out _ _ (hS _ g2') (fun _=>?_)
   exact h110100 _ W.heap.size g2 p1a p2a p1c p2c g2' (by simp;omega) (World.ownsRow_lit W #[] 0 hn (by unfold maxLen;omega) (by simp)) (k2.alloc _)
  refine AllReadyH.cons (o:=?_) ?_ (fun K hK=>?_) ?_
  rotate_left 1
  ·rw [hops.out];unfold Zbb;simp only [getS];rfl
  ·rw [if_pos (by rfl)]
   have hb:=HB W g;have y:=Zaa hb 4;simp at y
   have hSW:=hS W g
   go_simp
   refine hK.out _ _ hSW (fun _=>?_)
   exact h010110 W g1 g2 p1a p2a p1c p2c g hn k2
  exact AllReadyH.nil
 have h100010:∀ (W:World) (g1 g2:Nat) (p1a p2a:Option Addr) (p1c p2c:Nat),Below n1 w1 W->n1<=W.heap.size->W.ownsRow n1 127 4 (.slice (some ⟨g1,0,none⟩) 0 0) 0 (flat lkE [])->wpAnyH Tryz.prog .any ops (NoPanic Q) S 7 #[true,true,true,true,true,true,false,false,false,true,true,true,false,false,false,false] { tmps:=#[t0,.pointer (some ⟨b0,0,none⟩),t2,.pointer (some ⟨b0,2,none⟩),.pointer (some ⟨b0,2,none⟩),.int .i64 n,(.slice (some ⟨g1,0,none⟩) 0 0),.pointer (some ⟨b0,2,none⟩),.pointer (some ⟨b0,3,none⟩),t9,t10,t11,.pointer (some ⟨b0,2,none⟩),.pointer (some ⟨b0,4,none⟩),(.slice a2 ts.length c2),t15,t16,t17,t18,t19,t20,t21,t22,t23,t24,t25,t26,t27],defers:=[] } W:=by
  intro W g1 g2 p1a p2a p1c p2c g hn k1;refine wpAnyH_ready (rs:=[6,8]) (by rw [hops.out];kernel_rfl) (by simp) ?_
  refine AllReadyH.cons (o:=?_) ?_ (fun K hK=>?_) ?_
  rotate_left 1
  ·rw [hops.out];unfold Zbb;simp only [getS];rfl
  ·rw [if_pos (by rfl)]
   have hb:=HB W g;have y:=Zaa hb 3;simp at y
   have hSW:=hS W g
   go_simp
   refine hK.out _ _ hSW (fun _=>?_)
   exact h110010 W g1 g2 p1a p2a p1c p2c g hn k1
  refine AllReadyH.cons (o:=?_) ?_ (fun K hK=>?_) ?_
  rotate_left 1
  ·rw [hops.out];unfold Zbb;simp only [getS];rfl
  ·rw [if_pos (by rfl)]
   go_simp
   have g2':Below n1 w1 (W.alloc (.cells #[] 131)):=g.alloc hn _;refine hK.out _ _ (hS _ g2') (fun _=>?_)
   exact h100110 _ g1 W.heap.size p1a p2a p1c p2c g2' (by simp;omega) (k1.alloc _) (World.ownsRow_lit W #[] 0 hn (by unfold maxLen;omega) (by simp))
  exact AllReadyH.nil
 have h100100:∀ (W:World) (g1 g2:Nat) (p1a p2a:Option Addr) (p1c p2c:Nat),Below n1 w1 W->n1<=W.heap.size->W.ownsRow n1 127 4 (.slice (some ⟨g1,0,none⟩) 0 0) 0 (flat lkE [])->W.ownsRow n1 131 4 (.slice (some ⟨g2,0,none⟩) 0 0) 0 (flat thE [])->wpAnyH Tryz.prog .any ops (NoPanic Q) S 7 #[true,true,true,true,true,true,false,false,true,true,true,false,false,false,false,false] { tmps:=#[t0,.pointer (some ⟨b0,0,none⟩),t2,.pointer (some ⟨b0,2,none⟩),.pointer (some ⟨b0,2,none⟩),.int .i64 n,(.slice (some ⟨g1,0,none⟩) 0 0),.pointer (some ⟨b0,2,none⟩),.pointer (some ⟨b0,3,none⟩),t9,t10,(.slice (some ⟨g2,0,none⟩) 0 0),.pointer (some ⟨b0,2,none⟩),.pointer (some ⟨b0,4,none⟩),t14,t15,t16,t17,t18,t19,t20,t21,t22,t23,t24,t25,t26,t27],defers:=[] } W:=by
  intro W g1 g2 p1a p2a p1c p2c g hn k1 k2;refine wpAnyH_ready (rs:=[6,11]) (by rw [hops.out];kernel_rfl) (by simp) ?_
  refine AllReadyH.cons (o:=?_) ?_ (fun K hK=>?_) ?_
  rotate_left 1
  ·rw [hops.out];unfold Zbb;simp only [getS];rfl
  ·rw [if_pos (by rfl)]
   have hb:=HB W g;have y:=Zaa hb 3;simp at y
   have hSW:=hS W g
   go_simp
   refine hK.out _ _ hSW (fun _=>?_)
   exact h110100 W g1 g2 p1a p2a p1c p2c g hn k1 k2
  refine AllReadyH.cons (o:=?_) ?_ (fun K hK=>?_) ?_
  rotate_left 1
  ·rw [hops.out];unfold Zbb;simp only [getS];rfl
  ·rw [if_pos (by rfl)]
   have hb:=HB W g;have y:=Zaa hb 4;simp at y
   have hSW:=hS W g
   go_simp
   refine hK.out _ _ hSW (fun _=>?_)
   exact h100110 W g1 g2 p1a p2a p1c p2c g hn k1 k2
  exact AllReadyH.nil
 have h110000:∀ (W:World) (g1 g2:Nat) (p1a p2a:Option Addr) (p1c p2c:Nat),Below n1 w1 W->n1<=W.heap.size->W.ownsRow n1 127 4 (.slice (some ⟨g1,0,none⟩) 0 0) 0 (flat lkE [])->wpAnyH Tryz.prog .any ops (NoPanic Q) S 7 #[true,true,true,true,true,true,true,false,false,true,true,false,false,false,false,false] { tmps:=#[t0,.pointer (some ⟨b0,0,none⟩),t2,.pointer (some ⟨b0,2,none⟩),.pointer (some ⟨b0,2,none⟩),.int .i64 n,(.slice (some ⟨g1,0,none⟩) 0 0),.pointer (some ⟨b0,2,none⟩),.pointer (some ⟨b0,3,none⟩),(.slice a1 ls.length c1),t10,t11,.pointer (some ⟨b0,2,none⟩),.pointer (some ⟨b0,4,none⟩),t14,t15,t16,t17,t18,t19,t20,t21,t22,t23,t24,t25,t26,t27],defers:=[] } W:=by
  intro W g1 g2 p1a p2a p1c p2c g hn k1;refine wpAnyH_ready (rs:=[7,8,11]) (by rw [hops.out];kernel_rfl) (by simp) ?_
  refine AllReadyH.cons (o:=?_) ?_ (fun K hK=>?_) ?_
  rotate_left 1
  ·rw [hops.out];unfold Zbb;simp only [getS];rfl
  ·rw [if_pos (by rfl)]
   refine ZbU Zd1 (by omega) Zd0 (by omega) W _ _ 24 rfl n1 127 Tryz.underlying24 (.agg #[.int .i64 0,.int .i64 0,.int .i64 0,.int .i64 0]) rfl Tryz.infoLk4 _ [] rfl k1 0 _ ls rfl (HS1 W g) (by simp;omega) hn ?_
   intro v' w2 ho gr;simp only [List.nil_append] at ho
   obtain⟨va,vc,rfl⟩:=Zac ho;have g2':Below n1 w1 w2:=g.grown gr hn (fun k hk=>(k1.lt k hk).1)
   have hn2:n1<=w2.heap.size:=Nat.le_trans hn gr.size;refine hK.out _ _ (hS _ g2') (fun _=>?_)
   exact h111000 w2 g1 g2 va p2a vc p2c g2' hn2 ho 
  refine AllReadyH.cons (o:=?_) ?_ (fun K hK=>?_) ?_
  rotate_left 1
  ·rw [hops.out];unfold Zbb;simp only [getS];rfl
  ·rw [if_pos (by rfl)]
   go_simp
   have g2':Below n1 w1 (W.alloc (.cells #[] 131)):=g.alloc hn _;refine hK.out _ _ (hS _ g2') (fun _=>?_)
   exact h110100 _ g1 W.heap.size p1a p2a p1c p2c g2' (by simp;omega) (k1.alloc _) (World.ownsRow_lit W #[] 0 hn (by unfold maxLen;omega) (by simp))
  refine AllReadyH.cons (o:=?_) ?_ (fun K hK=>?_) ?_
  rotate_left 1
  ·rw [hops.out];unfold Zbb;simp only [getS];rfl
  ·rw [if_pos (by rfl)]
   have hb:=HB W g;have y:=Zaa hb 4;simp at y
   have hSW:=hS W g
   go_simp
   refine hK.out _ _ hSW (fun _=>?_)
   exact h110010 W g1 g2 p1a p2a p1c p2c g hn k1
  exact AllReadyH.nil
 have h000010:∀ (W:World) (g1 g2:Nat) (p1a p2a:Option Addr) (p1c p2c:Nat),Below n1 w1 W->n1<=W.heap.size->wpAnyH Tryz.prog .any ops (NoPanic Q) S 8 #[true,true,true,false,true,true,false,false,false,true,true,true,false,false,false,false] { tmps:=#[t0,.pointer (some ⟨b0,0,none⟩),t2,.pointer (some ⟨b0,2,none⟩),.pointer (some ⟨b0,2,none⟩),.int .i64 n,t6,.pointer (some ⟨b0,2,none⟩),.pointer (some ⟨b0,3,none⟩),t9,t10,t11,.pointer (some ⟨b0,2,none⟩),.pointer (some ⟨b0,4,none⟩),(.slice a2 ts.length c2),t15,t16,t17,t18,t19,t20,t21,t22,t23,t24,t25,t26,t27],defers:=[] } W:=by
  intro W g1 g2 p1a p2a p1c p2c g hn;refine wpAnyH_ready (rs:=[3,6,8]) (by rw [hops.out];kernel_rfl) (by simp) ?_
  refine AllReadyH.cons (o:=?_) ?_ (fun K hK=>?_) ?_
  rotate_left 1
  ·rw [hops.out];unfold Zbb;simp only [getS];rfl
  ·rw [if_pos (by rfl)]
   go_simp
   have g2':Below n1 w1 (W.alloc (.cells #[] 127)):=g.alloc hn _;refine hK.out _ _ (hS _ g2') (fun _=>?_)
   exact h100010 _ W.heap.size g2 p1a p2a p1c p2c g2' (by simp;omega) (World.ownsRow_lit W #[] 0 hn (by unfold maxLen;omega) (by simp))
  refine AllReadyH.cons (o:=?_) ?_ (fun K hK=>?_) ?_
  rotate_left 1
  ·rw [hops.out];unfold Zbb;simp only [getS];rfl
  ·rw [if_pos (by rfl)]
   have hb:=HB W g;have y:=Zaa hb 3;simp at y
   have hSW:=hS W g
   go_simp
   refine hK.out _ _ hSW (fun _=>?_)
   exact h010010 W g1 g2 p1a p2a p1c p2c g hn
  refine AllReadyH.cons (o:=?_) ?_ (fun K hK=>?_) ?_
  rotate_left 1
  ·rw [hops.out];unfold Zbb;simp only [getS];rfl
  ·rw [if_pos (by rfl)]
   go_simp
   have g2':Below n1 w1 (W.alloc (.cells #[] 131)):=g.alloc hn _;refine hK.out _ _ (hS _ g2') (fun _=>?_)
   exact h000110 _ g1 W.heap.size p1a p2a p1c p2c g2' (by simp;omega) (World.ownsRow_lit W #[] 0 hn (by unfold maxLen;omega) (by simp))
  exact AllReadyH.nil
 have h000100:∀ (W:World) (g1 g2:Nat) (p1a p2a:Option Addr) (p1c p2c:Nat),Below n1 w1 W->n1<=W.heap.size->W.ownsRow n1 131 4 (.slice (some ⟨g2,0,none⟩) 0 0) 0 (flat thE [])->wpAnyH Tryz.prog .any ops (NoPanic Q) S 8 #[true,true,true,false,true,true,false,false,true,true,true,false,false,false,false,false] { tmps:=#[t0,.pointer (some ⟨b0,0,none⟩),t2,.pointer (some ⟨b0,2,none⟩),.pointer (some ⟨b0,2,none⟩),.int .i64 n,t6,.pointer (some ⟨b0,2,none⟩),.pointer (some ⟨b0,3,none⟩),t9,t10,(.slice (some ⟨g2,0,none⟩) 0 0),.pointer (some ⟨b0,2,none⟩),.pointer (some ⟨b0,4,none⟩),t14,t15,t16,t17,t18,t19,t20,t21,t22,t23,t24,t25,t26,t27],defers:=[] } W:=by
  intro W g1 g2 p1a p2a p1c p2c g hn k2;refine wpAnyH_ready (rs:=[3,6,11]) (by rw [hops.out];kernel_rfl) (by simp) ?_
  refine AllReadyH.cons (o:=?_) ?_ (fun K hK=>?_) ?_
  rotate_left 1
  ·rw [hops.out];unfold Zbb;simp only [getS];rfl
  ·rw [if_pos (by rfl)]
   go_simp
   have g2':Below n1 w1 (W.alloc (.cells #[] 127)):=g.alloc hn _;refine hK.out _ _ (hS _ g2') (fun _=>?_)
   exact h100100 _ W.heap.size g2 p1a p2a p1c p2c g2' (by simp;omega) (World.ownsRow_lit W #[] 0 hn (by unfold maxLen;omega) (by simp)) (k2.alloc _)
  refine AllReadyH.cons (o:=?_) ?_ (fun K hK=>?_) ?_
  rotate_left 1
  ·rw [hops.out];unfold Zbb;simp only [getS];rfl
  ·rw [if_pos (by rfl)]
   have hb:=HB W g;have y:=Zaa hb 3;simp at y
   have hSW:=hS W g
   go_simp
   refine hK.out _ _ hSW (fun _=>?_)
   exact h010100 W g1 g2 p1a p2a p1c p2c g hn k2
  refine AllReadyH.cons (o:=?_) ?_ (fun K hK=>?_) ?_
  rotate_left 1
  ·rw [hops.out];unfold Zbb;simp only [getS];rfl
  ·rw [if_pos (by rfl)]
   have hb:=HB W g;have y:=Zaa hb 4;simp at y
   have hSW:=hS W g
   go_simp
   refine hK.out _ _ hSW (fun _=>?_)
   exact h000110 W g1 g2 p1a p2a p1c p2c g hn k2
  exact AllReadyH.nil
 have h010000:∀ (W:World) (g1 g2:Nat) (p1a p2a:Option Addr) (p1c p2c:Nat),Below n1 w1 W->n1<=W.heap.size->wpAnyH Tryz.prog .any ops (NoPanic Q) S 8 #[true,true,true,false,true,true,true,false,false,true,true,false,false,false,false,false] { tmps:=#[t0,.pointer (some ⟨b0,0,none⟩),t2,.pointer (some ⟨b0,2,none⟩),.pointer (some ⟨b0,2,none⟩),.int .i64 n,t6,.pointer (some ⟨b0,2,none⟩),.pointer (some ⟨b0,3,none⟩),(.slice a1 ls.length c1),t10,t11,.pointer (some ⟨b0,2,none⟩),.pointer (some ⟨b0,4,none⟩),t14,t15,t16,t17,t18,t19,t20,t21,t22,t23,t24,t25,t26,t27],defers:=[] } W:=by
  intro W g1 g2 p1a p2a p1c p2c g hn;refine wpAnyH_ready (rs:=[3,8,11]) (by rw [hops.out];kernel_rfl) (by simp) ?_
  refine AllReadyH.cons (o:=?_) ?_ (fun K hK=>?_) ?_
  rotate_left 1
  ·rw [hops.out];unfold Zbb;simp only [getS];rfl
  ·rw [if_pos (by rfl)]
   go_simp
   have g2':Below n1 w1 (W.alloc (.cells #[] 127)):=g.alloc hn _;refine hK.out _ _ (hS _ g2') (fun _=>?_)
   exact h110000 _ W.heap.size g2 p1a p2a p1c p2c g2' (by simp;omega) (World.ownsRow_lit W #[] 0 hn (by unfold maxLen;omega) (by simp))
  refine AllReadyH.cons (o:=?_) ?_ (fun K hK=>?_) ?_
  rotate_left 1
  ·rw [hops.out];unfold Zbb;simp only [getS];rfl
  ·rw [if_pos (by rfl)]
   go_simp
   have g2':Below n1 w1 (W.alloc (.cells #[] 131)):=g.alloc hn _;refine hK.out _ _ (hS _ g2') (fun _=>?_)
   exact h010100 _ g1 W.heap.size p1a p2a p1c p2c g2' (by simp;omega) (World.ownsRow_lit W #[] 0 hn (by unfold maxLen;omega) (by simp))
  refine AllReadyH.cons (o:=?_) ?_ (fun K hK=>?_) ?_
  rotate_left 1
  ·rw [hops.out];unfold Zbb;simp only [getS];rfl
  ·rw [if_pos (by rfl)]
   have hb:=HB W g;have y:=Zaa hb 4;simp at y
   have hSW:=hS W g
   go_simp
   refine hK.out _ _ hSW (fun _=>?_)
   exact h010010 W g1 g2 p1a p2a p1c p2c g hn
  exact AllReadyH.nil
 have h100000:∀ (W:World) (g1 g2:Nat) (p1a p2a:Option Addr) (p1c p2c:Nat),Below n1 w1 W->n1<=W.heap.size->W.ownsRow n1 127 4 (.slice (some ⟨g1,0,none⟩) 0 0) 0 (flat lkE [])->wpAnyH Tryz.prog .any ops (NoPanic Q) S 8 #[true,true,true,true,true,true,false,false,false,true,true,false,false,false,false,false] { tmps:=#[t0,.pointer (some ⟨b0,0,none⟩),t2,.pointer (some ⟨b0,2,none⟩),.pointer (some ⟨b0,2,none⟩),.int .i64 n,(.slice (some ⟨g1,0,none⟩) 0 0),.pointer (some ⟨b0,2,none⟩),.pointer (some ⟨b0,3,none⟩),t9,t10,t11,.pointer (some ⟨b0,2,none⟩),.pointer (some ⟨b0,4,none⟩),t14,t15,t16,t17,t18,t19,t20,t21,t22,t23,t24,t25,t26,t27],defers:=[] } W:=by
  intro W g1 g2 p1a p2a p1c p2c g hn k1;refine wpAnyH_ready (rs:=[6,8,11]) (by rw [hops.out];kernel_rfl) (by simp) ?_
  refine AllReadyH.cons (o:=?_) ?_ (fun K hK=>?_) ?_
  rotate_left 1
  ·rw [hops.out];unfold Zbb;simp only [getS];rfl
  ·rw [if_pos (by rfl)]
   have hb:=HB W g;have y:=Zaa hb 3;simp at y
   have hSW:=hS W g
   go_simp
   refine hK.out _ _ hSW (fun _=>?_)
   exact h110000 W g1 g2 p1a p2a p1c p2c g hn k1
  refine AllReadyH.cons (o:=?_) ?_ (fun K hK=>?_) ?_
  rotate_left 1
  ·rw [hops.out];unfold Zbb;simp only [getS];rfl
  ·rw [if_pos (by rfl)]
   go_simp
   have g2':Below n1 w1 (W.alloc (.cells #[] 131)):=g.alloc hn _;refine hK.out _ _ (hS _ g2') (fun _=>?_)
   exact h100100 _ g1 W.heap.size p1a p2a p1c p2c g2' (by simp;omega) (k1.alloc _) (World.ownsRow_lit W #[] 0 hn (by unfold maxLen;omega) (by simp))
  refine AllReadyH.cons (o:=?_) ?_ (fun K hK=>?_) ?_
  rotate_left 1
  ·rw [hops.out];unfold Zbb;simp only [getS];rfl
  ·rw [if_pos (by rfl)]
   have hb:=HB W g;have y:=Zaa hb 4;simp at y
   have hSW:=hS W g
   go_simp
   refine hK.out _ _ hSW (fun _=>?_)
   exact h100010 W g1 g2 p1a p2a p1c p2c g hn k1
  exact AllReadyH.nil
 have h000000:∀ (W:World) (g1 g2:Nat) (p1a p2a:Option Addr) (p1c p2c:Nat),Below n1 w1 W->n1<=W.heap.size->wpAnyH Tryz.prog .any ops (NoPanic Q) S 9 #[true,true,true,false,true,true,false,false,false,true,true,false,false,false,false,false] { tmps:=#[t0,.pointer (some ⟨b0,0,none⟩),t2,.pointer (some ⟨b0,2,none⟩),.pointer (some ⟨b0,2,none⟩),.int .i64 n,t6,.pointer (some ⟨b0,2,none⟩),.pointer (some ⟨b0,3,none⟩),t9,t10,t11,.pointer (some ⟨b0,2,none⟩),.pointer (some ⟨b0,4,none⟩),t14,t15,t16,t17,t18,t19,t20,t21,t22,t23,t24,t25,t26,t27],defers:=[] } W:=by
  intro W g1 g2 p1a p2a p1c p2c g hn;refine wpAnyH_ready (rs:=[3,6,8,11]) (by rw [hops.out];kernel_rfl) (by simp) ?_
  refine AllReadyH.cons (o:=?_) ?_ (fun K hK=>?_) ?_
  rotate_left 1
  ·rw [hops.out];unfold Zbb;simp only [getS];rfl
  ·rw [if_pos (by rfl)]
   go_simp
   have g2':Below n1 w1 (W.alloc (.cells #[] 127)):=g.alloc hn _;refine hK.out _ _ (hS _ g2') (fun _=>?_)
   exact h100000 _ W.heap.size g2 p1a p2a p1c p2c g2' (by simp;omega) (World.ownsRow_lit W #[] 0 hn (by unfold maxLen;omega) (by simp))
  refine AllReadyH.cons (o:=?_) ?_ (fun K hK=>?_) ?_
  rotate_left 1
  ·rw [hops.out];unfold Zbb;simp only [getS];rfl
  ·rw [if_pos (by rfl)]
   have hb:=HB W g;have y:=Zaa hb 3;simp at y
   have hSW:=hS W g
   go_simp
   refine hK.out _ _ hSW (fun _=>?_)
   exact h010000 W g1 g2 p1a p2a p1c p2c g hn
  refine AllReadyH.cons (o:=?_) ?_ (fun K hK=>?_) ?_
  rotate_left 1
  ·rw [hops.out];unfold Zbb;simp only [getS];rfl
  ·rw [if_pos (by rfl)]
   go_simp
   have g2':Below n1 w1 (W.alloc (.cells #[] 131)):=g.alloc hn _;refine hK.out _ _ (hS _ g2') (fun _=>?_)
   exact h000100 _ g1 W.heap.size p1a p2a p1c p2c g2' (by simp;omega) (World.ownsRow_lit W #[] 0 hn (by unfold maxLen;omega) (by simp))
  refine AllReadyH.cons (o:=?_) ?_ (fun K hK=>?_) ?_
  rotate_left 1
  ·rw [hops.out];unfold Zbb;simp only [getS];rfl
  ·rw [if_pos (by rfl)]
   have hb:=HB W g;have y:=Zaa hb 4;simp at y
   have hSW:=hS W g
   go_simp
   refine hK.out _ _ hSW (fun _=>?_)
   exact h000010 W g1 g2 p1a p2a p1c p2c g hn
  exact AllReadyH.nil
 exact h000000 w1 0 0 none none 0 0 (Below.refl _ _) hn1
end Go.Proofs.YtcimbiinljcifaaGreat
