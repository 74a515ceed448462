/-
  Parts.
-/
import Derived.Test.YtcnjnibnecpddaaGreatTr4
import Derived.Laws.AppendOwnNone
namespace Go.Proofs.YtcnjnibnecpddaaGreat
open Go.RowKit
set_option linter.unusedSimpArgs false
set_option linter.unusedVariables false
set_option maxRecDepth 100000
set_option maxHeartbeats 8000000
variable {a b c d:Int}{ps:List RP}{B hi i k lo n:Nat}{p q:RP}{v:Value}{W W':World}
structure NetD where
 n:Int
 ls:List Lk
 ts:List Th
 deriving DecidableEq
def Zgz (W:World)(v:Value)(x:NetD)(B:Nat):Prop:=∃ v1 v2,v=.agg #[M x.n,v1,v2]/\ZaV W v1 x.ls B/\ZaU W v2 x.ts B
theorem Zgz.then {x:NetD}(h:Zgz W v x W.heap.size)(hb:T_ W W'):Zgz W' v x W'.heap.size:=by
 obtain⟨v1,v2,hv,h1,h2⟩:=h;exact⟨v1,v2,hv,h1.then hb,h2.then hb⟩
theorem Zft (a:Option Addr)(n c:Nat)(q:Int)(w:World)(hn:(n:Int)<=9223372036854775807)(hq0:0<=q)(hq:q<=1048576):
  Calls Tryz.prog 106 #[.slice a n c,M q] w fun e w'=>e=.returned (M (if q-(n:Int)<0 then -1 else q-(n:Int)))/\w=w':=by
 by_cases h:q-(n:Int)<0
 ·rw [if_pos h]
  go_enter Tryz.func106,Tryz.ntmps106
  go_wp2;go_ret;exact⟨rfl,rfl⟩
 ·rw [if_neg h]
  go_enter Tryz.func106,Tryz.ntmps106
  go_wp2;go_ret;exact⟨rfl,rfl⟩
theorem Zgx (a:Option Addr)(n c:Nat)(q:Int)(w:World)(hn:(n:Int)<=9223372036854775807)(hq0:0<=q)(hq:q<=1048576):
  Calls Tryz.prog 107 #[.slice a n c,M q] w fun e w'=>e=.returned (M (if q-(n:Int)<0 then -1 else q-(n:Int)))/\w=w':=by
 by_cases h:q-(n:Int)<0
 ·rw [if_pos h]
  go_enter Tryz.func107,Tryz.ntmps107
  go_wp2;go_ret;exact⟨rfl,rfl⟩
 ·rw [if_neg h]
  go_enter Tryz.func107,Tryz.ntmps107
  go_wp2;go_ret;exact⟨rfl,rfl⟩
def szN (q:Int)(n m:Nat):Int:=if q-(n:Int)<0 then -1 else if q-(n:Int)-(m:Int)<0 then -1 else q-(n:Int)-(m:Int)
theorem ZpN (v0:Value)(a1 a2:Option Addr)(n m c1 c2:Nat)(q:Int)(w:World)(hn:(n:Int)<=9223372036854775807)(hm:(m:Int)<=9223372036854775807)(hq0:0<=q)(hq:q<=1048576):
  Calls Tryz.prog 34 #[.agg #[v0,.slice a1 n c1,.slice a2 m c2],M q] w fun e w'=>e=.returned (M (szN q n m))/\T_ w w':=by
 unfold szN;by_cases h:q-(n:Int)<0
 ·rw [if_pos h]
  go_enter Tryz.func34,Tryz.ntmps34
  go_wp2_with fail
  refine (Zft a1 n c1 q _ hn hq0 hq).mono ?_;rw [if_pos h];rintro e w1 ⟨rfl,rfl⟩;go_wp2;go_ret;exact⟨rfl,(YAC _ _).alloc (YA _) _⟩
 ·rw [if_neg h];by_cases h2:q-(n:Int)-(m:Int)<0
  ·rw [if_pos h2]
   go_enter Tryz.func34,Tryz.ntmps34
   go_wp2_with fail
   refine (Zft a1 n c1 q _ hn hq0 hq).mono ?_;rw [if_neg (by omega)];rintro e w1 ⟨rfl,rfl⟩
   go_wp2_with fail
   refine (Zgx a2 m c2 _ _ hm (by omega) (by omega)).mono ?_;rw [if_pos h2];rintro e w1 ⟨rfl,rfl⟩;go_wp2;go_ret;exact⟨rfl,(YAC _ _).alloc (YA _) _⟩
  ·rw [if_neg h2]
   go_enter Tryz.func34,Tryz.ntmps34
   go_wp2_with fail
   refine (Zft a1 n c1 q _ hn hq0 hq).mono ?_;rw [if_neg (by omega)];rintro e w1 ⟨rfl,rfl⟩
   go_wp2_with fail
   refine (Zgx a2 m c2 _ _ hm (by omega) (by omega)).mono ?_;rw [if_neg (by omega)];rintro e w1 ⟨rfl,rfl⟩;go_wp2;go_ret;exact⟨rfl,(YAC _ _).alloc (YA _) _⟩
theorem ZpS (v:Value)(x:NetD)(w:World)(hl:x.ls.length<=1048576)(ht:x.ts.length<=1048576)(hv:Zgz w v x w.heap.size):
  Calls Tryz.prog 36 #[v] w fun e w'=>∃ v1 v2,e=.returned (.agg #[M x.n,v1,v2])/\w'.ownsRow w.heap.size 173 4 v1 x.ls.length (flat lkE x.ls)/\w'.ownsRow w.heap.size 119 4 v2 x.ts.length (flat thE x.ts)/\T_ w w':=by
 obtain⟨u1,u2,rfl,h1,h2⟩:=hv;obtain⟨a1,c1,rfl⟩:=h1.shape;obtain⟨a2,c2,rfl⟩:=h2.shape;have H1:=hide h1;have H2:=hide h2;clear h1 h2
 go_enter Tryz.func36,Tryz.ntmps36
 go_wp2_with fail
 have hw0:=Zlf w (.cells #[M x.n,.slice a1 x.ls.length c1,.slice a2 x.ts.length c2] 59) (.cells #[M 0,.slice none 0 0,.slice none 0 0] 27) (.cells #[M x.n,.slice none 0 0,.slice none 0 0] 27);have hw1:=Zlg w (.cells #[M x.n,.slice a1 x.ls.length c1,.slice a2 x.ts.length c2] 59) (.cells #[M 0,.slice none 0 0,.slice none 0 0] 27) (.cells #[M x.n,.slice none 0 0,.slice none 0 0] 27);have hw2:=Zlh w (.cells #[M x.n,.slice a1 x.ls.length c1,.slice a2 x.ts.length c2] 59) (.cells #[M 0,.slice none 0 0,.slice none 0 0] 27) (.cells #[M x.n,.slice none 0 0,.slice none 0 0] 27);have bw:=Zcw (w:=w) (.cells #[M x.n,.slice a1 x.ls.length c1,.slice a2 x.ts.length c2] 59) (.cells #[M 0,.slice none 0 0,.slice none 0 0] 27) (.cells #[M x.n,.slice none 0 0,.slice none 0 0] 27);generalize (((w.alloc (.cells #[M x.n,.slice a1 x.ls.length c1,.slice a2 x.ts.length c2] 59)).alloc (.cells #[M 0,.slice none 0 0,.slice none 0 0] 27)).alloc (.cells #[M x.n,.slice none 0 0,.slice none 0 0] 27))=w1 at *;refine (ZlY _ x.ls w1 hl (H1.out.then bw)).mono ?_;rintro e w2 ⟨v1,rfl,ho1,b2⟩;obtain⟨p1,q1,rfl⟩:=Zac ho1;have l2:=Zab hw2;rw [<-b2.block _ (Zab hw0)] at hw0;rw [<-b2.block _ (Zab hw1)] at hw1;rw [<-b2.block _ l2] at hw2;have s1:=Zaa hw0 2;have s2:=Zaa hw2 1;have f2:=Zae hw2 1;simp at s1 s2;have hb12:w.heap.size<=w1.heap.size:=bw.size;have hb22:w1.heap.size<=w2.heap.size:=b2.size;have bw2:T_ w w2:=bw.trans (b2.mono hb12);have O1:=hide ho1;have HW0:=hide hw0;have HW1:=hide hw1;have HW2:=hide hw2;clear ho1 hw0 hw1 hw2
 go_wp2_with fail
 have o1:=Zbk (p:=w.heap.size+1+1) (j:=1) (u:=.slice p1 x.ls.length q1) O1 (by omega);have g0:(w2.setCell (U (w.heap.size+1+1) 1) (.slice p1 x.ls.length q1)).heap[w.heap.size+1]? = some (.cells #[M 0,.slice none 0 0,.slice none 0 0] 27):=by
  rw [YAU w2 (U (w.heap.size+1+1) 1) _ _ (by show w.heap.size+1≠w.heap.size+1+1;omega)];exact HW1
 have g2:(w2.setCell (U (w.heap.size+1+1) 1) (.slice p1 x.ls.length q1)).heap[w.heap.size+1+1]? = some (.cells #[M x.n,.slice p1 x.ls.length q1,.slice none 0 0] 27):=by
  rw [YAd w2 _ 1 _ _ _ HW2.out];rfl
 have bw3:T_ w (w2.setCell (U (w.heap.size+1+1) 1) (.slice p1 x.ls.length q1)):=bw2.setCell (by show w.heap.size<=w.heap.size+1+1;omega) _;have z3:(w2.setCell (U (w.heap.size+1+1) 1) (.slice p1 x.ls.length q1)).heap.size=w2.heap.size:=by simp
 generalize (w2.setCell (U (w.heap.size+1+1) 1) (.slice p1 x.ls.length q1))=w3 at *;clear s1 s2 f2 HW0 HW1 HW2 O1;refine (ZkO _ x.ts w3 ht (H2.out.then bw3)).mono ?_;rintro e w4 ⟨v2,rfl,ho2,b4⟩;obtain⟨p2,q2,rfl⟩:=Zac ho2;have hl1:w.heap.size+1+1<w3.heap.size:=Zab g2;rw [<-b4.block _ (Zab g0)] at g0;rw [<-b4.block _ hl1] at g2;have o1':=Zad o1 b4 (YA _);have bw4:T_ w w4:=bw3.trans (b4.mono bw3.size);have r0:=Zaa g0 0;have r1:=Zaa g0 1;have r2:=Zaa g0 2;have t0:=Zaa g2 0;have t1:=Zaa g2 1;have t2:=Zaa g2 2;have f0:=Zae g0 0;have f1:=Zae g0 1;have f2:=Zae g0 2;have e2:=Zae g2 2;simp at r0 r1 r2 t0 t1 t2;have hz4:=b4.size;have O1:=hide o1';have O2:=hide ho2;have G0:=hide g0;clear o1 o1' ho2 g0 g2;go_wp2;have hfin:((((w4.setCell (U (w.heap.size+1+1) 2) (.slice p2 x.ts.length q2)).setCell (U (w.heap.size+1) 0) (M x.n)).setCell (U (w.heap.size+1) 1) (.slice p1 x.ls.length q1)).setCell (U (w.heap.size+1) 2) (.slice p2 x.ts.length q2)).heap[w.heap.size+1]? = some (.cells #[M x.n,.slice p1 x.ls.length q1,.slice p2 x.ts.length q2] 27):=by
  have k0:(w4.setCell (U (w.heap.size+1+1) 2) (.slice p2 x.ts.length q2)).heap[w.heap.size+1]? = some (.cells #[M 0,.slice none 0 0,.slice none 0 0] 27):=by
   rw [YAU w4 (U (w.heap.size+1+1) 2) _ _ (by show w.heap.size+1≠w.heap.size+1+1;omega)];exact G0
  have k1:=YAd _ _ 0 _ _ (M x.n) k0;have k2:=YAd _ _ 1 _ _ (.slice p1 x.ls.length q1) k1;have k3:=YAd _ _ 2 _ _ (.slice p2 x.ts.length q2) k2;exact k3
 try simp only [Exit.inBlock,Exit.then]
 refine bodyPost_ret (results_cell_row rfl _ _ (w.heap.size+1) 27 #[M x.n,.slice p1 x.ls.length q1,.slice p2 x.ts.length q2] (0,0) _ rfl hfin Tryz.underlying27 rfl (by kernel_rfl)) rfl ?_;refine⟨_,_,rfl,Zaf (Zbk (Zbk (Zbk (Zbk O1 (by omega)) (by omega)) (by omega)) (by omega)) (by omega),Zaf (Zbk (Zbk (Zbk (Zbk O2 (by omega)) (by omega)) (by omega)) (by omega)) (by omega),?_⟩;exact (((bw4.setCell (by show w.heap.size<=w.heap.size+1+1;omega) _).setCell (by show w.heap.size<=w.heap.size+1;omega) _).setCell (by show w.heap.size<=w.heap.size+1;omega) _).setCell (by show w.heap.size<=w.heap.size+1;omega) _
theorem Zov (v1 v2:Value)(x y:NetD)(w:World)(h1:Zgz w v1 x w.heap.size)(h2:Zgz w v2 y w.heap.size)(hl:x.ls.length<=1048576)(ht:x.ts.length<=1048576):
  Calls Tryz.prog 39 #[v1,v2] w fun e w'=>e=.returned (.bool (decide (x=y)))/\T_ w w':=by
 obtain⟨n,ls,ts⟩:=x;obtain⟨m,ls',ts'⟩:=y;obtain⟨a1,a2,rfl,k1,k2⟩:=h1;obtain⟨b1,b2,rfl,j1,j2⟩:=h2;have K1:=hide k1;have K2:=hide k2;have J1:=hide j1;have J2:=hide j2;clear k1 k2 j1 j2;by_cases hnm:n=m
 ·subst hnm
  go_enter Tryz.func39,Tryz.ntmps39
  go_wp2_with fail
  refine (Zk8 a1 b1 ls ls' _ (K1.out.then (Zap _ _)) (J1.out.then (Zap _ _)) hl).mono ?_;rintro e w1 ⟨rfl,bb1⟩;have bw1:T_ w w1:=(Zap _ _).trans (bb1.mono (by simp;omega));have hw0:w1.heap[w.heap.size]? = some (.cells #[M n,a1,a2] 27):=by
   rw [bb1.block _ (by simp;omega),YAL _ _ _ (by simp),YAE]
  have hw1:w1.heap[w.heap.size+1]? = some (.cells #[M n,b1,b2] 27):=by
   rw [bb1.block _ (by simp)];have:=YAE (w.alloc (.cells #[M n,a1,a2] 27)) (.cells #[M n,b1,b2] 27);simpa using this
  have s1:=Zaa hw0 2;have s2:=Zaa hw1 2;simp at s1 s2;clear bb1 hw0 hw1;by_cases hls:ls=ls'
  ·subst hls;have hd:decide (ls=ls)=true:=by simp
   rw [hd];clear hd
   go_wp2_with fail
   refine (Zj8 a2 b2 ts ts' _ (K2.out.then bw1) (J2.out.then bw1) ht).mono ?_;rintro e w2 ⟨rfl,bb2⟩;have bw2:T_ w w2:=bw1.trans (bb2.mono bw1.size);by_cases hts:ts=ts'
   ·subst hts;have hd:decide (ts=ts)=true:=by simp
    rw [hd];clear hd;go_wp2;go_ret;exact⟨by simp,bw2⟩
   ·rw [YAZ hts];have hne:decide (({ n:=n,ls:=ls,ts:=ts }:NetD) = { n:=n,ls:=ls,ts:=ts' })=false:=YAZ (fun h=>by cases h;exact hts rfl);have HNE:=hide hne;clear hne;go_wp2;go_ret;exact⟨by rw [HNE.out];rfl,bw2⟩
  ·rw [YAZ hls];have hne:decide (({ n:=n,ls:=ls,ts:=ts }:NetD) = { n:=n,ls:=ls',ts:=ts' })=false:=YAZ (fun h=>by cases h;exact hls rfl);have HNE:=hide hne;clear hne;go_wp2;go_ret;exact⟨by rw [HNE.out];rfl,bw1⟩
 ·have hd:(n != m)=true:=by simpa using hnm
  have hne:decide (({ n:=n,ls:=ls,ts:=ts }:NetD) = { n:=m,ls:=ls',ts:=ts' })=false:=YAZ (fun h=>by cases h;exact hnm rfl);rw [hne];clear hne
  go_enter Tryz.func39,Tryz.ntmps39
  go_wp2;go_ret;exact⟨rfl,Zap _ _⟩
theorem Tryz.infoRec :(Tryz.prog.info? 39).map (fun i=>(i.zero,i.size,i.bytes))=some (some (.agg (recC Zbf (.slice none 0 0))),8,80):=by kernel_rfl
def fsts (ps:List RP):List RecD:=ps.map (·.1)
theorem Zbq (h:ps[i]? = some p):(fsts ps)[i]? = some p.1:=by simp [fsts,h]
def ZeT (W:World)(p:Nat)(a b c d:Int):Prop:=(W.cell? (U p 0)=some (M a)/\W.cell? (U p 1)=some (M b)/\W.cell? (U p 2)=some (M c)/\W.cell? (U p 3)=some (M d))/\W.frozen? (U p 0)=false/\W.frozen? (U p 1)=false/\W.frozen? (U p 2)=false/\W.frozen? (U p 3)=false
theorem ZeT.lt {p:Nat}(h:ZeT W p a b c d):p<W.heap.size:=World.block_lt_of_cell? W _ h.1.1
theorem ZeT.below {w2:World}{p:Nat}(h:ZeT W p a b c d)(hb:T_ W w2):ZeT w2 p a b c d:=by
 have hp:=h.lt;obtain⟨⟨h0,h1,h2,h3⟩,f0,f1,f2,f3⟩:=h;refine⟨⟨?_,?_,?_,?_⟩,?_,?_,?_,?_⟩
 ·rw [hb.cell (p:=(U p 0)) hp];exact h0
 ·rw [hb.cell (p:=(U p 1)) hp];exact h1
 ·rw [hb.cell (p:=(U p 2)) hp];exact h2
 ·rw [hb.cell (p:=(U p 3)) hp];exact h3
 ·rw [hb.frozen (p:=(U p 0)) hp];exact f0
 ·rw [hb.frozen (p:=(U p 1)) hp];exact f1
 ·rw [hb.frozen (p:=(U p 2)) hp];exact f2
 ·rw [hb.frozen (p:=(U p 3)) hp];exact f3
theorem ZeT.alloc {p:Nat}(h:ZeT W p a b c d)(o:Obj):ZeT (W.alloc o) p a b c d:=h.below ((YAC _ _).alloc (YA _) _)
theorem ZeT.same {p:Nat}(h:ZeT W p a b c d)(e:W.heap=W'.heap):ZeT W' p a b c d:=by
 unfold ZeT World.cell? World.frozen? at *;rw [<-e];exact h
def nilC:Array Value:=#[M 0,M 0,M 0,M 0,M 0,.slice none 0 0,M 0,.bool false]
theorem as1_1 (v:Value)(w:World):(Instr.typeAssert (.iface 263 v) 221 263 true).run Tryz.prog w=.ok (.tuple #[v,.bool true]) w:=by kernel_rfl
theorem as2_1 (v:Value)(w:World):(Instr.typeAssert (.iface 264 v) 221 263 true).run Tryz.prog w=.ok (.tuple #[.agg nilC,.bool false]) w:=by kernel_rfl
theorem as2_2 (v:Value)(w:World):(Instr.typeAssert (.iface 264 v) 221 264 true).run Tryz.prog w=.ok (.tuple #[v,.bool true]) w:=by kernel_rfl
theorem as3_1 (v:Value)(w:World):(Instr.typeAssert (.iface 265 v) 221 263 true).run Tryz.prog w=.ok (.tuple #[.agg nilC,.bool false]) w:=by kernel_rfl
theorem as3_2 (v:Value)(w:World):(Instr.typeAssert (.iface 265 v) 221 264 true).run Tryz.prog w=.ok (.tuple #[.agg nilC,.bool false]) w:=by kernel_rfl
theorem as3_3 (v:Value)(w:World):(Instr.typeAssert (.iface 265 v) 221 265 true).run Tryz.prog w=.ok (.tuple #[v,.bool true]) w:=by kernel_rfl
theorem ZjX (v1:Value)(x:RecD)(w:World)(hl:x.near.length<=1048576)(hv:ZaG w v1 x.near w.heap.size):
  Calls Tryz.prog 193 #[.iface 263 (.agg (recC x v1))] w fun e w'=>e=.returned (.bool (Zbs x.owner x.near&&x.cost==0 && !x.far))/\T_ w w':=by
 obtain⟨p1,c1,rfl⟩:=hv.shape;have HN:=hide (fun W (h:T_ w W)=>ZoT x.owner (.slice p1 x.near.length c1) x.near W hl (hv.then h));obtain⟨qn,hqn⟩:∃ q,q=Zbs x.owner x.near:=⟨_,rfl⟩;rw [<-hqn] at HN |-;clear hqn hv;obtain⟨area,kind,owner,key,seq,ns,cost,far⟩:=x;unfold recC;simp only [] at HN hl |-
 have a1:=as1_1;have B0:T_ w (w.alloc (.cells #[M area,M kind,M owner,M key,M seq,.slice p1 ns.length c1,M cost,.bool far] 263)):=(YAC _ _).alloc (YA _) _;have NEW:=hide (YAE w (.cells #[M area,M kind,M owner,M key,M seq,.slice p1 ns.length c1,M cost,.bool far] 263))
 go_enter Tryz.func193,Tryz.ntmps193
 go_wp2_with fail
 refine (HN _ B0).mono ?_;rintro e w1 ⟨rfl,b1⟩;have hx1:w1.heap[w.heap.size]? = some (.cells #[M area,M kind,M owner,M key,M seq,.slice p1 ns.length c1,M cost,.bool far] 263):=by rw [b1.block _ (by simp)];exact NEW
 have f6:=Zaa hx1 6;have f7:=Zaa hx1 7;simp at f6 f7;have B1:=B0.trans (b1.mono B0.size);clear hx1 b1 NEW HN;cases qn
 ·go_wp2;go_ret;exact⟨by simp,B1⟩
 by_cases hc:cost=0
 case neg=>
  have hd:(cost==0)=false:=by simpa using hc
  go_wp2;go_ret;exact⟨by simp [hd],B1⟩
 subst hc;cases far
 all_goals
  go_wp2;go_ret;exact⟨by simp,B1⟩
theorem ZhU (v1:Value)(x:RecD)(w:World)(hl:x.near.length<=1048576)(hv:ZaG w v1 x.near w.heap.size):
  Calls Tryz.prog 193 #[.iface 264 (.agg (recC x v1))] w fun e w'=>e=.returned (.bool (x.near.length==0&&inB x.cost 0 60000 && !x.far))/\T_ w w':=by
 obtain⟨p1,c1,rfl⟩:=hv.shape;clear hv;have H5:=hide (Zba x.cost 0 60000);obtain⟨q5,hq5⟩:∃ q,q=inB x.cost 0 60000:=⟨_,rfl⟩;rw [<-hq5] at H5 |-;clear hq5;obtain⟨area,kind,owner,key,seq,ns,cost,far⟩:=x;unfold recC;simp only [] at H5 hl |-
 have a1:=as2_1;have a2:=as2_2;have B0:T_ w (w.alloc (.cells #[M area,M kind,M owner,M key,M seq,.slice p1 ns.length c1,M cost,.bool far] 264)):=(YAC _ _).alloc (YA _) _;by_cases hn0:ns.length=0
 case neg=>
  have hd:((ns.length:Int)==0)=false:=by simp;intro h;rw [h] at hn0;exact hn0 rfl
  have hd2:(ns.length==0)=false:=by simpa using hn0
  rw [hd2];clear hn0 hd2
  go_enter Tryz.func193,Tryz.ntmps193
  go_wp2;go_ret;exact⟨by simp,B0⟩
 have hd:((ns.length:Int)==0)=true:=by simp;exact List.length_eq_zero_iff.1 hn0
 have hd2:(ns.length==0)=true:=by simpa using hn0
 rw [hd2];clear hn0 hd2
 go_enter Tryz.func193,Tryz.ntmps193
 go_wp2_with fail
 refine (H5 _).mono ?_;rintro e w1 ⟨rfl,rfl⟩;cases q5
 ·go_wp2;go_ret;exact⟨by simp,B0⟩
 cases far
 all_goals
  go_wp2;go_ret;exact⟨by simp,B0⟩
theorem ZiU (v1:Value)(x:RecD)(w:World)(hl:x.near.length<=1048576)(hv:ZaG w v1 x.near w.heap.size):
  Calls Tryz.prog 193 #[.iface 265 (.agg (recC x v1))] w fun e w'=>e=.returned (.bool (x.near.length==0&&(inB x.cost 1 1000||x.cost==60000)))/\T_ w w':=by
 obtain⟨p1,c1,rfl⟩:=hv.shape;clear hv;have H5:=hide (Zba x.cost 1 1000);obtain⟨q5,hq5⟩:∃ q,q=inB x.cost 1 1000:=⟨_,rfl⟩;rw [<-hq5] at H5 |-;clear hq5;obtain⟨area,kind,owner,key,seq,ns,cost,far⟩:=x;unfold recC;simp only [] at H5 hl |-
 have a1:=as3_1;have a2:=as3_2;have a3:=as3_3;have B0:T_ w (w.alloc (.cells #[M area,M kind,M owner,M key,M seq,.slice p1 ns.length c1,M cost,.bool far] 265)):=(YAC _ _).alloc (YA _) _;by_cases hn0:ns.length=0
 case neg=>
  have hd:((ns.length:Int)==0)=false:=by simp;intro h;rw [h] at hn0;exact hn0 rfl
  have hd2:(ns.length==0)=false:=by simpa using hn0
  rw [hd2];clear hn0 hd2
  go_enter Tryz.func193,Tryz.ntmps193
  go_wp2;go_ret;exact⟨by simp,B0⟩
 have hd:((ns.length:Int)==0)=true:=by simp;exact List.length_eq_zero_iff.1 hn0
 have hd2:(ns.length==0)=true:=by simpa using hn0
 rw [hd2];clear hn0 hd2
 go_enter Tryz.func193,Tryz.ntmps193
 go_wp2_with fail
 refine (H5 _).mono ?_;rintro e w1 ⟨rfl,rfl⟩;cases q5
 all_goals
  go_wp2;go_ret;exact⟨by simp,B0⟩
abbrev WP:=WayD × Value
def encW (p:WP):List Value:=[M p.1.to,M p.1.cost,p.2]
def Zbo:WayD:=⟨0,0,[]⟩
theorem Zbj (p:WP):(encW p).length=3:=rfl
def Zc9 (W:World)(v:Value)(ps:List WP)(B:Nat):Prop:=ZaL encW 3 W v ps B/\∀ p∈ps,ZaI W p.2 p.1.hops B
theorem Zc9.shape {ps:List WP}(h:Zc9 W v ps B):∃ a cap,v=.slice a ps.length cap:=by
 obtain⟨⟨a,cap,h,_⟩,_⟩:=h;exact⟨a,cap,h⟩
theorem Zc9.later {ps:List WP}{C:Nat}(h:Zc9 W v ps B)(hb:Below C W W')(hBC:B<=C):Zc9 W' v ps B:=
 ⟨Zaw.later h.1 hb hBC,fun p hp=>Zaw.later (h.2 p hp) hb hBC⟩
theorem Zc9.more {ps:List WP}{C:Nat}(h:Zc9 W v ps B)(hBC:B<=C):Zc9 W v ps C:=
 ⟨Zaw.more h.1 hBC,fun p hp=>Zaw.more (h.2 p hp) hBC⟩
theorem Zc9.then {ps:List WP}(h:Zc9 W v ps W.heap.size)(hb:T_ W W'):Zc9 W' v ps W'.heap.size:=(h.later hb (YA _)).more hb.size
def ZbD (W:World)(lo hi:Nat)(p:WP):Prop:=W.ownsRow lo 3 1 p.2 p.1.hops.length (flat intE p.1.hops)/\∀ k,p.2.ownBlock=some k->k<hi
def ZcX (p q:WP):Prop:=∀ k,p.2.ownBlock=some k->q.2.ownBlock≠some k
structure WaysOwn (W:World) (lo hi:Nat) (v:Value) (ps:List WP):Prop where
 row:W.ownsRow lo 193 3 v ps.length (flat encW ps)
 top:∀ k,v.ownBlock=some k->k<hi
 nears:∀ p∈ps,ZbD W lo hi p
 apart:ps.Pairwise ZcX
theorem ZbD.keep {p:WP}(h:ZbD W lo hi p)(hk:∀ k,lo<=k->k<hi->k<W.heap.size->W'.heap[k]? = W.heap[k]?):ZbD W' lo hi p:=
 ⟨Zal h.1 (fun k e=>hk k (h.1.lt k e).1 (h.2 k e) (h.1.lt k e).2),h.2⟩
theorem ZbD.wide {lo' hi':Nat}{p:WP}(h:ZbD W lo hi p)(hl:lo'<=lo)(hh:hi<=hi'):ZbD W lo' hi' p:=
 ⟨Zaf h.1 hl,fun k e=>YAB (h.2 k e) hh⟩
theorem ZbD.at {p:WP}(h:ZbD W lo hi p):ZaI W p.2 p.1.hops hi:=by
 have h1:=Zan h.1;obtain⟨a,cap,hv,h2⟩:=h1;refine⟨a,cap,hv,?_⟩;rcases h2 with h0 | ⟨b,off,ha,hb1,hx⟩
 ·exact .inl h0
 ·exact .inr ⟨b,off,ha,h.2 b (by rw [hv,ha];rfl),hx⟩
theorem WaysOwn.keep {ps:List WP}(h:WaysOwn W lo hi v ps)(hk:∀ k,lo<=k->k<hi->k<W.heap.size->W'.heap[k]? = W.heap[k]?):WaysOwn W' lo hi v ps where
 row:=Zal h.row (fun k e=>hk k (h.row.lt k e).1 (h.top k e) (h.row.lt k e).2)
 top:=h.top
 nears:=fun p hp=>(h.nears p hp).keep hk
 apart:=h.apart
theorem WaysOwn.below {ps:List WP}(h:WaysOwn W lo hi v ps)(hb:Below B W W')(hB:hi<=B):WaysOwn W' lo hi v ps:=h.keep (fun k _ h2 _=>hb.block k (by omega))
theorem WaysOwn.wide {lo' hi':Nat}{ps:List WP}(h:WaysOwn W lo hi v ps)(hl:lo'<=lo)(hh:hi<=hi'):WaysOwn W lo' hi' v ps where
 row:=Zaf h.row hl
 top:=fun k e=>YAB (h.top k e) hh
 nears:=fun p hp=>(h.nears p hp).wide hl hh
 apart:=h.apart
theorem WaysOwn.at {ps:List WP}(h:WaysOwn W lo hi v ps):Zc9 W v ps hi:=by
 refine⟨?_,fun p hp=>(h.nears p hp).at⟩;have h1:=Zan h.row;obtain⟨a,cap,hv,h2⟩:=h1;refine⟨a,cap,hv,?_⟩;rcases h2 with h0 | ⟨b,off,ha,hb1,hx⟩
 ·exact .inl h0
 ·exact .inr ⟨b,off,ha,h.top b (by rw [hv,ha];rfl),hx⟩
theorem WaysOwn.frame {l2 h2:Nat}{ps:List WP}(h:WaysOwn W lo hi v ps)(hb:Frame l2 h2 W W')(hB:hi<=l2\/h2<=lo):WaysOwn W' lo hi v ps:=h.keep (fun k h1 h2 h3=>hb.block k h3 (by omega))
theorem Zm0 {ps:List WP}{p:WP}(h:ps.Pairwise ZcX)(hn:∀ q∈ps,ZbD W lo hi q)(hp:∀ k,p.2.ownBlock=some k->hi<=k):(ps++[p]).Pairwise ZcX:=by
 rw [YAQ];refine⟨h,by simp,?_⟩;intro a ha b hb;have:b=p:=by simpa using hb
 subst this;intro k hk he;have h1:=(hn a ha).2 k hk;have h2:=hp k he;omega
def totW (ps:List WP):Nat:=(ps.map (fun p=>1+p.1.hops.length)).sum
theorem ZhP (p:WP)(ps:List WP):totW (p::ps)=1+p.1.hops.length+totW ps:=by simp [totW]
theorem Zl2 (a b:List WP):totW (a++b)=totW a+totW b:=by simp [totW]
theorem ZeR (ps:List WP):ps.length<=totW ps:=by
 induction ps with
 | nil=>simp [totW]
 | cons p ps ih=>rw [ZhP,YAm];omega
theorem ZmY {ps:List WP}{p:WP}(h:p∈ps):p.1.hops.length<=totW ps:=by
 induction ps with
 | nil=>simp at h
 | cons q ps ih=>
  rw [ZhP];rcases YAg.1 h with rfl | h1
  ·omega
  ·have:=ih h1;omega
theorem Zc9.cells {ps:List WP}(h:Zc9 W v ps B)(i:Nat)(p:WP)(hp:ps[i]? = some p):
  ∃ b off cap,v=.slice (some (U b off)) ps.length cap/\b<B/\W.cell? (U b (off+i*3))=some (M p.1.to)/\W.cell? (U b (off+i*3+1))=some (M p.1.cost)/\W.cell? (U b (off+i*3+2))=some p.2/\ZaI W p.2 p.1.hops B:=by
 obtain⟨b,off,cap,hv,hb,hc⟩:=ZaL.cell h.1 Zbj i p hp;exact⟨b,off,cap,hv,hb,hc 0 _ rfl,hc 1 _ rfl,hc 2 _ rfl,h.2 p (YAH hp)⟩
abbrev putW (W:World) (g o:Nat) (p:WP):World:=((W.setCell (U g o) (M p.1.to)).setCell (U g (o+1)) (M p.1.cost)).setCell (U g (o+2)) p.2
theorem Ziw (W:World)(g o:Nat)(p:WP):W.grownBy (putW W g o p) (some g):=Zaj (Zaj (Zak W g _ _) (Zak _ g _ _)) (Zak _ g _ _)
theorem Zpw {base g cap j:Nat}{xs:List WP}{p:WP} (h:W.ownsRow base 193 3 (.slice (some (U g 0)) n cap) n (flat encW xs)) (hj:j<xs.length):
  (putW W g (j*3) p).ownsRow base 193 3 (.slice (some (U g 0)) n cap) n (flat encW (xs.set j p)):=by
 have e:(((flat encW xs).set (j*3) (M p.1.to)).set (j*3+1) (M p.1.cost)).set (j*3+2) p.2=flat encW (xs.set j p):=Zc1 Zbj xs j p hj;rw [<-e];exact (((h.stored (j*3) _).1.stored (j*3+1) _).1.stored (j*3+2) _).1

theorem ZjU (ls:List Lk)(v:Int):Zay ls v=ZbE (fun u=>decide (0<(Zeo ls v u).length)) 0 3:=by
 simp only [Zay,ZbE,List.filter_cons,List.filter_nil,List.nil_append]
 repeat' split
 all_goals simp_all
theorem Zgh (n:Value)(v tv:Value)(ls:List Lk)(f:Int)(w:World)(hls:ls.length<=1048576)(hv:ZaV w v ls w.heap.size):
  Calls Tryz.prog 19 #[.agg #[n,v,tv],M f] w fun e w'=>∃ x,e=.returned x/\w'.ownsRow w.heap.size 3 1 x (Zay ls f).length (Za5 (Zay ls f))/\T_ w w':=by
 have HV:=hide hv;clear hv;rw [ZjU]
 go_enter Tryz.func19,Tryz.ntmps19
 go_wp2
 go_loopw [5,6] (fun x i wr=>∃ k:Nat,k<=3/\i=M (0+(k:Int))/\T_ w wr/\wr.heap[w.heap.size]? = some (.cells #[n,v,tv] 27)/\wr.ownsRow (w.heap.size+1) 3 1 x (ZbE (fun u=>decide (0<(Zeo ls f u).length)) 0 k).length (Za5 (ZbE (fun u=>decide (0<(Zeo ls f u).length)) 0 k))) (fun _ i _=>4-(intOf i).toNat)
 case atStart=>
  refine⟨0,by omega,rfl,Zap _ _,?_,?_⟩
  ·rw [YAL _ _ _ (show w.heap.size<(w.alloc (.cells #[n,v,tv] 27)).heap.size by simp),YAE]
  ·have h0:=YAe (base:=w.heap.size+1) (w.alloc (.cells #[n,v,tv] 27)) (#[]:Array Value) 0 (by simp) (by decide) (e:=3) (size:=1) rfl;simpa [ZbE,Za5] using h0
 case round=>
  obtain⟨k,hk,rfl,hb,hx,hown⟩:=hrel;have c0:wr.cell? (U w.heap.size 0)=some n:=by rw [Zaa hx];rfl
  have c1:wr.cell? (U w.heap.size 1)=some v:=by rw [Zaa hx];rfl
  have c2:wr.cell? (U w.heap.size 2)=some tv:=by rw [Zaa hx];rfl
  have hxl:=Zab hx;have HX:=hide hx;have OW:=hide hown;clear hx hown;by_cases hlt:k<3
  ·go_wp2_with fail
   refine (ZpI n v tv ls f _ wr hls (HV.out.then hb)).mono ?_;rintro e w1 ⟨x1,rfl,hox,b1⟩;obtain⟨a1,cp1,rfl⟩:=Zcq hox;clear hox;have hown1:=Zad OW b1 (YA _);have hx1:w1.heap[w.heap.size]? = some (.cells #[n,v,tv] 27):=by rw [b1.block _ hxl];exact HX
   have hb1:T_ w w1:=hb.trans (b1.mono hb.size);have hz1:=b1.size;have hpl:=ZeL (fun u=>decide (0<(Zeo ls f u).length)) 0 k;have HX1:=hide hx1;obtain⟨l2,hl20⟩:∃ l2,l2=ZbE (fun u=>decide (0<(Zeo ls f u).length)) 0 (k+1):=⟨_,rfl⟩;have HL20:=hide hl20;have hps:Hid (l2=ZbE (fun u=>decide (0<(Zeo ls f u).length)) 0 k++(if decide (0<(Zeo ls f (0+(k:Int))).length) then [0+(k:Int)] else [])):=hl20;clear hl20;clear b1 hx1 c0 c1 c2 OW HX;generalize ZbE (fun u=>decide (0<(Zeo ls f u).length)) 0 k=l at hown1 hpl hps;rw [Int.zero_add] at *;generalize (Zeo ls f (k:Int)).length=c at hps |-;by_cases hc:0<(c:Int)
   ·have hc':0<c:=by omega
    have hl2:l2=l++[(k:Int)]:=by rw [hps.out];simp [hc']
    clear hc';have HL2:=hide hl2;clear hl2 hps
    go_wp2_with (first
     | (at_builtin;refine Zbt _ rfl _ _ 28 rfl (w.heap.size+1) 3 Tryz.underlying28 Tryz.info3 u5 l (k:Int) rfl (hown1.alloc _) (U w1.heap.size 0) 1 rfl ?_ (by omega) (by simp;omega) ?_))
    ·rw [add_zero',World.cell?_alloc_at _ _ _ _ rfl];rfl
    intro v' w4 l' hl' hown' hgrow;have hb4:T_ w w4:=(hb1.alloc (by omega) _).grown hgrow (by simp;omega) (fun k hk=>by have:=(hown1.lt k hk).1;omega);have hx4:w4.heap[w.heap.size]? = some (.cells #[n,v,tv] 27):=by
     rw [hgrow.block _ (by simp;omega) (fun h=>by have:=(hown1.lt _ h.symm).1;omega),YAL _ _ _ (by omega)];exact HX1
    have e:l'=l2:=by rw [hl'.out,HL2.out]
    subst e;have OW2:=hide hown';have HX4:=hide hx4;clear hgrow hown' hx4 hown1;go_wp2;go_roundw
    case rel=>exact ⟨k+1,by omega,by go_num,hb4,HX4,by rw [<-HL20.out];exact OW2⟩
    case measure=>exact MS_
   ·have hc':¬0<c:=by omega
    have hl2:l2=l:=by rw [hps.out];simp [hc']
    clear hc';subst hl2;have OW2:=hide hown1;clear hown1 hps;go_wp2;go_roundw
    case rel=>exact ⟨k+1,by omega,by go_num,hb1,HX1,by rw [<-HL20.out];exact OW2⟩
    case measure=>exact MS_
  ·have hk':k=3:=by omega
   subst hk';go_wp2;go_ret;exact⟨_,rfl,ZfS OW (by omega),hb⟩
theorem ZhD (n:Value)(v tv:Value)(ls:List Lk)(f:Int)(w:World)(hls:ls.length<=1048576)(hv:ZaV w v ls w.heap.size):
  Calls Tryz.prog 85 #[.agg #[n,v,tv],M f] w fun e w'=>e=.returned (.bool (ZeV ls f))/\T_ w w':=by
 have HV:=hide hv;clear hv
 go_enter Tryz.func85,Tryz.ntmps85
 go_wp2_with fail
 refine (Zgh n v tv ls f _ hls (HV.out.then ((YAC _ _).alloc (YA _) _))).mono ?_;rintro e w1 ⟨x,rfl,hox,b1⟩;have hb1:T_ w w1:=((YAC w.heap.size w).alloc (YA _) _).trans (b1.mono (by simp));obtain⟨zs,hzs⟩:∃ zs,zs=Zay ls f:=⟨_,rfl⟩;have hB:ZeV ls f=(decide (1<zs.length)&&(zs.head? == some 0)):=by rw [hzs];rfl
 have HB:=hide hB;rw [<-hzs] at hox;clear hB hzs b1;by_cases h1:1<zs.length
 ·obtain ⟨g,cap,rfl,hg,hl⟩:=ZdM hox (by omega);obtain⟨z,zr,rfl⟩:∃ z zr,zs=z::zr:=by
   cases zs with
   | nil=>simp at h1
   | cons z zr=>exact ⟨z,zr,rfl⟩
  have c0:w1.cell? (U g 0)=some (M z):=by rw [hox.cellAt 0 (by omega)];rfl
  have hb:(decide (1<(z::zr).length)&&((z::zr).head? == some 0))=(z==0):=by
   rw [YAc h1];simp
  have HB2:Hid (ZeV ls f=(z==0)):=HB.out.trans hb;generalize (z::zr).length=m at hox h1 hl |-;have h1':(1:Int)<(m:Int):=by omega
  have h0':(0:Int)<(m:Int):=by omega
  clear hox hb HB;go_wp2;go_ret;exact⟨by rw [HB2.out];rfl,hb1⟩
 ·obtain ⟨a,cap,rfl⟩:=Zcq hox;have hb:(decide (1<zs.length)&&(zs.head? == some 0))=false:=by rw [YAZ h1];rfl
  have HB2:Hid (ZeV ls f=false):=HB.out.trans hb;have h1':¬(1:Int)<(zs.length:Int):=by omega
  clear hox hb HB;go_wp2;go_ret;exact⟨by rw [HB2.out];rfl,hb1⟩
theorem Tryz.infoBol :(Tryz.prog.info? 4).map (fun i=>(i.zero,i.size,i.bytes))=some (some (.bool false),1,1):=by kernel_rfl
theorem ZkN (v:Value)(ls:List Bool)(w:World)(hls:ls.length<=1048576)(hv:Za6 w v ls w.heap.size):
  Calls Tryz.prog 44 #[v] w fun e w'=>∃ x,e=.returned x/\w'.ownsRow w.heap.size 4 1 x ls.length (flat blE ls)/\T_ w w':=by
 obtain⟨a,cap,rfl⟩:=hv.shape;have HV:=hide hv;clear hv;obtain⟨i0,hi,hz0,hz1,hz2⟩:=info_parts Tryz.infoBol;have HI:=hide hi;have HZ:=hide hz0;clear hi hz0
 go_enter Tryz.func44,Tryz.ntmps44
 go_wp2_with (first
  | (refine Zcg ZiT (by omega) _ rfl _ _ 46 rfl w.heap.size 4 i0 (.bool false) false rfl Tryz.underlying46 HI HZ hz1 ls.length rfl rfl (by rw [hz2];omega) (by unfold maxLen;omega) (YA _) ?_))
 intro w1 hown hg;have b1:T_ w w1:=(YAC _ _).grown hg (YA _) (fun k hk=>by simp at hk);have OW:=hide hown;clear hown hg;go_wp2
 go_loopw [4] (fun i wr=>∃ k:Nat,k<=ls.length/\i=M k/\wr.ownsRow w.heap.size 4 1 (.slice (some (U w.heap.size 0)) ls.length ls.length) ls.length (flat blE (part ls false k))/\T_ w wr) (fun i _=>ls.length-(intOf i).toNat)
 case atStart=>exact ⟨0,by omega,rfl,(by simpa [part] using OW.out),b1⟩
 case round=>
  obtain⟨k,hk,rfl,hown,hnx⟩:=hrel;by_cases hlt:k<ls.length
  ·obtain ⟨l,hl⟩:∃ l,ls[k]? = some l:=⟨ls[k],YAA hlt⟩;obtain⟨b,off,cap',hve,hbb,c0⟩:=HV.out.cell k l hl;cases hve;replace c0:=(hnx.cell hbb).trans c0;have HL:=hide hl;have hki:(0:Int)<=(k:Int):=by omega
   have hkj:(k:Int)<(ls.length:Int):=by omega
   have hex:∃ u,wr.cell? (U w.heap.size k)=some u:=by
    rw [hown.cellAt _ (by omega)];have hln:k<(flat blE (part ls false k)).length:=by rw [hown.1];omega
    exact⟨_,YAA hln⟩
   obtain⟨u0,d0⟩:=hex;have f0:=hown.frozenAt k;have OW3:=hide hown;clear hown hl;go_wp2;refine⟨⟨k+1,by omega,by go_num,?_,hnx.setCell (YA _) _⟩,by simp [intOf];omega⟩;have h4:=(OW3.out.stored k (.bool l)).1;have e4:(flat blE (part ls false k)).set k (.bool l)=flat blE (part ls false (k+1)):=by
    rw [<-Zhs ls false l k HL.out];have e5:=Zc1 ZiT (part ls false k) k l (by rw [Zjs _ _ _ hk];exact hlt);rw [Nat.mul_one] at e5;rw [<-e5];rfl
   rw [e4] at h4;exact h4
  ·have hkn:k=ls.length:=by omega
   have KN:=hide hkn;have OW2:=hide hown;clear hkn hown;go_wp2;go_ret;refine⟨_,rfl,?_,hnx⟩;have h:=OW2.out;rw [KN.out,Zjr] at h;exact h
theorem Zou (v1 v2:Value)(xs:List Bool)(w:World)(h1:Za6 w v1 xs w.heap.size)(h2:Za6 w v2 xs w.heap.size)(hn:xs.length<=1048576):
  Calls Tryz.prog 46 #[v1,v2] w fun e w'=>e=.returned (.bool true)/\T_ w w':=by
 obtain⟨a1,c1,rfl⟩:=h1.shape;obtain⟨a2,c2,rfl⟩:=h2.shape;have K1:=hide h1;have K2:=hide h2;clear h1 h2
 go_enter Tryz.func46,Tryz.ntmps46
 go_wp2
 go_loopw [5] (fun i wr=>∃ k:Nat,k<=xs.length/\i=M k/\T_ w wr) (fun i _=>xs.length-(intOf i).toNat)
 case atStart=>exact ⟨0,by omega,rfl,YAC _ _⟩
 case round=>
  obtain⟨k,hk,rfl,hnx⟩:=hrel;by_cases hlt:k<xs.length
  ·obtain ⟨x,hx⟩:∃ x,xs[k]? = some x:=⟨xs[k],YAA hlt⟩;obtain⟨b1,o1,cp1,hv1,hb1,d1⟩:=K1.out.cell k x hx;cases hv1;obtain⟨b2,o2,cp2,hv2,hb2,d2⟩:=K2.out.cell k x hx;cases hv2;replace d1:=(hnx.cell hb1).trans d1;replace d2:=(hnx.cell hb2).trans d2;have hki:(0:Int)<=(k:Int):=by omega
   have hkj:(k:Int)<(xs.length:Int):=by omega
   clear hx;cases x
   ·go_wp2
    go_quiet (fail)
    go_wp2;go_roundw
    case rel=>exact ⟨k+1,by omega,by go_num,ZdW hnx _⟩
    case measure=>exact MS_
   ·go_wp2
    go_quiet (fail)
    go_wp2;go_roundw
    case rel=>exact ⟨k+1,by omega,by go_num,ZdW hnx _⟩
    case measure=>exact MS_
  ·go_wp2;go_ret;exact⟨rfl,hnx⟩
theorem ZlB (v:Value)(base n:Nat)(xs:List Value)(q:Int)(w:World)(h1:w.ownsRow base 4 1 v n xs)(hn:n<=1048576)(hq:0<=q)(hq2:q<=1000000000):
  Calls Tryz.prog 47 #[v,M q] w fun e w'=>e=.returned (M (q+(n:Int)))/\w.grownBy w' v.ownBlock:=by
 obtain⟨a1,c1,rfl⟩:=Zac h1;have R0:=hide (show ∃ ys,w.ownsRow base 4 1 (.slice a1 n c1) n ys from ⟨xs,h1⟩);have G0:=hide (Zbz w (Value.slice a1 n c1).ownBlock);clear h1
 go_enter Tryz.func47,Tryz.ntmps47
 go_wp2
 go_loopw [5,1] (fun i r wr=>∃ k:Nat,k<=n/\i=M k/\r=M (q+(k:Int))/\Hid (∃ ys,wr.ownsRow base 4 1 (.slice a1 n c1) n ys)/\Hid (w.grownBy wr (Value.slice a1 n c1).ownBlock)) (fun i _ _=>n-(intOf i).toNat)
 case atStart=>exact ⟨0,by omega,rfl,by simp,R0,G0⟩
 case round=>
  obtain⟨k,hk,rfl,rfl,RW,GW⟩:=hrel;by_cases hlt:k<n
  ·obtain ⟨ys,hown⟩:=RW.out;obtain⟨g,cap,hve,hg1,hg2⟩:=Zce hown (by omega);cases hve;have hki:(0:Int)<=(k:Int):=by omega
   have hkj:(k:Int)<(n:Int):=by omega
   obtain⟨u,hu⟩:=ZaM hown k (by omega);have hf:=hown.frozenAt k;have HST:=hide (fun x=>(hown.stored k x).1);have HG:=hide (fun x=>Zaj GW (Zak wr g k x));clear hown;go_wp2;go_roundw
   case rel=>exact ⟨k+1,by omega,by go_num,by go_num,hide ⟨_,HST _⟩,hide (HG _)⟩
   case measure=>exact MS_
  ·have KN:=hide (show k=n by omega);go_wp2;go_ret;exact⟨Zc4 (by rw [KN.out]),GW⟩
def Zon (l:Lk):Value:=.agg #[M l.a,M l.b,M l.c,M l.r,M l.b,M l.a,M l.c,M l.r]
theorem ZiW (l:Lk)(w:World):Calls Tryz.prog 202 #[lkV l] w fun e w'=>e=.returned (Zon l)/\T_ w w':=by
 obtain⟨a,b,c,r⟩:=l;unfold lkV Zon
 go_enter Tryz.func202,Tryz.ntmps202
 go_wp2
 go_returns
 exact⟨rfl,Zcw _ _ _⟩
theorem Zhz (w:World)(x0 x1 x2 x3 x4 x5 x6 x7:Value):(Instr.index 233 (.agg #[x0,x1,x2,x3,x4,x5,x6,x7]) (M 0)).run Tryz.prog w=.ok (.agg #[x0,x1,x2,x3]) w:=by
 rfl
theorem ZhA (w:World)(x0 x1 x2 x3 x4 x5 x6 x7:Value):(Instr.index 233 (.agg #[x0,x1,x2,x3,x4,x5,x6,x7]) (M 1)).run Tryz.prog w=.ok (.agg #[x4,x5,x6,x7]) w:=by
 rfl
theorem ZmR (w:World)(a b c d a' b' c' d':Int):(binOp .eql 173 (.agg #[M a,M b,M c,M d]) (.agg #[M a',M b',M c',M d'])).run Tryz.prog w=.ok (.bool (decide (a=a'/\b=b'/\c=c'/\d=d'))) w:=by
 go_simp;by_cases h1:a=a' <;> by_cases h2:b=b' <;> by_cases h3:c=c' <;> by_cases h4:d=d' <;> simp [h1,h2,h3,h4]
theorem ZgN {f t r la lb lc lr:Int}(h:la=f/\lb=t/\lr=r)(W:World):(binOp .eql 173 (.agg #[M la,M lb,M lc,M lr]) (.agg #[M f,M t,M lc,M r])).run Tryz.prog W=.ok (.bool true) W:=by
 rw [ZmR,YAc ⟨h.1,h.2.1,rfl,h.2.2⟩]
theorem Zju {f t r la lb lc lr:Int}(h:¬(la=f/\lb=t/\lr=r))(W:World):(binOp .eql 173 (.agg #[M la,M lb,M lc,M lr]) (.agg #[M f,M t,M lc,M r])).run Tryz.prog W=.ok (.bool false) W:=by
 rw [ZmR,YAZ (fun g=>h ⟨g.1,g.2.1,g.2.2.2⟩)]
theorem ZoO (n:Value)(v tv:Value)(ls:List Lk)(f t r:Int)(w:World)(hls:ls.length<=1048576)(hv:ZaV w v ls w.heap.size):
  Calls Tryz.prog 145 #[.agg #[n,v,tv],M f,M t,M r] w fun e w'=>e=.returned (M (ZcR ls f t r))/\T_ w w':=by
 obtain⟨a,cap,rfl⟩:∃ a cap,v=.slice a ls.length cap:=by obtain ⟨a,cap,h,_⟩:=hv;exact⟨a,cap,h⟩
 have HV:=hide hv;clear hv
 go_enter Tryz.func145,Tryz.ntmps145
 go_wp2
 go_loopw [17] (fun i wr=>∃ k:Nat,k<=ls.length/\i=M k/\(∀ j,j<k->∀ l,ls[j]? = some l->ZbJ f t r l=false)/\T_ w wr) (fun i _=>ls.length-(intOf i).toNat)
 case atStart=>exact ⟨0,by omega,rfl,by omega,(YAC _ _).alloc (YA _) _⟩
 case round=>
  obtain⟨k,hk,rfl,hno,hb⟩:=hrel;have HNO:=hide hno;clear hno;by_cases hlt:k<ls.length
  ·obtain ⟨l,hl⟩:∃ l,ls[k]? = some l:=⟨ls[k],YAA hlt⟩;obtain⟨b,off,cap',hve,hbb,c0,c1,c2,c3⟩:=HV.out.cells k l hl;cases hve;replace c0:=(hb.cell hbb).trans c0;replace c1:=(hb.cell hbb).trans c1;replace c2:=(hb.cell hbb).trans c2;replace c3:=(hb.cell hbb).trans c3;have HL:=hide hl;have hbo:=ZiW l;clear hl;obtain⟨la,lb,lc,lr⟩:=l;unfold Zon lkV at hbo;simp only [] at hbo;have HBO:=hide hbo;clear hbo
   go_wp2_with fail
   refine (HBO _).mono ?_;rintro e w1 ⟨rfl,b1⟩;have hp:w1.heap[wr.heap.size]? = some (.cells #[M la,M lb,M lc,M lr] 173):=by
    rw [b1.block _ (by simp;omega),YAL _ _ _ (by simp),YAE]
   have hq:w1.heap[wr.heap.size+1]? = some (.cells #[M f,M t,M lc,M r] 173):=by
    rw [b1.block _ (by simp)];have:=YAE (wr.alloc (.cells #[M la,M lb,M lc,M lr] 173)) (.cells #[M f,M t,M lc,M r] 173);simpa using this
   have hbr:=hb.size;have B1:T_ w w1:=(hb.trans ((Zap _ _).mono hb.size)).trans (b1.mono (by simp;omega));have HP:=hide hp;have HQ:=hide hq;clear hp hq b1 c0 c1 c2 c3 hb;obtain⟨z,hz⟩:∃ z,z=wr.heap.size:=⟨_,rfl⟩;rw [<-hz] at HP HQ hbr |-;clear hz wr;go_wp2
   go_loopw [29] (fun i wr=>∃ j:Nat,j<=2/\i=M j/\(1<=j->¬(la=f/\lb=t/\lr=r))/\(2<=j->¬(lb=f/\la=t/\lr=r))/\T_ w wr/\wr.heap[z]? = some (.cells #[M la,M lb,M lc,M lr] 173)/\wr.heap[z+1]? = some (.cells #[M f,M t,M lc,M r] 173)) (fun i _=>2-(intOf i).toNat)
   case atStart=>exact ⟨0,by omega,rfl,by omega,by omega,B1,HP,HQ⟩
   case round=>
    obtain⟨j,hj,rfl,hn1,hn2,hb,hp,hq⟩:=hrel;have HN1:=hide hn1;have HN2:=hide hn2;have p0:=Zaa hp 0;have p1:=Zaa hp 1;have p2:=Zaa hp 2;have p3:=Zaa hp 3;have q0:=Zaa hq 0;have q1:=Zaa hq 1;have q2:=Zaa hq 2;have q3:=Zaa hq 3;simp at p0 p1 p2 p3 q0 q1 q2 q3;have hz1:=Zab hq;have hz0:=Zab hp;have HP:=hide hp;have HQ:=hide hq;clear hn1 hn2 hp hq;obtain rfl | rfl | rfl:j=0\/j=1\/j=2:=by omega
    ·have i0:=fun W=>Zhz W (M la) (M lb) (M lc) (M lr) (M lb) (M la) (M lc) (M lr);by_cases h:la=f/\lb=t/\lr=r
     ·have e0:=ZgN (lc:=lc) h;have hh:ZbJ f t r ⟨la,lb,lc,lr⟩=true:=by simp [ZbJ,h.1,h.2.1,h.2.2]
      have HH:=hide hh;clear hh h;go_wp2;go_ret;exact⟨Zd4 (Zi3 HNO HL HH).symm,hb.alloc hb.size _⟩
     ·have e0:=Zju (lc:=lc) h;have HH:=hide h;clear h;go_wp2;go_roundw
      case rel=>exact ⟨1,by omega,by go_num,fun _=>HH,by omega,hb.alloc hb.size _,by rw [YAL _ _ _ hz0];exact HP,by rw [YAL _ _ _ hz1];exact HQ⟩
      case measure=>simp [intOf]
    ·have i0:=fun W=>ZhA W (M la) (M lb) (M lc) (M lr) (M lb) (M la) (M lc) (M lr);by_cases h:lb=f/\la=t/\lr=r
     ·have e0:=ZgN (lc:=lc) h;have hh:ZbJ f t r ⟨la,lb,lc,lr⟩=true:=by simp [ZbJ,h.1,h.2.1,h.2.2]
      have HH:=hide hh;clear hh h;go_wp2;go_ret;exact⟨Zd4 (Zi3 HNO HL HH).symm,hb.alloc hb.size _⟩
     ·have e0:=Zju (lc:=lc) h;have HH:=hide h;clear h;go_wp2;go_roundw
      case rel=>exact ⟨2,by omega,by go_num,fun _=>HN1 (by omega),fun _=>HH,hb.alloc hb.size _,by rw [YAL _ _ _ hz0];exact HP,by rw [YAL _ _ _ hz1];exact HQ⟩
      case measure=>simp [intOf]
    ·have hh:ZbJ f t r ⟨la,lb,lc,lr⟩=false:=by
      have m1:=HN1.out (by omega);have m2:=HN2.out (by omega);simp only [ZbJ];grind
     have HH:=hide hh;clear hh;go_wp2;exact⟨⟨k+1,by omega,by go_num,ZgY HNO HL HH,hb⟩,by simp [intOf];omega⟩
  ·have hk':k=ls.length:=by omega
   have HK:=hide hk';clear hk';go_wp2;go_ret;exact⟨Zd4 (Zj4 HNO HK).symm,hb⟩
theorem ZmD (a:Nr):∀ u∈nrE a,u.oneCell'=true:=by
 intro u hu;simp [nrE] at hu;rcases hu with rfl | rfl <;> rfl
theorem Zcv {α:Type}{enc:α->List Value}{sz bytes:Nat}(hlen:∀ l:List α,(flat enc l).length=l.length*sz)(hpos:0<sz)(hone:∀ a,∀ u∈enc a,u.oneCell'=true)(hbb:bytes<=100){P:Program}(w:World){ops:Array Oper}{rest:List Oper}{o:Oper}{a:Act}{Q:Exit->Act->World->Prop}(hgd:o.guard=none)(s x:Operand)(t:TypeId)
  (ho:o.op=.call { callee:=.builtin .append,args:=#[s,x],argTypes:=#[t,t] }) (base:Nat) (e:TypeId) (ht:P.underlying t=some (.slice e)) (zv:Value) (hzv:zv.cells.size=sz)
  (hinfo:(P.info? e).map (fun i=>(i.zero,i.size,i.bytes))=some (some zv,sz,bytes))
  (v:Value) (l:List α) (hs:a.eval s=v) (hown:w.ownsRow base e sz v l.length (flat enc l))
  (base2:Nat) (v2:Value) (l2:List α) (hx:a.eval x=v2) (hown2:w.ownsRow base2 e sz v2 l2.length (flat enc l2))
  (hl:l.length+l2.length<=1000000000) (hbase:base<=w.heap.size)
  (h:∀ v' w',w'.ownsRow base e sz v' (l++l2).length (flat enc (l++l2))->w.grownBy w' v.ownBlock->wpList P ops Q rest (a.put o.dst v') w'):wpList P ops Q (o::rest) a w:=by
 obtain⟨i0,hi,hz0,hz1,hz2⟩:=info_parts hinfo;rcases hown2.2 with ⟨e1,e2⟩ | ⟨g,cap,cur,e1,_⟩
 ·have e3:l2=[]:=YAt e2;subst e3;refine wpList_append_own_none hgd s x t ho base e i0 sz ht hi v l.length (flat enc l) hs hown (hx.trans e1) ?_;exact h v w (by simpa using hown) (Zbz w _)
 ·refine wpList_append_own w hgd s x t ho base e i0 zv sz bytes ht hi hz0 hz1 hz2 hzv hpos v l.length (flat enc l) hs hown (U g 0) l2.length cap (flat enc l2) (hx.trans e1) (hlen l2) (hown2.cells (by rw [e1];rfl)) ?_ (by unfold maxLen;omega) ?_ hbase ?_
  ·intro u hu;simp only [flat,YAs] at hu;obtain⟨b,_,hb⟩:=hu;exact hone b u hb
  ·have:(l.length+l2.length)*bytes<=1000000000*100:=Nat.mul_le_mul hl hbb;omega
  ·intro v' w' h1 h2 _;have e1:flat enc l++flat enc l2=flat enc (l++l2):=by rw [ZaF]
   rw [e1] at h1;exact h v' w' (by simpa using h1) h2
abbrev ZnL (W:World) (g:Nat) (x:RecD) (v:Value):World:=(((((((W.setCell (U g 0) (M x.area)).setCell (U g 1) (M x.kind)).setCell (U g 2) (M x.owner)).setCell (U g 3) (M x.key)).setCell (U g 4) (M x.seq)).setCell (U g 5) v).setCell (U g 6) (M x.cost)).setCell (U g 7) (.bool x.far)
theorem ZrW {B0:Nat}{c0 c1 c2 c3 c4 c5 c6 c7:Value}(x:RecD)(v:Value)(hr:W.heap[B0]? = some (.cells #[c0,c1,c2,c3,c4,c5,c6,c7] 39)):
  (ZnL W B0 x v).heap[B0]? = some (.cells (recC x v) 39):=by
 have k1:=YAd _ _ 0 _ _ (M x.area) hr;have k2:=YAd _ _ 1 _ _ (M x.kind) k1;have k3:=YAd _ _ 2 _ _ (M x.owner) k2;have k4:=YAd _ _ 3 _ _ (M x.key) k3;have k5:=YAd _ _ 4 _ _ (M x.seq) k4;have k6:=YAd _ _ 5 _ _ v k5;have k7:=YAd _ _ 6 _ _ (M x.cost) k6;have k8:=YAd _ _ 7 _ _ (.bool x.far) k7;simp only [YAq,YAp,YAu] at k8;unfold ZnL recC;exact k8
theorem Zle (W:World)(g:Nat)(x:RecD)(v:Value):W.grownBy (ZnL W g x v) (some g):=
 Zaj (Zaj (Zaj (Zaj (Zaj (Zaj (Zaj (Zak W g _ _) (Zak _ g _ _)) (Zak _ g _ _)) (Zak _ g _ _)) (Zak _ g _ _)) (Zak _ g _ _)) (Zak _ g _ _)) (Zak _ g _ _)
theorem ZqR (l:List Nr):(flat nrE l).length=l.length*2:=ZaD Zjk l
theorem Zpn (W:World)(g base:Nat)(hg:g=W.heap.size)(hb:base<=W.heap.size):(W.alloc (.cells #[] 106)).ownsRow base 106 2 (.slice (some (U g 0)) 0 0) 0 (flat nrE []):=by
 subst hg;exact YAe W #[] 0 hb (by unfold maxLen;omega) (by simp)
theorem Zor (x:RecD)(v:Value)(base:Nat)(w:World)(ho:w.ownsRow base 106 2 v x.near.length (flat nrE x.near))(hn:x.near.length<=1048576):
  Calls Tryz.prog 66 #[.agg (recC x v)] w fun e w'=>∃ v',e=.returned (.agg (recC x v'))/\w'.ownsRow w.heap.size 106 2 v' x.near.length (flat nrE x.near)/\T_ w w':=by
 obtain⟨va,vc,rfl⟩:=Zac ho;have OW:=hide ho;clear ho
 go_enter Tryz.func66,Tryz.ntmps66
 unfold recC
 go_wp2_with (first
  | (at_builtin;refine Zcv ZqR (by omega) ZmD (by omega) _ rfl _ _ 37 rfl (w.heap.size+2) 106 Tryz.underlying37 (nrV nr0) rfl Tryz.infoNr _ [] rfl ?own0 base _ x.near rfl (((OW.out.alloc _).alloc _).alloc _) (by simp;omega) (by simp) ?_))
 case own0=>
  exact Zpn _ _ _ (by simp) (by simp)
 intro v' w4 hown' hgrow;obtain⟨na,nc,rfl⟩:=Zac hown';simp only [Value.ownBlock] at hgrow;have hb4:T_ w w4:=((((YAC w.heap.size w).alloc (by simp) _).alloc (by simp) _).alloc (by simp;omega) _).grown hgrow (by simp;omega) (fun k hk=>by simp at hk;omega);have q0:w4.heap[w.heap.size]? = some (.cells #[M x.area,M x.kind,M x.owner,M x.key,M x.seq,.slice va x.near.length vc,M x.cost,.bool x.far] 39):=by
  rw [hgrow.block w.heap.size (by simp;omega) (by simp;omega),YAL _ _ _ (by simp;omega),YAL _ _ _ (by simp),YAE]
 have q1:w4.heap[w.heap.size+1]? = some (.cells #[M 0,M 0,M 0,M 0,M 0,.slice none 0 0,M 0,.bool false] 39):=by
  rw [hgrow.block (w.heap.size+1) (by simp) (by simp),YAL _ _ _ (by simp)];have e:=YAE (w.alloc (.cells #[M x.area,M x.kind,M x.owner,M x.key,M x.seq,.slice va x.near.length vc,M x.cost,.bool x.far] 39)) (.cells #[M 0,M 0,M 0,M 0,M 0,.slice none 0 0,M 0,.bool false] 39);rw [show (w.alloc (.cells #[M x.area,M x.kind,M x.owner,M x.key,M x.seq,.slice va x.near.length vc,M x.cost,.bool x.far] 39)).heap.size=w.heap.size+1 by simp] at e;exact e
 have r5:=Zaa q0 5;have f0:=Zae q0;simp at r5;have q2:=YAd w4 w.heap.size 5 _ _ (.slice na x.near.length nc) q0;simp only [YAq,YAp,YAu] at q2;have q3:(w4.setCell (U w.heap.size 5) (.slice na x.near.length nc)).heap[w.heap.size+1]? = some (.cells #[M 0,M 0,M 0,M 0,M 0,.slice none 0 0,M 0,.bool false] 39):=by
  rw [YAU w4 (U w.heap.size 5) _ _ (by show w.heap.size+1≠w.heap.size;omega)];exact q1
 have y0:=Zaa q2 0;have y1:=Zaa q2 1;have y2:=Zaa q2 2;have y3:=Zaa q2 3;have y4:=Zaa q2 4;have y5:=Zaa q2 5;have y6:=Zaa q2 6;have y7:=Zaa q2 7;simp at y0 y1 y2 y3 y4 y5 y6 y7;have u0:=Zaa q3 0;have u1:=Zaa q3 1;have u2:=Zaa q3 2;have u3:=Zaa q3 3;have u4:=Zaa q3 4;have u5:=Zaa q3 5;have u6:=Zaa q3 6;have u7:=Zaa q3 7;simp at u0 u1 u2 u3 u4 u5 u6 u7;have fu:=Zae q3;have F:=ZrW x (.slice na x.near.length nc) q3;have hown2:=Zbk (j:=5) (u:=.slice na x.near.length nc) hown' (show w.heap.size<w.heap.size+2 by omega);have G8:=Zle (w4.setCell (U w.heap.size 5) (.slice na x.near.length nc)) (w.heap.size+1) x (.slice na x.near.length nc);have hown3:=Zaf (b0:=w.heap.size) (hown2.kept G8 (by
  cases hv:(Value.slice na x.near.length nc).ownBlock with
  | none=>exact .inl rfl
  | some g=>exact .inr (fun e=>by have:=(hown2.lt g hv).1;simp at e;omega))) (by omega)
 have hb5:T_ w (ZnL (w4.setCell (U w.heap.size 5) (.slice na x.near.length nc)) (w.heap.size+1) x (.slice na x.near.length nc)):=(hb4.setCell (p:=(U w.heap.size 5)) (YA _) _).grown G8 (by have:=Zab q3;omega) (fun k hk=>by simp at hk;omega);have FF:=hide F;have H3:=hide hown3;have H5:=hide hb5;clear F hown3 hb5 hown2 G8 hb4 hown' hgrow q0 q1 q2 q3 OW
 go_wp2_with fail
 (try simp only [Exit.inBlock,Exit.then])
 refine bodyPost_ret (results_cell_row rfl _ _ (w.heap.size+1) 39 (recC _ _) (0,0) _ rfl FF Tryz.underlying39 rfl (by kernel_rfl)) rfl ?_;exact⟨_,rfl,H3,H5⟩
theorem ZjQ (ps:List RP):ps.Pairwise ZeS↔(ps.map (·.2)).Pairwise (fun a b:Value=>∀ k,a.ownBlock=some k->b.ownBlock≠some k):=by
 rw [YAn];exact Iff.rfl
theorem Zp9 (h:ps.Pairwise ZeS)(hi:ps[i]? = some p)(hk:ps[k]? = some q)(hne:i≠k):ZeS p q:=by
 obtain⟨h1,e1⟩:=YAD.1 hi;obtain⟨h2,e2⟩:=YAD.1 hk;rw [YAb] at h;rcases Nat.lt_or_ge i k with hl | hl
 ·have:=h i k h1 h2 hl;rw [e1,e2] at this;exact this
 ·have:=h k i h2 h1 (by omega);rw [e1,e2] at this;exact fun j hj he=>this j he hj
theorem Zsl (hk:ps[k]? = some p)(h:q.2=p.2):(ps.set k q).map (·.2)=ps.map (·.2):=by
 apply List.ext_getElem?;intro i;by_cases e:i=k
 ·subst e;obtain⟨h1,e1⟩:=YAD.1 hk;rw [List.getElem?_map,List.getElem?_set_self h1,List.getElem?_map,hk];simp [h]
 ·simp [List.getElem?_set_ne (Ne.symm e)]
theorem RecsOwn.turn {W8:World}{g cap:Nat}{xs:List RP} (h:RecsOwn W lo hi (.slice (some (U g 0)) n cap) xs) (hn:xs.length=n) (hk:xs[k]? = some p) (hq:q.2=p.2)
  (row:W8.ownsRow lo 39 8 (.slice (some (U g 0)) n cap) n (flat encP (xs.set k q))) (near:W8.ownsRow lo 106 2 q.2 q.1.near.length (flat nrE q.1.near))
  (hkeep:∀ j,j<W.heap.size->j≠g->some j≠p.2.ownBlock->W8.heap[j]? = W.heap[j]?):RecsOwn W8 lo hi (.slice (some (U g 0)) n cap) (xs.set k q) where
 row:=by rw [List.length_set,hn];exact row
 top:=h.top
 apart:=by rw [ZjQ,Zsl hk hq, <-ZjQ];exact h.apart
 nears:=by
  intro r hr;obtain⟨i,hi,e⟩:=List.getElem_of_mem hr;have hr2:(xs.set k q)[i]? = some r:=by rw [<-e];exact YAA hi
  by_cases ek:i=k
  ·subst ek;rw [List.getElem?_set_self (by simpa using hi)] at hr2;cases hr2;refine⟨near,?_⟩;rw [hq];exact (h.nears p (YAH hk)).2
  ·rw [List.getElem?_set_ne (Ne.symm ek)] at hr2;have ho:=h.nears r (YAH hr2);refine⟨Zal ho.1 (fun j hj=>?_),ho.2⟩;refine hkeep j (ho.1.lt j hj).2 ?_ ?_
   ·rintro rfl;obtain⟨cur,hh⟩:∃ cur,W.heap[j]? = some (.cells cur 39 (0,0)):=by
     rcases h.row.2 with ⟨h0,_⟩ | ⟨g',cap',cur',hv',_,hh',_⟩
     ·cases h0
     ·cases hv';exact⟨cur',hh'⟩
    rcases ho.1.2 with ⟨h0,_⟩ | ⟨g',cap',cur',hv',_,hh',_⟩
    ·rw [h0] at hj;simp [Value.ownBlock] at hj
    ·rw [hv'] at hj;simp [Value.ownBlock] at hj;subst hj;rw [hh] at hh';simp at hh'
   ·intro he;exact Zp9 h.apart hr2 hk ek j hj he.symm
theorem Zaq {base size z:Nat}{e t:TypeId}{xs:List Value}{C:Array Value}{fr:Nat × Nat}(ho:W.ownsRow base e size v n xs)(h:W.heap[z]? = some (.cells C t fr))(hne:e≠t):some z≠v.ownBlock:=by
 intro eq;rcases ho.2 with ⟨h1,_⟩ | ⟨g',cap',cur',hv',_,hh',_⟩
 ·rw [h1] at eq;simp [Value.ownBlock] at eq
 ·rw [hv'] at eq;simp [Value.ownBlock] at eq;subst eq;rw [h] at hh';simp at hh';exact hne hh'.2.1.symm
def cmpK (a b c d:Int):Int:=if a=0 then (if b=0 then (if c=0 then d else c) else b) else a
theorem Zqj (x y:RecD):decide (cmpK (cmpN x.area y.area) (cmpN x.kind y.kind) (cmpN x.owner y.owner) (cmpN x.key y.key)<0)=Zam x y:=by
 unfold cmpK Zam;by_cases h1:x.area=y.area
 ·rw [if_pos (Zbd.2 h1)];by_cases h2:x.kind=y.kind
  ·rw [if_pos (Zbd.2 h2)];by_cases h3:x.owner=y.owner
   ·rw [if_pos (Zbd.2 h3)];simp [ZdX,h1,h2,h3]
   ·rw [if_neg (fun h=>h3 (Zbd.1 h))];simp [ZdX,h1,h2,h3]
  ·rw [if_neg (fun h=>h2 (Zbd.1 h))];simp [ZdX,h1,h2]
 ·rw [if_neg (fun h=>h1 (Zbd.1 h))];simp [ZdX,h1]
theorem ZkA (p q:Nat)(a b c d a' b' c' d':Int)(w:World)(h:ZeT w p a b c d)(h':ZeT w q a' b' c' d'):
  Calls Tryz.prog 229 #[.slice (some (U p 0)) 4 4,.slice (some (U q 0)) 4 4] w fun e w'=>e=.returned (M (cmpK (cmpN a a') (cmpN b b') (cmpN c c') (cmpN d d')))/\w=w':=by
 obtain⟨⟨h0,h1,h2,h3⟩,_⟩:=h;obtain⟨⟨g0,g1,g2,g3⟩,_⟩:=h';have C0:=hide (Zbm a a');have C1:=hide (Zbm b b');have C2:=hide (Zbm c c');have C3:=hide (Zbm d d');generalize cmpN a a'=k0 at C0 |-;generalize cmpN b b'=k1 at C1 |-;generalize cmpN c c'=k2 at C2 |-;generalize cmpN d d'=k3 at C3 |-
 go_enter Tryz.func229,Tryz.ntmps229
 go_wp2;refine wp_loop_rounds 5 ?_;rw [rounds_succ]
 go_wp2_with fail
 refine (C0 _).mono ?_;rintro e w1 ⟨rfl,rfl⟩;by_cases z0:k0=0
 case neg=>
  have hd:(k0 != 0)=true:=by simpa using z0
  have E0:=hide (show cmpK k0 k1 k2 k3=k0 by unfold cmpK;rw [if_neg z0]);clear z0;go_wp2;go_ret;exact⟨Zkz E0,rfl⟩
 subst z0;go_wp2;rw [rounds_succ]
 go_wp2_with fail
 refine (C1 _).mono ?_;rintro e w1 ⟨rfl,rfl⟩;by_cases z1:k1=0
 case neg=>
  have hd:(k1 != 0)=true:=by simpa using z1
  have E0:=hide (show cmpK 0 k1 k2 k3=k1 by unfold cmpK;rw [if_pos rfl,if_neg z1]);clear z1;go_wp2;go_ret;exact⟨Zkz E0,rfl⟩
 subst z1;go_wp2;rw [rounds_succ]
 go_wp2_with fail
 refine (C2 _).mono ?_;rintro e w1 ⟨rfl,rfl⟩;by_cases z2:k2=0
 case neg=>
  have hd:(k2 != 0)=true:=by simpa using z2
  have E0:=hide (show cmpK 0 0 k2 k3=k2 by unfold cmpK;rw [if_pos rfl,if_pos rfl,if_neg z2]);clear z2;go_wp2;go_ret;exact⟨Zkz E0,rfl⟩
 subst z2;go_wp2;rw [rounds_succ]
 go_wp2_with fail
 refine (C3 _).mono ?_;rintro e w1 ⟨rfl,rfl⟩;by_cases z3:k3=0
 case neg=>
  have hd:(k3 != 0)=true:=by simpa using z3
  have E0:=hide (show cmpK 0 0 0 k3=k3 by unfold cmpK;rfl);clear z3;go_wp2;go_ret;exact⟨Zkz E0,rfl⟩
 subst z3;go_wp2;rw [rounds_succ];go_wp2;go_ret;exact⟨Zkz rfl,rfl⟩
theorem Zjo (a b c d a' b' c' d':Int)(w:World):Calls Tryz.prog 189 #[.agg #[M a,M b,M c,M d],.agg #[M a',M b',M c',M d']] w fun e w'=>e=.returned (M (cmpK (cmpN a a') (cmpN b b') (cmpN c c') (cmpN d d')))/\T_ w w':=by
 obtain⟨r,hr⟩:∃ r,r=cmpK (cmpN a a') (cmpN b b') (cmpN c c') (cmpN d d'):=⟨_,rfl⟩;obtain⟨w1,hw1⟩:∃ w1,w1=(w.alloc (.cells #[M a,M b,M c,M d] 214)).alloc (.cells #[M a',M b',M c',M d'] 214):=⟨_,rfl⟩;have B1:T_ w w1:=by rw [hw1];exact Zap _ _
 have p0:w1.heap[w.heap.size]? = some (.cells #[M a,M b,M c,M d] 214):=by rw [hw1,YAL _ _ _ (by simp),YAE]
 have q0:w1.heap[w.heap.size+1]? = some (.cells #[M a',M b',M c',M d'] 214):=by
  rw [hw1];have:=YAE (w.alloc (.cells #[M a,M b,M c,M d] 214)) (.cells #[M a',M b',M c',M d'] 214);simpa using this
 have kp:ZeT w1 w.heap.size a b c d:=⟨⟨Zaa p0 0,Zaa p0 1,Zaa p0 2,Zaa p0 3⟩,Zae p0 0,Zae p0 1,Zae p0 2,Zae p0 3⟩;have kq:ZeT w1 (w.heap.size+1) a' b' c' d':=⟨⟨Zaa q0 0,Zaa q0 1,Zaa q0 2,Zaa q0 3⟩,Zae q0 0,Zae q0 1,Zae q0 2,Zae q0 3⟩;have HC:=hide (fun W' (h:w1.heap=W'.heap)=>ZkA w.heap.size (w.heap.size+1) a b c d a' b' c' d' W' (kp.same h) (kq.same h));rw [<-hr] at HC |-;clear kp kq p0 q0 hr
 go_enter Tryz.func189,Tryz.ntmps189
 go_wp2;rw [<-hw1];clear hw1
 go_region_held3 (fun W'=>w1.heap=W'.heap) (first | rfl | assumption | go_keep) (first | (go_at_call 229;refine (HC _ ?_).mono ?_;(first | rfl | assumption);rintro e w3 ⟨rfl,rfl⟩))
 go_wp2;go_ret;exact⟨rfl,B1.drew⟩
theorem Znn (v1:Value)(x:RecD)(w:World)(hl:x.near.length<=1048576)(hv:ZaG w v1 x.near w.heap.size):
  Calls Tryz.prog 137 #[.agg (recC x v1)] w fun e w'=>e=.returned (.bool (Za2 x))/\T_ w w':=by
 obtain⟨p1,c1,rfl⟩:=hv.shape;have HK:=hide (ZqH (.slice p1 x.near.length c1) x);obtain⟨R,hR⟩:∃ R,R=Za2 x:=⟨_,rfl⟩;rw [<-hR];unfold Za2 at hR;have H1:=hide (Zba x.owner 1 6);have H2:=hide (Zba x.seq 1 100000);obtain⟨q1,hq1⟩:∃ q,q=inB x.owner 1 6:=⟨_,rfl⟩;obtain⟨q2,hq2⟩:∃ q,q=inB x.seq 1 100000:=⟨_,rfl⟩;rw [<-hq1] at H1 hR;rw [<-hq2] at H2 hR;clear hq1 hq2;have B0:T_ w (w.alloc (.cells (recC x (.slice p1 x.near.length c1)) 39)):=(YAC _ _).alloc (YA _) _;have hnew:=YAE w (.cells (recC x (.slice p1 x.near.length c1)) 39);by_cases hk1:x.kind=1
 ·rw [if_pos hk1] at hR;have hkv:ZeW x (.slice p1 x.near.length c1)=.tuple #[.iface 263 (.agg (recC x (.slice p1 x.near.length c1))),.bool true]:=by unfold ZeW;rw [if_pos hk1]
  rw [hkv] at HK;have HR:=hide hR;have HV:=hide hv;have NEW:=hide hnew;have HKEY:=hide (ZlJ (.slice p1 x.near.length c1) x);have HBODY:=hide (fun W (h:T_ w W)=>ZjX (.slice p1 x.near.length c1) x W hl (hv.then h));obtain⟨q3,hq3⟩:∃ q,q=(inB x.area 0 2&&x.key==0):=⟨_,rfl⟩;obtain⟨q4,hq4⟩:∃ q,q=(Zbs x.owner x.near&&x.cost==0 && !x.far):=⟨_,rfl⟩;rw [<-hq3] at HKEY;rw [<-hq4] at HBODY;have HR2:=hide (show R=(q1&&q2&&q3&&q4) by rw [HR.out,hq3,hq4];simp only [Bool.and_assoc]);clear hR hkv hv hnew hq3 hq4 HR hk1;unfold recC at *
  go_enter Tryz.func137,Tryz.ntmps137
  go_wp2_with fail
  refine (HK _).mono ?_;rintro e w1 ⟨rfl,b1⟩;have hx1:w1.heap[w.heap.size]? = some (.cells #[M x.area,M x.kind,M x.owner,M x.key,M x.seq,.slice p1 x.near.length c1,M x.cost,.bool x.far] 39):=by rw [b1.block _ (by simp)];exact NEW
  have f2:=Zaa hx1 2;have f4:=Zaa hx1 4;simp at f2 f4;have B1:=B0.trans (b1.mono B0.size);clear hx1 b1
  go_wp2_with fail
  refine (H1 _).mono ?_;rintro e w2 ⟨rfl,rfl⟩;cases q1
  ·go_wp2;go_ret;exact⟨Zai (by rw [HR2.out];rfl),B1⟩
  go_wp2_with fail
  refine (H2 _).mono ?_;rintro e w2 ⟨rfl,rfl⟩;cases q2
  ·go_wp2;go_ret;exact⟨Zai (by rw [HR2.out];rfl),B1⟩
  go_wp2_with fail
  refine (HKEY _).mono ?_;rintro e w2 ⟨rfl,b2⟩;have B2:=B1.trans (b2.mono B1.size);clear b2;cases q3
  ·go_wp2;go_ret;exact⟨Zai (by rw [HR2.out];rfl),B2⟩
  go_wp2_with fail
  refine (HBODY _ B2).mono ?_;rintro e w3 ⟨rfl,b3⟩;have B3:=B2.trans (b3.mono B2.size);clear b3;go_wp2;go_ret;exact⟨Zai (by rw [HR2.out];rfl),B3⟩
 rw [if_neg hk1] at hR;by_cases hk2:x.kind=2
 ·rw [if_pos hk2] at hR;have hkv:ZeW x (.slice p1 x.near.length c1)=.tuple #[.iface 264 (.agg (recC x (.slice p1 x.near.length c1))),.bool true]:=by unfold ZeW;rw [if_neg hk1,if_pos hk2]
  rw [hkv] at HK;have HR:=hide hR;have HV:=hide hv;have NEW:=hide hnew;have HKEY:=hide (ZiS (.slice p1 x.near.length c1) x);have HBODY:=hide (fun W (h:T_ w W)=>ZhU (.slice p1 x.near.length c1) x W hl (hv.then h));obtain⟨q3,hq3⟩:∃ q,q=(inB x.area 0 2&&inB x.key 1 6):=⟨_,rfl⟩;obtain⟨q4,hq4⟩:∃ q,q=(x.near.length==0&&inB x.cost 0 60000 && !x.far):=⟨_,rfl⟩;rw [<-hq3] at HKEY;rw [<-hq4] at HBODY;have HR2:=hide (show R=(q1&&q2&&q3&&q4) by rw [HR.out,hq3,hq4];simp only [Bool.and_assoc]);clear hR hkv hv hnew hq3 hq4 HR hk1 hk2;unfold recC at *
  go_enter Tryz.func137,Tryz.ntmps137
  go_wp2_with fail
  refine (HK _).mono ?_;rintro e w1 ⟨rfl,b1⟩;have hx1:w1.heap[w.heap.size]? = some (.cells #[M x.area,M x.kind,M x.owner,M x.key,M x.seq,.slice p1 x.near.length c1,M x.cost,.bool x.far] 39):=by rw [b1.block _ (by simp)];exact NEW
  have f2:=Zaa hx1 2;have f4:=Zaa hx1 4;simp at f2 f4;have B1:=B0.trans (b1.mono B0.size);clear hx1 b1
  go_wp2_with fail
  refine (H1 _).mono ?_;rintro e w2 ⟨rfl,rfl⟩;cases q1
  ·go_wp2;go_ret;exact⟨Zai (by rw [HR2.out];rfl),B1⟩
  go_wp2_with fail
  refine (H2 _).mono ?_;rintro e w2 ⟨rfl,rfl⟩;cases q2
  ·go_wp2;go_ret;exact⟨Zai (by rw [HR2.out];rfl),B1⟩
  go_wp2_with fail
  refine (HKEY _).mono ?_;rintro e w2 ⟨rfl,b2⟩;have B2:=B1.trans (b2.mono B1.size);clear b2;cases q3
  ·go_wp2;go_ret;exact⟨Zai (by rw [HR2.out];rfl),B2⟩
  go_wp2_with fail
  refine (HBODY _ B2).mono ?_;rintro e w3 ⟨rfl,b3⟩;have B3:=B2.trans (b3.mono B2.size);clear b3;go_wp2;go_ret;exact⟨Zai (by rw [HR2.out];rfl),B3⟩
 rw [if_neg hk2] at hR;by_cases hk3:x.kind=3
 ·rw [if_pos hk3] at hR;have hkv:ZeW x (.slice p1 x.near.length c1)=.tuple #[.iface 265 (.agg (recC x (.slice p1 x.near.length c1))),.bool true]:=by unfold ZeW;rw [if_neg hk1,if_neg hk2,if_pos hk3]
  rw [hkv] at HK;have HR:=hide hR;have HV:=hide hv;have NEW:=hide hnew;have HKEY:=hide (ZkK (.slice p1 x.near.length c1) x);have HBODY:=hide (fun W (h:T_ w W)=>ZiU (.slice p1 x.near.length c1) x W hl (hv.then h));obtain⟨q3,hq3⟩:∃ q,q=(x.area==9&&inB x.key 1 9):=⟨_,rfl⟩;obtain⟨q4,hq4⟩:∃ q,q=(x.near.length==0&&(inB x.cost 1 1000||x.cost==60000)):=⟨_,rfl⟩;rw [<-hq3] at HKEY;rw [<-hq4] at HBODY;have HR2:=hide (show R=(q1&&q2&&q3&&q4) by rw [HR.out,hq3,hq4];simp only [Bool.and_assoc]);clear hR hkv hv hnew hq3 hq4 HR hk1 hk2 hk3;unfold recC at *
  go_enter Tryz.func137,Tryz.ntmps137
  go_wp2_with fail
  refine (HK _).mono ?_;rintro e w1 ⟨rfl,b1⟩;have hx1:w1.heap[w.heap.size]? = some (.cells #[M x.area,M x.kind,M x.owner,M x.key,M x.seq,.slice p1 x.near.length c1,M x.cost,.bool x.far] 39):=by rw [b1.block _ (by simp)];exact NEW
  have f2:=Zaa hx1 2;have f4:=Zaa hx1 4;simp at f2 f4;have B1:=B0.trans (b1.mono B0.size);clear hx1 b1
  go_wp2_with fail
  refine (H1 _).mono ?_;rintro e w2 ⟨rfl,rfl⟩;cases q1
  ·go_wp2;go_ret;exact⟨Zai (by rw [HR2.out];rfl),B1⟩
  go_wp2_with fail
  refine (H2 _).mono ?_;rintro e w2 ⟨rfl,rfl⟩;cases q2
  ·go_wp2;go_ret;exact⟨Zai (by rw [HR2.out];rfl),B1⟩
  go_wp2_with fail
  refine (HKEY _).mono ?_;rintro e w2 ⟨rfl,b2⟩;have B2:=B1.trans (b2.mono B1.size);clear b2;cases q3
  ·go_wp2;go_ret;exact⟨Zai (by rw [HR2.out];rfl),B2⟩
  go_wp2_with fail
  refine (HBODY _ B2).mono ?_;rintro e w3 ⟨rfl,b3⟩;have B3:=B2.trans (b3.mono B2.size);clear b3;go_wp2;go_ret;exact⟨Zai (by rw [HR2.out];rfl),B3⟩
 rw [if_neg hk3] at hR;have hkv:ZeW x (.slice p1 x.near.length c1)=.tuple #[.nilIface,.bool false]:=by unfold ZeW;rw [if_neg hk1,if_neg hk2,if_neg hk3]
 rw [hkv] at HK;have hR2:R=false:=by rw [hR];simp
 have HR2:=hide hR2;clear hR hkv hv hnew hR2 H1 H2 hk1 hk2 hk3;unfold recC at *
 go_enter Tryz.func137,Tryz.ntmps137
 go_wp2_with fail
 refine (HK _).mono ?_;rintro e w1 ⟨rfl,b1⟩;have B1:=B0.trans (b1.mono B0.size);clear b1;go_wp2;go_ret;exact⟨Zai HR2,B1⟩
theorem Tryz.infoWay :(Tryz.prog.info? 193).map (fun i=>(i.zero,i.size,i.bytes))=some (some (.agg (wayC Zbo (.slice none 0 0))),3,40):=by kernel_rfl
def Zag (ps:List WP):List WayD:=ps.map (·.1)
theorem Zc2 {ps:List WP}{p:WP}(h:ps[i]? = some p):(Zag ps)[i]? = some p.1:=by simp [Zag,h]
def Za0 (n:Int)(l:Lk):Bool:=inB n 1 6&&inB l.a 1 n&&inB l.b 1 n&&decide (l.a<l.b)&&inB l.c 1 1000&&inB l.r 0 2
def ZjO (a b:Lk):Bool:=decide (a.a<b.a)||(a.a==b.a&&(decide (a.b<b.b)||(a.b==b.b&&decide (a.r<b.r))))
def ZkJ (a b:Th):Bool:=decide (a.k<b.k)||(a.k==b.k&&decide (a.o<b.o))
theorem ZlU (n:Int)(l:Lk)(w:World):Calls Tryz.prog 159 #[M n,lkV l] w fun e w'=>e=.returned (.bool (Za0 n l))/\T_ w w':=by
 obtain⟨a,b,c,r⟩:=l;unfold lkV Za0;simp only [];generalize hq1:inB n 1 6=q1;generalize hq2:inB a 1 n=q2;generalize hq3:inB b 1 n=q3;generalize hq4:inB c 1 1000=q4;generalize hq5:inB r 0 2=q5;have h1:=ZbS n 1 6;have h2:=ZbS a 1 n;have h3:=ZbS b 1 n;have h4:=ZbS c 1 1000;have h5:=ZbS r 0 2;rw [hq1] at h1;rw [hq2] at h2;rw [hq3] at h3;rw [hq4] at h4;rw [hq5] at h5;have H1:=hide h1;have H2:=hide h2;have H3:=hide h3;have H4:=hide h4;have H5:=hide h5;clear h1 h2 h3 h4 h5 hq1 hq2 hq3 hq4 hq5;cases q1
 ·go_enter Tryz.func159,Tryz.ntmps159
  go_wp2_with fail
  refine (H1 _).mono ?_;rintro e w1 ⟨rfl,rfl⟩;go_wp2;go_ret;exact⟨by simp,(YAC _ _).alloc (YA _) _⟩
 cases q2
 ·go_enter Tryz.func159,Tryz.ntmps159
  go_wp2_with fail
  refine (H1 _).mono ?_;rintro e w1 ⟨rfl,rfl⟩
  go_wp2_with fail
  refine (H2 _).mono ?_;rintro e w1 ⟨rfl,rfl⟩;go_wp2;go_ret;exact⟨by simp,(YAC _ _).alloc (YA _) _⟩
 cases q3
 ·go_enter Tryz.func159,Tryz.ntmps159
  go_wp2_with fail
  refine (H1 _).mono ?_;rintro e w1 ⟨rfl,rfl⟩
  go_wp2_with fail
  refine (H2 _).mono ?_;rintro e w1 ⟨rfl,rfl⟩
  go_wp2_with fail
  refine (H3 _).mono ?_;rintro e w1 ⟨rfl,rfl⟩;go_wp2;go_ret;exact⟨by simp,(YAC _ _).alloc (YA _) _⟩
 by_cases hab:a<b
 ·cases q4
  ·go_enter Tryz.func159,Tryz.ntmps159
   go_wp2_with fail
   refine (H1 _).mono ?_;rintro e w1 ⟨rfl,rfl⟩
   go_wp2_with fail
   refine (H2 _).mono ?_;rintro e w1 ⟨rfl,rfl⟩
   go_wp2_with fail
   refine (H3 _).mono ?_;rintro e w1 ⟨rfl,rfl⟩
   go_wp2_with fail
   refine (H4 _).mono ?_;rintro e w1 ⟨rfl,rfl⟩;go_wp2;go_ret;exact⟨by simp,(YAC _ _).alloc (YA _) _⟩
  ·go_enter Tryz.func159,Tryz.ntmps159
   go_wp2_with fail
   refine (H1 _).mono ?_;rintro e w1 ⟨rfl,rfl⟩
   go_wp2_with fail
   refine (H2 _).mono ?_;rintro e w1 ⟨rfl,rfl⟩
   go_wp2_with fail
   refine (H3 _).mono ?_;rintro e w1 ⟨rfl,rfl⟩
   go_wp2_with fail
   refine (H4 _).mono ?_;rintro e w1 ⟨rfl,rfl⟩
   go_wp2_with fail
   refine (H5 _).mono ?_;rintro e w1 ⟨rfl,rfl⟩;go_wp2;go_ret;exact⟨Zai (by rw [YAc hab];simp),(YAC _ _).alloc (YA _) _⟩
 ·go_enter Tryz.func159,Tryz.ntmps159
  go_wp2_with fail
  refine (H1 _).mono ?_;rintro e w1 ⟨rfl,rfl⟩
  go_wp2_with fail
  refine (H2 _).mono ?_;rintro e w1 ⟨rfl,rfl⟩
  go_wp2_with fail
  refine (H3 _).mono ?_;rintro e w1 ⟨rfl,rfl⟩;go_wp2;go_ret;exact⟨Zai (by rw [YAZ (show ¬a<b by omega)];simp),(YAC _ _).alloc (YA _) _⟩
theorem ZnS (l m:Lk)(w:World):Calls Tryz.prog 160 #[lkV l,lkV m] w fun e w'=>e=.returned (.bool (ZjO l m))/\T_ w w':=by
 obtain⟨a,b,c,r⟩:=l;obtain⟨a',b',c',r'⟩:=m;unfold lkV
 go_enter Tryz.func160,Tryz.ntmps160
 go_wp2
 all_goals go_ret
 all_goals refine ⟨Zai ?_,Zap _ _⟩
 all_goals (simp only [ZjO];grind)
theorem Zn0 (l m:Th)(w:World):Calls Tryz.prog 161 #[thV l,thV m] w fun e w'=>e=.returned (.bool (ZkJ l m))/\T_ w w':=by
 obtain⟨a,b,c,r⟩:=l;obtain⟨a',b',c',r'⟩:=m;unfold thV
 go_enter Tryz.func161,Tryz.ntmps161
 go_wp2
 all_goals go_ret
 all_goals refine ⟨Zai ?_,Zap _ _⟩
 all_goals (simp only [ZkJ];grind)
theorem Zgk {bytes:Nat}(hbb:bytes<=100){P:Program}(w:World){ops:Array Oper}{rest:List Oper}{o:Oper}{a:Act}{Q:Exit->Act->World->Prop}(hgd:o.guard=none)(s x:Operand)(t:TypeId)
  (ho:o.op=.call { callee:=.builtin .append,args:=#[s,x],argTypes:=#[t,t] }) (base:Nat) (e:TypeId) (ht:P.underlying t=some (.slice e))
  (hinfo:(P.info? e).map (fun i=>(i.zero,i.size,i.bytes))=some (some (M 0),1,bytes))
  (v:Value) (l:List Int) (y1 y2:Int) (hs:a.eval s=v) (hown:w.ownsRow base e 1 v l.length (flat intE l))
  (ad:Addr) (c:Nat) (hx:a.eval x=.slice (some ad) 2 c) (hnews:∀ j u,([M y1,M y2]:List Value)[j]? = some u->w.cell? (ad.add j)=some u)
  (hl:l.length+2<=1000000000) (hbase:base<=w.heap.size)
  (h:∀ v' w' l',Hid (l'=l++[y1,y2])->w'.ownsRow base e 1 v' l'.length (flat intE l')->w.grownBy w' v.ownBlock->wpList P ops Q rest (a.put o.dst v') w'):wpList P ops Q (o::rest) a w:=by
 obtain⟨i0,hi,hz0,hz1,hz2⟩:=info_parts hinfo;refine wpList_append_own_at w hgd s x t ho base e i0 (M 0) 1 bytes ht hi hz0 hz1 hz2 rfl (by decide) v l.length (flat intE l) hs hown ad 2 c [M y1,M y2] hx rfl hnews (by simp [Value.oneCell']) (by unfold maxLen;omega) ?_ hbase ?_
 ·have:(l.length+2)*bytes<=1000000000*100:=Nat.mul_le_mul hl hbb;omega
 ·intro v' w' h1 h2 _ _;have e1:flat intE l++[M y1,M y2]=flat intE (l++[y1,y2]):=by rw [ZaF];simp [flat,intE]
  rw [e1] at h1;exact h v' w' (l++[y1,y2]) rfl (by simpa using h1) h2
def Znz (q:Int)(i:Nat):Lk:=⟨q+4*(i:Int),q+4*(i:Int)+1,q+4*(i:Int)+1+1,q+4*(i:Int)+1+1+1⟩
def Zhg (q:Int)(n:Nat):List Lk:=(List.range n).map (Znz q)
theorem Znw (q:Int)(n:Nat):(Zhg q n).length=n:=by simp [Zhg]
theorem Znv {q:Int}{ys:List Lk}(hl:ys.length=n)(h:∀ j,j<n->ys[j]? = some (Znz q j)):ys=Zhg q n:=by
 apply List.ext_getElem?;intro i;by_cases hi:i<n
 ·rw [h i hi];simp [Zhg,hi]
 ·rw [List.getElem?_eq_none (by omega),List.getElem?_eq_none (by rw [Znw];omega)]
theorem Zjg (v:Value)(base n:Nat)(ns:List Lk)(q:Int)(w:World)(hn0:ns.length=n)(h1:w.ownsRow base 173 4 v n (flat lkE ns))(hn:n<=1048576)(hq:0<=q)(hq2:q<=1000000000):
  Calls Tryz.prog 115 #[v,M q] w fun e w'=>e=.returned (M (q+4*(n:Int)))/\w'.ownsRow base 173 4 v n (flat lkE (Zhg q n))/\w.grownBy w' v.ownBlock:=by
 by_cases h0:n=0
 ·subst h0;obtain⟨a1,c1,rfl⟩:=Zac h1;have hnn:ns=[]:=List.length_eq_zero_iff.1 hn0;have H1:=hide h1;rw [hnn] at H1;clear h1 hn0 hnn
  go_enter Tryz.func115,Tryz.ntmps115
  go_wp2;refine wp_loop_rounds 1 ?_;rw [rounds_succ];go_wp2;go_ret;exact⟨by simp,H1,Zbz _ _⟩
 ·obtain ⟨g1,c1,rfl,hg1,hl1⟩:=Zce h1 (by omega);have H1:=hide h1;have HN0:=hide hn0;clear h1 h0 hn0
  go_enter Tryz.func115,Tryz.ntmps115
  go_wp2
  go_loopw [5,1] (fun i r wr=>∃ (k:Nat) (ys:List Lk),k<=n/\i=M k/\r=M (q+4*(k:Int))/\ys.length=n/\(∀ j,j<k->ys[j]? = some (Znz q j))/\wr.ownsRow base 173 4 (.slice (some (U g1 0)) n c1) n (flat lkE ys)/\w.grownBy wr (some g1)) (fun i _ _=>n-(intOf i).toNat)
  case atStart=>exact ⟨0,ns,by omega,rfl,by simp,HN0,by omega,H1,Zbz _ _⟩
  case round=>
   clear H1;obtain⟨k,ys,hk,rfl,rfl,hyl,hys,hown,hnx⟩:=hrel;by_cases hlt:k<n
   ·have hki:(0:Int)<=(k:Int):=by omega
    have hkj:(k:Int)<(n:Int):=by omega
    obtain⟨u0,d0⟩:=ZaM hown (k*4) (by omega);obtain⟨u1,d1⟩:=ZaM hown (k*4+1) (by omega);obtain⟨u2,d2⟩:=ZaM hown (k*4+2) (by omega);obtain⟨u3,d3⟩:=ZaM hown (k*4+3) (by omega);have f0:=hown.frozenAt (k*4);have f1:=hown.frozenAt (k*4+1);have f2:=hown.frozenAt (k*4+2);have f3:=hown.frozenAt (k*4+3);have st:=((((hown.stored (k*4) (M (q+4*(k:Int)))).1.stored (k*4+1) (M (q+4*(k:Int)+1))).1.stored (k*4+2) (M (q+4*(k:Int)+1+1))).1.stored (k*4+3) (M (q+4*(k:Int)+1+1+1))).1;have e1:(((((flat lkE ys).set (k*4) (M (q+4*(k:Int)))).set (k*4+1) (M (q+4*(k:Int)+1))).set (k*4+2) (M (q+4*(k:Int)+1+1))).set (k*4+3) (M (q+4*(k:Int)+1+1+1)))=flat lkE (ys.set k (Znz q k)):=Zc1 Zhf ys k (Znz q k) (by omega);rw [e1] at st;have ST:=hide st;have HYL:=hide hyl;have HYS:=hide hys;clear hown st e1 hyl hys;go_wp2;refine⟨⟨k+1,ys.set k (Znz q k),by omega,by go_num,by go_num,by simp [HYL.out],?_,ST,Zaj (Zaj (Zaj (Zaj hnx (Zak _ _ _ _)) (Zak _ _ _ _)) (Zak _ _ _ _)) (Zak _ _ _ _)⟩,by simp [intOf];omega⟩;intro j hj;by_cases e:j=k
    ·subst e;rw [List.getElem?_set_self (by rw [HYL.out];exact hlt)]
    ·rw [List.getElem?_set_ne (by omega)];exact HYS j (by omega)
   ·have hkn:k=n:=by omega
    have hm:ys=Zhg q n:=Znv hyl (by rw [<-hkn];exact hys);have OW:=hide hown;have HM:=hide hm;have KN:=hide hkn;clear hkn hown hm hyl hys;go_wp2;go_ret;exact⟨Zc4 (by rw [KN.out]),by rw [<-HM.out];exact OW,hnx⟩
def ZnA (q:Int)(i:Nat):Th:=⟨q+4*(i:Int),q+4*(i:Int)+1,q+4*(i:Int)+1+1,(q+4*(i:Int)+1+1+1)%3==0⟩
def Zhh (q:Int)(n:Nat):List Th:=(List.range n).map (ZnA q)
theorem Zny (q:Int)(n:Nat):(Zhh q n).length=n:=by simp [Zhh]
theorem Znx {q:Int}{ys:List Th}(hl:ys.length=n)(h:∀ j,j<n->ys[j]? = some (ZnA q j)):ys=Zhh q n:=by
 apply List.ext_getElem?;intro i;by_cases hi:i<n
 ·rw [h i hi];simp [Zhh,hi]
 ·rw [List.getElem?_eq_none (by omega),List.getElem?_eq_none (by rw [Zny];omega)]
theorem ZhY (v:Value)(base n:Nat)(ns:List Th)(q:Int)(w:World)(hn0:ns.length=n)(h1:w.ownsRow base 119 4 v n (flat thE ns))(hn:n<=1048576)(hq:0<=q)(hq2:q<=1000000000):
  Calls Tryz.prog 116 #[v,M q] w fun e w'=>e=.returned (M (q+4*(n:Int)))/\w'.ownsRow base 119 4 v n (flat thE (Zhh q n))/\w.grownBy w' v.ownBlock:=by
 by_cases h0:n=0
 ·subst h0;obtain⟨a1,c1,rfl⟩:=Zac h1;have hnn:ns=[]:=List.length_eq_zero_iff.1 hn0;have H1:=hide h1;rw [hnn] at H1;clear h1 hn0 hnn
  go_enter Tryz.func116,Tryz.ntmps116
  go_wp2;refine wp_loop_rounds 1 ?_;rw [rounds_succ];go_wp2;go_ret;exact⟨by simp,H1,Zbz _ _⟩
 ·obtain ⟨g1,c1,rfl,hg1,hl1⟩:=Zce h1 (by omega);have H1:=hide h1;have HN0:=hide hn0;clear h1 h0 hn0
  go_enter Tryz.func116,Tryz.ntmps116
  go_wp2
  go_loopw [5,1] (fun i r wr=>∃ (k:Nat) (ys:List Th),k<=n/\i=M k/\r=M (q+4*(k:Int))/\ys.length=n/\(∀ j,j<k->ys[j]? = some (ZnA q j))/\wr.ownsRow base 119 4 (.slice (some (U g1 0)) n c1) n (flat thE ys)/\w.grownBy wr (some g1)) (fun i _ _=>n-(intOf i).toNat)
  case atStart=>exact ⟨0,ns,by omega,rfl,by simp,HN0,by omega,H1,Zbz _ _⟩
  case round=>
   clear H1;obtain⟨k,ys,hk,rfl,rfl,hyl,hys,hown,hnx⟩:=hrel;by_cases hlt:k<n
   ·have hki:(0:Int)<=(k:Int):=by omega
    have hkj:(k:Int)<(n:Int):=by omega
    obtain⟨u0,d0⟩:=ZaM hown (k*4) (by omega);obtain⟨u1,d1⟩:=ZaM hown (k*4+1) (by omega);obtain⟨u2,d2⟩:=ZaM hown (k*4+2) (by omega);obtain⟨u3,d3⟩:=ZaM hown (k*4+3) (by omega);have f0:=hown.frozenAt (k*4);have f1:=hown.frozenAt (k*4+1);have f2:=hown.frozenAt (k*4+2);have f3:=hown.frozenAt (k*4+3);have st:=((((hown.stored (k*4) (M (q+4*(k:Int)))).1.stored (k*4+1) (M (q+4*(k:Int)+1))).1.stored (k*4+2) (M (q+4*(k:Int)+1+1))).1.stored (k*4+3) (.bool ((q+4*(k:Int)+1+1+1)%3==0))).1;have e1:(((((flat thE ys).set (k*4) (M (q+4*(k:Int)))).set (k*4+1) (M (q+4*(k:Int)+1))).set (k*4+2) (M (q+4*(k:Int)+1+1))).set (k*4+3) (.bool ((q+4*(k:Int)+1+1+1)%3==0)))=flat thE (ys.set k (ZnA q k)):=Zc1 ZhL ys k (ZnA q k) (by omega);rw [e1] at st;have ST:=hide st;have HYL:=hide hyl;have HYS:=hide hys;clear hown st e1 hyl hys;go_wp2;refine⟨⟨k+1,ys.set k (ZnA q k),by omega,by go_num,by go_num,by simp [HYL.out],?_,ST,Zaj (Zaj (Zaj (Zaj hnx (Zak _ _ _ _)) (Zak _ _ _ _)) (Zak _ _ _ _)) (Zak _ _ _ _)⟩,by simp [intOf];omega⟩;intro j hj;by_cases e:j=k
    ·subst e;rw [List.getElem?_set_self (by rw [HYL.out];exact hlt)]
    ·rw [List.getElem?_set_ne (by omega)];exact HYS j (by omega)
   ·have hkn:k=n:=by omega
    have hm:ys=Zhh q n:=Znx hyl (by rw [<-hkn];exact hys);have OW:=hide hown;have HM:=hide hm;have KN:=hide hkn;clear hkn hown hm hyl hys;go_wp2;go_ret;exact⟨Zc4 (by rw [KN.out]),by rw [<-HM.out];exact OW,hnx⟩
end Go.Proofs.YtcnjnibnecpddaaGreat
namespace Go.Proofs.YtcnjnibnecpddaaGreat
open Go.RowKit Go.ChangeShapes Go.WideShapes

section
variable {H:Type} {enc:TypeId × Value->H} {w:World} {base:Nat} {spare:Nat->Bool} {held:Bool}

instance:Inhabited Lk:=⟨⟨0,0,0,0⟩⟩
instance:Inhabited Th:=⟨⟨0,0,0,false⟩⟩

theorem Zpj {fuel:Nat}{cs:List Value}{x:DataW H × List MemPlace}(h:DataW.trod enc Tryz.prog w base spare held fuel 204 cs=some x):∃ l:Lk,cs=lkE l:=by
 obtain⟨v0,v1,v2,v3,n,y0,y1,y2,y3,rfl,h0,h1,h2,h3⟩:=Zkt Tryz.underlying204 (by kernel_rfl) rfl rfl rfl rfl (by kernel_rfl) (by kernel_rfl) (by kernel_rfl) (by kernel_rfl) h;obtain⟨a,ha,_⟩:=DataW.trod_int Tryz.underlying3 h0;obtain⟨b,hb,_⟩:=DataW.trod_int Tryz.underlying3 h1;obtain⟨c,hc,_⟩:=DataW.trod_int Tryz.underlying3 h2;obtain⟨r,hr,_⟩:=DataW.trod_int Tryz.underlying3 h3;exact⟨⟨a,b,c,r⟩,by cases ha;cases hb;cases hc;cases hr;rfl⟩

theorem ZnE {fuel:Nat}{cs:List Value}{x:DataW H × List MemPlace}(h:DataW.trod enc Tryz.prog w base spare held fuel 206 cs=some x):∃ l:Th,cs=thE l:=by
 obtain⟨v0,v1,v2,v3,n,y0,y1,y2,y3,rfl,h0,h1,h2,h3⟩:=Zkt Tryz.underlying206 (by kernel_rfl) rfl rfl rfl rfl (by kernel_rfl) (by kernel_rfl) (by kernel_rfl) (by kernel_rfl) h;obtain⟨a,ha,_⟩:=DataW.trod_int Tryz.underlying3 h0;obtain⟨b,hb,_⟩:=DataW.trod_int Tryz.underlying3 h1;obtain⟨c,hc,_⟩:=DataW.trod_int Tryz.underlying3 h2;obtain⟨r,hr,_⟩:=DataW.trod_bool Tryz.underlying4 h3;exact⟨⟨a,b,c,r⟩,by cases ha;cases hb;cases hc;cases hr;rfl⟩

set_option maxRecDepth 100000 in
theorem ZqW {r:Reach}{b0:Nat}{v:Value}{d:DataW H}{ps:List MemPlace}(hval:Value.okWide Tryz.prog w r b0 59 v)(hd:DataW.Trod enc Tryz.prog w base spare held 59 v d ps):
  ∃ x:NetD,Zgz w v x w.heap.size/\(Lit.int .i64 x.n).wf=true/\x.ls.length<=maxLen/\x.ts.length<=maxLen:=by
 obtain⟨cs,rfl,hcs⟩:=okWide_struct Tryz.underlying59 hval;obtain⟨fuel,hf⟩:=hd;obtain⟨xs,k,hk,hxy,hcl,hxl,hfl⟩:=DataW.trod_struct Tryz.underlying59 hf;have hc3:Tryz.prog.cellsOf 59=3:=by kernel_rfl
 rw [hc3] at hcs hcl;obtain⟨v0,v1,v2,rfl⟩:∃ v0 v1 v2,cs=#[v0,v1,v2]:=by
  obtain⟨l⟩:=cs
  match l,hcs with
  | [v0,v1,v2],_=>exact ⟨v0,v1,v2,rfl⟩
 have g0:=hfl 0 _ rfl;have g1:=hfl 1 _ rfl;have g2:=hfl 2 _ rfl;have k0:Tryz.prog.cellsOf 3=1:=by kernel_rfl
 have k1:Tryz.prog.cellsOf 56=1:=by kernel_rfl
 have k2:Tryz.prog.cellsOf 57=1:=by kernel_rfl
 match xs,hxl with
 | [y0,y1,y2],_=>
  simp [Value.cells,k0,k1,k2] at g0 g1 g2;obtain⟨n,hn,_,wn⟩:=DataW.trod_int Tryz.underlying3 g0;obtain⟨u1,ls,e1,hl,hll⟩:=Zgt (encE:=lkE) Zhf Tryz.underlying56 (by kernel_rfl) (fun _ _ _ h=>Zpj h) g1;obtain⟨u2,ts,e2,ht,htl⟩:=Zgt (encE:=thE) ZhL Tryz.underlying57 (by kernel_rfl) (fun _ _ _ h=>ZnE h) g2;cases hn;cases e1;cases e2;exact⟨⟨n,ls,ts⟩,⟨v1,v2,rfl,hl,ht⟩,wn,hll,htl⟩
end
end Go.Proofs.YtcnjnibnecpddaaGreat
namespace Go.Proofs.YtcnjnibnecpddaaGreat
open Go.RowKit
set_option linter.unusedSimpArgs false
set_option linter.unusedVariables false
set_option maxRecDepth 100000
set_option maxHeartbeats 8000000
variable {hi k lo:Nat}{S:Nat->Prop}{v:Value}{p q:WP}{W a b:World}
theorem ZaQ {α:Type}{enc:α->List Value}{sz bytes:Nat}(hlen:∀ a,(enc a).length=sz)(hpos:0<sz)(hbb:bytes<=100){P:Program}(w:World){ops:Array Oper}{rest:List Oper}{o:Oper}{a:Act}{Q:Exit->Act->World->Prop}(hgd:o.guard=none)(s x:Operand)(t:TypeId)
  (ho:o.op=.call { callee:=.builtin .append,args:=#[s,x],argTypes:=#[t,t] }) (base:Nat) (e:TypeId) (ht:P.underlying t=some (.slice e)) (zv:Value) (hzv:zv.cells.size=sz)
  (hinfo:(P.info? e).map (fun i=>(i.zero,i.size,i.bytes))=some (some zv,sz,bytes))
  (v:Value) (l:List α) (y:α) (hone:∀ u∈enc y,u.oneCell'=true) (hs:a.eval s=v) (hown:w.ownsRow base e sz v l.length (flat enc l))
  (ad:Addr) (c:Nat) (hx:a.eval x=.slice (some ad) 1 c) (hnews:∀ j u,(enc y)[j]? = some u->w.cell? (ad.add j)=some u)
  (hl:l.length+1<=1000000000) (hbase:base<=w.heap.size)
  (h:∀ v' w',w'.ownsRow base e sz v' (l++[y]).length (flat enc (l++[y]))->w.grownBy w' v.ownBlock->wpList P ops Q rest (a.put o.dst v') w'):wpList P ops Q (o::rest) a w:=by
 obtain⟨i0,hi,hz0,hz1,hz2⟩:=info_parts hinfo;refine wpList_append_own w hgd s x t ho base e i0 zv sz bytes ht hi hz0 hz1 hz2 hzv hpos v l.length (flat enc l) hs hown ad 1 c (enc y) hx (by rw [hlen];omega) hnews hone (by unfold maxLen;omega) ?_ hbase ?_
 ·have:(l.length+1)*bytes<=1000000000*100:=Nat.mul_le_mul hl hbb;omega
 ·intro v' w' h1 h2 _;have e1:flat enc l++enc y=flat enc (l++[y]):=by rw [ZaF];simp [flat]
  rw [e1] at h1;exact h v' w' (by simpa using h1) h2
theorem Zb2 (x:RecD)(a:Option Addr)(n c:Nat):∀ u∈encP (x,.slice a n c),u.oneCell'=true:=by
 intro u hu;simp only [encP,YAg,List.not_mem_nil,or_false] at hu;rcases hu with rfl | rfl | rfl | rfl | rfl | rfl | rfl | rfl <;> rfl
theorem Zdf {lo2 n size2:Nat}{xs:List Value}{q:RP}(hq:ZaH W lo hi q)(hr:W.ownsRow lo2 39 size2 v n xs)(j:Nat)(hj:q.2.ownBlock=some j):some j≠v.ownBlock:=by
 intro e;rcases hr.2 with ⟨h0,_⟩ | ⟨g,cap,cur,hv,_,hh,_⟩
 ·rw [h0] at e;simp [Value.ownBlock] at e
 ·rw [hv] at e;simp [Value.ownBlock] at e;subst e;exact Zaq hq.1 hh (by decide) hj.symm
theorem RecsOwn.push {Wa W2:World}{v':Value}{qs:List RP}{p:RP}(h:RecsOwn W lo W.heap.size v qs)(hb:T_ W Wa)(hlo:lo<=W.heap.size)(hp:ZaH Wa W.heap.size Wa.heap.size p)
  (row:W2.ownsRow lo 39 8 v' (qs.length+1) (flat encP (qs++[p]))) (hg:Wa.grownBy W2 v.ownBlock):RecsOwn W2 lo W2.heap.size v' (qs++[p]) where
 row:=by simpa using row
 top:=fun k hk=>(row.lt k hk).2
 apart:=Zog h.apart h.nears (fun k hk=>(hp.1.lt k hk).1)
 nears:=by
  have rowa:=Zad h.row hb (YA _);have key:∀ q,ZaH Wa lo Wa.heap.size q->ZaH W2 lo W2.heap.size q:=fun q hq=>
   ⟨Zal hq.1 (fun j hj=>hg.block j (hq.2 j hj) (Zdf hq rowa j hj)),fun k hk=>YAB (hq.2 k hk) hg.size⟩
  intro q hq;rcases YAF.1 hq with h1 | h1
  ·exact key q (((h.nears q h1).keep (W':=Wa) (fun j _ h2 _=>hb.block j h2)).wide (YA _) hb.size)
  ·have:q=p:=by simpa using h1
   subst this;exact key q (hp.wide hlo (YA _))
theorem ZcN (W:World)(lo:Nat)(hb:lo<=W.heap.size):RecsOwn (W.alloc (.cells #[] 39)) lo (W.alloc (.cells #[] 39)).heap.size (.slice (some (U W.heap.size 0)) 0 0) [] where
 row:=YAe W #[] 0 hb (by unfold maxLen;omega) (by simp)
 top:=by intro k hk;simp [Value.ownBlock] at hk;subst hk;simp
 nears:=by simp
 apart:=by simp
theorem ZcM (z:Int):∀ u∈intE z,u.oneCell'=true:=by
 intro u hu;simp [intE] at hu;subst hu;rfl
abbrev Zbb (W:World) (g:Nat) (x:WayD) (v:Value):World:=((W.setCell (U g 0) (M x.to)).setCell (U g 1) (M x.cost)).setCell (U g 2) v
theorem ZdA {B0:Nat}{c0 c1 c2:Value}(x:WayD)(v:Value)(hr:W.heap[B0]? = some (.cells #[c0,c1,c2] 193)):
  (Zbb W B0 x v).heap[B0]? = some (.cells (wayC x v) 193):=by
 have k1:=YAd _ _ 0 _ _ (M x.to) hr;have k2:=YAd _ _ 1 _ _ (M x.cost) k1;have k3:=YAd _ _ 2 _ _ v k2;simp only [YAq,YAp,YAu] at k3;unfold Zbb wayC;exact k3
theorem Za7 (W:World)(g:Nat)(x:WayD)(v:Value):W.grownBy (Zbb W g x v) (some g):=
 Zaj (Zaj (Zak W g _ _) (Zak _ g _ _)) (Zak _ g _ _)
theorem ZdI (l:List Int):(flat intE l).length=l.length*1:=ZaD ZeE l
theorem Zdw (W:World)(g base:Nat)(hg:g=W.heap.size)(hb:base<=W.heap.size):(W.alloc (.cells #[] 3)).ownsRow base 3 1 (.slice (some (U g 0)) 0 0) 0 (flat intE []):=by
 subst hg;exact YAe W #[] 0 hb (by unfold maxLen;omega) (by simp)
theorem ZgX (x:WayD)(v:Value)(base:Nat)(w:World)(ho:w.ownsRow base 3 1 v x.hops.length (flat intE x.hops))(hn:x.hops.length<=1048576):
  Calls Tryz.prog 235 #[.agg (wayC x v)] w fun e w'=>∃ v',e=.returned (.agg (wayC x v'))/\w'.ownsRow w.heap.size 3 1 v' x.hops.length (flat intE x.hops)/\T_ w w':=by
 obtain⟨va,vc,rfl⟩:=Zac ho;have OW:=hide ho;clear ho
 go_enter Tryz.func235,Tryz.ntmps235
 unfold wayC
 go_wp2_with (first
  | (at_builtin;refine Zcv ZdI (by omega) ZcM (by omega) _ rfl _ _ 28 rfl (w.heap.size+2) 3 Tryz.underlying28 (M 0) rfl Tryz.info3 _ [] rfl ?own0 base _ x.hops rfl (((OW.out.alloc _).alloc _).alloc _) (by simp;omega) (by simp) ?_))
 case own0=>
  exact Zdw _ _ _ (by simp) (by simp)
 intro v' w4 hown' hgrow;obtain⟨na,nc,rfl⟩:=Zac hown';simp only [Value.ownBlock] at hgrow;have hb4:T_ w w4:=((((YAC w.heap.size w).alloc (by simp) _).alloc (by simp) _).alloc (by simp;omega) _).grown hgrow (by simp;omega) (fun k hk=>by simp at hk;omega);have q0:w4.heap[w.heap.size]? = some (.cells #[M x.to,M x.cost,.slice va x.hops.length vc] 193):=by
  rw [hgrow.block w.heap.size (by simp;omega) (by simp;omega),YAL _ _ _ (by simp;omega),YAL _ _ _ (by simp),YAE]
 have q1:w4.heap[w.heap.size+1]? = some (.cells #[M 0,M 0,.slice none 0 0] 193):=by
  rw [hgrow.block (w.heap.size+1) (by simp) (by simp),YAL _ _ _ (by simp)];have e:=YAE (w.alloc (.cells #[M x.to,M x.cost,.slice va x.hops.length vc] 193)) (.cells #[M 0,M 0,.slice none 0 0] 193);rw [show (w.alloc (.cells #[M x.to,M x.cost,.slice va x.hops.length vc] 193)).heap.size=w.heap.size+1 by simp] at e;exact e
 have r2:=Zaa q0 2;have f0:=Zae q0;simp at r2;have q2:=YAd w4 w.heap.size 2 _ _ (.slice na x.hops.length nc) q0;simp only [YAq,YAp,YAu] at q2;have q3:(w4.setCell (U w.heap.size 2) (.slice na x.hops.length nc)).heap[w.heap.size+1]? = some (.cells #[M 0,M 0,.slice none 0 0] 193):=by
  rw [YAU w4 (U w.heap.size 2) _ _ (by show w.heap.size+1≠w.heap.size;omega)];exact q1
 have y0:=Zaa q2 0;have y1:=Zaa q2 1;have y2:=Zaa q2 2;simp at y0 y1 y2;have u0:=Zaa q3 0;have u1:=Zaa q3 1;have u2:=Zaa q3 2;simp at u0 u1 u2;have fu:=Zae q3;have F:=ZdA x (.slice na x.hops.length nc) q3;have hown2:=Zbk (j:=2) (u:=.slice na x.hops.length nc) hown' (show w.heap.size<w.heap.size+2 by omega);have G8:=Za7 (w4.setCell (U w.heap.size 2) (.slice na x.hops.length nc)) (w.heap.size+1) x (.slice na x.hops.length nc);have hown3:=Zaf (b0:=w.heap.size) (hown2.kept G8 (by
  cases hv:(Value.slice na x.hops.length nc).ownBlock with
  | none=>exact .inl rfl
  | some g=>exact .inr (fun e=>by have:=(hown2.lt g hv).1;simp at e;omega))) (by omega)
 have hb5:T_ w (Zbb (w4.setCell (U w.heap.size 2) (.slice na x.hops.length nc)) (w.heap.size+1) x (.slice na x.hops.length nc)):=(hb4.setCell (p:=(U w.heap.size 2)) (YA _) _).grown G8 (by have:=Zab q3;omega) (fun k hk=>by simp at hk;omega);have FF:=hide F;have H3:=hide hown3;have H5:=hide hb5;clear F hown3 hb5 hown2 G8 hb4 hown' hgrow q0 q1 q2 q3 OW
 go_wp2_with fail
 (try simp only [Exit.inBlock,Exit.then])
 refine bodyPost_ret (results_cell_row rfl _ _ (w.heap.size+1) 193 (wayC _ _) (0,0) _ rfl FF Tryz.underlying193 rfl (by kernel_rfl)) rfl ?_;exact⟨_,rfl,H3,H5⟩
theorem Zia (ps:List WP):ps.Pairwise ZcX↔(ps.map (·.2)).Pairwise (fun a b:Value=>∀ k,a.ownBlock=some k->b.ownBlock≠some k):=by
 rw [YAn];exact Iff.rfl
theorem Zof {ps:List WP}(h:ps.Pairwise ZcX){i:Nat}(hi:ps[i]? = some p)(hk:ps[k]? = some q)(hne:i≠k):ZcX p q:=by
 obtain⟨h1,e1⟩:=YAD.1 hi;obtain⟨h2,e2⟩:=YAD.1 hk;rw [YAb] at h;rcases Nat.lt_or_ge i k with hl | hl
 ·have:=h i k h1 h2 hl;rw [e1,e2] at this;exact this
 ·have:=h k i h2 h1 (by omega);rw [e1,e2] at this;exact fun j hj he=>this j he hj
theorem Zrk {ps:List WP}(hk:ps[k]? = some p)(h:q.2=p.2):(ps.set k q).map (·.2)=ps.map (·.2):=by
 apply List.ext_getElem?;intro i;by_cases e:i=k
 ·subst e;obtain⟨h1,e1⟩:=YAD.1 hk;rw [List.getElem?_map,List.getElem?_set_self h1,List.getElem?_map,hk];simp [h]
 ·simp [List.getElem?_set_ne (Ne.symm e)]
theorem WaysOwn.turn {W8:World}{g n cap:Nat}{xs:List WP} (h:WaysOwn W lo hi (.slice (some (U g 0)) n cap) xs) (hn:xs.length=n) (hk:xs[k]? = some p) (hq:q.2=p.2)
  (row:W8.ownsRow lo 193 3 (.slice (some (U g 0)) n cap) n (flat encW (xs.set k q))) (near:W8.ownsRow lo 3 1 q.2 q.1.hops.length (flat intE q.1.hops))
  (hkeep:∀ j,j<W.heap.size->j≠g->some j≠p.2.ownBlock->W8.heap[j]? = W.heap[j]?):WaysOwn W8 lo hi (.slice (some (U g 0)) n cap) (xs.set k q) where
 row:=by rw [List.length_set,hn];exact row
 top:=h.top
 apart:=by rw [Zia,Zrk hk hq, <-Zia];exact h.apart
 nears:=by
  intro r hr;obtain⟨i,hi,e⟩:=List.getElem_of_mem hr;have hr2:(xs.set k q)[i]? = some r:=by rw [<-e];exact YAA hi
  by_cases ek:i=k
  ·subst ek;rw [List.getElem?_set_self (by simpa using hi)] at hr2;cases hr2;refine⟨near,?_⟩;rw [hq];exact (h.nears p (YAH hk)).2
  ·rw [List.getElem?_set_ne (Ne.symm ek)] at hr2;have ho:=h.nears r (YAH hr2);refine⟨Zal ho.1 (fun j hj=>?_),ho.2⟩;refine hkeep j (ho.1.lt j hj).2 ?_ ?_
   ·rintro rfl;obtain⟨cur,hh⟩:∃ cur,W.heap[j]? = some (.cells cur 193 (0,0)):=by
     rcases h.row.2 with ⟨h0,_⟩ | ⟨g',cap',cur',hv',_,hh',_⟩
     ·cases h0
     ·cases hv';exact⟨cur',hh'⟩
    rcases ho.1.2 with ⟨h0,_⟩ | ⟨g',cap',cur',hv',_,hh',_⟩
    ·rw [h0] at hj;simp [Value.ownBlock] at hj
    ·rw [hv'] at hj;simp [Value.ownBlock] at hj;subst hj;rw [hh] at hh';simp at hh'
   ·intro he;exact Zof h.apart hr2 hk ek j hj he.symm
theorem Zlp (n:Int)(l:Lk)(w:World):Calls Tryz.prog 197 #[M n,lkV l] w fun e w'=>e=.returned (.bool (Za0 n l))/\T_ w w':=by
 obtain⟨a,b,c,r⟩:=l;unfold lkV Za0;simp only [];generalize hq1:inB n 1 6=q1;generalize hq2:inB a 1 n=q2;generalize hq3:inB b 1 n=q3;generalize hq4:inB c 1 1000=q4;generalize hq5:inB r 0 2=q5;have h1:=Zba n 1 6;have h2:=Zba a 1 n;have h3:=Zba b 1 n;have h4:=Zba c 1 1000;have h5:=Zba r 0 2;rw [hq1] at h1;rw [hq2] at h2;rw [hq3] at h3;rw [hq4] at h4;rw [hq5] at h5;have H1:=hide h1;have H2:=hide h2;have H3:=hide h3;have H4:=hide h4;have H5:=hide h5;clear h1 h2 h3 h4 h5 hq1 hq2 hq3 hq4 hq5;cases q1
 ·go_enter Tryz.func197,Tryz.ntmps197
  go_wp2_with fail
  refine (H1 _).mono ?_;rintro e w1 ⟨rfl,rfl⟩;go_wp2;go_ret;exact⟨by simp,(YAC _ _).alloc (YA _) _⟩
 cases q2
 ·go_enter Tryz.func197,Tryz.ntmps197
  go_wp2_with fail
  refine (H1 _).mono ?_;rintro e w1 ⟨rfl,rfl⟩
  go_wp2_with fail
  refine (H2 _).mono ?_;rintro e w1 ⟨rfl,rfl⟩;go_wp2;go_ret;exact⟨by simp,(YAC _ _).alloc (YA _) _⟩
 cases q3
 ·go_enter Tryz.func197,Tryz.ntmps197
  go_wp2_with fail
  refine (H1 _).mono ?_;rintro e w1 ⟨rfl,rfl⟩
  go_wp2_with fail
  refine (H2 _).mono ?_;rintro e w1 ⟨rfl,rfl⟩
  go_wp2_with fail
  refine (H3 _).mono ?_;rintro e w1 ⟨rfl,rfl⟩;go_wp2;go_ret;exact⟨by simp,(YAC _ _).alloc (YA _) _⟩
 by_cases hab:a<b
 ·cases q4
  ·go_enter Tryz.func197,Tryz.ntmps197
   go_wp2_with fail
   refine (H1 _).mono ?_;rintro e w1 ⟨rfl,rfl⟩
   go_wp2_with fail
   refine (H2 _).mono ?_;rintro e w1 ⟨rfl,rfl⟩
   go_wp2_with fail
   refine (H3 _).mono ?_;rintro e w1 ⟨rfl,rfl⟩
   go_wp2_with fail
   refine (H4 _).mono ?_;rintro e w1 ⟨rfl,rfl⟩;go_wp2;go_ret;exact⟨by simp,(YAC _ _).alloc (YA _) _⟩
  ·go_enter Tryz.func197,Tryz.ntmps197
   go_wp2_with fail
   refine (H1 _).mono ?_;rintro e w1 ⟨rfl,rfl⟩
   go_wp2_with fail
   refine (H2 _).mono ?_;rintro e w1 ⟨rfl,rfl⟩
   go_wp2_with fail
   refine (H3 _).mono ?_;rintro e w1 ⟨rfl,rfl⟩
   go_wp2_with fail
   refine (H4 _).mono ?_;rintro e w1 ⟨rfl,rfl⟩
   go_wp2_with fail
   refine (H5 _).mono ?_;rintro e w1 ⟨rfl,rfl⟩;go_wp2;go_ret;exact⟨Zai (by rw [YAc hab];simp),(YAC _ _).alloc (YA _) _⟩
 ·go_enter Tryz.func197,Tryz.ntmps197
  go_wp2_with fail
  refine (H1 _).mono ?_;rintro e w1 ⟨rfl,rfl⟩
  go_wp2_with fail
  refine (H2 _).mono ?_;rintro e w1 ⟨rfl,rfl⟩
  go_wp2_with fail
  refine (H3 _).mono ?_;rintro e w1 ⟨rfl,rfl⟩;go_wp2;go_ret;exact⟨Zai (by rw [YAZ (show ¬a<b by omega)];simp),(YAC _ _).alloc (YA _) _⟩
theorem Zda {α:Type}{enc:α->List Value}{sz bytes:Nat}(hlen:∀ l:List α,(flat enc l).length=l.length*sz)(hpos:0<sz)(hbb:bytes<=100){P:Program}(w:World){ops:Array Oper}{rest:List Oper}{o:Oper}{a:Act}{Q:Exit->Act->World->Prop}(hgd:o.guard=none)(s x:Operand)(t:TypeId)
  (ho:o.op=.call { callee:=.builtin .append,args:=#[s,x],argTypes:=#[t,t] }) (base:Nat) (e:TypeId) (ht:P.underlying t=some (.slice e)) (zv:Value) (hzv:zv.cells.size=sz)
  (hinfo:(P.info? e).map (fun i=>(i.zero,i.size,i.bytes))=some (some zv,sz,bytes))
  (v:Value) (l:List α) (hs:a.eval s=v) (hown:w.ownsRow base e sz v l.length (flat enc l))
  (base2:Nat) (v2:Value) (l2:List α) (hone:∀ a∈l2,∀ u∈enc a,u.oneCell'=true) (hx:a.eval x=v2) (hown2:w.ownsRow base2 e sz v2 l2.length (flat enc l2))
  (hl:l.length+l2.length<=1000000000) (hbase:base<=w.heap.size)
  (h:∀ v' w',w'.ownsRow base e sz v' (l++l2).length (flat enc (l++l2))->w.grownBy w' v.ownBlock->wpList P ops Q rest (a.put o.dst v') w'):wpList P ops Q (o::rest) a w:=by
 obtain⟨i0,hi,hz0,hz1,hz2⟩:=info_parts hinfo;rcases hown2.2 with ⟨e1,e2⟩ | ⟨g,cap,cur,e1,_⟩
 ·have e3:l2=[]:=YAt e2;subst e3;refine wpList_append_own_none hgd s x t ho base e i0 sz ht hi v l.length (flat enc l) hs hown (hx.trans e1) ?_;exact h v w (by simpa using hown) (Zbz w _)
 ·refine wpList_append_own w hgd s x t ho base e i0 zv sz bytes ht hi hz0 hz1 hz2 hzv hpos v l.length (flat enc l) hs hown (U g 0) l2.length cap (flat enc l2) (hx.trans e1) (hlen l2) (hown2.cells (by rw [e1];rfl)) ?_ (by unfold maxLen;omega) ?_ hbase ?_
  ·intro u hu;simp only [flat,YAs] at hu;obtain⟨b,hbm,hb⟩:=hu;exact hone b hbm u hb
  ·have:(l.length+l2.length)*bytes<=1000000000*100:=Nat.mul_le_mul hl hbb;omega
  ·intro v' w' h1 h2 _;have e1:flat enc l++flat enc l2=flat enc (l++l2):=by rw [ZaF]
   rw [e1] at h1;exact h v' w' (by simpa using h1) h2
def totD (xs:List RecD):Nat:=(xs.map (fun x=>1+x.near.length)).sum
theorem ZjC (ps:List RP):tot ps=totD (fsts ps):=by simp [tot,totD,fsts,List.map_map,Function.comp_def]
theorem Zdm (x:RecD)(xs:List RecD):totD (x::xs)=1+x.near.length+totD xs:=by simp [totD]
theorem ZcI (a b:List RecD):totD (a++b)=totD a+totD b:=by simp [totD]
def BlkOf (v:Value)(ps:List RP)(k:Nat):Prop:=v.ownBlock=some k\/∃ p∈ps,p.2.ownBlock=some k
structure FrameS (S:Nat->Prop) (w w':World):Prop where
 os:w'.os=w.os
 tape:w'.tape=w.tape
 output:w'.output=w.output
 size:w.heap.size<=w'.heap.size
 block:∀ k,k<w.heap.size->¬S k->w'.heap[k]? = w.heap[k]?
theorem FrameS.refl (S:Nat->Prop)(w:World):FrameS S w w:=⟨rfl,rfl,rfl,YA _,fun _ _ _=>rfl⟩
theorem FrameS.trans {c:World}(h:FrameS S a b)(k:FrameS S b c):FrameS S a c:=
 ⟨k.os.trans h.os,k.tape.trans h.tape,k.output.trans h.output,YAG h.size k.size,fun i hi hr=>(k.block i (YAB hi h.size) hr).trans (h.block i hi hr)⟩
theorem FrameS.grown {row:Option Nat}(g:a.grownBy b row)(hr:∀ k,row=some k->S k):FrameS S a b:=
 ⟨g.os,g.tape,g.output,g.size,fun k hk hh=>g.block k hk (fun e=>hh (hr k e.symm))⟩
theorem FrameS.mono {T:Nat->Prop}(h:FrameS S a b)(hs:∀ k,S k->T k):FrameS T a b:=⟨h.os,h.tape,h.output,h.size,fun k hk hh=>h.block k hk (fun e=>hh (hs k e))⟩
theorem FrameS.frame (h:FrameS S a b)(hs:∀ k,S k->lo<=k/\k<hi):Frame lo hi a b:=⟨h.os,h.tape,h.output,h.size,fun k hk hh=>h.block k hk (fun e=>by have:=hs k e;omega)⟩
theorem RecsOwn.blk {ps:List RP}(h:RecsOwn W lo hi v ps)(k:Nat)(hk:BlkOf v ps k):lo<=k/\k<hi/\k<W.heap.size:=by
 rcases hk with e | ⟨p,hp,e⟩
 ·exact ⟨(h.row.lt k e).1,h.top k e,(h.row.lt k e).2⟩
 ·exact ⟨((h.nears p hp).1.lt k e).1,(h.nears p hp).2 k e,((h.nears p hp).1.lt k e).2⟩
end Go.Proofs.YtcnjnibnecpddaaGreat
