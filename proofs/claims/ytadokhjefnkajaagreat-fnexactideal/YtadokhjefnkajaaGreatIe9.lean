/-
  Nets RowsL IBodyOk WaysK AppS AreaS BolK
-/
import Derived.Test.YtadokhjefnkajaaGreatIe7
import Derived.Test.YtadokhjefnkajaaGreatIe6
import Derived.Test.YtadokhjefnkajaaGreatIe5
import Derived.Test.YtadokhjefnkajaaGreatIe4
import Derived.Test.YtadokhjefnkajaaGreatIe8
namespace Go.Proofs.YtadokhjefnkajaaGreat
open Go.RowKit
set_option linter.unusedSimpArgs false
set_option linter.unusedVariables false
set_option maxRecDepth 100000
set_option maxHeartbeats 8000000
structure NetD where
 n:Int
 ls:List Lk
 ts:List Th
 deriving DecidableEq
def Zfy (W:World)(v:Value)(x:NetD)(B:Nat):Prop:=∃ v1 v2,v=.agg #[.int .i64 x.n,v1,v2]/\ZaS W v1 x.ls B/\ZaV W v2 x.ts B
theorem Zfy.then {W W':World}{v:Value}{x:NetD}(h:Zfy W v x W.heap.size)(hb:Below W.heap.size W W'):Zfy W' v x W'.heap.size:=by
 obtain⟨v1,v2,hv,h1,h2⟩:=h;exact⟨v1,v2,hv,h1.then hb,h2.then hb⟩
theorem Zex (a:Option Addr)(n c:Nat)(q:Int)(w:World)(hn:(n:Int)<=9223372036854775807)(hq0:0<=q)(hq:q<=1048576):
  Calls Tryz.prog 107 #[.slice a n c,.int .i64 q] w fun e w'=>e=.returned (.int .i64 (if q-(n:Int)<0 then -1 else q-(n:Int)))/\w=w':=by
 by_cases h:q-(n:Int)<0
 ·rw [if_pos h]
  go_enter Tryz.func107,Tryz.ntmps107
  go_wp2
  go_ret
  exact⟨rfl,rfl⟩
 ·rw [if_neg h]
  go_enter Tryz.func107,Tryz.ntmps107
  go_wp2
  go_ret
  exact⟨rfl,rfl⟩
theorem Zfw (a:Option Addr)(n c:Nat)(q:Int)(w:World)(hn:(n:Int)<=9223372036854775807)(hq0:0<=q)(hq:q<=1048576):
  Calls Tryz.prog 108 #[.slice a n c,.int .i64 q] w fun e w'=>e=.returned (.int .i64 (if q-(n:Int)<0 then -1 else q-(n:Int)))/\w=w':=by
 by_cases h:q-(n:Int)<0
 ·rw [if_pos h]
  go_enter Tryz.func108,Tryz.ntmps108
  go_wp2
  go_ret
  exact⟨rfl,rfl⟩
 ·rw [if_neg h]
  go_enter Tryz.func108,Tryz.ntmps108
  go_wp2
  go_ret
  exact⟨rfl,rfl⟩
def szN (q:Int)(n m:Nat):Int:=if q-(n:Int)<0 then -1 else if q-(n:Int)-(m:Int)<0 then -1 else q-(n:Int)-(m:Int)
theorem ZnH (v0:Value)(a1 a2:Option Addr)(n m c1 c2:Nat)(q:Int)(w:World)(hn:(n:Int)<=9223372036854775807)(hm:(m:Int)<=9223372036854775807)(hq0:0<=q)(hq:q<=1048576):
  Calls Tryz.prog 35 #[.agg #[v0,.slice a1 n c1,.slice a2 m c2],.int .i64 q] w fun e w'=>e=.returned (.int .i64 (szN q n m))/\Below w.heap.size w w':=by
 unfold szN;by_cases h:q-(n:Int)<0
 ·rw [if_pos h]
  go_enter Tryz.func35,Tryz.ntmps35
  go_wp2_with fail
  refine (Zex a1 n c1 q _ hn hq0 hq).mono ?_
  rw [if_pos h];rintro e w1 ⟨rfl,rfl⟩
  go_wp2
  go_ret
  exact⟨rfl,(Below.refl _ _).alloc (Nat.le_refl _) _⟩
 ·rw [if_neg h]
  by_cases h2:q-(n:Int)-(m:Int)<0
  ·rw [if_pos h2]
   go_enter Tryz.func35,Tryz.ntmps35
   go_wp2_with fail
   refine (Zex a1 n c1 q _ hn hq0 hq).mono ?_
   rw [if_neg (by omega)]
   rintro e w1 ⟨rfl,rfl⟩
   go_wp2_with fail
   refine (Zfw a2 m c2 _ _ hm (by omega) (by omega)).mono ?_
   rw [if_pos h2];rintro e w1 ⟨rfl,rfl⟩
   go_wp2
   go_ret
   exact⟨rfl,(Below.refl _ _).alloc (Nat.le_refl _) _⟩
  ·rw [if_neg h2]
   go_enter Tryz.func35,Tryz.ntmps35
   go_wp2_with fail
   refine (Zex a1 n c1 q _ hn hq0 hq).mono ?_
   rw [if_neg (by omega)]
   rintro e w1 ⟨rfl,rfl⟩
   go_wp2_with fail
   refine (Zfw a2 m c2 _ _ hm (by omega) (by omega)).mono ?_
   rw [if_neg (by omega)]
   rintro e w1 ⟨rfl,rfl⟩
   go_wp2
   go_ret
   exact⟨rfl,(Below.refl _ _).alloc (Nat.le_refl _) _⟩
theorem ZnM (v:Value)(x:NetD)(w:World)(hl:x.ls.length<=1048576)(ht:x.ts.length<=1048576)(hv:Zfy w v x w.heap.size):
  Calls Tryz.prog 37 #[v] w fun e w'=>∃ v1 v2,e=.returned (.agg #[.int .i64 x.n,v1,v2])/\w'.ownsRow w.heap.size 174 4 v1 x.ls.length (flat lkE x.ls)/\w'.ownsRow w.heap.size 120 4 v2 x.ts.length (flat thE x.ts)/\Below w.heap.size w w':=by
 obtain⟨u1,u2,rfl,h1,h2⟩:=hv;obtain⟨a1,c1,rfl⟩:=h1.shape;obtain⟨a2,c2,rfl⟩:=h2.shape;have H1:=hide h1;have H2:=hide h2;clear h1 h2
 go_enter Tryz.func37,Tryz.ntmps37
 go_wp2_with fail
 have hw0:=ZjG w (.cells #[.int .i64 x.n,.slice a1 x.ls.length c1,.slice a2 x.ts.length c2] 59) (.cells #[.int .i64 0,.slice none 0 0,.slice none 0 0] 27) (.cells #[.int .i64 x.n,.slice none 0 0,.slice none 0 0] 27);have hw1:=ZjH w (.cells #[.int .i64 x.n,.slice a1 x.ls.length c1,.slice a2 x.ts.length c2] 59) (.cells #[.int .i64 0,.slice none 0 0,.slice none 0 0] 27) (.cells #[.int .i64 x.n,.slice none 0 0,.slice none 0 0] 27);have hw2:=ZjI w (.cells #[.int .i64 x.n,.slice a1 x.ls.length c1,.slice a2 x.ts.length c2] 59) (.cells #[.int .i64 0,.slice none 0 0,.slice none 0 0] 27) (.cells #[.int .i64 x.n,.slice none 0 0,.slice none 0 0] 27);have bw:=Zcc (w:=w) (.cells #[.int .i64 x.n,.slice a1 x.ls.length c1,.slice a2 x.ts.length c2] 59) (.cells #[.int .i64 0,.slice none 0 0,.slice none 0 0] 27) (.cells #[.int .i64 x.n,.slice none 0 0,.slice none 0 0] 27);generalize (((w.alloc (.cells #[.int .i64 x.n,.slice a1 x.ls.length c1,.slice a2 x.ts.length c2] 59)).alloc (.cells #[.int .i64 0,.slice none 0 0,.slice none 0 0] 27)).alloc (.cells #[.int .i64 x.n,.slice none 0 0,.slice none 0 0] 27))=w1 at *;refine (Zkl _ x.ls w1 hl (H1.out.then bw)).mono ?_
 rintro e w2 ⟨v1,rfl,ho1,b2⟩;obtain⟨p1,q1,rfl⟩:=Zac ho1;have l2:=Zab hw2;rw [<-b2.block _ (Zab hw0)] at hw0;rw [<-b2.block _ (Zab hw1)] at hw1;rw [<-b2.block _ l2] at hw2;have s1:=Zaa hw0 2;have s2:=Zaa hw2 1;have f2:=Zaf hw2 1;simp at s1 s2
 have hb12:w.heap.size<=w1.heap.size:=bw.size;have hb22:w1.heap.size<=w2.heap.size:=b2.size;have bw2:Below w.heap.size w w2:=bw.trans (b2.mono hb12);have O1:=hide ho1;have HW0:=hide hw0;have HW1:=hide hw1;have HW2:=hide hw2;clear ho1 hw0 hw1 hw2
 go_wp2_with fail
 have o1:=Zbe (p:=w.heap.size+1+1) (j:=1) (u:=.slice p1 x.ls.length q1) O1.out (by omega)
 have g0:(w2.setCell ⟨w.heap.size+1+1,1,none⟩ (.slice p1 x.ls.length q1)).heap[w.heap.size+1]? = some (.cells #[.int .i64 0,.slice none 0 0,.slice none 0 0] 27):=by
  rw [heap_setCell_other w2 ⟨w.heap.size+1+1,1,none⟩ _ _ (by show w.heap.size+1≠w.heap.size+1+1;omega)];exact HW1.out
 have g2:(w2.setCell ⟨w.heap.size+1+1,1,none⟩ (.slice p1 x.ls.length q1)).heap[w.heap.size+1+1]? = some (.cells #[.int .i64 x.n,.slice p1 x.ls.length q1,.slice none 0 0] 27):=by
  rw [heap_setCell_same w2 _ 1 _ _ _ HW2.out];rfl
 have bw3:Below w.heap.size w (w2.setCell ⟨w.heap.size+1+1,1,none⟩ (.slice p1 x.ls.length q1)):=bw2.setCell (by show w.heap.size<=w.heap.size+1+1;omega) _
 have z3:(w2.setCell ⟨w.heap.size+1+1,1,none⟩ (.slice p1 x.ls.length q1)).heap.size=w2.heap.size:=by simp
 generalize (w2.setCell ⟨w.heap.size+1+1,1,none⟩ (.slice p1 x.ls.length q1))=w3 at *;clear s1 s2 f2 HW0 HW1 HW2 O1;refine (Zjk _ x.ts w3 ht (H2.out.then bw3)).mono ?_
 rintro e w4 ⟨v2,rfl,ho2,b4⟩;obtain⟨p2,q2,rfl⟩:=Zac ho2;have hl1:w.heap.size+1+1<w3.heap.size:=Zab g2;rw [<-b4.block _ (Zab g0)] at g0;rw [<-b4.block _ hl1] at g2;have o1':=Zae o1 b4 (Nat.le_refl _);have bw4:Below w.heap.size w w4:=bw3.trans (b4.mono bw3.size);have r0:=Zaa g0 0;have r1:=Zaa g0 1;have r2:=Zaa g0 2;have t0:=Zaa g2 0;have t1:=Zaa g2 1;have t2:=Zaa g2 2;have f0:=Zaf g0 0;have f1:=Zaf g0 1;have f2:=Zaf g0 2;have e2:=Zaf g2 2;simp at r0 r1 r2 t0 t1 t2
 have hz4:=b4.size;have O1:=hide o1';have O2:=hide ho2;have G0:=hide g0;clear o1 o1' ho2 g0 g2
 go_wp2
 have hfin:((((w4.setCell ⟨w.heap.size+1+1,2,none⟩ (.slice p2 x.ts.length q2)).setCell ⟨w.heap.size+1,0,none⟩ (.int .i64 x.n)).setCell ⟨w.heap.size+1,1,none⟩ (.slice p1 x.ls.length q1)).setCell ⟨w.heap.size+1,2,none⟩ (.slice p2 x.ts.length q2)).heap[w.heap.size+1]? = some (.cells #[.int .i64 x.n,.slice p1 x.ls.length q1,.slice p2 x.ts.length q2] 27):=by
  have k0:(w4.setCell ⟨w.heap.size+1+1,2,none⟩ (.slice p2 x.ts.length q2)).heap[w.heap.size+1]? = some (.cells #[.int .i64 0,.slice none 0 0,.slice none 0 0] 27):=by
   rw [heap_setCell_other w4 ⟨w.heap.size+1+1,2,none⟩ _ _ (by show w.heap.size+1≠w.heap.size+1+1;omega)];exact G0.out
  have k1:=heap_setCell_same _ _ 0 _ _ (.int .i64 x.n) k0;have k2:=heap_setCell_same _ _ 1 _ _ (.slice p1 x.ls.length q1) k1;have k3:=heap_setCell_same _ _ 2 _ _ (.slice p2 x.ts.length q2) k2;exact k3
 try simp only [Exit.inBlock,Exit.then]
 refine bodyPost_ret (results_cell_row rfl _ _ (w.heap.size+1) 27 #[.int .i64 x.n,.slice p1 x.ls.length q1,.slice p2 x.ts.length q2] (0,0) _ rfl hfin Tryz.underlying27 rfl (by kernel_rfl)) rfl ?_
 refine⟨_,_,rfl,Zaj (Zbe (Zbe (Zbe (Zbe O1.out (by omega)) (by omega)) (by omega)) (by omega)) (by omega),Zaj (Zbe (Zbe (Zbe (Zbe O2.out (by omega)) (by omega)) (by omega)) (by omega)) (by omega),?_⟩
 exact (((bw4.setCell (by show w.heap.size<=w.heap.size+1+1;omega) _).setCell (by show w.heap.size<=w.heap.size+1;omega) _).setCell (by show w.heap.size<=w.heap.size+1;omega) _).setCell (by show w.heap.size<=w.heap.size+1;omega) _
theorem Zmz (v1 v2:Value)(x y:NetD)(w:World)(h1:Zfy w v1 x w.heap.size)(h2:Zfy w v2 y w.heap.size)(hl:x.ls.length<=1048576)(ht:x.ts.length<=1048576):
  Calls Tryz.prog 40 #[v1,v2] w fun e w'=>e=.returned (.bool (decide (x=y)))/\Below w.heap.size w w':=by
 obtain⟨n,ls,ts⟩:=x;obtain⟨m,ls',ts'⟩:=y;obtain⟨a1,a2,rfl,k1,k2⟩:=h1;obtain⟨b1,b2,rfl,j1,j2⟩:=h2;have K1:=hide k1;have K2:=hide k2;have J1:=hide j1;have J2:=hide j2;clear k1 k2 j1 j2;by_cases hnm:n=m
 ·subst hnm
  go_enter Tryz.func40,Tryz.ntmps40
  go_wp2_with fail
  refine (Zjz a1 b1 ls ls' _ (K1.out.then (Zas _ _)) (J1.out.then (Zas _ _)) hl).mono ?_
  rintro e w1 ⟨rfl,bb1⟩;have bw1:Below w.heap.size w w1:=(Zas _ _).trans (bb1.mono (by simp;omega))
  have hw0:w1.heap[w.heap.size]? = some (.cells #[.int .i64 n,a1,a2] 27):=by
   rw [bb1.block _ (by simp;omega),Below.heap_alloc _ _ _ (by simp),heap_alloc_new]
  have hw1:w1.heap[w.heap.size+1]? = some (.cells #[.int .i64 n,b1,b2] 27):=by
   rw [bb1.block _ (by simp)]
   have:=heap_alloc_new (w.alloc (.cells #[.int .i64 n,a1,a2] 27)) (.cells #[.int .i64 n,b1,b2] 27)
   simpa using this
  have s1:=Zaa hw0 2;have s2:=Zaa hw1 2;simp at s1 s2
  clear bb1 hw0 hw1;by_cases hls:ls=ls'
  ·subst hls
   have hd:decide (ls=ls)=true:=by simp
   rw [hd];clear hd
   go_wp2_with fail
   refine (ZiF a2 b2 ts ts' _ (K2.out.then bw1) (J2.out.then bw1) ht).mono ?_
   rintro e w2 ⟨rfl,bb2⟩;have bw2:Below w.heap.size w w2:=bw1.trans (bb2.mono bw1.size);by_cases hts:ts=ts'
   ·subst hts
    have hd:decide (ts=ts)=true:=by simp
    rw [hd];clear hd
    go_wp2
    go_ret
    exact⟨by simp,bw2⟩
   ·rw [decide_eq_false hts]
    have hne:decide (({ n:=n,ls:=ls,ts:=ts }:NetD) = { n:=n,ls:=ls,ts:=ts' })=false:=decide_eq_false (fun h=>by cases h;exact hts rfl)
    have HNE:=hide hne;clear hne
    go_wp2
    go_ret
    exact⟨by rw [HNE.out];rfl,bw2⟩
  ·rw [decide_eq_false hls]
   have hne:decide (({ n:=n,ls:=ls,ts:=ts }:NetD) = { n:=n,ls:=ls',ts:=ts' })=false:=decide_eq_false (fun h=>by cases h;exact hls rfl)
   have HNE:=hide hne;clear hne
   go_wp2
   go_ret
   exact⟨by rw [HNE.out];rfl,bw1⟩
 ·have hd:(n != m)=true:=by simpa using hnm
  have hne:decide (({ n:=n,ls:=ls,ts:=ts }:NetD) = { n:=m,ls:=ls',ts:=ts' })=false:=decide_eq_false (fun h=>by cases h;exact hnm rfl)
  rw [hne];clear hne
  go_enter Tryz.func40,Tryz.ntmps40
  go_wp2
  go_ret
  exact⟨rfl,Zas _ _⟩
theorem Tryz.infoRec:(Tryz.prog.info? 39).map (fun i=>(i.zero,i.size,i.bytes))=some (some (.agg (recC Za6 (.slice none 0 0))),8,80):=by kernel_rfl
def fsts (ps:List RP):List RecD:=ps.map (·.1)
theorem Zbw {ps:List RP}{i:Nat}{p:RP}(h:ps[i]? = some p):(fsts ps)[i]? = some p.1:=by simp [fsts,h]
theorem ZhK (v1 v2:Value)(ps qs:List RP)(w:World)(h1:Zbn w v1 ps w.heap.size)(h2:Zbn w v2 qs w.heap.size)(hn:ps.length<=1048576)(hns:∀ p∈ps,p.1.near.length<=1048576):
  Calls Tryz.prog 30 #[v1,v2] w fun e w'=>e=.returned (.bool (decide (fsts ps=fsts qs)))/\Below w.heap.size w w':=by
 obtain⟨a1,c1,rfl⟩:=h1.shape;obtain⟨a2,c2,rfl⟩:=h2.shape;by_cases hl:ps.length=qs.length
 ·have K1:=hide h1
  have K2:=hide h2;have HLN:=hide hl;have HNS:=hide hns;rw [<-hl];clear h1 h2 hl hns
  go_enter Tryz.func30,Tryz.ntmps30
  go_wp2
  go_loopw [5] (fun i wr=>∃ k:Nat,k<=ps.length/\i=.int .i64 k/\(∀ j,j<k->(fsts ps)[j]? = (fsts qs)[j]?)/\Below w.heap.size w wr) (fun i _=>ps.length-(intOf i).toNat)
  case atStart=>exact ⟨0,by omega,rfl,by omega,Below.refl _ _⟩
  case round=>
   obtain⟨k,hk,rfl,hall,hnx⟩:=hrel;have HALL:=hide hall;clear hall;by_cases hlt:k<ps.length
   ·obtain ⟨p,hp⟩:∃ l,ps[k]? = some l:=⟨ps[k],List.getElem?_eq_getElem hlt⟩
    obtain⟨r,hr⟩:∃ l,qs[k]? = some l:=⟨qs[k],List.getElem?_eq_getElem (by have:=HLN.out;omega)⟩
    obtain⟨b1,o1,cp1,hv1,hb1,c0,c1',c2',c3,c4,c5,c6,c7,n1⟩:=K1.out.cells k p hp;obtain⟨b2,o2,cp2,hv2,hb2,d0,d1,d2,d3,d4,d5,d6,d7,n2⟩:=K2.out.cells k r hr;cases hv1
    cases hv2
    rw [<-hnx.cell (p:=⟨b1,o1+k*8,none⟩) hb1] at c0;rw [<-hnx.cell (p:=⟨b1,o1+k*8+1,none⟩) hb1] at c1';rw [<-hnx.cell (p:=⟨b1,o1+k*8+2,none⟩) hb1] at c2';rw [<-hnx.cell (p:=⟨b1,o1+k*8+3,none⟩) hb1] at c3;rw [<-hnx.cell (p:=⟨b1,o1+k*8+4,none⟩) hb1] at c4;rw [<-hnx.cell (p:=⟨b1,o1+k*8+5,none⟩) hb1] at c5;rw [<-hnx.cell (p:=⟨b1,o1+k*8+6,none⟩) hb1] at c6;rw [<-hnx.cell (p:=⟨b1,o1+k*8+7,none⟩) hb1] at c7;rw [<-hnx.cell (p:=⟨b2,o2+k*8,none⟩) hb2] at d0;rw [<-hnx.cell (p:=⟨b2,o2+k*8+1,none⟩) hb2] at d1;rw [<-hnx.cell (p:=⟨b2,o2+k*8+2,none⟩) hb2] at d2;rw [<-hnx.cell (p:=⟨b2,o2+k*8+3,none⟩) hb2] at d3;rw [<-hnx.cell (p:=⟨b2,o2+k*8+4,none⟩) hb2] at d4;rw [<-hnx.cell (p:=⟨b2,o2+k*8+5,none⟩) hb2] at d5;rw [<-hnx.cell (p:=⟨b2,o2+k*8+6,none⟩) hb2] at d6;rw [<-hnx.cell (p:=⟨b2,o2+k*8+7,none⟩) hb2] at d7;have hzr:=hnx.size;have hb1':b1<wr.heap.size:=by omega
    have hb2':b2<wr.heap.size:=by omega
    have hki:(0:Int)<=(k:Int):=by omega
    have hkj:(k:Int)<(ps.length:Int):=by omega
    have hkd:Below w.heap.size w wr.drew:=hnx.drew;have m1:=(ZaE.later n1 hkd (Nat.le_refl _)).more hkd.size;have m2:=(ZaE.later n2 hkd (Nat.le_refl _)).more hkd.size;have hq:=ZiE (.agg (recC p.1 p.2)) (.agg (recC r.1 r.2)) p.1 r.1 wr.drew ⟨_,rfl,m1⟩ ⟨_,rfl,m2⟩ (HNS.out p (List.mem_of_getElem? hp));unfold recC at hq;obtain⟨q,hqq⟩:∃ q,q=decide (p.1=r.1):=⟨_,rfl⟩;rw [<-hqq] at hq;have HQ:=hide hq;have HQQ:=hide hqq;have HX:=hide (Zbw hp);have HY:=hide (Zbw hr);clear hq hqq hp hr n1 n2 m1 m2;cases q
    ·go_wp2
     go_region_held3 (fun W=>W.cell? ⟨b1,o1+k*8,none⟩=some (.int .i64 p.1.area)/\W.cell? ⟨b1,o1+k*8+1,none⟩=some (.int .i64 p.1.kind)/\W.cell? ⟨b1,o1+k*8+2,none⟩=some (.int .i64 p.1.owner)/\W.cell? ⟨b1,o1+k*8+3,none⟩=some (.int .i64 p.1.key)/\W.cell? ⟨b1,o1+k*8+4,none⟩=some (.int .i64 p.1.seq)/\W.cell? ⟨b1,o1+k*8+5,none⟩=some (p.2)/\W.cell? ⟨b1,o1+k*8+6,none⟩=some (.int .i64 p.1.cost)/\W.cell? ⟨b1,o1+k*8+7,none⟩=some (.bool p.1.far)/\W.cell? ⟨b2,o2+k*8,none⟩=some (.int .i64 r.1.area)/\W.cell? ⟨b2,o2+k*8+1,none⟩=some (.int .i64 r.1.kind)/\W.cell? ⟨b2,o2+k*8+2,none⟩=some (.int .i64 r.1.owner)/\W.cell? ⟨b2,o2+k*8+3,none⟩=some (.int .i64 r.1.key)/\W.cell? ⟨b2,o2+k*8+4,none⟩=some (.int .i64 r.1.seq)/\W.cell? ⟨b2,o2+k*8+5,none⟩=some (r.2)/\W.cell? ⟨b2,o2+k*8+6,none⟩=some (.int .i64 r.1.cost)/\W.cell? ⟨b2,o2+k*8+7,none⟩=some (.bool r.1.far)) (first | go_keep | (refine ⟨?_,?_,?_,?_,?_,?_,?_,?_,?_,?_,?_,?_,?_,?_,?_,?_⟩ <;> (rw [hbc.cell (by assumption)];assumption))) (first | (go_at_call 101;refine HQ.out.mono ?_;rintro e w1 ⟨rfl,hbc⟩))
     go_wp2
     go_ret
     exact⟨Zbm (ZoA HX.out HY.out (of_decide_eq_false HQQ.out.symm)),hnx.trans ((Below.refl _ _).drew.trans (hbc.mono hzr))⟩
    ·go_wp2
     go_region_held3 (fun W=>W.cell? ⟨b1,o1+k*8,none⟩=some (.int .i64 p.1.area)/\W.cell? ⟨b1,o1+k*8+1,none⟩=some (.int .i64 p.1.kind)/\W.cell? ⟨b1,o1+k*8+2,none⟩=some (.int .i64 p.1.owner)/\W.cell? ⟨b1,o1+k*8+3,none⟩=some (.int .i64 p.1.key)/\W.cell? ⟨b1,o1+k*8+4,none⟩=some (.int .i64 p.1.seq)/\W.cell? ⟨b1,o1+k*8+5,none⟩=some (p.2)/\W.cell? ⟨b1,o1+k*8+6,none⟩=some (.int .i64 p.1.cost)/\W.cell? ⟨b1,o1+k*8+7,none⟩=some (.bool p.1.far)/\W.cell? ⟨b2,o2+k*8,none⟩=some (.int .i64 r.1.area)/\W.cell? ⟨b2,o2+k*8+1,none⟩=some (.int .i64 r.1.kind)/\W.cell? ⟨b2,o2+k*8+2,none⟩=some (.int .i64 r.1.owner)/\W.cell? ⟨b2,o2+k*8+3,none⟩=some (.int .i64 r.1.key)/\W.cell? ⟨b2,o2+k*8+4,none⟩=some (.int .i64 r.1.seq)/\W.cell? ⟨b2,o2+k*8+5,none⟩=some (r.2)/\W.cell? ⟨b2,o2+k*8+6,none⟩=some (.int .i64 r.1.cost)/\W.cell? ⟨b2,o2+k*8+7,none⟩=some (.bool r.1.far)) (first | go_keep | (refine ⟨?_,?_,?_,?_,?_,?_,?_,?_,?_,?_,?_,?_,?_,?_,?_,?_⟩ <;> (rw [hbc.cell (by assumption)];assumption))) (first | (go_at_call 101;refine HQ.out.mono ?_;rintro e w1 ⟨rfl,hbc⟩))
     go_wp2
     go_roundw
     case rel=>exact ⟨k+1,by omega,by go_num,(fun j hj=>by
      by_cases e:j=k
      ·subst e;rw [HX.out,HY.out,of_decide_eq_true HQQ.out.symm]
      ·exact HALL.out j (by omega)),hnx.trans ((Below.refl _ _).drew.trans (hbc.mono hzr))⟩
     case measure=>simp [intOf];omega
   ·have hkn:k=ps.length:=by omega
    have KN:=hide hkn;clear hkn
    go_wp2
    go_ret
    exact⟨ZbR (ZkC (by simp [fsts,HLN.out]) (by have:=HALL.out;rw [KN.out] at this;simpa [fsts] using this)),hnx⟩
 ·clear h1 h2
  have hd:((ps.length:Int) != (qs.length:Int))=true:=by simp;omega
  go_enter Tryz.func30,Tryz.ntmps30
  go_wp2
  go_ret
  exact⟨Zbm (fun h=>hl (by have:=congrArg List.length h;simpa [fsts] using this)),Below.refl _ _⟩
def nilC:Array Value:=#[.int .i64 0,.int .i64 0,.int .i64 0,.int .i64 0,.int .i64 0,.slice none 0 0,.int .i64 0,.bool false]
theorem as1_1 (v:Value)(w:World):(Instr.typeAssert (.iface 264 v) 222 264 true).run Tryz.prog w=.ok (.tuple #[v,.bool true]) w:=by kernel_rfl
theorem as2_1 (v:Value)(w:World):(Instr.typeAssert (.iface 265 v) 222 264 true).run Tryz.prog w=.ok (.tuple #[.agg nilC,.bool false]) w:=by kernel_rfl
theorem as2_2 (v:Value)(w:World):(Instr.typeAssert (.iface 265 v) 222 265 true).run Tryz.prog w=.ok (.tuple #[v,.bool true]) w:=by kernel_rfl
theorem as3_1 (v:Value)(w:World):(Instr.typeAssert (.iface 266 v) 222 264 true).run Tryz.prog w=.ok (.tuple #[.agg nilC,.bool false]) w:=by kernel_rfl
theorem as3_2 (v:Value)(w:World):(Instr.typeAssert (.iface 266 v) 222 265 true).run Tryz.prog w=.ok (.tuple #[.agg nilC,.bool false]) w:=by kernel_rfl
theorem as3_3 (v:Value)(w:World):(Instr.typeAssert (.iface 266 v) 222 266 true).run Tryz.prog w=.ok (.tuple #[v,.bool true]) w:=by kernel_rfl
theorem Ziw (v1:Value)(x:RecD)(w:World)(hl:x.near.length<=1048576)(hv:ZaC w v1 x.near w.heap.size):
  Calls Tryz.prog 194 #[.iface 264 (.agg (recC x v1))] w fun e w'=>e=.returned (.bool (Zbi x.owner x.near&&x.cost==0 && !x.far))/\Below w.heap.size w w':=by
 obtain⟨p1,c1,rfl⟩:=hv.shape;have HN:=hide (fun W (h:Below w.heap.size w W)=>ZmT x.owner (.slice p1 x.near.length c1) x.near W hl (hv.then h))
 obtain⟨qn,hqn⟩:∃ q,q=Zbi x.owner x.near:=⟨_,rfl⟩;rw [<-hqn] at HN |-;clear hqn hv;obtain⟨area,kind,owner,key,seq,ns,cost,far⟩:=x;unfold recC;simp only [] at HN hl |-
 have a1:=as1_1;have B0:Below w.heap.size w (w.alloc (.cells #[.int .i64 area,.int .i64 kind,.int .i64 owner,.int .i64 key,.int .i64 seq,.slice p1 ns.length c1,.int .i64 cost,.bool far] 264)):=(Below.refl _ _).alloc (Nat.le_refl _) _;have NEW:=hide (heap_alloc_new w (.cells #[.int .i64 area,.int .i64 kind,.int .i64 owner,.int .i64 key,.int .i64 seq,.slice p1 ns.length c1,.int .i64 cost,.bool far] 264))
 go_enter Tryz.func194,Tryz.ntmps194
 go_wp2_with fail
 refine (HN.out _ B0).mono ?_
 rintro e w1 ⟨rfl,b1⟩;have hx1:w1.heap[w.heap.size]? = some (.cells #[.int .i64 area,.int .i64 kind,.int .i64 owner,.int .i64 key,.int .i64 seq,.slice p1 ns.length c1,.int .i64 cost,.bool far] 264):=by rw [b1.block _ (by simp)];exact NEW.out
 have f6:=Zaa hx1 6;have f7:=Zaa hx1 7;simp at f6 f7
 have B1:=B0.trans (b1.mono B0.size);clear hx1 b1 NEW HN;cases qn
 ·go_wp2
  go_ret
  exact⟨by simp,B1⟩
 by_cases hc:cost=0
 case neg=>
  have hd:(cost==0)=false:=by simpa using hc
  go_wp2
  go_ret
  exact⟨by simp [hd],B1⟩
 subst hc;cases far
 all_goals
  go_wp2
  go_ret
  exact⟨by simp,B1⟩
theorem ZgH (v1:Value)(x:RecD)(w:World)(hl:x.near.length<=1048576)(hv:ZaC w v1 x.near w.heap.size):
  Calls Tryz.prog 194 #[.iface 265 (.agg (recC x v1))] w fun e w'=>e=.returned (.bool (x.near.length==0&&inB x.cost 0 60000 && !x.far))/\Below w.heap.size w w':=by
 obtain⟨p1,c1,rfl⟩:=hv.shape;clear hv;have H5:=hide (Za3 x.cost 0 60000);obtain⟨q5,hq5⟩:∃ q,q=inB x.cost 0 60000:=⟨_,rfl⟩;rw [<-hq5] at H5 |-;clear hq5;obtain⟨area,kind,owner,key,seq,ns,cost,far⟩:=x;unfold recC;simp only [] at H5 hl |-
 have a1:=as2_1;have a2:=as2_2;have B0:Below w.heap.size w (w.alloc (.cells #[.int .i64 area,.int .i64 kind,.int .i64 owner,.int .i64 key,.int .i64 seq,.slice p1 ns.length c1,.int .i64 cost,.bool far] 265)):=(Below.refl _ _).alloc (Nat.le_refl _) _;by_cases hn0:ns.length=0
 case neg=>
  have hd:((ns.length:Int)==0)=false:=by simp;intro h;rw [h] at hn0;exact hn0 rfl
  have hd2:(ns.length==0)=false:=by simpa using hn0
  rw [hd2];clear hn0 hd2
  go_enter Tryz.func194,Tryz.ntmps194
  go_wp2
  go_ret
  exact⟨by simp,B0⟩
 have hd:((ns.length:Int)==0)=true:=by simp;exact List.length_eq_zero_iff.1 hn0
 have hd2:(ns.length==0)=true:=by simpa using hn0
 rw [hd2];clear hn0 hd2
 go_enter Tryz.func194,Tryz.ntmps194
 go_wp2_with fail
 refine (H5.out _).mono ?_
 rintro e w1 ⟨rfl,rfl⟩;cases q5
 ·go_wp2
  go_ret
  exact⟨by simp,B0⟩
 cases far
 all_goals
  go_wp2
  go_ret
  exact⟨by simp,B0⟩
theorem ZhA (v1:Value)(x:RecD)(w:World)(hl:x.near.length<=1048576)(hv:ZaC w v1 x.near w.heap.size):
  Calls Tryz.prog 194 #[.iface 266 (.agg (recC x v1))] w fun e w'=>e=.returned (.bool (x.near.length==0&&(inB x.cost 1 1000||x.cost==60000)))/\Below w.heap.size w w':=by
 obtain⟨p1,c1,rfl⟩:=hv.shape;clear hv;have H5:=hide (Za3 x.cost 1 1000);obtain⟨q5,hq5⟩:∃ q,q=inB x.cost 1 1000:=⟨_,rfl⟩;rw [<-hq5] at H5 |-;clear hq5;obtain⟨area,kind,owner,key,seq,ns,cost,far⟩:=x;unfold recC;simp only [] at H5 hl |-
 have a1:=as3_1;have a2:=as3_2;have a3:=as3_3;have B0:Below w.heap.size w (w.alloc (.cells #[.int .i64 area,.int .i64 kind,.int .i64 owner,.int .i64 key,.int .i64 seq,.slice p1 ns.length c1,.int .i64 cost,.bool far] 266)):=(Below.refl _ _).alloc (Nat.le_refl _) _;by_cases hn0:ns.length=0
 case neg=>
  have hd:((ns.length:Int)==0)=false:=by simp;intro h;rw [h] at hn0;exact hn0 rfl
  have hd2:(ns.length==0)=false:=by simpa using hn0
  rw [hd2];clear hn0 hd2
  go_enter Tryz.func194,Tryz.ntmps194
  go_wp2
  go_ret
  exact⟨by simp,B0⟩
 have hd:((ns.length:Int)==0)=true:=by simp;exact List.length_eq_zero_iff.1 hn0
 have hd2:(ns.length==0)=true:=by simpa using hn0
 rw [hd2];clear hn0 hd2
 go_enter Tryz.func194,Tryz.ntmps194
 go_wp2_with fail
 refine (H5.out _).mono ?_
 rintro e w1 ⟨rfl,rfl⟩;cases q5
 all_goals
  go_wp2
  go_ret
  exact⟨by simp,B0⟩
abbrev WP:=WayD × Value
def encW (p:WP):List Value:=[.int .i64 p.1.to,.int .i64 p.1.cost,p.2]
def Zbt:WayD:=⟨0,0,[]⟩
theorem Zbg (p:WP):(encW p).length=3:=rfl
def ZcI (W:World)(v:Value)(ps:List WP)(B:Nat):Prop:=ZaN encW 3 W v ps B/\∀ p∈ps,ZaM W p.2 p.1.hops B
theorem ZcI.shape {W:World}{v:Value}{ps:List WP}{B:Nat}(h:ZcI W v ps B):∃ a cap,v=.slice a ps.length cap:=by
 obtain⟨⟨a,cap,h,_⟩,_⟩:=h;exact⟨a,cap,h⟩
theorem ZcI.later {W W':World}{v:Value}{ps:List WP}{B C:Nat}(h:ZcI W v ps B)(hb:Below C W W')(hBC:B<=C):ZcI W' v ps B:=
 ⟨ZaE.later h.1 hb hBC,fun p hp=>ZaE.later (h.2 p hp) hb hBC⟩
theorem ZcI.more {W:World}{v:Value}{ps:List WP}{B C:Nat}(h:ZcI W v ps B)(hBC:B<=C):ZcI W v ps C:=
 ⟨ZaE.more h.1 hBC,fun p hp=>ZaE.more (h.2 p hp) hBC⟩
theorem ZcI.then {W W':World}{v:Value}{ps:List WP}(h:ZcI W v ps W.heap.size)(hb:Below W.heap.size W W'):ZcI W' v ps W'.heap.size:=(h.later hb (Nat.le_refl _)).more hb.size
def Zbv (W:World)(lo hi:Nat)(p:WP):Prop:=W.ownsRow lo 3 1 p.2 p.1.hops.length (flat intE p.1.hops)/\∀ k,p.2.ownBlock=some k->k<hi
def Zcz (p q:WP):Prop:=∀ k,p.2.ownBlock=some k->q.2.ownBlock≠some k
structure WaysOwn (W:World) (lo hi:Nat) (v:Value) (ps:List WP):Prop where
 row:W.ownsRow lo 194 3 v ps.length (flat encW ps)
 top:∀ k,v.ownBlock=some k->k<hi
 nears:∀ p∈ps,Zbv W lo hi p
 apart:ps.Pairwise Zcz
theorem Zbv.keep {W W':World}{lo hi:Nat}{p:WP}(h:Zbv W lo hi p)(hk:∀ k,lo<=k->k<hi->k<W.heap.size->W'.heap[k]? = W.heap[k]?):Zbv W' lo hi p:=
 ⟨Zan h.1 (fun k e=>hk k (h.1.lt k e).1 (h.2 k e) (h.1.lt k e).2),h.2⟩
theorem Zbv.wide {W:World}{lo hi lo' hi':Nat}{p:WP}(h:Zbv W lo hi p)(hl:lo'<=lo)(hh:hi<=hi'):Zbv W lo' hi' p:=
 ⟨Zaj h.1 hl,fun k e=>Nat.lt_of_lt_of_le (h.2 k e) hh⟩
theorem Zbv.at {W:World}{lo hi:Nat}{p:WP}(h:Zbv W lo hi p):ZaM W p.2 p.1.hops hi:=by
 have h1:=Zap h.1;obtain⟨a,cap,hv,h2⟩:=h1;refine⟨a,cap,hv,?_⟩
 rcases h2 with h0 | ⟨b,off,ha,hb1,hx⟩
 ·exact .inl h0
 ·exact .inr ⟨b,off,ha,h.2 b (by rw [hv,ha];rfl),hx⟩
theorem WaysOwn.keep {W W':World}{lo hi:Nat}{v:Value}{ps:List WP}(h:WaysOwn W lo hi v ps)(hk:∀ k,lo<=k->k<hi->k<W.heap.size->W'.heap[k]? = W.heap[k]?):WaysOwn W' lo hi v ps where
 row:=Zan h.row (fun k e=>hk k (h.row.lt k e).1 (h.top k e) (h.row.lt k e).2)
 top:=h.top
 nears:=fun p hp=>(h.nears p hp).keep hk
 apart:=h.apart
theorem WaysOwn.below {W W':World}{lo hi B:Nat}{v:Value}{ps:List WP}(h:WaysOwn W lo hi v ps)(hb:Below B W W')(hB:hi<=B):WaysOwn W' lo hi v ps:=h.keep (fun k _ h2 _=>hb.block k (by omega))
theorem WaysOwn.wide {W:World}{lo hi lo' hi':Nat}{v:Value}{ps:List WP}(h:WaysOwn W lo hi v ps)(hl:lo'<=lo)(hh:hi<=hi'):WaysOwn W lo' hi' v ps where
 row:=Zaj h.row hl
 top:=fun k e=>Nat.lt_of_lt_of_le (h.top k e) hh
 nears:=fun p hp=>(h.nears p hp).wide hl hh
 apart:=h.apart
theorem WaysOwn.at {W:World}{lo hi:Nat}{v:Value}{ps:List WP}(h:WaysOwn W lo hi v ps):ZcI W v ps hi:=by
 refine⟨?_,fun p hp=>(h.nears p hp).at⟩
 have h1:=Zap h.row;obtain⟨a,cap,hv,h2⟩:=h1;refine⟨a,cap,hv,?_⟩
 rcases h2 with h0 | ⟨b,off,ha,hb1,hx⟩
 ·exact .inl h0
 ·exact .inr ⟨b,off,ha,h.top b (by rw [hv,ha];rfl),hx⟩
theorem WaysOwn.frame {W W':World}{lo hi l2 h2:Nat}{v:Value}{ps:List WP}(h:WaysOwn W lo hi v ps)(hb:Frame l2 h2 W W')(hB:hi<=l2\/h2<=lo):WaysOwn W' lo hi v ps:=h.keep (fun k h1 h2 h3=>hb.block k h3 (by omega))
theorem Zlh {W:World}{lo hi:Nat}{ps:List WP}{p:WP}(h:ps.Pairwise Zcz)(hn:∀ q∈ps,Zbv W lo hi q)(hp:∀ k,p.2.ownBlock=some k->hi<=k):(ps++[p]).Pairwise Zcz:=by
 rw [List.pairwise_append];refine⟨h,by simp,?_⟩
 intro a ha b hb;have:b=p:=by simpa using hb
 subst this;intro k hk he;have h1:=(hn a ha).2 k hk;have h2:=hp k he;omega
def totW (ps:List WP):Nat:=(ps.map (fun p=>1+p.1.hops.length)).sum
theorem ZgE (p:WP)(ps:List WP):totW (p::ps)=1+p.1.hops.length+totW ps:=by simp [totW]
theorem Zld (ps:List WP):ps.length<=totW ps:=by
 induction ps with
 | nil=>simp [totW]
 | cons p ps ih=>rw [ZgE,List.length_cons];omega
theorem Zle {ps:List WP}{p:WP}(h:p∈ps):p.1.hops.length<=totW ps:=by
 induction ps with
 | nil=>simp at h
 | cons q ps ih=>
  rw [ZgE]
  rcases List.mem_cons.1 h with rfl | h1
  ·omega
  ·have:=ih h1;omega
theorem ZcI.cells {W:World}{v:Value}{ps:List WP}{B:Nat}(h:ZcI W v ps B)(i:Nat)(p:WP)(hp:ps[i]? = some p):
  ∃ b off cap,v=.slice (some ⟨b,off,none⟩) ps.length cap/\b<B/\W.cell? ⟨b,off+i*3,none⟩=some (.int .i64 p.1.to)/\W.cell? ⟨b,off+i*3+1,none⟩=some (.int .i64 p.1.cost)/\W.cell? ⟨b,off+i*3+2,none⟩=some p.2/\ZaM W p.2 p.1.hops B:=by
 obtain⟨b,off,cap,hv,hb,hc⟩:=ZaN.cell h.1 Zbg i p hp;exact⟨b,off,cap,hv,hb,hc 0 _ rfl,hc 1 _ rfl,hc 2 _ rfl,h.2 p (List.mem_of_getElem? hp)⟩
abbrev putW (W:World) (g o:Nat) (p:WP):World:=((W.setCell ⟨g,o,none⟩ (.int .i64 p.1.to)).setCell ⟨g,o+1,none⟩ (.int .i64 p.1.cost)).setCell ⟨g,o+2,none⟩ p.2
theorem Zhc (W:World)(g o:Nat)(p:WP):W.grownBy (putW W g o p) (some g):=Zah (Zah (Zaq W g _ _) (Zaq _ g _ _)) (Zaq _ g _ _)
theorem Znr {W:World}{base g cap n j:Nat}{xs:List WP}{p:WP}(h:W.ownsRow base 194 3 (.slice (some ⟨g,0,none⟩) n cap) n (flat encW xs))(hj:j<xs.length):
  (putW W g (j*3) p).ownsRow base 194 3 (.slice (some ⟨g,0,none⟩) n cap) n (flat encW (xs.set j p)):=by
 have e:(((flat encW xs).set (j*3) (.int .i64 p.1.to)).set (j*3+1) (.int .i64 p.1.cost)).set (j*3+2) p.2=flat encW (xs.set j p):=Zcr Zbg xs j p hj;rw [<-e];exact (((h.stored (j*3) _).1.stored (j*3+1) _).1.stored (j*3+2) _).1

theorem Ziu (ls:List Lk)(v:Int):ZaB ls v=Zbr (fun u=>decide (0<(ZdF ls v u).length)) 0 3:=by
 simp only [ZaB,Zbr,List.filter_cons,List.filter_nil,List.nil_append]
 repeat' split
 all_goals simp_all
theorem Zhe (n:Value)(v tv:Value)(ls:List Lk)(f:Int)(w:World)(hls:ls.length<=1048576)(hv:ZaS w v ls w.heap.size):
  Calls Tryz.prog 20 #[.agg #[n,v,tv],.int .i64 f] w fun e w'=>∃ x,e=.returned x/\w'.ownsRow w.heap.size 3 1 x (ZaB ls f).length (Za5 (ZaB ls f))/\Below w.heap.size w w':=by
 have HV:=hide hv;clear hv;rw [Ziu]
 go_enter Tryz.func20,Tryz.ntmps20
 go_wp2
 go_loopw [5,6] (fun x i wr=>∃ k:Nat,k<=3/\i=.int .i64 (0+(k:Int))/\Below w.heap.size w wr/\wr.heap[w.heap.size]? = some (.cells #[n,v,tv] 27)/\wr.ownsRow (w.heap.size+1) 3 1 x (Zbr (fun u=>decide (0<(ZdF ls f u).length)) 0 k).length (Za5 (Zbr (fun u=>decide (0<(ZdF ls f u).length)) 0 k))) (fun _ i _=>4-(intOf i).toNat)
 case atStart=>
  refine⟨0,by omega,rfl,Zas _ _,?_,?_⟩
  ·rw [Below.heap_alloc _ _ _ (show w.heap.size<(w.alloc (.cells #[n,v,tv] 27)).heap.size by simp),heap_alloc_new]
  ·have h0:=World.ownsRow_lit (base:=w.heap.size+1) (w.alloc (.cells #[n,v,tv] 27)) (#[]:Array Value) 0 (by simp) (by decide) (e:=3) (size:=1) rfl
   simpa [Zbr,Za5] using h0
 case round=>
  obtain⟨k,hk,rfl,hb,hx,hown⟩:=hrel;have c0:wr.cell? ⟨w.heap.size,0,none⟩=some n:=by rw [Zaa hx];rfl
  have c1:wr.cell? ⟨w.heap.size,1,none⟩=some v:=by rw [Zaa hx];rfl
  have c2:wr.cell? ⟨w.heap.size,2,none⟩=some tv:=by rw [Zaa hx];rfl
  have hxl:=Zab hx;have HX:=hide hx;have OW:=hide hown;clear hx hown;by_cases hlt:k<3
  ·go_wp2_with fail
   refine (ZnD n v tv ls f _ wr hls (HV.out.then hb)).mono ?_
   rintro e w1 ⟨x1,rfl,hox,b1⟩;obtain⟨a1,cp1,rfl⟩:=Zcs hox;clear hox;have hown1:=Zae OW.out b1 (Nat.le_refl _);have hx1:w1.heap[w.heap.size]? = some (.cells #[n,v,tv] 27):=by rw [b1.block _ hxl];exact HX.out
   have hb1:Below w.heap.size w w1:=hb.trans (b1.mono hb.size);have hz1:=b1.size;have hpl:=Zd0 (fun u=>decide (0<(ZdF ls f u).length)) 0 k
   have HX1:=hide hx1;obtain⟨l2,hl20⟩:∃ l2,l2=Zbr (fun u=>decide (0<(ZdF ls f u).length)) 0 (k+1):=⟨_,rfl⟩
   have HL20:=hide hl20;have hps:Hid (l2=Zbr (fun u=>decide (0<(ZdF ls f u).length)) 0 k++(if decide (0<(ZdF ls f (0+(k:Int))).length) then [0+(k:Int)] else [])):=hl20
   clear hl20;clear b1 hx1 c0 c1 c2 OW HX;generalize Zbr (fun u=>decide (0<(ZdF ls f u).length)) 0 k=l at hown1 hpl hps
   rw [Int.zero_add] at *;generalize (ZdF ls f (k:Int)).length=c at hps |-;by_cases hc:0<(c:Int)
   ·have hc':0<c:=by omega
    have hl2:l2=l++[(k:Int)]:=by rw [hps.out];simp [hc']
    clear hc';have HL2:=hide hl2;clear hl2 hps
    go_wp2_with (first
     | (at_builtin;refine Zbj _ rfl _ _ 28 rfl (w.heap.size+1) 3 Tryz.underlying28 Tryz.info3 u5 l (k:Int) rfl (hown1.alloc _) ⟨w1.heap.size,0,none⟩ 1 rfl ?_ (by omega) (by simp;omega) ?_))
    ·rw [add_zero',World.cell?_alloc_at _ _ _ _ rfl];rfl
    intro v' w4 l' hl' hown' hgrow;have hb4:Below w.heap.size w w4:=(hb1.alloc (by omega) _).grown hgrow (by simp;omega) (fun k hk=>by have:=(hown1.lt k hk).1;omega)
    have hx4:w4.heap[w.heap.size]? = some (.cells #[n,v,tv] 27):=by
     rw [hgrow.block _ (by simp;omega) (fun h=>by have:=(hown1.lt _ h.symm).1;omega),Below.heap_alloc _ _ _ (by omega)]
     exact HX1.out
    have e:l'=l2:=by rw [hl'.out,HL2.out]
    subst e;have OW2:=hide hown';have HX4:=hide hx4;clear hgrow hown' hx4 hown1
    go_wp2
    go_roundw
    case rel=>exact ⟨k+1,by omega,by go_num,hb4,HX4.out,by rw [<-HL20.out];exact OW2.out⟩
    case measure=>simp [intOf];omega
   ·have hc':¬0<c:=by omega
    have hl2:l2=l:=by rw [hps.out];simp [hc']
    clear hc';subst hl2;have OW2:=hide hown1;clear hown1 hps
    go_wp2
    go_roundw
    case rel=>exact ⟨k+1,by omega,by go_num,hb1,HX1.out,by rw [<-HL20.out];exact OW2.out⟩
    case measure=>simp [intOf];omega
  ·have hk':k=3:=by omega
   subst hk'
   go_wp2
   go_ret
   exact⟨_,rfl,ZeX OW.out (by omega),hb⟩
theorem Zke (n:Value)(v tv:Value)(ls:List Lk)(f:Int)(w:World)(hls:ls.length<=1048576)(hv:ZaS w v ls w.heap.size):
  Calls Tryz.prog 86 #[.agg #[n,v,tv],.int .i64 f] w fun e w'=>e=.returned (.bool (Ze9 ls f))/\Below w.heap.size w w':=by
 have HV:=hide hv;clear hv
 go_enter Tryz.func86,Tryz.ntmps86
 go_wp2_with fail
 refine (Zhe n v tv ls f _ hls (HV.out.then ((Below.refl _ _).alloc (Nat.le_refl _) _))).mono ?_
 rintro e w1 ⟨x,rfl,hox,b1⟩;have hb1:Below w.heap.size w w1:=((Below.refl w.heap.size w).alloc (Nat.le_refl _) _).trans (b1.mono (by simp))
 obtain⟨zs,hzs⟩:∃ zs,zs=ZaB ls f:=⟨_,rfl⟩;have hB:Ze9 ls f=(decide (1<zs.length)&&(zs.head? == some 0)):=by rw [hzs];rfl
 have HB:=hide hB;rw [<-hzs] at hox;clear hB hzs b1;by_cases h1:1<zs.length
 ·obtain ⟨g,cap,rfl,hg,hl⟩:=ZdZ hox (by omega)
  obtain⟨z,zr,rfl⟩:∃ z zr,zs=z::zr:=by
   cases zs with
   | nil=>simp at h1
   | cons z zr=>exact ⟨z,zr,rfl⟩
  have c0:w1.cell? ⟨g,0,none⟩=some (.int .i64 z):=by rw [hox.cellAt 0 (by omega)];rfl
  have hb:(decide (1<(z::zr).length)&&((z::zr).head? == some 0))=(z==0):=by
   rw [decide_eq_true h1];simp
  have HB2:Hid (Ze9 ls f=(z==0)):=HB.out.trans hb;generalize (z::zr).length=m at hox h1 hl |-;have h1':(1:Int)<(m:Int):=by omega
  have h0':(0:Int)<(m:Int):=by omega
  clear hox hb HB
  go_wp2
  go_ret
  exact⟨by rw [HB2.out];rfl,hb1⟩
 ·obtain ⟨a,cap,rfl⟩:=Zcs hox
  have hb:(decide (1<zs.length)&&(zs.head? == some 0))=false:=by rw [decide_eq_false h1];rfl
  have HB2:Hid (Ze9 ls f=false):=HB.out.trans hb;have h1':¬(1:Int)<(zs.length:Int):=by omega
  clear hox hb HB
  go_wp2
  go_ret
  exact⟨by rw [HB2.out];rfl,hb1⟩
theorem Tryz.infoBol:(Tryz.prog.info? 4).map (fun i=>(i.zero,i.size,i.bytes))=some (some (.bool false),1,1):=by kernel_rfl
theorem Zjj (v:Value)(ls:List Bool)(w:World)(hls:ls.length<=1048576)(hv:Zba w v ls w.heap.size):
  Calls Tryz.prog 44 #[v] w fun e w'=>∃ x,e=.returned x/\w'.ownsRow w.heap.size 4 1 x ls.length (flat blE ls)/\Below w.heap.size w w':=by
 obtain⟨a,cap,rfl⟩:=hv.shape;have HV:=hide hv;clear hv;obtain⟨i0,hi,hz0,hz1,hz2⟩:=info_parts Tryz.infoBol;have HI:=hide hi;have HZ:=hide hz0;clear hi hz0
 go_enter Tryz.func44,Tryz.ntmps44
 go_wp2_with (first
  | (refine ZbZ Zhz (by omega) _ rfl _ _ 46 rfl w.heap.size 4 i0 (.bool false) false rfl Tryz.underlying46 HI.out HZ.out hz1 ls.length rfl rfl (by rw [hz2];omega) (by unfold maxLen;omega) (Nat.le_refl _) ?_))
 intro w1 hown hg;have b1:Below w.heap.size w w1:=(Below.refl _ _).grown hg (Nat.le_refl _) (fun k hk=>by simp at hk)
 have OW:=hide hown;clear hown hg
 go_wp2
 go_loopw [4] (fun i wr=>∃ k:Nat,k<=ls.length/\i=.int .i64 k/\wr.ownsRow w.heap.size 4 1 (.slice (some ⟨w.heap.size,0,none⟩) ls.length ls.length) ls.length (flat blE (part ls false k))/\Below w.heap.size w wr) (fun i _=>ls.length-(intOf i).toNat)
 case atStart=>exact ⟨0,by omega,rfl,(by simpa [part] using OW.out),b1⟩
 case round=>
  obtain⟨k,hk,rfl,hown,hnx⟩:=hrel;by_cases hlt:k<ls.length
  ·obtain ⟨l,hl⟩:∃ l,ls[k]? = some l:=⟨ls[k],List.getElem?_eq_getElem hlt⟩
   obtain⟨b,off,cap',hve,hbb,c0⟩:=HV.out.cell k l hl;cases hve
   rw [<-hnx.cell (p:=⟨b,off+k,none⟩) hbb] at c0;have HL:=hide hl;have hki:(0:Int)<=(k:Int):=by omega
   have hkj:(k:Int)<(ls.length:Int):=by omega
   have hex:∃ u,wr.cell? ⟨w.heap.size,k,none⟩=some u:=by
    rw [hown.cellAt _ (by omega)]
    have hln:k<(flat blE (part ls false k)).length:=by rw [hown.1];omega
    exact⟨_,List.getElem?_eq_getElem hln⟩
   obtain⟨u0,d0⟩:=hex;have f0:=hown.frozenAt k;have OW3:=hide hown;clear hown hl
   go_wp2
   refine⟨⟨k+1,by omega,by go_num,?_,hnx.setCell (Nat.le_refl _) _⟩,by simp [intOf];omega⟩
   have h4:=(OW3.out.stored k (.bool l)).1;have e4:(flat blE (part ls false k)).set k (.bool l)=flat blE (part ls false (k+1)):=by
    rw [<-Zgo ls false l k HL.out];have e5:=Zcr Zhz (part ls false k) k l (by rw [Zh5 _ _ _ hk];exact hlt)
    rw [Nat.mul_one] at e5;rw [<-e5]
    rfl
   rw [e4] at h4;exact h4
  ·have hkn:k=ls.length:=by omega
   have KN:=hide hkn;have OW2:=hide hown;clear hkn hown
   go_wp2
   go_ret
   refine⟨_,rfl,?_,hnx⟩
   have h:=OW2.out;rw [KN.out,Zh4] at h;exact h
theorem Zmy (v1 v2:Value)(xs:List Bool)(w:World)(h1:Zba w v1 xs w.heap.size)(h2:Zba w v2 xs w.heap.size)(hn:xs.length<=1048576):
  Calls Tryz.prog 45 #[v1,v2] w fun e w'=>e=.returned (.bool true)/\Below w.heap.size w w':=by
 obtain⟨a1,c1,rfl⟩:=h1.shape;obtain⟨a2,c2,rfl⟩:=h2.shape;have K1:=hide h1;have K2:=hide h2;clear h1 h2
 go_enter Tryz.func45,Tryz.ntmps45
 go_wp2
 go_loopw [5] (fun i wr=>∃ k:Nat,k<=xs.length/\i=.int .i64 k/\Below w.heap.size w wr) (fun i _=>xs.length-(intOf i).toNat)
 case atStart=>exact ⟨0,by omega,rfl,Below.refl _ _⟩
 case round=>
  obtain⟨k,hk,rfl,hnx⟩:=hrel;by_cases hlt:k<xs.length
  ·obtain ⟨x,hx⟩:∃ x,xs[k]? = some x:=⟨xs[k],List.getElem?_eq_getElem hlt⟩
   obtain⟨b1,o1,cp1,hv1,hb1,d1⟩:=K1.out.cell k x hx;cases hv1
   obtain⟨b2,o2,cp2,hv2,hb2,d2⟩:=K2.out.cell k x hx;cases hv2
   rw [<-hnx.cell (p:=⟨b1,o1+k,none⟩) hb1] at d1;rw [<-hnx.cell (p:=⟨b2,o2+k,none⟩) hb2] at d2;have hki:(0:Int)<=(k:Int):=by omega
   have hkj:(k:Int)<(xs.length:Int):=by omega
   clear hx;cases x
   ·go_wp2
    go_quiet (fail)
    go_wp2
    go_roundw
    case rel=>exact ⟨k+1,by omega,by go_num,ZfP hnx _⟩
    case measure=>simp [intOf];omega
   ·go_wp2
    go_quiet (fail)
    go_wp2
    go_roundw
    case rel=>exact ⟨k+1,by omega,by go_num,ZfP hnx _⟩
    case measure=>simp [intOf];omega
  ·go_wp2
   go_ret
   exact⟨rfl,hnx⟩
theorem ZjZ (v:Value)(base n:Nat)(xs:List Value)(q:Int)(w:World)(h1:w.ownsRow base 4 1 v n xs)(hn:n<=1048576)(hq:0<=q)(hq2:q<=1000000000):
  Calls Tryz.prog 46 #[v,.int .i64 q] w fun e w'=>e=.returned (.int .i64 (q+(n:Int)))/\w.grownBy w' v.ownBlock:=by
 obtain⟨a1,c1,rfl⟩:=Zac h1;have R0:=hide (show ∃ ys,w.ownsRow base 4 1 (.slice a1 n c1) n ys from ⟨xs,h1⟩)
 have G0:=hide (Zbd w (Value.slice a1 n c1).ownBlock);clear h1
 go_enter Tryz.func46,Tryz.ntmps46
 go_wp2
 go_loopw [5,1] (fun i r wr=>∃ k:Nat,k<=n/\i=.int .i64 k/\r=.int .i64 (q+(k:Int))/\Hid (∃ ys,wr.ownsRow base 4 1 (.slice a1 n c1) n ys)/\Hid (w.grownBy wr (Value.slice a1 n c1).ownBlock)) (fun i _ _=>n-(intOf i).toNat)
 case atStart=>exact ⟨0,by omega,rfl,by simp,R0,G0⟩
 case round=>
  obtain⟨k,hk,rfl,rfl,RW,GW⟩:=hrel;by_cases hlt:k<n
  ·obtain ⟨ys,hown⟩:=RW.out
   obtain⟨g,cap,hve,hg1,hg2⟩:=ZbQ hown (by omega)
   cases hve
   have hki:(0:Int)<=(k:Int):=by omega
   have hkj:(k:Int)<(n:Int):=by omega
   obtain⟨u,hu⟩:=ZaG hown k (by omega)
   have hf:=hown.frozenAt k;have HST:=hide (fun x=>(hown.stored k x).1)
   have HG:=hide (fun x=>Zah GW.out (Zaq wr g k x))
   clear hown
   go_wp2
   go_roundw
   case rel=>exact ⟨k+1,by omega,by go_num,by go_num,hide ⟨_,HST.out _⟩,hide (HG.out _)⟩
   case measure=>simp [intOf];omega
  ·have KN:=hide (show k=n by omega)
   go_wp2
   go_ret
   exact⟨Zb6 (by rw [KN.out]),GW.out⟩
end Go.Proofs.YtadokhjefnkajaaGreat
