/-
  Nets NearK RecK MarkN AppK RowsK
-/
import Derived.Test.YtnndlmodjkplnaaGreatDoorFw1
import Derived.Deep.RegionHeld3
namespace Go.Proofs.YtnndlmodjkplnaaGreatDoor
open Go.RowKit
set_option linter.unusedSimpArgs false
set_option linter.unusedVariables false
set_option maxRecDepth 100000
set_option maxHeartbeats 8000000
structure NetD where
 n:Int
 ls:List Lk
 ts:List Th
 deriving DecidableEq
def Zhy (W:World)(v:Value)(x:NetD)(B:Nat):Prop:=∃ v1 v2,v=.agg #[.int .i64 x.n,v1,v2]/\Zbf W v1 x.ls B/\ZaP W v2 x.ts B
theorem Zhy.then {W W':World}{v:Value}{x:NetD}(h:Zhy W v x W.heap.size)(hb:Below W.heap.size W W'):Zhy W' v x W'.heap.size:=by
 obtain⟨v1,v2,hv,h1,h2⟩:=h;exact⟨v1,v2,hv,h1.then hb,h2.then hb⟩
theorem Zey (a:Option Addr)(n c:Nat)(q:Int)(w:World)(hn:(n:Int)<=9223372036854775807)(hq0:0<=q)(hq:q<=1048576):
  Calls Tryz.prog 74 #[.slice a n c,.int .i64 q] w fun e w'=>e=.returned (.int .i64 (if q-(n:Int)<0 then -1 else q-(n:Int)))/\w=w':=by
 by_cases h:q-(n:Int)<0
 ·rw [if_pos h]
  go_enter Tryz.func74,Tryz.ntmps74
  go_wp2
  go_ret
  exact⟨rfl,rfl⟩
 ·rw [if_neg h]
  go_enter Tryz.func74,Tryz.ntmps74
  go_wp2
  go_ret
  exact⟨rfl,rfl⟩
theorem ZfB (a:Option Addr)(n c:Nat)(q:Int)(w:World)(hn:(n:Int)<=9223372036854775807)(hq0:0<=q)(hq:q<=1048576):
  Calls Tryz.prog 75 #[.slice a n c,.int .i64 q] w fun e w'=>e=.returned (.int .i64 (if q-(n:Int)<0 then -1 else q-(n:Int)))/\w=w':=by
 by_cases h:q-(n:Int)<0
 ·rw [if_pos h]
  go_enter Tryz.func75,Tryz.ntmps75
  go_wp2
  go_ret
  exact⟨rfl,rfl⟩
 ·rw [if_neg h]
  go_enter Tryz.func75,Tryz.ntmps75
  go_wp2
  go_ret
  exact⟨rfl,rfl⟩
def szN (q:Int)(n m:Nat):Int:=if q-(n:Int)<0 then -1 else if q-(n:Int)-(m:Int)<0 then -1 else q-(n:Int)-(m:Int)
theorem Zn3 (v0:Value)(a1 a2:Option Addr)(n m c1 c2:Nat)(q:Int)(w:World)(hn:(n:Int)<=9223372036854775807)(hm:(m:Int)<=9223372036854775807)(hq0:0<=q)(hq:q<=1048576):
  Calls Tryz.prog 40 #[.agg #[v0,.slice a1 n c1,.slice a2 m c2],.int .i64 q] w fun e w'=>e=.returned (.int .i64 (szN q n m))/\Below w.heap.size w w':=by
 unfold szN;by_cases h:q-(n:Int)<0
 ·rw [if_pos h]
  go_enter Tryz.func40,Tryz.ntmps40
  go_wp2_with fail
  refine (Zey a1 n c1 q _ hn hq0 hq).mono ?_
  rw [if_pos h];rintro e w1 ⟨rfl,rfl⟩
  go_wp2
  go_ret
  exact⟨rfl,(Below.refl _ _).alloc (Nat.le_refl _) _⟩
 ·rw [if_neg h]
  by_cases h2:q-(n:Int)-(m:Int)<0
  ·rw [if_pos h2]
   go_enter Tryz.func40,Tryz.ntmps40
   go_wp2_with fail
   refine (Zey a1 n c1 q _ hn hq0 hq).mono ?_
   rw [if_neg (by omega)]
   rintro e w1 ⟨rfl,rfl⟩
   go_wp2_with fail
   refine (ZfB a2 m c2 _ _ hm (by omega) (by omega)).mono ?_
   rw [if_pos h2];rintro e w1 ⟨rfl,rfl⟩
   go_wp2
   go_ret
   exact⟨rfl,(Below.refl _ _).alloc (Nat.le_refl _) _⟩
  ·rw [if_neg h2]
   go_enter Tryz.func40,Tryz.ntmps40
   go_wp2_with fail
   refine (Zey a1 n c1 q _ hn hq0 hq).mono ?_
   rw [if_neg (by omega)]
   rintro e w1 ⟨rfl,rfl⟩
   go_wp2_with fail
   refine (ZfB a2 m c2 _ _ hm (by omega) (by omega)).mono ?_
   rw [if_neg (by omega)]
   rintro e w1 ⟨rfl,rfl⟩
   go_wp2
   go_ret
   exact⟨rfl,(Below.refl _ _).alloc (Nat.le_refl _) _⟩
theorem Zn9 (v:Value)(x:NetD)(w:World)(hl:x.ls.length<=1048576)(ht:x.ts.length<=1048576)(hv:Zhy w v x w.heap.size):
  Calls Tryz.prog 46 #[v] w fun e w'=>∃ v1 v2,e=.returned (.agg #[.int .i64 x.n,v1,v2])/\w'.ownsRow w.heap.size 84 4 v1 x.ls.length (flat lkE x.ls)/\w'.ownsRow w.heap.size 123 4 v2 x.ts.length (flat thE x.ts)/\Below w.heap.size w w':=by
 obtain⟨u1,u2,rfl,h1,h2⟩:=hv;obtain⟨a1,c1,rfl⟩:=h1.shape;obtain⟨a2,c2,rfl⟩:=h2.shape;have H1:=hide h1;have H2:=hide h2;clear h1 h2
 go_enter Tryz.func46,Tryz.ntmps46
 go_wp2_with fail
 have hw0:=Zfa w (.cells #[.int .i64 x.n,.slice a1 x.ls.length c1,.slice a2 x.ts.length c2] 25) (.cells #[.int .i64 0,.slice none 0 0,.slice none 0 0] 38) (.cells #[.int .i64 x.n,.slice none 0 0,.slice none 0 0] 38);have hw1:=Zfb w (.cells #[.int .i64 x.n,.slice a1 x.ls.length c1,.slice a2 x.ts.length c2] 25) (.cells #[.int .i64 0,.slice none 0 0,.slice none 0 0] 38) (.cells #[.int .i64 x.n,.slice none 0 0,.slice none 0 0] 38);have hw2:=Zfc w (.cells #[.int .i64 x.n,.slice a1 x.ls.length c1,.slice a2 x.ts.length c2] 25) (.cells #[.int .i64 0,.slice none 0 0,.slice none 0 0] 38) (.cells #[.int .i64 x.n,.slice none 0 0,.slice none 0 0] 38);have bw:=Zbk (w:=w) (.cells #[.int .i64 x.n,.slice a1 x.ls.length c1,.slice a2 x.ts.length c2] 25) (.cells #[.int .i64 0,.slice none 0 0,.slice none 0 0] 38) (.cells #[.int .i64 x.n,.slice none 0 0,.slice none 0 0] 38);generalize (((w.alloc (.cells #[.int .i64 x.n,.slice a1 x.ls.length c1,.slice a2 x.ts.length c2] 25)).alloc (.cells #[.int .i64 0,.slice none 0 0,.slice none 0 0] 38)).alloc (.cells #[.int .i64 x.n,.slice none 0 0,.slice none 0 0] 38))=w1 at *;refine (Zkz _ x.ls w1 hl (H1.out.then bw)).mono ?_
 rintro e w2 ⟨v1,rfl,ho1,b2⟩;obtain⟨p1,q1,rfl⟩:=Zac ho1;have l2:=Zab hw2;rw [<-b2.block _ (Zab hw0)] at hw0;rw [<-b2.block _ (Zab hw1)] at hw1;rw [<-b2.block _ l2] at hw2;have s1:=Zaa hw0 2;have s2:=Zaa hw2 1;have f2:=Zae hw2 1;simp at s1 s2
 have hb12:w.heap.size<=w1.heap.size:=bw.size;have hb22:w1.heap.size<=w2.heap.size:=b2.size;have bw2:Below w.heap.size w w2:=bw.trans (b2.mono hb12);have O1:=hide ho1;have HW0:=hide hw0;have HW1:=hide hw1;have HW2:=hide hw2;clear ho1 hw0 hw1 hw2
 go_wp2_with fail
 have o1:=ZaM (p:=w.heap.size+1+1) (j:=1) (u:=.slice p1 x.ls.length q1) O1.out (by omega)
 have g0:(w2.setCell ⟨w.heap.size+1+1,1,none⟩ (.slice p1 x.ls.length q1)).heap[w.heap.size+1]? = some (.cells #[.int .i64 0,.slice none 0 0,.slice none 0 0] 38):=by
  rw [heap_setCell_other w2 ⟨w.heap.size+1+1,1,none⟩ _ _ (by show w.heap.size+1≠w.heap.size+1+1;omega)];exact HW1.out
 have g2:(w2.setCell ⟨w.heap.size+1+1,1,none⟩ (.slice p1 x.ls.length q1)).heap[w.heap.size+1+1]? = some (.cells #[.int .i64 x.n,.slice p1 x.ls.length q1,.slice none 0 0] 38):=by
  rw [heap_setCell_same w2 _ 1 _ _ _ HW2.out];rfl
 have bw3:Below w.heap.size w (w2.setCell ⟨w.heap.size+1+1,1,none⟩ (.slice p1 x.ls.length q1)):=bw2.setCell (by show w.heap.size<=w.heap.size+1+1;omega) _
 have z3:(w2.setCell ⟨w.heap.size+1+1,1,none⟩ (.slice p1 x.ls.length q1)).heap.size=w2.heap.size:=by simp
 generalize (w2.setCell ⟨w.heap.size+1+1,1,none⟩ (.slice p1 x.ls.length q1))=w3 at *;clear s1 s2 f2 HW0 HW1 HW2 O1;refine (Zjx _ x.ts w3 ht (H2.out.then bw3)).mono ?_
 rintro e w4 ⟨v2,rfl,ho2,b4⟩;obtain⟨p2,q2,rfl⟩:=Zac ho2;have hl1:w.heap.size+1+1<w3.heap.size:=Zab g2;rw [<-b4.block _ (Zab g0)] at g0;rw [<-b4.block _ hl1] at g2;have o1':=Zaf o1 b4 (Nat.le_refl _);have bw4:Below w.heap.size w w4:=bw3.trans (b4.mono bw3.size);have r0:=Zaa g0 0;have r1:=Zaa g0 1;have r2:=Zaa g0 2;have t0:=Zaa g2 0;have t1:=Zaa g2 1;have t2:=Zaa g2 2;have f0:=Zae g0 0;have f1:=Zae g0 1;have f2:=Zae g0 2;have e2:=Zae g2 2;simp at r0 r1 r2 t0 t1 t2
 have hz4:=b4.size;have O1:=hide o1';have O2:=hide ho2;have G0:=hide g0;clear o1 o1' ho2 g0 g2
 go_wp2
 have hfin:((((w4.setCell ⟨w.heap.size+1+1,2,none⟩ (.slice p2 x.ts.length q2)).setCell ⟨w.heap.size+1,0,none⟩ (.int .i64 x.n)).setCell ⟨w.heap.size+1,1,none⟩ (.slice p1 x.ls.length q1)).setCell ⟨w.heap.size+1,2,none⟩ (.slice p2 x.ts.length q2)).heap[w.heap.size+1]? = some (.cells #[.int .i64 x.n,.slice p1 x.ls.length q1,.slice p2 x.ts.length q2] 38):=by
  have k0:(w4.setCell ⟨w.heap.size+1+1,2,none⟩ (.slice p2 x.ts.length q2)).heap[w.heap.size+1]? = some (.cells #[.int .i64 0,.slice none 0 0,.slice none 0 0] 38):=by
   rw [heap_setCell_other w4 ⟨w.heap.size+1+1,2,none⟩ _ _ (by show w.heap.size+1≠w.heap.size+1+1;omega)];exact G0.out
  have k1:=heap_setCell_same _ _ 0 _ _ (.int .i64 x.n) k0;have k2:=heap_setCell_same _ _ 1 _ _ (.slice p1 x.ls.length q1) k1;have k3:=heap_setCell_same _ _ 2 _ _ (.slice p2 x.ts.length q2) k2;exact k3
 try simp only [Exit.inBlock,Exit.then]
 refine bodyPost_ret (results_cell_row rfl _ _ (w.heap.size+1) 38 #[.int .i64 x.n,.slice p1 x.ls.length q1,.slice p2 x.ts.length q2] (0,0) _ rfl hfin Tryz.underlying38 rfl (by kernel_rfl)) rfl ?_
 refine⟨_,_,rfl,Zah (ZaM (ZaM (ZaM (ZaM O1.out (by omega)) (by omega)) (by omega)) (by omega)) (by omega),Zah (ZaM (ZaM (ZaM (ZaM O2.out (by omega)) (by omega)) (by omega)) (by omega)) (by omega),?_⟩
 exact (((bw4.setCell (by show w.heap.size<=w.heap.size+1+1;omega) _).setCell (by show w.heap.size<=w.heap.size+1;omega) _).setCell (by show w.heap.size<=w.heap.size+1;omega) _).setCell (by show w.heap.size<=w.heap.size+1;omega) _
theorem Zm3 (v1 v2:Value)(x y:NetD)(w:World)(h1:Zhy w v1 x w.heap.size)(h2:Zhy w v2 y w.heap.size)(hl:x.ls.length<=1048576)(ht:x.ts.length<=1048576):
  Calls Tryz.prog 57 #[v1,v2] w fun e w'=>e=.returned (.bool (decide (x=y)))/\Below w.heap.size w w':=by
 obtain⟨n,ls,ts⟩:=x;obtain⟨m,ls',ts'⟩:=y;obtain⟨a1,a2,rfl,k1,k2⟩:=h1;obtain⟨b1,b2,rfl,j1,j2⟩:=h2;have K1:=hide k1;have K2:=hide k2;have J1:=hide j1;have J2:=hide j2;clear k1 k2 j1 j2;by_cases hnm:n=m
 ·subst hnm
  go_enter Tryz.func57,Tryz.ntmps57
  go_wp2_with fail
  refine (ZjR a1 b1 ls ls' _ (K1.out.then (Zan _ _)) (J1.out.then (Zan _ _)) hl).mono ?_
  rintro e w1 ⟨rfl,bb1⟩;have bw1:Below w.heap.size w w1:=(Zan _ _).trans (bb1.mono (by simp;omega))
  have hw0:w1.heap[w.heap.size]? = some (.cells #[.int .i64 n,a1,a2] 38):=by
   rw [bb1.block _ (by simp;omega),Below.heap_alloc _ _ _ (by simp),heap_alloc_new]
  have hw1:w1.heap[w.heap.size+1]? = some (.cells #[.int .i64 n,b1,b2] 38):=by
   rw [bb1.block _ (by simp)]
   have:=heap_alloc_new (w.alloc (.cells #[.int .i64 n,a1,a2] 38)) (.cells #[.int .i64 n,b1,b2] 38)
   simpa using this
  have s1:=Zaa hw0 2;have s2:=Zaa hw1 2;simp at s1 s2
  clear bb1 hw0 hw1;by_cases hls:ls=ls'
  ·subst hls
   have hd:decide (ls=ls)=true:=by simp
   rw [hd];clear hd
   go_wp2_with fail
   refine (ZiI a2 b2 ts ts' _ (K2.out.then bw1) (J2.out.then bw1) ht).mono ?_
   rintro e w2 ⟨rfl,bb2⟩;have bw2:Below w.heap.size w w2:=bw1.trans (bb2.mono bw1.size);by_cases hts:ts=ts'
   ·subst hts
    have hd:decide (ts=ts)=true:=by simp
    rw [hd];clear hd
    go_wp2
    go_ret
    exact⟨by simp,bw2⟩
   ·rw [decide_eq_false hts]
    have hne:decide (({ n:=n,ls:=ls,ts:=ts }:NetD) = { n:=n,ls:=ls,ts:=ts' })=false:=decide_eq_false (fun h=>by cases h;exact hts rfl)
    have HNE:=hide hne;clear hne
    go_wp2
    go_ret
    exact⟨by rw [HNE.out];rfl,bw2⟩
  ·rw [decide_eq_false hls]
   have hne:decide (({ n:=n,ls:=ls,ts:=ts }:NetD) = { n:=n,ls:=ls',ts:=ts' })=false:=decide_eq_false (fun h=>by cases h;exact hls rfl)
   have HNE:=hide hne;clear hne
   go_wp2
   go_ret
   exact⟨by rw [HNE.out];rfl,bw1⟩
 ·have hd:(n != m)=true:=by simpa using hnm
  have hne:decide (({ n:=n,ls:=ls,ts:=ts }:NetD) = { n:=m,ls:=ls',ts:=ts' })=false:=decide_eq_false (fun h=>by cases h;exact hnm rfl)
  rw [hne];clear hne
  go_enter Tryz.func57,Tryz.ntmps57
  go_wp2
  go_ret
  exact⟨rfl,Zan _ _⟩
structure Nr where
 to:Int
 c:Int
 deriving DecidableEq
instance:Inhabited Nr:=⟨⟨0,0⟩⟩
def nrV (l:Nr):Value:=.agg #[.int .i64 l.to,.int .i64 l.c]
def nrE (l:Nr):List Value:=[.int .i64 l.to,.int .i64 l.c]
theorem Zgj (l:Nr):(nrE l).length=2:=rfl
def ZaB (W:World)(v:Value)(ls:List Nr)(B:Nat):Prop:=ZaD nrE 2 W v ls B
theorem ZaB.then {W W':World}{v:Value}{ls:List Nr}(h:ZaB W v ls W.heap.size)(hb:Below W.heap.size W W'):ZaB W' v ls W'.heap.size:=ZaL.then h hb
theorem ZaB.shape {W:World}{v:Value}{ls:List Nr}{B:Nat}(h:ZaB W v ls B):∃ a cap,v=.slice a ls.length cap:=by obtain ⟨a,cap,h,_⟩:=h;exact⟨a,cap,h⟩
theorem ZaB.cells {W:World}{v:Value}{ls:List Nr}{B:Nat}(h:ZaB W v ls B)(i:Nat)(l:Nr)(hl:ls[i]? = some l):
  ∃ b off cap,v=.slice (some ⟨b,off,none⟩) ls.length cap/\b<B/\W.cell? ⟨b,off+i*2,none⟩=some (.int .i64 l.to)/\W.cell? ⟨b,off+i*2+1,none⟩=some (.int .i64 l.c):=by
 obtain⟨b,off,cap,hv,hb,hc⟩:=ZaD.cell h Zgj i l hl;exact⟨b,off,cap,hv,hb,hc 0 _ rfl,hc 1 _ rfl⟩
theorem Zmz (l:Nr)(w:World):Calls Tryz.prog 156 #[nrV l] w fun e w'=>e=.returned (nrV l)/\Below w.heap.size w w':=by
 obtain⟨a,b⟩:=l;unfold nrV
 go_enter Tryz.func156,Tryz.ntmps156
 go_wp2
 go_returns
 exact⟨rfl,Zbk _ _ _⟩
theorem Zlw (l m:Nr)(w:World):Calls Tryz.prog 168 #[nrV l,nrV m] w fun e w'=>e=.returned (.bool (decide (l=m)))/\Below w.heap.size w w':=by
 obtain⟨a,b⟩:=l;obtain⟨a',b'⟩:=m;unfold nrV
 go_enter Tryz.func168,Tryz.ntmps168
 go_wp2
 all_goals go_returns
 all_goals refine ⟨?_,Zan _ _⟩
 all_goals first
  | exact ZaA (fun h=>by cases h;simp_all)
  | exact ZaV (by simp_all)
def nr0:Nr:=⟨0,0⟩
theorem Tryz.infoNr:(Tryz.prog.info? 225).map (fun i=>(i.zero,i.size,i.bytes))=some (some (nrV nr0),2,16):=by kernel_rfl
theorem ZkA (v:Value)(ls:List Nr)(w:World)(hls:ls.length<=1048576)(hv:ZaB w v ls w.heap.size):
  Calls Tryz.prog 122 #[v] w fun e w'=>∃ x,e=.returned x/\w'.ownsRow w.heap.size 225 2 x ls.length (flat nrE ls)/\Below w.heap.size w w':=by
 obtain⟨a,cap,rfl⟩:=hv.shape;have HV:=hide hv;clear hv;obtain⟨i0,hi,hz0,hz1,hz2⟩:=info_parts Tryz.infoNr;have HI:=hide hi;have HZ:=hide hz0;clear hi hz0
 go_enter Tryz.func122,Tryz.ntmps122
 go_wp2_with (first
  | (refine Za8 Zgj (by omega) _ rfl _ _ 126 rfl w.heap.size 225 i0 (nrV nr0) nr0 rfl Tryz.underlying126 HI.out HZ.out hz1 ls.length rfl rfl (by rw [hz2];omega) (by unfold maxLen;omega) (Nat.le_refl _) ?_))
 intro w1 hown hg;have b1:Below w.heap.size w w1:=(Below.refl _ _).grown hg (Nat.le_refl _) (fun k hk=>by simp at hk)
 have hg1:w.heap.size<w1.heap.size:=by
  rcases hown.2 with ⟨h0,_⟩ | ⟨g,cp,cur,hv,_,hh,_⟩
  ·cases h0
  ·cases hv;exact Zab hh
 have OW:=hide hown;clear hown hg
 go_wp2
 go_loopw [4] (fun i wr=>∃ k:Nat,k<=ls.length/\i=.int .i64 k/\wr.ownsRow w.heap.size 225 2 (.slice (some ⟨w.heap.size,0,none⟩) ls.length ls.length) ls.length (flat nrE (part ls nr0 k))/\Below w.heap.size w wr) (fun i _=>ls.length-(intOf i).toNat)
 case atStart=>exact ⟨0,by omega,rfl,(by simpa [part] using OW.out),b1⟩
 case round=>
  obtain⟨k,hk,rfl,hown,hnx⟩:=hrel;by_cases hlt:k<ls.length
  ·obtain ⟨l,hl⟩:∃ l,ls[k]? = some l:=⟨ls[k],List.getElem?_eq_getElem hlt⟩
   obtain⟨b,off,cap',hve,hbb,c0,c1⟩:=HV.out.cells k l hl;cases hve
   rw [<-hnx.cell (p:=⟨b,off+k*2,none⟩) hbb] at c0;rw [<-hnx.cell (p:=⟨b,off+k*2+1,none⟩) hbb] at c1;have HL:=hide hl;have OW2:=hide hown;clear hl hown;have hki:(0:Int)<=(k:Int):=by omega
   have hkj:(k:Int)<(ls.length:Int):=by omega
   have hto:=Zmz l;unfold nrV at hto;have HTO:=hide hto;clear hto
   go_wp2_with fail
   refine (HTO.out _).mono ?_
   rintro e w2 ⟨rfl,b2⟩;have hown2:=Zaf OW2.out b2 (Nat.le_refl _);have hex:∀ r,r<2->∃ u,w2.cell? ⟨w.heap.size,k*2+r,none⟩=some u:=fun r hr=>by
    have hj:k*2+r<ls.length*2:=by omega
    rw [hown2.cellAt _ hj];have hln:k*2+r<(flat nrE (part ls nr0 k)).length:=by rw [hown2.1];exact hj
    exact⟨_,List.getElem?_eq_getElem hln⟩
   obtain⟨u0,d0⟩:=hex 0 (by omega)
   obtain⟨u1,d1⟩:=hex 1 (by omega)
   rw [Nat.add_zero] at d0;have f0:=hown2.frozenAt (k*2);have f1:=hown2.frozenAt (k*2+1);have OW3:=hide hown2;clear hown2 hex
   go_wp2
   refine⟨⟨k+1,by omega,by go_num,?_,((hnx.trans (b2.mono hnx.size)).setCell (Nat.le_refl _) _).setCell (Nat.le_refl _) _⟩,by simp [intOf];omega⟩
   have h4:=((OW3.out.stored (k*2) (.int .i64 l.to)).1.stored (k*2+1) (.int .i64 l.c)).1;have e4:((flat nrE (part ls nr0 k)).set (k*2) (.int .i64 l.to)).set (k*2+1) (.int .i64 l.c)=flat nrE (part ls nr0 (k+1)):=by
    rw [<-ZdN ls nr0 l k HL.out, <-ZbQ Zgj _ _ _ (by rw [ZeU _ _ _ hk];exact hlt)]
    rfl
   rw [e4] at h4;exact h4
  ·have hkn:k=ls.length:=by omega
   have KN:=hide hkn;have OW2:=hide hown;clear hkn hown
   go_wp2
   go_ret
   refine⟨_,rfl,?_,hnx⟩
   have h:=OW2.out;rw [KN.out,ZeT] at h;exact h
theorem ZjS (v1 v2:Value)(xs ys:List Nr)(w:World)(h1:ZaB w v1 xs w.heap.size)(h2:ZaB w v2 ys w.heap.size)(hn:xs.length<=1048576):
  Calls Tryz.prog 135 #[v1,v2] w fun e w'=>e=.returned (.bool (decide (xs=ys)))/\Below w.heap.size w w':=by
 obtain⟨a1,c1,rfl⟩:=h1.shape;obtain⟨a2,c2,rfl⟩:=h2.shape;by_cases hl:xs.length=ys.length
 ·have K1:=hide h1
  have K2:=hide h2;have HLN:=hide hl;rw [<-hl];clear h1 h2 hl
  go_enter Tryz.func135,Tryz.ntmps135
  go_wp2
  go_loopw [5] (fun i wr=>∃ k:Nat,k<=xs.length/\i=.int .i64 k/\(∀ j,j<k->xs[j]? = ys[j]?)/\Below w.heap.size w wr) (fun i _=>xs.length-(intOf i).toNat)
  case atStart=>exact ⟨0,by omega,rfl,by omega,Below.refl _ _⟩
  case round=>
   obtain⟨k,hk,rfl,hall,hnx⟩:=hrel;have HALL:=hide hall;clear hall;by_cases hlt:k<xs.length
   ·obtain ⟨x,hx⟩:∃ l,xs[k]? = some l:=⟨xs[k],List.getElem?_eq_getElem hlt⟩
    obtain⟨y,hy⟩:∃ l,ys[k]? = some l:=⟨ys[k],List.getElem?_eq_getElem (by have:=HLN.out;omega)⟩
    obtain⟨b1,o1,cp1,hv1,hb1,c0,c1'⟩:=K1.out.cells k x hx;obtain⟨b2,o2,cp2,hv2,hb2,d0,d1⟩:=K2.out.cells k y hy;cases hv1
    cases hv2
    rw [<-hnx.cell (p:=⟨b1,o1+k*2,none⟩) hb1] at c0;rw [<-hnx.cell (p:=⟨b1,o1+k*2+1,none⟩) hb1] at c1';rw [<-hnx.cell (p:=⟨b2,o2+k*2,none⟩) hb2] at d0;rw [<-hnx.cell (p:=⟨b2,o2+k*2+1,none⟩) hb2] at d1;have hzr:=hnx.size;have hb1':b1<wr.heap.size:=by omega
    have hb2':b2<wr.heap.size:=by omega
    have hki:(0:Int)<=(k:Int):=by omega
    have hkj:(k:Int)<(xs.length:Int):=by omega
    have hq:=Zlw x y;unfold nrV at hq;obtain⟨q,hqq⟩:∃ q,q=decide (x=y):=⟨_,rfl⟩;rw [<-hqq] at hq;have HQ:=hide hq;have HQQ:=hide hqq;have HX:=hide hx;have HY:=hide hy;clear hq hqq hx hy;cases q
    ·go_wp2
     go_region_held3 (fun W=>W.cell? ⟨b1,o1+k*2,none⟩=some (.int .i64 x.to)/\W.cell? ⟨b1,o1+k*2+1,none⟩=some (.int .i64 x.c)/\W.cell? ⟨b2,o2+k*2,none⟩=some (.int .i64 y.to)/\W.cell? ⟨b2,o2+k*2+1,none⟩=some (.int .i64 y.c)) (first | go_keep | (refine ⟨?_,?_,?_,?_⟩ <;> (rw [hbc.cell (by assumption)];assumption))) (first | (go_at_call 168;refine (HQ.out _).mono ?_;rintro e w1 ⟨rfl,hbc⟩))
     go_wp2
     go_ret
     exact⟨ZaA (ZlY HX.out HY.out (of_decide_eq_false HQQ.out.symm)),hnx.trans ((Below.refl _ _).drew.trans (hbc.mono hzr))⟩
    ·go_wp2
     go_region_held3 (fun W=>W.cell? ⟨b1,o1+k*2,none⟩=some (.int .i64 x.to)/\W.cell? ⟨b1,o1+k*2+1,none⟩=some (.int .i64 x.c)/\W.cell? ⟨b2,o2+k*2,none⟩=some (.int .i64 y.to)/\W.cell? ⟨b2,o2+k*2+1,none⟩=some (.int .i64 y.c)) (first | go_keep | (refine ⟨?_,?_,?_,?_⟩ <;> (rw [hbc.cell (by assumption)];assumption))) (first | (go_at_call 168;refine (HQ.out _).mono ?_;rintro e w1 ⟨rfl,hbc⟩))
     go_wp2
     go_roundw
     case rel=>exact ⟨k+1,by omega,by go_num,(fun j hj=>by
      by_cases e:j=k
      ·subst e;rw [HX.out,HY.out,of_decide_eq_true HQQ.out.symm]
      ·exact HALL.out j (by omega)),hnx.trans ((Below.refl _ _).drew.trans (hbc.mono hzr))⟩
     case measure=>simp [intOf];omega
   ·have hkn:k=xs.length:=by omega
    have KN:=hide hkn;clear hkn
    go_wp2
    go_ret
    exact⟨ZaV (Zg2 HLN.out (by rw [<-KN.out];exact HALL.out)),hnx⟩
 ·clear h1 h2
  have hd:((xs.length:Int) != (ys.length:Int))=true:=by simp;omega
  go_enter Tryz.func135,Tryz.ntmps135
  go_wp2
  go_ret
  exact⟨ZaA (fun h=>hl (by rw [h])),Below.refl _ _⟩
theorem Zky (a:Option Addr)(n c:Nat)(q:Int)(w:World)(hn:(n:Int)<=9223372036854775807)(hq0:0<=q)(hq:q<=1048576):
  Calls Tryz.prog 118 #[.slice a n c,.int .i64 q] w fun e w'=>e=.returned (.int .i64 (if q-(n:Int)<0 then -1 else q-(n:Int)))/\w=w':=by
 by_cases h:q-(n:Int)<0
 ·rw [if_pos h]
  go_enter Tryz.func118,Tryz.ntmps118
  go_wp2
  go_ret
  exact⟨rfl,rfl⟩
 ·rw [if_neg h]
  go_enter Tryz.func118,Tryz.ntmps118
  go_wp2
  go_ret
  exact⟨rfl,rfl⟩
structure RecD where
 area:Int
 kind:Int
 owner:Int
 key:Int
 seq:Int
 near:List Nr
 cost:Int
 far:Bool
 deriving DecidableEq
def recC (x:RecD)(v:Value):Array Value:=#[.int .i64 x.area,.int .i64 x.kind,.int .i64 x.owner,.int .i64 x.key,.int .i64 x.seq,v,.int .i64 x.cost,.bool x.far]
def Zli (W:World)(v:Value)(x:RecD)(B:Nat):Prop:=∃ v1,v=.agg (recC x v1)/\ZaB W v1 x.near B
theorem Zli.then {W W':World}{v:Value}{x:RecD}(h:Zli W v x W.heap.size)(hb:Below W.heap.size W W'):Zli W' v x W'.heap.size:=by
 obtain⟨v1,hv,h1⟩:=h;exact⟨v1,hv,h1.then hb⟩
def szR (q:Int)(n:Nat):Int:=if q-(n:Int)<0 then -1 else q-(n:Int)
theorem Zjr (x:RecD)(a:Option Addr)(n c:Nat)(q:Int)(w:World)(hn:(n:Int)<=9223372036854775807)(hq0:0<=q)(hq:q<=1048576):
  Calls Tryz.prog 76 #[.agg (recC x (.slice a n c)),.int .i64 q] w fun e w'=>e=.returned (.int .i64 (szR q n))/\Below w.heap.size w w':=by
 unfold szR recC;have HS:=hide (Zky a n c q);by_cases h:q-(n:Int)<0
 ·rw [if_pos h] at HS |-
  go_enter Tryz.func76,Tryz.ntmps76
  go_wp2_with fail
  refine (HS.out _ hn hq0 hq).mono ?_
  rintro e w1 ⟨rfl,rfl⟩
  go_wp2
  go_ret
  exact⟨rfl,(Below.refl _ _).alloc (Nat.le_refl _) _⟩
 ·rw [if_neg h] at HS |-
  go_enter Tryz.func76,Tryz.ntmps76
  go_wp2_with fail
  refine (HS.out _ hn hq0 hq).mono ?_
  rintro e w1 ⟨rfl,rfl⟩
  go_wp2
  go_ret
  exact⟨rfl,(Below.refl _ _).alloc (Nat.le_refl _) _⟩
theorem Zjw (v:Value)(x:RecD)(w:World)(hl:x.near.length<=1048576)(hv:Zli w v x w.heap.size):
  Calls Tryz.prog 84 #[v] w fun e w'=>∃ v1,e=.returned (.agg (recC x v1))/\w'.ownsRow w.heap.size 225 2 v1 x.near.length (flat nrE x.near)/\Below w.heap.size w w':=by
 obtain⟨u1,rfl,h1⟩:=hv;obtain⟨a1,c1,rfl⟩:=h1.shape;have H1:=hide h1;clear h1;unfold recC
 go_enter Tryz.func84,Tryz.ntmps84
 go_wp2_with fail
 have hw0:=Zfa w (.cells #[.int .i64 x.area,.int .i64 x.kind,.int .i64 x.owner,.int .i64 x.key,.int .i64 x.seq,.slice a1 x.near.length c1,.int .i64 x.cost,.bool x.far] 119) (.cells #[.int .i64 0,.int .i64 0,.int .i64 0,.int .i64 0,.int .i64 0,.slice none 0 0,.int .i64 0,.bool false] 128) (.cells #[.int .i64 x.area,.int .i64 x.kind,.int .i64 x.owner,.int .i64 x.key,.int .i64 x.seq,.slice none 0 0,.int .i64 0,.bool false] 128);have hw1:=Zfb w (.cells #[.int .i64 x.area,.int .i64 x.kind,.int .i64 x.owner,.int .i64 x.key,.int .i64 x.seq,.slice a1 x.near.length c1,.int .i64 x.cost,.bool x.far] 119) (.cells #[.int .i64 0,.int .i64 0,.int .i64 0,.int .i64 0,.int .i64 0,.slice none 0 0,.int .i64 0,.bool false] 128) (.cells #[.int .i64 x.area,.int .i64 x.kind,.int .i64 x.owner,.int .i64 x.key,.int .i64 x.seq,.slice none 0 0,.int .i64 0,.bool false] 128);have hw2:=Zfc w (.cells #[.int .i64 x.area,.int .i64 x.kind,.int .i64 x.owner,.int .i64 x.key,.int .i64 x.seq,.slice a1 x.near.length c1,.int .i64 x.cost,.bool x.far] 119) (.cells #[.int .i64 0,.int .i64 0,.int .i64 0,.int .i64 0,.int .i64 0,.slice none 0 0,.int .i64 0,.bool false] 128) (.cells #[.int .i64 x.area,.int .i64 x.kind,.int .i64 x.owner,.int .i64 x.key,.int .i64 x.seq,.slice none 0 0,.int .i64 0,.bool false] 128);have bw:=Zbk (w:=w) (.cells #[.int .i64 x.area,.int .i64 x.kind,.int .i64 x.owner,.int .i64 x.key,.int .i64 x.seq,.slice a1 x.near.length c1,.int .i64 x.cost,.bool x.far] 119) (.cells #[.int .i64 0,.int .i64 0,.int .i64 0,.int .i64 0,.int .i64 0,.slice none 0 0,.int .i64 0,.bool false] 128) (.cells #[.int .i64 x.area,.int .i64 x.kind,.int .i64 x.owner,.int .i64 x.key,.int .i64 x.seq,.slice none 0 0,.int .i64 0,.bool false] 128);generalize (((w.alloc (.cells #[.int .i64 x.area,.int .i64 x.kind,.int .i64 x.owner,.int .i64 x.key,.int .i64 x.seq,.slice a1 x.near.length c1,.int .i64 x.cost,.bool x.far] 119)).alloc (.cells #[.int .i64 0,.int .i64 0,.int .i64 0,.int .i64 0,.int .i64 0,.slice none 0 0,.int .i64 0,.bool false] 128)).alloc (.cells #[.int .i64 x.area,.int .i64 x.kind,.int .i64 x.owner,.int .i64 x.key,.int .i64 x.seq,.slice none 0 0,.int .i64 0,.bool false] 128))=w1 at *;refine (ZkA _ x.near w1 hl (H1.out.then bw)).mono ?_
 rintro e w2 ⟨v1,rfl,ho1,b2⟩;obtain⟨p1,q1,rfl⟩:=Zac ho1;have l2:=Zab hw2;rw [<-b2.block _ (Zab hw0)] at hw0;rw [<-b2.block _ (Zab hw1)] at hw1;rw [<-b2.block _ l2] at hw2;have hb12:w.heap.size<=w1.heap.size:=bw.size;have bw2:Below w.heap.size w w2:=bw.trans (b2.mono hb12);have s6:=Zaa hw0 6;have s7:=Zaa hw0 7;have t0:=Zaa hw2 0;have t1:=Zaa hw2 1;have t2:=Zaa hw2 2;have t3:=Zaa hw2 3;have t4:=Zaa hw2 4;have t5:=Zaa hw2 5;have t6:=Zaa hw2 6;have t7:=Zaa hw2 7;have r0:=Zaa hw1 0;have r1:=Zaa hw1 1;have r2:=Zaa hw1 2;have r3:=Zaa hw1 3;have r4:=Zaa hw1 4;have r5:=Zaa hw1 5;have r6:=Zaa hw1 6;have r7:=Zaa hw1 7;simp at s6 s7 t0 t1 t2 t3 t4 t5 t6 t7 r0 r1 r2 r3 r4 r5 r6 r7
 have f2:=Zae hw2;have f1:=Zae hw1;have O1:=hide ho1;have HW1:=hide hw1;clear ho1 hw0 hw1 hw2 H1
 go_wp2
 have k0:(((w2.setCell ⟨w.heap.size+1+1,5,none⟩ (.slice p1 x.near.length q1)).setCell ⟨w.heap.size+1+1,6,none⟩ (.int .i64 x.cost)).setCell ⟨w.heap.size+1+1,7,none⟩ (.bool x.far)).heap[w.heap.size+1]? = some (.cells #[.int .i64 0,.int .i64 0,.int .i64 0,.int .i64 0,.int .i64 0,.slice none 0 0,.int .i64 0,.bool false] 128):=by
  rw [heap_setCell_other _ ⟨w.heap.size+1+1,7,none⟩ _ _ (by show w.heap.size+1≠w.heap.size+1+1;omega),heap_setCell_other _ ⟨w.heap.size+1+1,6,none⟩ _ _ (by show w.heap.size+1≠w.heap.size+1+1;omega),heap_setCell_other _ ⟨w.heap.size+1+1,5,none⟩ _ _ (by show w.heap.size+1≠w.heap.size+1+1;omega)]
  exact HW1.out
 have k1:=heap_setCell_same _ _ 0 _ _ (.int .i64 x.area) k0;have k2:=heap_setCell_same _ _ 1 _ _ (.int .i64 x.kind) k1;have k3:=heap_setCell_same _ _ 2 _ _ (.int .i64 x.owner) k2;have k4:=heap_setCell_same _ _ 3 _ _ (.int .i64 x.key) k3;have k5:=heap_setCell_same _ _ 4 _ _ (.int .i64 x.seq) k4;have k6:=heap_setCell_same _ _ 5 _ _ (.slice p1 x.near.length q1) k5;have k7:=heap_setCell_same _ _ 6 _ _ (.int .i64 x.cost) k6;have k8:=heap_setCell_same _ _ 7 _ _ (.bool x.far) k7;have hfin:=k8;clear k0 k1 k2 k3 k4 k5 k6 k7 k8
 (try simp only [Exit.inBlock,Exit.then])
 refine bodyPost_ret (results_cell_row rfl _ _ (w.heap.size+1) 128 #[.int .i64 x.area,.int .i64 x.kind,.int .i64 x.owner,.int .i64 x.key,.int .i64 x.seq,.slice p1 x.near.length q1,.int .i64 x.cost,.bool x.far] (0,0) _ rfl hfin Tryz.underlying128 rfl (by kernel_rfl)) rfl ?_
 refine⟨_,rfl,?_,?_⟩
 ·refine Zah (b1:=w1.heap.size) ?_ (by omega)
  repeat (refine ZaM ?_ (by omega))
  exact O1.out
 ·repeat (refine Below.setCell ?_ (by first | (show w.heap.size<=w.heap.size+1+1;omega) | (show w.heap.size<=w.heap.size+1;omega)) _)
  exact bw2
theorem ZiG (v1 v2:Value)(x y:RecD)(w:World)(h1:Zli w v1 x w.heap.size)(h2:Zli w v2 y w.heap.size)(hl:x.near.length<=1048576):
  Calls Tryz.prog 96 #[v1,v2] w fun e w'=>e=.returned (.bool (decide (x=y)))/\Below w.heap.size w w':=by
 obtain⟨a0,a1,a2,a3,a4,ns,a6,a7⟩:=x;obtain⟨b0,b1,b2,b3,b4,ms,b6,b7⟩:=y;obtain⟨u1,rfl,k1⟩:=h1;obtain⟨u2,rfl,k2⟩:=h2;simp only [] at k1 k2 hl
 have K1:=hide k1;have K2:=hide k2;clear k1 k2;unfold recC;simp only []
 by_cases h0:a0=b0
 case neg=>
  have hd:(a0 != b0)=true:=by simpa using h0
  have hne:decide ((⟨a0,a1,a2,a3,a4,ns,a6,a7⟩:RecD)=⟨b0,b1,b2,b3,b4,ms,b6,b7⟩)=false:=decide_eq_false (fun h=>by cases h;exact h0 rfl)
  rw [hne];clear hne
  go_enter Tryz.func96,Tryz.ntmps96
  go_wp2
  go_ret
  exact⟨rfl,Zan _ _⟩
 subst h0;by_cases h1:a1=b1
 case neg=>
  have hd:(a1 != b1)=true:=by simpa using h1
  have hne:decide ((⟨a0,a1,a2,a3,a4,ns,a6,a7⟩:RecD)=⟨a0,b1,b2,b3,b4,ms,b6,b7⟩)=false:=decide_eq_false (fun h=>by cases h;exact h1 rfl)
  rw [hne];clear hne
  go_enter Tryz.func96,Tryz.ntmps96
  go_wp2
  go_ret
  exact⟨rfl,Zan _ _⟩
 subst h1;by_cases h2:a2=b2
 case neg=>
  have hd:(a2 != b2)=true:=by simpa using h2
  have hne:decide ((⟨a0,a1,a2,a3,a4,ns,a6,a7⟩:RecD)=⟨a0,a1,b2,b3,b4,ms,b6,b7⟩)=false:=decide_eq_false (fun h=>by cases h;exact h2 rfl)
  rw [hne];clear hne
  go_enter Tryz.func96,Tryz.ntmps96
  go_wp2
  go_ret
  exact⟨rfl,Zan _ _⟩
 subst h2;by_cases h3:a3=b3
 case neg=>
  have hd:(a3 != b3)=true:=by simpa using h3
  have hne:decide ((⟨a0,a1,a2,a3,a4,ns,a6,a7⟩:RecD)=⟨a0,a1,a2,b3,b4,ms,b6,b7⟩)=false:=decide_eq_false (fun h=>by cases h;exact h3 rfl)
  rw [hne];clear hne
  go_enter Tryz.func96,Tryz.ntmps96
  go_wp2
  go_ret
  exact⟨rfl,Zan _ _⟩
 subst h3;by_cases h4:a4=b4
 case neg=>
  have hd:(a4 != b4)=true:=by simpa using h4
  have hne:decide ((⟨a0,a1,a2,a3,a4,ns,a6,a7⟩:RecD)=⟨a0,a1,a2,a3,b4,ms,b6,b7⟩)=false:=decide_eq_false (fun h=>by cases h;exact h4 rfl)
  rw [hne];clear hne
  go_enter Tryz.func96,Tryz.ntmps96
  go_wp2
  go_ret
  exact⟨rfl,Zan _ _⟩
 subst h4
 go_enter Tryz.func96,Tryz.ntmps96
 go_wp2_with fail
 refine (ZjS u1 u2 ns ms _ (K1.out.then (Zan _ _)) (K2.out.then (Zan _ _)) hl).mono ?_
 rintro e w1 ⟨rfl,bb1⟩;have bw1:Below w.heap.size w w1:=(Zan _ _).trans (bb1.mono (by simp;omega))
 have hw0:w1.heap[w.heap.size]? = some (.cells #[.int .i64 a0,.int .i64 a1,.int .i64 a2,.int .i64 a3,.int .i64 a4,u1,.int .i64 a6,.bool a7] 128):=by
  rw [bb1.block _ (by simp;omega),Below.heap_alloc _ _ _ (by simp),heap_alloc_new]
 have hw1:w1.heap[w.heap.size+1]? = some (.cells #[.int .i64 a0,.int .i64 a1,.int .i64 a2,.int .i64 a3,.int .i64 a4,u2,.int .i64 b6,.bool b7] 128):=by
  rw [bb1.block _ (by simp)]
  have:=heap_alloc_new (w.alloc (.cells #[.int .i64 a0,.int .i64 a1,.int .i64 a2,.int .i64 a3,.int .i64 a4,u1,.int .i64 a6,.bool a7] 128)) (.cells #[.int .i64 a0,.int .i64 a1,.int .i64 a2,.int .i64 a3,.int .i64 a4,u2,.int .i64 b6,.bool b7] 128)
  simpa using this
 have s6:=Zaa hw0 6;have s7:=Zaa hw0 7;have t6:=Zaa hw1 6;have t7:=Zaa hw1 7;simp at s6 s7 t6 t7
 clear bb1 hw0 hw1;by_cases hns:ns=ms
 case neg=>
  rw [decide_eq_false hns];have hne:decide ((⟨a0,a1,a2,a3,a4,ns,a6,a7⟩:RecD)=⟨a0,a1,a2,a3,a4,ms,b6,b7⟩)=false:=decide_eq_false (fun h=>by cases h;exact hns rfl)
  have HNE:=hide hne;clear hne
  go_wp2
  go_ret
  exact⟨by rw [HNE.out];rfl,bw1⟩
 subst hns;rw [decide_eq_true (rfl:ns=ns)];by_cases h6:a6=b6
 case neg=>
  have hd:(a6 != b6)=true:=by simpa using h6
  have hne:decide ((⟨a0,a1,a2,a3,a4,ns,a6,a7⟩:RecD)=⟨a0,a1,a2,a3,a4,ns,b6,b7⟩)=false:=decide_eq_false (fun h=>by cases h;exact h6 rfl)
  have HNE:=hide hne;clear hne
  go_wp2
  go_ret
  exact⟨by rw [HNE.out];rfl,bw1⟩
 subst h6;cases a7 <;> cases b7
 all_goals
  go_wp2
  go_ret
  exact⟨by simp,bw1⟩
def mk (q:Int)(i:Nat):Nr:=⟨q+2*(i:Int),q+2*(i:Int)+1⟩
def ZhZ (q:Int)(n:Nat):List Nr:=(List.range n).map (mk q)
theorem Zi6 (q:Int)(n:Nat):(ZhZ q n).length=n:=by simp [ZhZ]
theorem Zns {q:Int}{n:Nat}{ys:List Nr}(hl:ys.length=n)(h:∀ j,j<n->ys[j]? = some (mk q j)):ys=ZhZ q n:=by
 apply List.ext_getElem?
 intro i;by_cases hi:i<n
 ·rw [h i hi]
  simp [ZhZ,hi]
 ·rw [List.getElem?_eq_none (by omega),List.getElem?_eq_none (by rw [Zi6];omega)]
theorem Zb3 {w:World}{base size:Nat}{e:TypeId}{v:Value}{n:Nat}{xs:List Value}(h:w.ownsRow base e size v n xs)(hn:0<n):
  ∃ g cap,v=.slice (some ⟨g,0,none⟩) n cap/\base<=g/\g<w.heap.size:=by
 rcases h.2 with ⟨_,h0⟩ | ⟨g,cap,cur,hv,hb,hg,_⟩
 ·omega
 ·exact ⟨g,cap,hv,hb,Zab hg⟩
theorem ZaX {w:World}{base size g cap:Nat}{e:TypeId}{n:Nat}{xs:List Value}(h:w.ownsRow base e size (.slice (some ⟨g,0,none⟩) n cap) n xs)(j:Nat)(hj:j<n*size):∃ u,w.cell? ⟨g,j,none⟩=some u:=by
 rw [h.cellAt j hj];have hl:j<xs.length:=by rw [h.1];exact hj
 exact⟨_,List.getElem?_eq_getElem hl⟩
theorem Zbb (w:World)(r:Option Nat):w.grownBy w r:=⟨rfl,rfl,rfl,Nat.le_refl _,fun _ _ _=>rfl⟩
theorem Zcn {a b:Int}(h:a=b):Ending.returned (.int .i64 a)=.returned (.int .i64 b):=by rw [h]
theorem ZhY (v:Value)(base n:Nat)(ns:List Nr)(q:Int)(w:World)(hn0:ns.length=n)(h1:w.ownsRow base 225 2 v n (flat nrE ns))(hn:n<=1048576)(hq:0<=q)(hq2:q<=1000000000):
  Calls Tryz.prog 117 #[v,.int .i64 q] w fun e w'=>e=.returned (.int .i64 (q+2*(n:Int)))/\w'.ownsRow base 225 2 v n (flat nrE (ZhZ q n))/\w.grownBy w' v.ownBlock:=by
 by_cases h0:n=0
 ·subst h0
  obtain⟨a1,c1,rfl⟩:=Zac h1;have hnn:ns=[]:=List.length_eq_zero_iff.1 hn0;have H1:=hide h1;rw [hnn] at H1;clear h1 hn0 hnn
  go_enter Tryz.func117,Tryz.ntmps117
  go_wp2
  refine wp_loop_rounds 1 ?_
  rw [rounds_succ]
  go_wp2
  go_ret
  exact⟨by simp,H1.out,Zbb _ _⟩
 ·obtain ⟨g1,c1,rfl,hg1,hl1⟩:=Zb3 h1 (by omega)
  have H1:=hide h1;have HN0:=hide hn0;clear h1 h0 hn0
  go_enter Tryz.func117,Tryz.ntmps117
  go_wp2
  go_loopw [5,1] (fun i r wr=>∃ (k:Nat) (ys:List Nr),k<=n/\i=.int .i64 k/\r=.int .i64 (q+2*(k:Int))/\ys.length=n/\(∀ j,j<k->ys[j]? = some (mk q j))/\wr.ownsRow base 225 2 (.slice (some ⟨g1,0,none⟩) n c1) n (flat nrE ys)/\w.grownBy wr (some g1)) (fun i _ _=>n-(intOf i).toNat)
  case atStart=>exact ⟨0,ns,by omega,rfl,by simp,HN0.out,by omega,H1.out,Zbb _ _⟩
  case round=>
   clear H1;obtain⟨k,ys,hk,rfl,rfl,hyl,hys,hown,hnx⟩:=hrel;by_cases hlt:k<n
   ·have hki:(0:Int)<=(k:Int):=by omega
    have hkj:(k:Int)<(n:Int):=by omega
    obtain⟨u0,d0⟩:=ZaX hown (k*2) (by omega)
    obtain⟨u1,d1⟩:=ZaX hown (k*2+1) (by omega)
    have f0:=hown.frozenAt (k*2);have f1:=hown.frozenAt (k*2+1);have st:=((hown.stored (k*2) (.int .i64 (q+2*(k:Int)))).1.stored (k*2+1) (.int .i64 (q+2*(k:Int)+1))).1;have e1:((flat nrE ys).set (k*2) (.int .i64 (q+2*(k:Int)))).set (k*2+1) (.int .i64 (q+2*(k:Int)+1))=flat nrE (ys.set k (mk q k)):=ZbQ Zgj ys k (mk q k) (by omega)
    rw [e1] at st;have ST:=hide st;have HYL:=hide hyl;have HYS:=hide hys;clear hown st e1 hyl hys
    go_wp2
    refine⟨⟨k+1,ys.set k (mk q k),by omega,by go_num,by go_num,by simp [HYL.out],?_,ST.out,Zai (Zai hnx (Zaj _ _ _ _)) (Zaj _ _ _ _)⟩,by simp [intOf];omega⟩
    intro j hj;by_cases e:j=k
    ·subst e
     rw [List.getElem?_set_self (by rw [HYL.out];exact hlt)]
    ·rw [List.getElem?_set_ne (by omega)]
     exact HYS.out j (by omega)
   ·have hkn:k=n:=by omega
    have hm:ys=ZhZ q n:=Zns hyl (by rw [<-hkn];exact hys)
    have OW:=hide hown;have HM:=hide hm;have KN:=hide hkn;clear hkn hown hm hyl hys
    go_wp2
    go_ret
    exact⟨Zcn (by rw [KN.out]),by rw [<-HM.out];exact OW.out,hnx⟩
theorem ZaK {α:Type}{enc:α->List Value}(xs ys:List α):flat enc (xs++ys)=flat enc xs++flat enc ys:=by simp [flat]
theorem Zd9 {α:Type}{enc:α->List Value}{sz bytes:Nat}(hlen:∀ a,(enc a).length=sz)(hpos:0<sz)(hone:∀ a,∀ u∈enc a,u.oneCell'=true)(hbb:bytes<=100){P:Program}(w:World){ops:Array Oper}{rest:List Oper}{o:Oper}{a:Act}{Q:Exit->Act->World->Prop}(hgd:o.guard=none)(s x:Operand)(t:TypeId)
  (ho:o.op=.call { callee:=.builtin .append,args:=#[s,x],argTypes:=#[t,t] }) (base:Nat) (e:TypeId) (ht:P.underlying t=some (.slice e)) (zv:Value) (hzv:zv.cells.size=sz)
  (hinfo:(P.info? e).map (fun i=>(i.zero,i.size,i.bytes))=some (some zv,sz,bytes))
  (v:Value) (l:List α) (y:α) (hs:a.eval s=v) (hown:w.ownsRow base e sz v l.length (flat enc l))
  (ad:Addr) (c:Nat) (hx:a.eval x=.slice (some ad) 1 c) (hnews:∀ j u,(enc y)[j]? = some u->w.cell? (ad.add j)=some u)
  (hl:l.length+1<=1000000000) (hbase:base<=w.heap.size)
  (h:∀ v' w' l',Hid (l'=l++[y])->w'.ownsRow base e sz v' l'.length (flat enc l')->w.grownBy w' v.ownBlock->wpList P ops Q rest (a.put o.dst v') w'):wpList P ops Q (o::rest) a w:=by
 obtain⟨i0,hi,hz0,hz1,hz2⟩:=info_parts hinfo;refine wpList_append_own w hgd s x t ho base e i0 zv sz bytes ht hi hz0 hz1 hz2 hzv hpos v l.length (flat enc l) hs hown ad 1 c (enc y) hx (by rw [hlen];omega) hnews (hone y) (by unfold maxLen;omega) ?_ hbase ?_
 ·have:(l.length+1)*bytes<=1000000000*100:=Nat.mul_le_mul hl hbb
  omega
 ·intro v' w' h1 h2 _
  have e1:flat enc l++enc y=flat enc (l++[y]):=by rw [ZaK];simp [flat]
  rw [e1] at h1;exact h v' w' (l++[y]) rfl (by simpa using h1) h2
theorem Zaz {w:World}{cs:List Value}{t:TypeId}:∀ (j:Nat) (u:Value),cs[j]? = some u->(w.alloc (.cells cs.toArray t)).cell? ((⟨w.heap.size,0,none⟩:Addr).add j)=some u:=by
 intro j u hj;have e:(⟨w.heap.size,0,none⟩:Addr).add j=⟨w.heap.size,j,none⟩:=by
  simp only [Addr.add]
  split <;> simp_all
 rw [e,World.cell?_alloc_at _ _ _ _ rfl]
 simpa using hj
abbrev RP:=RecD × Value
def encP (p:RP):List Value:=[.int .i64 p.1.area,.int .i64 p.1.kind,.int .i64 p.1.owner,.int .i64 p.1.key,.int .i64 p.1.seq,p.2,.int .i64 p.1.cost,.bool p.1.far]
theorem Zdq (p:RP):(encP p).length=8:=rfl
def Zc2:RecD:=⟨0,0,0,0,0,[],0,false⟩
def zP:RP:=(Zc2,.slice none 0 0)
def Zbo (W:World)(v:Value)(ps:List RP)(B:Nat):Prop:=ZaD encP 8 W v ps B/\∀ p∈ps,ZaB W p.2 p.1.near B
theorem Zbo.shape {W:World}{v:Value}{ps:List RP}{B:Nat}(h:Zbo W v ps B):∃ a cap,v=.slice a ps.length cap:=by
 obtain⟨⟨a,cap,h,_⟩,_⟩:=h;exact⟨a,cap,h⟩
theorem Zbo.later {W W':World}{v:Value}{ps:List RP}{B C:Nat}(h:Zbo W v ps B)(hb:Below C W W')(hBC:B<=C):Zbo W' v ps B:=
 ⟨ZaL.later h.1 hb hBC,fun p hp=>ZaL.later (h.2 p hp) hb hBC⟩
theorem Zbo.more {W:World}{v:Value}{ps:List RP}{B C:Nat}(h:Zbo W v ps B)(hBC:B<=C):Zbo W v ps C:=
 ⟨ZaL.more h.1 hBC,fun p hp=>ZaL.more (h.2 p hp) hBC⟩
theorem Zbo.then {W W':World}{v:Value}{ps:List RP}(h:Zbo W v ps W.heap.size)(hb:Below W.heap.size W W'):Zbo W' v ps W'.heap.size:=(h.later hb (Nat.le_refl _)).more hb.size
theorem Zbo.cells {W:World}{v:Value}{ps:List RP}{B:Nat}(h:Zbo W v ps B)(i:Nat)(p:RP)(hp:ps[i]? = some p):
  ∃ b off cap,v=.slice (some ⟨b,off,none⟩) ps.length cap/\b<B/\W.cell? ⟨b,off+i*8,none⟩=some (.int .i64 p.1.area)/\W.cell? ⟨b,off+i*8+1,none⟩=some (.int .i64 p.1.kind)/\W.cell? ⟨b,off+i*8+2,none⟩=some (.int .i64 p.1.owner)/\W.cell? ⟨b,off+i*8+3,none⟩=some (.int .i64 p.1.key)/\W.cell? ⟨b,off+i*8+4,none⟩=some (.int .i64 p.1.seq)/\W.cell? ⟨b,off+i*8+5,none⟩=some p.2/\W.cell? ⟨b,off+i*8+6,none⟩=some (.int .i64 p.1.cost)/\W.cell? ⟨b,off+i*8+7,none⟩=some (.bool p.1.far)/\ZaB W p.2 p.1.near B:=by
 obtain⟨b,off,cap,hv,hb,hc⟩:=ZaD.cell h.1 Zdq i p hp;exact⟨b,off,cap,hv,hb,hc 0 _ rfl,hc 1 _ rfl,hc 2 _ rfl,hc 3 _ rfl,hc 4 _ rfl,hc 5 _ rfl,hc 6 _ rfl,hc 7 _ rfl,h.2 p (List.mem_of_getElem? hp)⟩
def ZbE (W:World)(lo hi:Nat)(p:RP):Prop:=W.ownsRow lo 225 2 p.2 p.1.near.length (flat nrE p.1.near)/\∀ k,p.2.ownBlock=some k->k<hi
def ZjB (p q:RP):Prop:=∀ k,p.2.ownBlock=some k->q.2.ownBlock≠some k
structure RecsOwn (W:World) (lo hi:Nat) (v:Value) (ps:List RP):Prop where
 row:W.ownsRow lo 128 8 v ps.length (flat encP ps)
 top:∀ k,v.ownBlock=some k->k<hi
 nears:∀ p∈ps,ZbE W lo hi p
 apart:ps.Pairwise ZjB
theorem Zal {W W':World}{base size:Nat}{e:TypeId}{v:Value}{n:Nat}{xs:List Value}(h:W.ownsRow base e size v n xs)(hk:∀ k,v.ownBlock=some k->W'.heap[k]? = W.heap[k]?):W'.ownsRow base e size v n xs:=by
 refine⟨h.1,?_⟩
 rcases h.2 with h2 | ⟨g,cap,cur,hv,hg,hh,r⟩
 ·exact .inl h2
 ·exact .inr ⟨g,cap,cur,hv,hg,by rw [hk g (by rw [hv];rfl)];exact hh,r⟩
theorem ZbE.keep {W W':World}{lo hi:Nat}{p:RP}(h:ZbE W lo hi p)(hk:∀ k,lo<=k->k<hi->k<W.heap.size->W'.heap[k]? = W.heap[k]?):ZbE W' lo hi p:=
 ⟨Zal h.1 (fun k e=>hk k (h.1.lt k e).1 (h.2 k e) (h.1.lt k e).2),h.2⟩
theorem ZbE.wide {W:World}{lo hi lo' hi':Nat}{p:RP}(h:ZbE W lo hi p)(hl:lo'<=lo)(hh:hi<=hi'):ZbE W lo' hi' p:=
 ⟨Zah h.1 hl,fun k e=>Nat.lt_of_lt_of_le (h.2 k e) hh⟩
theorem ZbE.at {W:World}{lo hi:Nat}{p:RP}(h:ZbE W lo hi p):ZaB W p.2 p.1.near hi:=by
 have h1:=ZaU h.1;obtain⟨a,cap,hv,h2⟩:=h1;refine⟨a,cap,hv,?_⟩
 rcases h2 with h0 | ⟨b,off,ha,hb1,hx⟩
 ·exact .inl h0
 ·exact .inr ⟨b,off,ha,h.2 b (by rw [hv,ha];rfl),hx⟩
theorem RecsOwn.keep {W W':World}{lo hi:Nat}{v:Value}{ps:List RP}(h:RecsOwn W lo hi v ps)(hk:∀ k,lo<=k->k<hi->k<W.heap.size->W'.heap[k]? = W.heap[k]?):RecsOwn W' lo hi v ps where
 row:=Zal h.row (fun k e=>hk k (h.row.lt k e).1 (h.top k e) (h.row.lt k e).2)
 top:=h.top
 nears:=fun p hp=>(h.nears p hp).keep hk
 apart:=h.apart
theorem RecsOwn.below {W W':World}{lo hi B:Nat}{v:Value}{ps:List RP}(h:RecsOwn W lo hi v ps)(hb:Below B W W')(hB:hi<=B):RecsOwn W' lo hi v ps:=h.keep (fun k _ h2 _=>hb.block k (by omega))
theorem RecsOwn.wide {W:World}{lo hi lo' hi':Nat}{v:Value}{ps:List RP}(h:RecsOwn W lo hi v ps)(hl:lo'<=lo)(hh:hi<=hi'):RecsOwn W lo' hi' v ps where
 row:=Zah h.row hl
 top:=fun k e=>Nat.lt_of_lt_of_le (h.top k e) hh
 nears:=fun p hp=>(h.nears p hp).wide hl hh
 apart:=h.apart
theorem RecsOwn.at {W:World}{lo hi:Nat}{v:Value}{ps:List RP}(h:RecsOwn W lo hi v ps):Zbo W v ps hi:=by
 refine⟨?_,fun p hp=>(h.nears p hp).at⟩
 have h1:=ZaU h.row;obtain⟨a,cap,hv,h2⟩:=h1;refine⟨a,cap,hv,?_⟩
 rcases h2 with h0 | ⟨b,off,ha,hb1,hx⟩
 ·exact .inl h0
 ·exact .inr ⟨b,off,ha,h.top b (by rw [hv,ha];rfl),hx⟩
structure Frame (lo hi:Nat) (w w':World):Prop where
 os:w'.os=w.os
 tape:w'.tape=w.tape
 output:w'.output=w.output
 size:w.heap.size<=w'.heap.size
 block:∀ k,k<w.heap.size->(k<lo\/hi<=k)->w'.heap[k]? = w.heap[k]?
theorem Frame.refl (lo hi:Nat)(w:World):Frame lo hi w w:=⟨rfl,rfl,rfl,Nat.le_refl _,fun _ _ _=>rfl⟩
theorem Frame.trans {lo hi:Nat}{a b c:World}(h:Frame lo hi a b)(k:Frame lo hi b c):Frame lo hi a c:=
 ⟨k.os.trans h.os,k.tape.trans h.tape,k.output.trans h.output,Nat.le_trans h.size k.size,fun i hi hr=>(k.block i (Nat.lt_of_lt_of_le hi h.size) hr).trans (h.block i hi hr)⟩
theorem Frame.grown {lo hi:Nat}{a b:World}{row:Option Nat}(g:a.grownBy b row)(hr:∀ k,row=some k->lo<=k/\k<hi):Frame lo hi a b:=
 ⟨g.os,g.tape,g.output,g.size,fun k hk hh=>g.block k hk (fun e=>by have:=hr k e.symm;omega)⟩
theorem Frame.set {lo hi:Nat}(w:World)(p j:Nat)(u:Value)(h1:lo<=p)(h2:p<hi):Frame lo hi w (w.setCell ⟨p,j,none⟩ u):=Frame.grown (Zaj w p j u) (fun k e=>by simp at e;omega)
theorem Frame.below {lo hi:Nat}{w w':World}(h:Frame lo hi w w')(hw:lo<=w.heap.size):Below lo w w':=(Below.refl _ _).trans ⟨h.os,h.tape,h.output,h.size,fun k hk=>h.block k (by omega) (.inl hk)⟩
theorem RecsOwn.frame {W W':World}{lo hi l2 h2:Nat}{v:Value}{ps:List RP}(h:RecsOwn W lo hi v ps)(hb:Frame l2 h2 W W')(hB:hi<=l2\/h2<=lo):RecsOwn W' lo hi v ps:=h.keep (fun k h1 h2 h3=>hb.block k h3 (by omega))
abbrev putP (W:World) (g o:Nat) (p:RP):World:=(((((((W.setCell ⟨g,o,none⟩ (.int .i64 p.1.area)).setCell ⟨g,o+1,none⟩ (.int .i64 p.1.kind)).setCell ⟨g,o+2,none⟩ (.int .i64 p.1.owner)).setCell ⟨g,o+3,none⟩ (.int .i64 p.1.key)).setCell ⟨g,o+4,none⟩ (.int .i64 p.1.seq)).setCell ⟨g,o+5,none⟩ p.2).setCell ⟨g,o+6,none⟩ (.int .i64 p.1.cost)).setCell ⟨g,o+7,none⟩ (.bool p.1.far)
theorem Zl7 (W:World)(g o:Nat)(p:RP):W.grownBy (putP W g o p) (some g):=
 Zai (Zai (Zai (Zai (Zai (Zai (Zai (Zaj W g _ _) (Zaj _ g _ _)) (Zaj _ g _ _)) (Zaj _ g _ _)) (Zaj _ g _ _)) (Zaj _ g _ _)) (Zaj _ g _ _)) (Zaj _ g _ _)
theorem ZnO {W:World}{base g cap n j:Nat}{xs:List RP}{p:RP}(h:W.ownsRow base 128 8 (.slice (some ⟨g,0,none⟩) n cap) n (flat encP xs))(hj:j<xs.length):
  (putP W g (j*8) p).ownsRow base 128 8 (.slice (some ⟨g,0,none⟩) n cap) n (flat encP (xs.set j p)):=by
 have e:(((((((((flat encP xs).set (j*8) (.int .i64 p.1.area)).set (j*8+1) (.int .i64 p.1.kind)).set (j*8+2) (.int .i64 p.1.owner)).set (j*8+3) (.int .i64 p.1.key)).set (j*8+4) (.int .i64 p.1.seq)).set (j*8+5) p.2).set (j*8+6) (.int .i64 p.1.cost)).set (j*8+7) (.bool p.1.far))=flat encP (xs.set j p):=ZbQ Zdq xs j p hj;rw [<-e];exact ((((((((h.stored (j*8) _).1.stored (j*8+1) _).1.stored (j*8+2) _).1.stored (j*8+3) _).1.stored (j*8+4) _).1.stored (j*8+5) _).1.stored (j*8+6) _).1.stored (j*8+7) _).1
theorem Zip {W:World}{lo hi:Nat}{ps:List RP}{p:RP}(h:ps.Pairwise ZjB)(hn:∀ q∈ps,ZbE W lo hi q)(hp:∀ k,p.2.ownBlock=some k->hi<=k):(ps++[p]).Pairwise ZjB:=by
 rw [List.pairwise_append];refine⟨h,by simp,?_⟩
 intro a ha b hb;have:b=p:=by simpa using hb
 subst this;intro k hk he;have h1:=(hn a ha).2 k hk;have h2:=hp k he;omega
def tot (ps:List RP):Nat:=(ps.map (fun p=>1+p.1.near.length)).sum
theorem Zig (p:RP)(ps:List RP):tot (p::ps)=1+p.1.near.length+tot ps:=by simp [tot]
theorem Zhv (a b:List RP):tot (a++b)=tot a+tot b:=by simp [tot]
theorem Zca (ps:List RP):ps.length<=tot ps:=by
 induction ps with
 | nil=>simp [tot]
 | cons p ps ih=>rw [Zig,List.length_cons];omega
theorem Zez {ps:List RP}{p:RP}(h:p∈ps):p.1.near.length<=tot ps:=by
 induction ps with
 | nil=>simp at h
 | cons q ps ih=>
  rw [Zig]
  rcases List.mem_cons.1 h with rfl | h1
  ·omega
  ·have:=ih h1;omega
theorem Zpl {ps:List RP}{k:Nat}{p:RP}(h:ps[k]? = some p):tot (ps.take (k+1))=tot (ps.take k)+(1+p.1.near.length):=by
 obtain⟨hk,e⟩:=List.getElem?_eq_some_iff.1 h;rw [List.take_succ_eq_append_getElem hk,Zhv,e];simp [tot]
theorem map_take {ps:List RP}{k:Nat}{p:RP}(h:ps[k]? = some p):(ps.take (k+1)).map (·.1)=(ps.take k).map (·.1)++[p.1]:=by
 obtain⟨hk,e⟩:=List.getElem?_eq_some_iff.1 h;rw [List.take_succ_eq_append_getElem hk,List.map_append,e]
 rfl
end Go.Proofs.YtnndlmodjkplnaaGreatDoor
