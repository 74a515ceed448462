/-
  TogI BestM WithM BeyM
-/
import Derived.Test.YtgdgkgmjpnbbcaaGreatOn10
import Derived.Test.YtgdgkgmjpnbbcaaGreatOn9
import Derived.Test.YtgdgkgmjpnbbcaaGreatOn2
namespace Go.Proofs.YtgdgkgmjpnbbcaaGreat
open Go.RowKit
set_option linter.unusedSimpArgs false
set_option linter.unusedVariables false
set_option maxRecDepth 100000
set_option maxHeartbeats 8000000
theorem Zhi (la lb:List Int)(va vb:Value)(ba bb:Nat)(w:World)(ha:w.ownsRow ba 3 1 va la.length (flat intE la))(hb:w.ownsRow bb 3 1 vb lb.length (flat intE lb))(hla:la.length<=1048576)(hlb:lb.length<=1048576):
  Calls Tryz.prog 102 #[va,vb] w fun e w'=>∃ x,e=.returned x/\w'.ownsRow w.heap.size 3 1 x (Zck la lb).length (flat intE (Zck la lb))/\Below w.heap.size w w':=by
 have H1:=hide (ZeC la va ba w ha hla);have HB:=hide hb;obtain⟨pa,qa,rfl⟩:=Zac ha;obtain⟨pb,qb,rfl⟩:=Zac hb;clear ha hb
 go_enter Tryz.func102,Tryz.ntmps102
 go_wp2_with fail
 refine H1.out.mono ?_
 rintro e w1 ⟨v1,rfl,o1,b1⟩;obtain⟨p1,q1,rfl⟩:=Zac o1;have OB:=hide (Zaf HB.out b1 (Nat.le_refl _));have O1:=hide o1;have hs1:=b1.size;clear o1 H1 HB
 go_wp2_with (first
  | (at_builtin;refine Zch Zdm (by omega) Zcr (by omega) _ rfl _ _ 37 rfl w.heap.size 3 Tryz.underlying37 (.int .i64 0) rfl Tryz.info3 (.slice p1 la.length q1) la rfl O1.out bb (.slice pb lb.length qb) lb rfl OB.out (by omega) hs1 ?_))
 intro v2 w2 o2 hg2;have B2:Below w.heap.size w w2:=b1.grown hg2 hs1 (fun k hk=>(O1.out.lt k hk).1)
 have hLL:(la++lb).length<=2097152:=by simp;omega
 have o2':w2.ownsRow w.heap.size 3 1 v2 (la++lb).length (ZbH (la++lb)):=by rw [<-Zcq];simpa using o2
 obtain⟨L,hL⟩:∃ L,L=la++lb:=⟨_,rfl⟩;rw [<-hL] at o2' hLL;have HL:=hide hL;clear hL o2;obtain⟨p2,q2,rfl⟩:=Zac o2';have HSO:=hide (Zor w.heap.size (.slice p2 L.length q2) L w2 o2' (by omega))
 clear o2' hg2
 go_wp2_with fail
 refine HSO.out.mono ?_
 rintro e w3 ⟨rfl,o3,k3⟩;have B3:=k3 w.heap.size w (Nat.le_refl _) B2;have HCO:=hide (Zjy w.heap.size _ _ w3 o3 (by rw [List.length_mergeSort];omega))
 clear o3 k3 HSO
 go_wp2_with fail
 refine HCO.out.mono ?_
 rintro e w4 ⟨x,rfl,o4,k4⟩;have B4:=hide (k4 w.heap.size w (Nat.le_refl _) B3);have O4:=hide o4;obtain⟨p4,q4,rfl⟩:=Zac o4;clear o4 k4 HCO
 go_wp2
 go_ret
 exact⟨_,rfl,by rw [Zcq];unfold Zck;rw [<-HL.out];exact O4.out,B4.out⟩
def togI (x y:WayD):WayD:=if Zbi x y then x else if Zbi y x then y else ⟨x.to,x.cost,Zck x.hops y.hops⟩
theorem ZkY {B:Nat}{w W:World}(h:Below B w W):Below B w W.drew:=h.trans ⟨rfl,rfl,rfl,Nat.le_refl _,fun _ _=>rfl⟩
theorem Zkp (x y:WayD)(vx vy:Value)(bx bY:Nat)(w:World)(hx:w.ownsRow bx 3 1 vx x.hops.length (flat intE x.hops))(hy:w.ownsRow bY 3 1 vy y.hops.length (flat intE y.hops))(hlx:x.hops.length<=1048576)(hly:y.hops.length<=1048576):
  Calls Tryz.prog 80 #[.agg (wayC x vx),.agg (wayC y vy)] w fun e w'=>∃ u,e=.returned (.agg (wayC (togI x y) u))/\w'.ownsRow w.heap.size 3 1 u (togI x y).hops.length (flat intE (togI x y).hops)/\Below w.heap.size w w':=by
 obtain⟨D,hD⟩:∃ D,D=togI x y:=⟨_,rfl⟩;rw [<-hD];have HD:=hide hD;clear hD;obtain⟨p1,q1,rfl⟩:=Zac hx;obtain⟨p2,q2,rfl⟩:=Zac hy;have HW1:=hide (fun W (hb:Below w.heap.size w W)=>ZfC x (.slice p1 x.hops.length q1) bx W (Zaf hx hb (Nat.le_refl _)) hlx)
 have HW2:=hide (fun W (hb:Below w.heap.size w W)=>ZfC y (.slice p2 y.hops.length q2) bY W (Zaf hy hb (Nat.le_refl _)) hly)
 have HHB:=hide (fun W (hb:Below w.heap.size w W)=>Zhi x.hops y.hops (.slice p1 x.hops.length q1) (.slice p2 y.hops.length q2) bx bY W (Zaf hx hb (Nat.le_refl _)) (Zaf hy hb (Nat.le_refl _)) hlx hly)
 have HB1:=hide (fun W=>Zcl (.slice p1 x.hops.length q1) (.slice p2 y.hops.length q2) x y W)
 have HB2:=hide (fun W=>Zcl (.slice p2 y.hops.length q2) (.slice p1 x.hops.length q1) y x W)
 clear hx hy;have m0:=Zmb w (.cells #[.int .i64 x.to,.int .i64 x.cost,.slice p1 x.hops.length q1] 48) (.cells #[.int .i64 y.to,.int .i64 y.cost,.slice p2 y.hops.length q2] 48) (.cells #[.int .i64 0,.int .i64 0,.slice none 0 0] 48);have m1:=Zmc w (.cells #[.int .i64 x.to,.int .i64 x.cost,.slice p1 x.hops.length q1] 48) (.cells #[.int .i64 y.to,.int .i64 y.cost,.slice p2 y.hops.length q2] 48) (.cells #[.int .i64 0,.int .i64 0,.slice none 0 0] 48);have m2:=Zmd w (.cells #[.int .i64 x.to,.int .i64 x.cost,.slice p1 x.hops.length q1] 48) (.cells #[.int .i64 y.to,.int .i64 y.cost,.slice p2 y.hops.length q2] 48) (.cells #[.int .i64 0,.int .i64 0,.slice none 0 0] 48);have BQ:=Zgh (w:=w) (.cells #[.int .i64 x.to,.int .i64 x.cost,.slice p1 x.hops.length q1] 48) (.cells #[.int .i64 y.to,.int .i64 y.cost,.slice p2 y.hops.length q2] 48) (.cells #[.int .i64 0,.int .i64 0,.slice none 0 0] 48);obtain⟨w1,hw1⟩:∃ W,W=(((w.alloc (.cells #[.int .i64 x.to,.int .i64 x.cost,.slice p1 x.hops.length q1] 48)).alloc (.cells #[.int .i64 y.to,.int .i64 y.cost,.slice p2 y.hops.length q2] 48)).alloc (.cells #[.int .i64 0,.int .i64 0,.slice none 0 0] 48)):=⟨_,rfl⟩;rw [<-hw1] at m0 m1 m2 BQ;have s0:=0;have s1:=0;have s2:=0;have t0:=0;have t1:=0;have t2:=0;obtain⟨F1,hF1⟩:∃ b,b=Zbi x y:=⟨_,rfl⟩;obtain⟨F2,hF2⟩:∃ b,b=Zbi y x:=⟨_,rfl⟩;rw [<-hF1] at HB1;rw [<-hF2] at HB2;have HF1:=hide hF1;have HF2:=hide hF2;clear hF1 hF2;unfold wayC at HB1 HB2 HW1 HW2 |-
 go_enter Tryz.func80,Tryz.ntmps80
 go_wp2_with fail
 rw [<-hw1];clear hw1;refine (HB1.out _).mono ?_
 rintro e w2 ⟨rfl,b1⟩;have m0:=(b1.block _ (Zab m0)).trans m0;have m1:=(b1.block _ (Zab m1)).trans m1;have m2:=(b1.block _ (Zab m2)).trans m2;have BQ:=BQ.trans (b1.mono BQ.size);clear s0 s1 s2 t0 t1 t2 b1;have s0:=Zaa m0 0;have s1:=Zaa m0 1;have s2:=Zaa m0 2;have t0:=Zaa m1 0;have t1:=Zaa m1 1;have t2:=Zaa m1 2;simp at s0 s1 s2 t0 t1 t2
 cases F1
 ·go_wp2_with fail
  refine (HB2.out _).mono ?_
  rintro e w3 ⟨rfl,b1⟩;have m0:=(b1.block _ (Zab m0)).trans m0;have m1:=(b1.block _ (Zab m1)).trans m1;have m2:=(b1.block _ (Zab m2)).trans m2;have BQ:=BQ.trans (b1.mono BQ.size);clear s0 s1 s2 t0 t1 t2 b1;have s0:=Zaa m0 0;have s1:=Zaa m0 1;have s2:=Zaa m0 2;have t0:=Zaa m1 0;have t1:=Zaa m1 1;have t2:=Zaa m1 2;simp at s0 s1 s2 t0 t1 t2
  cases F2
  ·have hDe:D=⟨x.to,x.cost,Zck x.hops y.hops⟩:=by rw [HD.out];unfold togI;rw [<-HF1.out, <-HF2.out];rfl
   subst hDe;clear HW1 HW2 HB1 HB2 HD
   go_wp2
   refine wp_region_noPanic ?_
   have hS0:w3.drew.cell? ⟨w.heap.size,0,none⟩=some (.int .i64 x.to)/\w3.drew.cell? ⟨w.heap.size,1,none⟩=some (.int .i64 x.cost)/\w3.drew.cell? ⟨w.heap.size,2,none⟩=some (.slice p1 x.hops.length q1)/\w3.drew.cell? ⟨w.heap.size+1,2,none⟩=some (.slice p2 y.hops.length q2):=⟨s0,s1,s2,t2⟩;refine Zaj (S:=fun W=>W.cell? ⟨w.heap.size,0,none⟩=some (.int .i64 x.to)/\W.cell? ⟨w.heap.size,1,none⟩=some (.int .i64 x.cost)/\W.cell? ⟨w.heap.size,2,none⟩=some (.slice p1 x.hops.length q1)/\W.cell? ⟨w.heap.size+1,2,none⟩=some (.slice p2 y.hops.length q2)) (by kernel_rfl) 11 rfl hS0 ?_
   intro ops hops _
   show wpAnyH Tryz.prog .any ops _ _ 11 #[false,false,false,false,false,false,false,false,false,false,false] _ w3.drew
   iterate 8
    refine Zat 11 ?_ ?_ ?_ (by rw [hops.out];kernel_rfl) ?_ ?_ (by assumption) ?_
    rotate_left 2
    ·rw [hops.out];simp only [getS,Nat.reduceSub,Nat.reduceAdd];rfl
    ·intro W hW;obtain⟨k1,k2,k3,k4⟩:=hW;go_simp <;> with_reducible rfl
    ·exact fun _ _ _=>id
    try simp only [putS]
   refine Zak 8 (oi:=?_) ?_ (by rw [hops.out];kernel_rfl) ?_ ?_
   rotate_left 1
   ·rw [hops.out];simp only [getS];rfl
   ·rw [hops.out];kernel_rfl
   intro K hK
   go_simp
   refine (HHB.out _ (ZkY BQ)).mono ?_
   rintro e w4 ⟨u,rfl,hn2,b2⟩;obtain⟨na,nc,rfl⟩:=Zac hn2;have hK2:w4.cell? ⟨w.heap.size,0,none⟩=some (.int .i64 x.to)/\w4.cell? ⟨w.heap.size,1,none⟩=some (.int .i64 x.cost)/\w4.cell? ⟨w.heap.size,2,none⟩=some (.slice p1 x.hops.length q1)/\w4.cell? ⟨w.heap.size+1,2,none⟩=some (.slice p2 y.hops.length q2):=by
    refine⟨?_,?_,?_,?_⟩ <;> (rw [b2.cell (by first | exact Zab m0 | exact Zab m1)];assumption)
   refine hK.out _ _ hK2 (fun _=>?_)
   clear hK K
   try simp only [putS]
   refine Za0 9 ?_ ?_ ?_ (by rw [hops.out];kernel_rfl) ?_ ?_ (by assumption) ?_
   rotate_left 2
   ·rw [hops.out];simp only [getS];rfl
   ·intro W hW;obtain⟨k1,k2,k3,k4⟩:=hW;go_simp <;> with_reducible rfl
   ·exact fun _ _ _=>id
   try simp only [putS]
   have hz2:=(b2.block _ (Zab m2)).trans m2;have hz0:=(b2.block _ (Zab m0)).trans m0;have hz1:=(b2.block _ (Zab m1)).trans m1;have u0:=Zaa hz2 0;have u1:=Zaa hz2 1;have u2:=Zaa hz2 2;simp at u0 u1 u2
   have fu:=Zae hz2;have FF:=hide (Zdc ⟨x.to,x.cost,Zck x.hops y.hops⟩ (.slice na (Zck x.hops y.hops).length nc) hz2);have G8:=Za1 w4 (w.heap.size+1+1) ⟨x.to,x.cost,Zck x.hops y.hops⟩ (.slice na (Zck x.hops y.hops).length nc);have hsz:=Zab m2;have O3:=hide (Zah (b0:=w.heap.size) (hn2.kept G8 (by
    cases hv:(Value.slice na (Zck x.hops y.hops).length nc).ownBlock with
    | none=>exact .inl rfl
    | some g=>exact .inr (fun e=>by
      have h9:=(hn2.lt g hv).1;have h8:w3.heap.size<=g:=h9;simp at e
      omega))) (by show w.heap.size<=w3.heap.size;omega))
   have B2:Below w.heap.size w w4:=(ZkY BQ).trans (b2.mono BQ.size);have BF:=hide (B2.grown G8 B2.size (fun k hk=>by simp at hk;omega))
   have hS5:∀ W:World,W.heap[w.heap.size]? = w4.heap[w.heap.size]? -> W.heap[w.heap.size+1]? = w4.heap[w.heap.size+1]? -> W.cell? ⟨w.heap.size,0,none⟩=some (.int .i64 x.to)/\W.cell? ⟨w.heap.size,1,none⟩=some (.int .i64 x.cost)/\W.cell? ⟨w.heap.size,2,none⟩=some (.slice p1 x.hops.length q1)/\W.cell? ⟨w.heap.size+1,2,none⟩=some (.slice p2 y.hops.length q2):=by
    intro W e1 e2;refine⟨?_,?_,?_,?_⟩
    ·rw [World.cell?_of_block (w:=w4) e1];exact hK2.1
    ·rw [World.cell?_of_block (w:=w4) e1];exact hK2.2.1
    ·rw [World.cell?_of_block (w:=w4) e1];exact hK2.2.2.1
    ·rw [World.cell?_of_block (w:=w4) e2];exact hK2.2.2.2
   have hS6:=hS5 (Za7 w4 (w.heap.size+1+1) ⟨x.to,x.cost,Zck x.hops y.hops⟩ (.slice na (Zck x.hops y.hops).length nc)) (G8.block _ (Zab hz0) (by simp;omega)) (G8.block _ (Zab hz1) (by simp))
   clear hS5 hz2 hn2 b2 G8 hz0 hz1;refine Zak 10 (oi:=?_) ?_ (by rw [hops.out];kernel_rfl) ?_ ?_
   rotate_left 1
   ·rw [hops.out];simp only [getS];rfl
   ·rw [hops.out];kernel_rfl
   intro K hK
   go_simp
   refine hK.out _ _ hS6 (fun _=>?_)
   clear hK K
   try simp only [putS]
   refine wpAnyH_done (by rw [hops.out];kernel_rfl) ?_ _
   clear hops ops;refine NoPanic.normal ?_
   go_wp2_with fail
   (try simp only [Exit.inBlock,Exit.then])
   refine bodyPost_ret (results_cell_row rfl _ _ (w.heap.size+1+1) 48 (wayC ⟨x.to,x.cost,Zck x.hops y.hops⟩ (.slice na (Zck x.hops y.hops).length nc)) (0,0) _ rfl FF.out Tryz.underlying48 rfl (by kernel_rfl)) rfl ?_
   exact⟨_,rfl,O3.out,BF.out⟩
  ·have hDe:D=y:=by rw [HD.out];unfold togI;rw [<-HF1.out, <-HF2.out];rfl
   subst hDe;clear HW1 HHB HB1 HB2 HD
   go_wp2_with fail
   refine (HW2.out _ BQ).mono ?_
   rintro e w4 ⟨v1,rfl,hn2,b2⟩;obtain⟨na,nc,rfl⟩:=Zac hn2;have hz2:=(b2.block _ (Zab m2)).trans m2;have u0:=Zaa hz2 0;have u1:=Zaa hz2 1;have u2:=Zaa hz2 2;simp at u0 u1 u2
   have fu:=Zae hz2;have FF:=hide (Zdc D (.slice na D.hops.length nc) hz2);have G8:=Za1 w4 (w.heap.size+1+1) D (.slice na D.hops.length nc);have hsz:=Zab m2;have O3:=hide (Zah (b0:=w.heap.size) (hn2.kept G8 (by
    cases hv:(Value.slice na D.hops.length nc).ownBlock with
    | none=>exact .inl rfl
    | some g=>exact .inr (fun e=>by have:=(hn2.lt g hv).1;simp at e;omega))) (by omega))
   have B2:Below w.heap.size w w4:=BQ.trans (b2.mono BQ.size);have BF:=hide (B2.grown G8 B2.size (fun k hk=>by simp at hk;omega))
   clear hz2 hn2 b2 G8 m2 m0 m1
   go_wp2_with fail
   (try simp only [Exit.inBlock,Exit.then])
   refine bodyPost_ret (results_cell_row rfl _ _ (w.heap.size+1+1) 48 (wayC D (.slice na D.hops.length nc)) (0,0) _ rfl FF.out Tryz.underlying48 rfl (by kernel_rfl)) rfl ?_
   exact⟨_,rfl,O3.out,BF.out⟩
 ·have hDe:D=x:=by rw [HD.out];unfold togI;rw [<-HF1.out];rfl
  subst hDe;clear HW2 HHB HB1 HB2 HD
  go_wp2_with fail
  refine (HW1.out _ BQ).mono ?_
  rintro e w4 ⟨v1,rfl,hn2,b2⟩;obtain⟨na,nc,rfl⟩:=Zac hn2;have hz2:=(b2.block _ (Zab m2)).trans m2;have u0:=Zaa hz2 0;have u1:=Zaa hz2 1;have u2:=Zaa hz2 2;simp at u0 u1 u2
  have fu:=Zae hz2;have FF:=hide (Zdc D (.slice na D.hops.length nc) hz2);have G8:=Za1 w4 (w.heap.size+1+1) D (.slice na D.hops.length nc);have hsz:=Zab m2;have O3:=hide (Zah (b0:=w.heap.size) (hn2.kept G8 (by
   cases hv:(Value.slice na D.hops.length nc).ownBlock with
   | none=>exact .inl rfl
   | some g=>exact .inr (fun e=>by have:=(hn2.lt g hv).1;simp at e;omega))) (by omega))
  have B2:Below w.heap.size w w4:=BQ.trans (b2.mono BQ.size);have BF:=hide (B2.grown G8 B2.size (fun k hk=>by simp at hk;omega))
  clear hz2 hn2 b2 G8 m2 m0 m1
  go_wp2_with fail
  (try simp only [Exit.inBlock,Exit.then])
  refine bodyPost_ret (results_cell_row rfl _ _ (w.heap.size+1+1) 48 (wayC D (.slice na D.hops.length nc)) (0,0) _ rfl FF.out Tryz.underlying48 rfl (by kernel_rfl)) rfl ?_
  exact⟨_,rfl,O3.out,BF.out⟩
def Hop6 (l:List Int):Prop:=∀ z∈l,1<=z/\z<=6
structure GoodW (x:WayD):Prop where
 node:1<=x.to/\x.to<=6
 cost:0<=x.cost/\x.cost<=60000
 asc:x.hops.Pairwise (· < ·)
 hop6:Hop6 x.hops
theorem ZfQ:∀ {l:List Int}{a:Int},l.Pairwise (· < ·)->(∀ z∈l,a<=z/\z<=6)->(l.length:Int)<=7-a\/l=[]
 | [],_,_,_=>.inr rfl
 | x::xs,a,h,hr=>by
  have h':=List.pairwise_cons.1 h;have hx:=hr x (by simp)
  rcases ZfQ (a:=x+1) h'.2 (fun z hz=>⟨by have:=h'.1 z hz;omega,(hr z (by simp [hz])).2⟩) with h1 | h1
  ·left;simp;omega
  ·left;subst h1;simp;omega
theorem ZcE {l:List Int}(h:l.Pairwise (· < ·))(h6:Hop6 l):l.length<=6:=by
 rcases ZfQ (a:=1) h h6 with h1 | h1
 ·omega
 ·subst h1;simp
theorem GoodW.len {x:WayD}(h:GoodW x):x.hops.length<=6:=ZcE h.asc h.hop6
def AscW (ds:List WayD):Prop:=ds.Pairwise (fun x y=>x.to<y.to)
theorem Zkg:∀ {a b:List WayD},AscW a->AscW b->(∀ x,x∈a↔x∈b)->a=b
 | [],[],_,_,_=>rfl
 | [],y::ys,_,_,h=>by have:=(h y).2 (by simp);cases this
 | x::xs,[],_,_,h=>by have:=(h x).1 (by simp);cases this
 | x::xs,y::ys,ha,hb,h=>by
  have ha':=List.pairwise_cons.1 ha;have hb':=List.pairwise_cons.1 hb;have hxy:x=y:=by
   have h1:=(h x).1 (by simp)
   have h2:=(h y).2 (by simp)
   rcases List.mem_cons.1 h1 with e | e
   ·exact e
   ·rcases List.mem_cons.1 h2 with e2 | e2
    ·exact e2.symm
    ·have:=ha'.1 y e2;have:=hb'.1 x e;omega
  subst hxy;have:xs=ys:=by
   refine Zkg ha'.2 hb'.2 (fun z=>?_)
   have hz:=h z
   constructor
   ·intro hm
    have h1:=hz.1 (List.mem_cons_of_mem _ hm)
    rcases List.mem_cons.1 h1 with e | e
    ·have:=ha'.1 z hm;subst e;omega
    ·exact e
   ·intro hm
    have h1:=hz.2 (List.mem_cons_of_mem _ hm)
    rcases List.mem_cons.1 h1 with e | e
    ·have:=hb'.1 z hm;subst e;omega
    ·exact e
  rw [this]
theorem ZaM {ds:List WayD}{to:Int}{w:WayD}(h:ZaQ ds to=some w):w∈ds/\w.to=to:=by
 unfold ZaQ at h;exact⟨List.mem_of_find?_eq_some h,by have:=List.find?_some h;simpa using this⟩
theorem Zdk {ds:List WayD}{to:Int}(h:ZaQ ds to=none):∀ w∈ds,w.to≠to:=by
 unfold ZaQ at h;rw [List.find?_eq_none] at h;intro w hw
 simpa using h w hw
theorem Ziy {ds:List WayD}(h:AscW ds){x y:WayD}(hx:x∈ds)(hy:y∈ds)(e:x.to=y.to):x=y:=by
 induction ds with
 | nil=>cases hx
 | cons a ds ih=>
  have h':=List.pairwise_cons.1 h
  rcases List.mem_cons.1 hx with e1 | e1
  ·rcases List.mem_cons.1 hy with e2 | e2
   ·rw [e1,e2]
   ·have:=h'.1 y e2;subst e1;omega
  ·rcases List.mem_cons.1 hy with e2 | e2
   ·have:=h'.1 x e1;subst e2;omega
   ·exact ih h'.2 e1 e2
theorem Zbw {ds:List WayD}(h:AscW ds){w:WayD}(hw:w∈ds):ZaQ ds w.to=some w:=by
 cases e:ZaQ ds w.to with
 | none=>exact absurd rfl (Zdk e w hw)
 | some x=>
  have h1:=ZaM e;rw [Ziy h h1.1 hw h1.2]
theorem ZlN {a b:List WayD}(ha:AscW a)(hb:AscW b)(h:∀ to,ZaQ a to=ZaQ b to):a=b:=by
 refine Zkg ha hb (fun x=>⟨fun hx=>?_,fun hx=>?_⟩)
 ·have:=Zbw ha hx
  rw [h] at this;exact (ZaM this).1
 ·have:=Zbw hb hx
  rw [<-h] at this;exact (ZaM this).1
def ZaF (to:Int)(S:WayD->Prop):Option WayD->Prop
 | none=>∀ w,¬S w
 | some b=>b.to=to/\(∃ w,S w/\w.cost=b.cost)/\(∀ w,S w->b.cost<=w.cost)/\b.hops.Pairwise (· < ·)/\∀ x,x∈b.hops↔∃ w,S w/\w.cost=b.cost/\x∈w.hops
theorem ZaF.unique {to:Int}{S:WayD->Prop}{o o':Option WayD}(h:ZaF to S o)(h':ZaF to S o'):o=o':=by
 cases o with
 | none=>
  cases o' with
  | none=>rfl
  | some b=>
   obtain⟨_,⟨w,hw,_⟩,_⟩:=h';exact absurd hw (h w)
 | some a=>
  cases o' with
  | none=>
   obtain⟨_,⟨w,hw,_⟩,_⟩:=h;exact absurd hw (h' w)
  | some b=>
   obtain⟨h1,⟨w,hw,e1⟩,h3,h4,h5⟩:=h;obtain⟨k1,⟨v,hv,e2⟩,k3,k4,k5⟩:=h';have hc:a.cost=b.cost:=by
    have:=h3 v hv;have:=k3 w hw;omega
   have hh:a.hops=b.hops:=ZhJ h4 k4 (fun x=>by rw [h5,k5,hc])
   cases a;cases b
   simp at *
   exact⟨by rw [h1,k1],hc,hh⟩
theorem ZaF.congr {to:Int}{S T:WayD->Prop}{o:Option WayD}(h:ZaF to S o)(e:∀ w,S w↔T w):ZaF to T o:=by
 have:S=T:=funext fun w=>propext (e w)
 rw [<-this];exact h
def Zjr (tog:WayD->WayD->WayD):Prop:=∀ x y:WayD,Hop6 x.hops->Hop6 y.hops->(x.cost<y.cost->tog x y=x)/\(y.cost<x.cost->tog x y=y) /\
 (x.cost=y.cost->(tog x y).to=x.to/\(tog x y).cost=x.cost/\(tog x y).hops.Pairwise (· < ·)/\∀ z,z∈(tog x y).hops↔z∈x.hops\/z∈y.hops)
theorem ZfM:Zjr togD:=by
 intro x y hx hy;unfold togD Zbi;refine⟨fun h=>by simp [h],fun h=>?_,fun h=>?_⟩
 ·rw [if_neg (by simp;omega),if_pos (by simpa using h)]
 ·rw [if_neg (by simp;omega),if_neg (by simp;omega)]
  refine⟨rfl,rfl,Zf1 _ _,fun z=>?_⟩
  show z∈addL x.hops y.hops↔_
  rw [Zf3]
  constructor
  ·exact fun h=>h.2.2
  ·rintro (h1 | h1)
   ·exact ⟨(hx z h1).1,(hx z h1).2,.inl h1⟩
   ·exact ⟨(hy z h1).1,(hy z h1).2,.inr h1⟩
theorem Zih:Zjr togI:=by
 intro x y hx hy;unfold togI Zbi;refine⟨fun h=>by simp [h],fun h=>?_,fun h=>?_⟩
 ·rw [if_neg (by simp;omega),if_pos (by simpa using h)]
 ·rw [if_neg (by simp;omega),if_neg (by simp;omega)]
  exact⟨rfl,rfl,Zgu _ _,fun z=>Ze0⟩
theorem ZaF.hop6 {to:Int}{S:WayD->Prop}{b:WayD}(h:ZaF to S (some b))(hS:∀ w,S w->Hop6 w.hops):Hop6 b.hops:=by
 intro z hz;obtain⟨w,hw,_,hm⟩:=(h.2.2.2.2 z).1 hz;exact hS w hw z hm
theorem ZaF.add {tog:WayD->WayD->WayD}(ht:Zjr tog){to:Int}{S:WayD->Prop}{o:Option WayD}{w:WayD}(h:ZaF to S o)(hS:∀ w,S w->Hop6 w.hops)(hto:w.to=to)(hasc:w.hops.Pairwise (· < ·))(h6:Hop6 w.hops):ZaF to (fun x=>S x\/x=w) (Zel tog o (some w)):=by
 cases o with
 | none=>
  refine⟨hto,⟨w,.inr rfl,rfl⟩,fun x hx=>?_,hasc,fun x=>⟨fun hx=>⟨w,.inr rfl,rfl,hx⟩,?_⟩⟩
  ·rcases hx with h1 | rfl
   ·exact absurd h1 (h x)
   ·exact Int.le_refl _
  ·rintro ⟨v,h1 | rfl,_,hm⟩
   ·exact absurd h1 (h v)
   ·exact hm
 | some b=>
  have hb6:=h.hop6 hS;obtain⟨h1,⟨u,hu,e1⟩,h3,h4,h5⟩:=h;obtain⟨t1,t2,t3⟩:=ht b w hb6 h6
  show ZaF to _ (some (tog b w))
  rcases Int.lt_trichotomy b.cost w.cost with hl | hl | hl
  ·rw [t1 hl]
   refine⟨h1,⟨u,.inl hu,e1⟩,fun x hx=>?_,h4,fun x=>?_⟩
   ·rcases hx with hx | rfl
    ·exact h3 x hx
    ·omega
   ·rw [h5]
    constructor
    ·rintro ⟨v,hv,e,hm⟩
     exact⟨v,.inl hv,e,hm⟩
    ·rintro ⟨v,hv | rfl,e,hm⟩
     ·exact ⟨v,hv,e,hm⟩
     ·omega
  ·obtain ⟨s1,s2,s3,s4⟩:=t3 hl
   refine⟨by rw [s1,h1],⟨w,.inr rfl,by rw [s2,hl]⟩,fun x hx=>?_,s3,fun x=>?_⟩
   ·rw [s2]
    rcases hx with hx | rfl
    ·exact h3 x hx
    ·omega
   ·rw [s4,h5,s2]
    constructor
    ·rintro (⟨v,hv,e,hm⟩ | hm)
     ·exact ⟨v,.inl hv,e,hm⟩
     ·exact ⟨w,.inr rfl,hl.symm,hm⟩
    ·rintro ⟨v,hv | rfl,e,hm⟩
     ·exact .inl ⟨v,hv,e,hm⟩
     ·exact .inr hm
  ·rw [t2 hl]
   refine⟨hto,⟨w,.inr rfl,rfl⟩,fun x hx=>?_,hasc,fun x=>⟨fun hx=>⟨w,.inr rfl,rfl,hx⟩,?_⟩⟩
   ·rcases hx with hx | rfl
    ·have:=h3 x hx;omega
    ·exact Int.le_refl _
   ·rintro ⟨v,hv | rfl,e,hm⟩
    ·have:=h3 v hv;omega
    ·exact hm
theorem ZaF.good {to:Int}{S:WayD->Prop}{b:WayD}(h:ZaF to S (some b))(hS:∀ w,S w->GoodW w/\w.to=to):GoodW b:=by
 have h6:=h.hop6 (fun w hw=>(hS w hw).1.hop6)
 obtain⟨h1,⟨u,hu,e1⟩,h3,h4,h5⟩:=h;have hg:=hS u hu;exact⟨by rw [h1, <-hg.2];exact hg.1.node,by rw [<-e1];exact hg.1.cost,h4,h6⟩
def Zay (S:Int->WayD->Prop)(ds:List WayD):Prop:=AscW ds/\∀ to,ZaF to (S to) (ZaQ ds to)
theorem Zay.unique {S:Int->WayD->Prop}{a b:List WayD}(ha:Zay S a)(hb:Zay S b):a=b:=
 ZlN ha.1 hb.1 (fun to=>(ha.2 to).unique (hb.2 to))
theorem Zay.congr {S T:Int->WayD->Prop}{a:List WayD}(ha:Zay S a)(e:∀ to w,S to w↔T to w):Zay T a:=
 ⟨ha.1,fun to=>(ha.2 to).congr (e to)⟩
theorem Zay.good {S:Int->WayD->Prop}{ds:List WayD}(h:Zay S ds)(hS:∀ to w,S to w->GoodW w/\w.to=to):∀ w∈ds,GoodW w:=by
 intro w hw;have h1:=h.2 w.to;rw [Zbw h.1 hw] at h1;exact h1.good (hS w.to)
theorem Zci {ds:List WayD}(h:AscW ds)(hg:∀ w∈ds,1<=w.to/\w.to<=6):ds.length<=6:=by
 have h1:(ds.map (·.to)).Pairwise (· < ·):=by rw [List.pairwise_map];exact h
 have:=ZcE h1 (fun z hz=>by
  obtain⟨w,hw,rfl⟩:=List.mem_map.1 hz;exact hg w hw)
 simpa using this
theorem Zay.put {tog:WayD->WayD->WayD}(ht:Zjr tog){S:Int->WayD->Prop}{ds es:List WayD}{w:WayD}(h:Zay S ds)(hS:∀ to w,S to w->GoodW w/\w.to=to)(hw:GoodW w)(he:AscW es)(hf:∀ to,ZaQ es to=if to=w.to then Zel tog (ZaQ ds to) (some w) else ZaQ ds to):Zay (fun to x=>S to x\/(x=w/\w.to=to)) es:=by
 refine⟨he,fun to=>?_⟩
 rw [hf];by_cases e:to=w.to
 ·rw [if_pos e]
  refine ((h.2 to).add ht (fun v hv=>(hS to v hv).1.hop6) e.symm hw.asc hw.hop6).congr (fun x=>?_)
  constructor
  ·rintro (h1 | h1)
   ·exact .inl h1
   ·exact .inr ⟨h1,e.symm⟩
  ·rintro (h1 | h1)
   ·exact .inl h1
   ·exact .inr h1.1
 ·rw [if_neg e]
  refine (h.2 to).congr (fun x=>⟨.inl,?_⟩)
  rintro (h1 | h1)
  ·exact h1
  ·exact absurd h1.2.symm e
theorem Zf5 {c:Nat->Int}{h:Nat->List Int}{w:WayD}:∀ k:Nat,w∈ZcG c h k↔∃ v:Nat,1<=v/\v<=k/\0<=c v/\w=⟨(v:Int),c v,h v⟩
 | 0=>by simp [ZcG];omega
 | k+1=>by
  have ih:=Zf5 (c:=c) (h:=h) (w:=w) k;rw [ZeV c h (by omega)]
  simp only [Nat.add_sub_cancel,List.mem_append]
  rw [ih]
  constructor
  ·rintro (⟨v,h1,h2,h3⟩ | h4)
   ·exact ⟨v,h1,by omega,h3⟩
   ·split at h4
    ·rename_i h0
     exact⟨k+1,by omega,by omega,h0,by simpa using h4⟩
    ·simp at h4
  ·rintro ⟨v,h1,h2,h3,h4⟩
   by_cases e:v=k+1
   ·subst e
    right
    rw [if_pos h3,h4];simp
   ·exact .inl ⟨v,h1,by omega,h3,h4⟩
theorem Zkl (c:Nat->Int)(h:Nat->List Int):∀ k:Nat,AscW (ZcG c h k)
 | 0=>by simp [ZcG,AscW]
 | k+1=>by
  have ih:=Zkl c h k;rw [ZeV c h (by omega)]
  simp only [Nat.add_sub_cancel]
  unfold AscW;rw [List.pairwise_append];refine⟨ih,by split <;> simp,fun a ha b hb=>?_⟩
  obtain⟨v,h1,h2,_,rfl⟩:=(Zf5 k).1 ha
  split at hb
  ·have hb':b=⟨((k+1:Nat):Int),c (k+1),h (k+1)⟩:=by simpa using hb
   subst hb'
   show (v:Int)<((k+1:Nat):Int)
   omega
  ·simp at hb
theorem ZlY {F G:Nat->Bool}(h:∀ u,F u=true->G u=true):Zb8 F<=Zb8 G:=by
 have h1:∀ u,(F u).toNat<=(G u).toNat:=fun u=>by
  cases e:F u
  ·simp
  ·rw [h u e];exact Nat.le_refl _
 unfold Zb8;have:=h1 1;have:=h1 2;have:=h1 3;have:=h1 4;have:=h1 5;have:=h1 6;omega
theorem Fix.bound {L:Nat->Nat->Int}{src:Nat}{c:Nat->Int}{h:Nat->List Int}(A:Fix L src c h)(hL:Links L 1000):∀ (n v:Nat),0<=c v->(c v).toNat<=n->c v<=1000*(Zb8 (fun x=>decide (0<=c x/\c x<c v)):Int):=by
 obtain⟨F,I,hF⟩:=A;intro n
 induction n with
 | zero=>
  intro v h0 hn;have:c v=0:=by omega
  omega
 | succ n ih=>
  intro v h0 hn;by_cases hv:v=src
  ·subst hv;rw [I.start];omega
  ·obtain ⟨u,hu,hl,hc⟩:=I.pred v hv h0
   have h1:=(I.fnode u hu).2;have h2:=ih u h1 (by omega)
   have hle:=hL.le u v;have hcard:Zb8 (fun x=>decide (0<=c x/\c x<c u))+1<=Zb8 (fun x=>decide (0<=c x/\c x<c v)):=by
    rw [<-Zd8 (F:=fun x=>decide (0<=c x/\c x<c u)) (u:=u) (I.fnode u hu).1 (by simp)]
    refine ZlY (fun x hx=>?_)
    simp only [Bool.or_eq_true,decide_eq_true_eq,beq_iff_eq] at hx |-
    rcases hx with hx | rfl
    ·omega
    ·omega
   omega
theorem Fix.bound6 {L:Nat->Nat->Int}{src:Nat}{c:Nat->Int}{h:Nat->List Int}(A:Fix L src c h)(hL:Links L 1000)(v:Nat)(h0:0<=c v):c v<=6000:=by
 have h1:=A.bound hL _ v h0 (Nat.le_refl _);have h2:=ZhO (fun x=>decide (0<=c x/\c x<c v))
 omega
theorem Zbn.asc {xs:List RecD}{area src:Int}{ds:List WayD}(h:Zbn xs area src ds):AscW ds/\∀ w∈ds,GoodW w/\w.cost<=6000:=by
 unfold Zbn at h
 split at h
 ·rename_i e
  have hst:ZaE xs=true:=by
   simp only [Bool.and_eq_true] at e
   exact e.1.1
  obtain⟨c,g,A,rfl⟩:=h;refine⟨Zkl c g 6,fun w hw=>?_⟩
  obtain⟨v,h1,h2,h3,rfl⟩:=(Zf5 6).1 hw;have hb:=A.bound6 (Zez hst) v h3;obtain⟨F,I,_⟩:=A;exact⟨⟨⟨by show 1<=(v:Int);omega,by show (v:Int)<=6;omega⟩,⟨h3,by show c v<=60000;omega⟩,I.asc v,fun z hz=>I.rng v z hz⟩,hb⟩
 ·subst h
  exact⟨by simp [AscW],by simp⟩
theorem ZbA (xs:List RecD)(area src:Int):AscW (Zbm xs area src)/\∀ w∈Zbm xs area src,GoodW w/\w.cost<=6000:=by
 by_cases h:∃ ds,Zbn xs area src ds
 ·obtain ⟨ds,hd⟩:=h
  rw [<-hd.eq];exact hd.asc
 ·unfold Zbm
  rw [dif_neg h];exact⟨by simp [AscW],by simp⟩
theorem ZeZ {ps:List WP}(hl:ps.length<=6)(hg:∀ w∈Zag ps,w.hops.length<=6):totW ps<=42:=by
 have:∀ qs:List WP,(∀ w∈Zag qs,w.hops.length<=6)->totW qs<=7*qs.length:=by
  intro qs
  induction qs with
  | nil=>intro _;simp [totW]
  | cons q qs ih=>
   intro h;rw [ZgW,List.length_cons];have h1:=h q.1 (by simp [Zag])
   have h2:=ih (fun w hw=>h w (by simp only [Zag,List.map_cons,List.mem_cons] at hw |-;exact .inr hw))
   omega
 have:=this ps hg;omega
def Zau (xs:List RecD)(al:List Int)(src:Int)(to:Int)(w:WayD):Prop:=w.to=to/\∃ a∈al,w∈Zbm xs a src
theorem ZaI {xs:List RecD}{al:List Int}{src to:Int}{w:WayD}(h:Zau xs al src to w):GoodW w/\w.to=to:=by
 obtain⟨h1,a,_,h2⟩:=h;exact⟨((ZbA xs a src).2 w h2).1,h1⟩
theorem ZcM {xs:List RecD}{a src:Int}{w:WayD}(h:w∈Zbm xs a src):ZaE xs=true/\0<=a/\a<3:=by
 by_cases he:∃ ds,Zbn xs a src ds
 ·obtain ⟨ds,hd⟩:=he
  rw [<-hd.eq] at h;unfold Zbn at hd
  split at hd
  ·rename_i e
   simp only [Bool.and_eq_true] at e
   obtain⟨⟨e1,_⟩,e3⟩:=e;refine⟨e1,?_⟩
   unfold Zfy Zg0 at e3
   rcases ZeQ xs (Zem a src) with hz | ⟨j,y,hz,hy,hs⟩
   ·rw [hz] at e3;simp at e3
   ·have hm:y∈xs:=List.mem_of_getElem? hy
    unfold ZaE at e1;simp only [Bool.and_eq_true] at e1
    have hok:=Zdi e1.1.2 hm;simp only [ZaN,Zem,Bool.and_eq_true,beq_iff_eq] at hs
    obtain⟨⟨⟨s1,s2⟩,_⟩,_⟩:=hs;unfold Za8 at hok;rw [if_pos s2] at hok;simp only [Bool.and_eq_true,inB,decide_eq_true_eq] at hok
    omega
  ·rw [hd] at h;cases h
 ·unfold Zbm at h
  rw [dif_neg he] at h;cases h
theorem Zip {xs:List RecD}{al bs:List Int}{src:Int}(h:∀ a,0<=a->a<3->(a∈al↔a∈bs))(to:Int)(w:WayD):Zau xs al src to w↔Zau xs bs src to w:=by
 constructor
 ·rintro ⟨h1,a,h2,h3⟩
  have:=(ZcM h3).2;exact⟨h1,a,(h a this.1 this.2).1 h2,h3⟩
 ·rintro ⟨h1,a,h2,h3⟩
  have:=(ZcM h3).2;exact⟨h1,a,(h a this.1 this.2).2 h2,h3⟩
theorem Zd6 {xs:List RecD}{al:List Int}{src a:Int}{k:Nat}(h:al[k]? = some a)(to:Int)(w:WayD):Zau xs (al.take (k+1)) src to w↔Zau xs (al.take k) src to w\/(w.to=to/\w∈Zbm xs a src):=by
 obtain⟨hk,e⟩:=List.getElem?_eq_some_iff.1 h;unfold Zau;rw [List.take_succ_eq_append_getElem hk,e]
 constructor
 ·rintro ⟨h1,b,h2,h3⟩
  rcases List.mem_append.1 h2 with h4 | h4
  ·exact .inl ⟨h1,b,h4,h3⟩
  ·have:b=a:=by simpa using h4
   subst this;exact .inr ⟨h1,h3⟩
 ·rintro (⟨h1,b,h2,h3⟩ | ⟨h1,h3⟩)
  ·exact ⟨h1,b,List.mem_append.2 (.inl h2),h3⟩
  ·exact ⟨h1,a,List.mem_append.2 (.inr (by simp)),h3⟩
theorem Zbs {ds:List WayD}{j:Nat}{r:WayD}(h:ds[j]? = some r)(w:WayD):w∈ds.take (j+1)↔w∈ds.take j\/w=r:=by
 obtain⟨hk,e⟩:=List.getElem?_eq_some_iff.1 h;rw [List.take_succ_eq_append_getElem hk,e];simp
theorem Zb2 {S:Int->WayD->Prop}(h:∀ to w,¬S to w):Zay S []:=⟨by simp [AscW],fun to=>h to⟩
theorem Zay.push {S:Int->WayD->Prop}{ds:List WayD}{t:Int}{b:WayD}(h:Zay (fun to w=>to<t/\S to w) ds)(hb:ZaF t (S t) (some b)):Zay (fun to w=>to<t+1/\S to w) (ds++[b]):=by
 have hlt:∀ w∈ds,w.to<t:=by
  intro w hw;have h1:=h.2 w.to;rw [Zbw h.1 hw] at h1;obtain⟨_,⟨u,hu,_⟩,_⟩:=h1;exact hu.1
 have hbt:b.to=t:=hb.1;have hasc:AscW (ds++[b]):=by
  unfold AscW;rw [List.pairwise_append];refine⟨h.1,by simp,fun x hx y hy=>?_⟩
  have:y=b:=by simpa using hy
  subst this;rw [hbt];exact hlt x hx
 refine⟨hasc,fun to=>?_⟩
 by_cases e:to=t
 ·subst e
  have hf:ZaQ (ds++[b]) b.to=some b:=Zbw hasc (by simp)
  rw [hbt] at hf;rw [hf];refine hb.congr (fun w=>⟨fun hw=>⟨by omega,hw⟩,fun hw=>hw.2⟩)
 ·have hf:ZaQ (ds++[b]) to=ZaQ ds to:=by
   unfold ZaQ;rw [List.find?_append];cases e2:ds.find? (fun x=>x.to==to) with
   | some w=>rfl
   | none=>
    simp only [Option.none_or,List.find?_cons,List.find?_nil]
    have:(b.to==to)=false:=by rw [hbt];simpa using fun h=>e h.symm
    rw [this]
  rw [hf];refine (h.2 to).congr (fun w=>⟨fun hw=>⟨by omega,hw.2⟩,fun hw=>⟨by have:=hw.1;omega,hw.2⟩⟩)
theorem Zay.skip {S:Int->WayD->Prop}{ds:List WayD}{t:Int}(h:Zay (fun to w=>to<t/\S to w) ds)(hb:ZaF t (S t) none):Zay (fun to w=>to<t+1/\S to w) ds:=by
 refine h.congr (fun to w=>⟨fun hw=>⟨by omega,hw.2⟩,fun hw=>⟨?_,hw.2⟩⟩)
 have h1:=hw.1;by_cases e:to=t
 ·subst e;exact absurd hw.2 (hb w)
 ·omega
theorem ZbU (ds:List WayD)(to:Int):(Za3 ds to=true/\ZaQ ds to=some (ZaY ds to))\/(Za3 ds to=false/\ZaQ ds to=none):=by
 unfold Za3 ZaY ZaQ;cases e:ds.find? (fun x=>x.to==to) with
 | none=>exact .inr ⟨rfl,rfl⟩
 | some w=>exact .inl ⟨rfl,rfl⟩
theorem Zjv {tog:WayD->WayD->WayD}(ht:Zjr tog){xs:List RecD}{al:List Int}{src a t:Int}{k:Nat}{o:Option WayD}(h:al[k]? = some a)(hb:ZaF t (Zau xs (al.take k) src t) o):
  ZaF t (Zau xs (al.take (k+1)) src t) (Zel tog o (ZaQ (Zbm xs a src) t)):=by
 have hw:=ZbA xs a src;cases e:ZaQ (Zbm xs a src) t with
 | none=>
  refine ZaF.congr hb (fun w=>?_)
  rw [Zd6 h]
  constructor
  ·exact .inl
  ·rintro (h1 | ⟨h1,h2⟩)
   ·exact h1
   ·exact absurd h1 (Zdk e w h2)
 | some r=>
  have hr:=ZaM e;have hg:=(hw.2 r hr.1).1;refine (hb.add ht (fun w hw=>(ZaI hw).1.hop6) hr.2 hg.asc hg.hop6).congr (fun w=>?_)
  rw [Zd6 h]
  constructor
  ·rintro (h1 | h1)
   ·exact .inl h1
   ·subst h1;exact .inr ⟨hr.2,hr.1⟩
  ·rintro (h1 | ⟨h1,h2⟩)
   ·exact .inl h1
   ·exact .inr (Ziy hw.1 h2 hr.1 (by rw [h1,hr.2]))
def Off (x:Value)(lo hi:Nat):Prop:=∀ b,x.ownBlock=some b->b<lo\/hi<=b
theorem Off.kept {x:Value}{lo hi:Nat}(h:Off x lo hi){W W':World}(hg:W.grownBy W' x.ownBlock):∀ k,lo<=k->k<hi->k<W.heap.size->W'.heap[k]? = W.heap[k]? :=
 fun k h1 h2 h3=>hg.block k h3 (fun e=>by have:=h k e.symm;omega)
theorem Off.next {x x':Value}{lo hi B:Nat}(h:Off x lo hi)(hn:∀ b,x'.ownBlock=some b->x.ownBlock=some b\/B<=b)(hB:hi<=B):Off x' lo hi:=fun b hb=>by
 rcases hn b hb with h1 | h1
 ·exact h b h1
 ·omega
def ZcA (xs:List RecD)(area src:Int)(r:RecD)(d:WayD):Prop:=
 r.kind=2/\r.area=area/\r.owner≠src/\∃ v,ZaQ (Zbm xs area src) r.owner=some v/\v.cost+r.cost<60000/\d=⟨r.key,v.cost+r.cost,v.hops⟩
def outS (xs rs:List RecD)(area src to:Int)(d:WayD):Prop:=d.to=to/\∃ r∈rs,ZcA xs area src r d
theorem ZfI {xs:List RecD}{r:RecD}(hs:ZaE xs=true)(hr:r∈xs)(hk:r.kind=2):(1<=r.key/\r.key<=6)/\(0<=r.cost/\r.cost<=60000):=by
 unfold ZaE at hs;simp only [Bool.and_eq_true] at hs
 have hok:=Zdi hs.1.2 hr;unfold Za8 at hok;rw [if_neg (by omega),if_pos hk] at hok
 simp only [Bool.and_eq_true,inB,decide_eq_true_eq] at hok
 omega
theorem Zd3 {xs:List RecD}{area src:Int}{r:RecD}{d:WayD}(hr:r∈xs)(h:ZcA xs area src r d):GoodW d:=by
 obtain⟨h1,_,_,v,h4,h5,rfl⟩:=h;have hm:=(ZaM h4).1;have hv:=((ZbA xs area src).2 v hm).1;have hb:=ZfI (ZcM hm).1 hr h1;exact⟨hb.1,⟨by show 0<=v.cost+r.cost;have:=hv.cost;omega,by show v.cost+r.cost<=60000;omega⟩,hv.asc,hv.hop6⟩
theorem Zfb {xs rs:List RecD}{area src to:Int}{d:WayD}(hs:∀ r∈rs,r∈xs)(h:outS xs rs area src to d):GoodW d/\d.to=to:=by
 obtain⟨h1,r,hr,h2⟩:=h;exact⟨Zd3 (hs r hr) h2,h1⟩
theorem Zi4 {xs rs:List RecD}{area src to:Int}{k:Nat}{r:RecD}(h:rs[k]? = some r)(d:WayD):outS xs (rs.take (k+1)) area src to d↔outS xs (rs.take k) area src to d\/(d.to=to/\ZcA xs area src r d):=by
 obtain⟨hk,e⟩:=List.getElem?_eq_some_iff.1 h;unfold outS;rw [List.take_succ_eq_append_getElem hk,e]
 constructor
 ·rintro ⟨h1,x,h2,h3⟩
  rcases List.mem_append.1 h2 with h4 | h4
  ·exact .inl ⟨h1,x,h4,h3⟩
  ·have:x=r:=by simpa using h4
   subst this;exact .inr ⟨h1,h3⟩
 ·rintro (⟨h1,x,h2,h3⟩ | ⟨h1,h3⟩)
  ·exact ⟨h1,x,List.mem_append.2 (.inl h2),h3⟩
  ·exact ⟨h1,r,List.mem_append.2 (.inr (by simp)),h3⟩
def ZiB (border:Bool)(a:Int):Prop:=border=true->a=0
def Zbz (xs:List RecD)(al:List Int)(border:Bool)(src to:Int)(d:WayD):Prop:=(∀ x,¬Zau xs al src to x)/\∃ a∈al,ZiB border a/\outS xs xs a src to d
theorem Zba {xs:List RecD}{al:List Int}{border:Bool}{src to:Int}{d:WayD}(h:Zbz xs al border src to d):GoodW d/\d.to=to:=by
 obtain⟨_,a,_,_,h2⟩:=h;exact Zfb (fun _ h=>h) h2
theorem ZgI {xs rs:List RecD}{area src to:Int}{d:WayD}(h:outS xs rs area src to d):ZaE xs=true/\0<=area/\area<3:=by
 obtain⟨_,r,_,_,_,_,v,h4,_⟩:=h;exact ZcM (ZaM h4).1
def ZgR (xs:List RecD)(al:List Int)(border:Bool)(src to:Int)(d:WayD):Prop:=∃ a∈al,ZiB border a/\outS xs xs a src to d
theorem Zlx {xs:List RecD}{al:List Int}{border:Bool}{src to:Int}{d:WayD}(h:ZgR xs al border src to d):GoodW d/\d.to=to:=by
 obtain⟨a,_,_,h2⟩:=h;exact Zfb (fun _ h=>h) h2
theorem Zhy {xs:List RecD}{al:List Int}{border:Bool}{src to a:Int}{k:Nat}(h:al[k]? = some a)(d:WayD):ZgR xs (al.take (k+1)) border src to d↔ZgR xs (al.take k) border src to d\/(ZiB border a/\outS xs xs a src to d):=by
 obtain⟨hk,e⟩:=List.getElem?_eq_some_iff.1 h;unfold ZgR;rw [List.take_succ_eq_append_getElem hk,e]
 constructor
 ·rintro ⟨b,h2,h3,h4⟩
  rcases List.mem_append.1 h2 with h5 | h5
  ·exact .inl ⟨b,h5,h3,h4⟩
  ·have:b=a:=by simpa using h5
   subst this;exact .inr ⟨h3,h4⟩
 ·rintro (⟨b,h2,h3,h4⟩ | ⟨h3,h4⟩)
  ·exact ⟨b,List.mem_append.2 (.inl h2),h3,h4⟩
  ·exact ⟨a,List.mem_append.2 (.inr (by simp)),h3,h4⟩
theorem Zjw {tog:WayD->WayD->WayD}(ht:Zjr tog){xs:List RecD}{area src to:Int}{k:Nat}{r:RecD}{o:Option WayD}{S0:WayD->Prop}(hS0:∀ d,S0 d->GoodW d/\d.to=to)(h:xs[k]? = some r)(hb:ZaF to (fun d=>S0 d\/outS xs (xs.take k) area src to d) o){d:WayD}(hd:ZcA xs area src r d)(hto:d.to=to):
  ZaF to (fun d=>S0 d\/outS xs (xs.take (k+1)) area src to d) (Zel tog o (some d)):=by
 have hg:=Zd3 (List.mem_of_getElem? h) hd;refine (hb.add ht (fun w hw=>?_) hto hg.asc hg.hop6).congr (fun w=>?_)
 ·rcases hw with h1 | h1
  ·exact (hS0 w h1).1.hop6
  ·exact (Zfb (fun r hr=>List.mem_of_mem_take hr) h1).1.hop6
 ·rw [Zi4 h]
  have huniq:∀ w,ZcA xs area src r w->w=d:=by
   rintro w ⟨_,_,_,v,h4,_,rfl⟩;obtain⟨_,_,_,v',h4',_,rfl⟩:=hd;rw [h4] at h4';cases h4'
   rfl
  constructor
  ·rintro ((h1 | h1) | h1)
   ·exact .inl h1
   ·exact .inr (.inl h1)
   ·subst h1;exact .inr (.inr ⟨hto,hd⟩)
  ·rintro (h1 | h1 | ⟨_,h1⟩)
   ·exact .inl (.inl h1)
   ·exact .inl (.inr h1)
   ·exact .inr (huniq w h1)
theorem ZbN {xs:List RecD}{area src to:Int}{k:Nat}{r:RecD}{o:Option WayD}{S0:WayD->Prop}(h:xs[k]? = some r)(hb:ZaF to (fun d=>S0 d\/outS xs (xs.take k) area src to d) o)(hn:∀ d,d.to=to->¬ZcA xs area src r d):
  ZaF to (fun d=>S0 d\/outS xs (xs.take (k+1)) area src to d) o:=by
 refine hb.congr (fun w=>?_)
 rw [Zi4 h]
 constructor
 ·rintro (h1 | h1)
  ·exact .inl h1
  ·exact .inr (.inl h1)
 ·rintro (h1 | h1 | ⟨h1,h2⟩)
  ·exact .inl h1
  ·exact .inr h1
  ·exact absurd h2 (hn w h1)
structure BoxT (W:World) (z lo:Nat) (b:WayD) (bv:Value):Prop where
 box:W.heap[z]? = some (.cells (wayC b bv) 48)
 own:W.ownsRow lo 3 1 bv b.hops.length (flat intE b.hops)
 len:b.hops.length<=6
theorem BoxT.below {W W':World}{z lo:Nat}{b:WayD}{bv:Value}(h:BoxT W z lo b bv)(hb:Below W.heap.size W W'):BoxT W' z lo b bv:=
 ⟨(hb.block _ (Zab h.box)).trans h.box,Zaf h.own hb (Nat.le_refl _),h.len⟩
theorem BoxT.other {W W':World}{z g lo:Nat}{b:WayD}{bv:Value}{cs:Array Value}{T:TypeId}{fr:Nat × Nat}(h:BoxT W z lo b bv)(hg:W.grownBy W' (some g))(hgz:z≠g)(hbox:W.heap[g]? = some (.cells cs T fr))(hT:(3:TypeId)≠T):BoxT W' z lo b bv:=
 ⟨(hg.block z (Zab h.box) (by simp;omega)).trans h.box,Zao h.own (fun j hj=>hg.block j (h.own.lt j hj).2 (fun e=>Zan h.own hbox hT (by rw [hj];exact e.symm))),h.len⟩
theorem BoxT.put {W:World}{z lo:Nat}{b:WayD}{bv:Value}(h:BoxT W z lo b bv){d:WayD}{u:Value}(hu:W.ownsRow lo 3 1 u d.hops.length (flat intE d.hops))(hl:d.hops.length<=6):BoxT (Za7 W z d u) z lo d u:=by
 have hb:=h.box;unfold wayC at hb;have hg:=Za1 W z d u;exact⟨Zdc d u hb,Zao hu (fun j hj=>hg.block j (hu.lt j hj).2 (fun e=>Zan hu h.box (by decide) (by rw [hj];exact e.symm))),hl⟩
theorem ZeE {W:World}{z g:Nat}{d:WayD}{u:Value}{o:Obj}(h:W.heap[g]? = some o)(hne:g≠z):(Za7 W z d u).heap[g]? = some o:=((Za1 W z d u).block g (Zab h) (by simp;omega)).trans h
end Go.Proofs.YtgdgkgmjpnbbcaaGreat
