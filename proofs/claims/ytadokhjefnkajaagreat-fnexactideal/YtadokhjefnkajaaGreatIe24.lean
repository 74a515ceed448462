/-
  TogI BsJ DelI
-/
import Derived.Test.YtadokhjefnkajaaGreatIe4
import Derived.Test.YtadokhjefnkajaaGreatIe19
import Derived.Test.YtadokhjefnkajaaGreatIe5
import Derived.Test.YtadokhjefnkajaaGreatIe3
import Derived.Test.YtadokhjefnkajaaGreatIe20
import Derived.Lib.SliceRun
namespace Go.Proofs.YtadokhjefnkajaaGreat
open Go.RowKit
set_option linter.unusedSimpArgs false
set_option linter.unusedVariables false
set_option maxRecDepth 100000
set_option maxHeartbeats 8000000
theorem Zlu (la lb:List Int)(va vb:Value)(ba bb:Nat)(w:World)(ha:w.ownsRow ba 3 1 va la.length (flat intE la))(hb:w.ownsRow bb 3 1 vb lb.length (flat intE lb))(hla:la.length<=1048576)(hlb:lb.length<=1048576):
  Calls Tryz.prog 252 #[va,vb] w fun e w'=>∃ x,e=.returned x/\w'.ownsRow w.heap.size 3 1 x (Zdj la lb).length (flat intE (Zdj la lb))/\Below w.heap.size w w':=by
 have H1:=hide (Zel la va ba w ha hla);have HB:=hide hb;obtain⟨pa,qa,rfl⟩:=Zac ha;obtain⟨pb,qb,rfl⟩:=Zac hb;clear ha hb
 go_enter Tryz.func252,Tryz.ntmps252
 go_wp2_with fail
 refine H1.out.mono ?_
 rintro e w1 ⟨v1,rfl,o1,b1⟩;obtain⟨p1,q1,rfl⟩:=Zac o1;have OB:=hide (Zae HB.out b1 (Nat.le_refl _));have O1:=hide o1;have hs1:=b1.size;clear o1 H1 HB
 go_wp2_with (first
  | (at_builtin;refine Zdf ZeM (by omega) ZcY (by omega) _ rfl _ _ 28 rfl w.heap.size 3 Tryz.underlying28 (.int .i64 0) rfl Tryz.info3 (.slice p1 la.length q1) la rfl O1.out bb (.slice pb lb.length qb) lb rfl OB.out (by omega) hs1 ?_))
 intro v2 w2 o2 hg2;have B2:Below w.heap.size w w2:=b1.grown hg2 hs1 (fun k hk=>(O1.out.lt k hk).1)
 have hLL:(la++lb).length<=2097152:=by simp;omega
 have o2':w2.ownsRow w.heap.size 3 1 v2 (la++lb).length (Za5 (la++lb)):=by rw [<-Zb3];simpa using o2
 obtain⟨L,hL⟩:∃ L,L=la++lb:=⟨_,rfl⟩;rw [<-hL] at o2' hLL;have HL:=hide hL;clear hL o2;obtain⟨p2,q2,rfl⟩:=Zac o2';have HSO:=hide (Zo6 w.heap.size (.slice p2 L.length q2) L w2 o2' (by omega))
 clear o2' hg2
 go_wp2_with fail
 refine HSO.out.mono ?_
 rintro e w3 ⟨rfl,o3,k3⟩;have B3:=k3 w.heap.size w (Nat.le_refl _) B2;have HCO:=hide (Zjw w.heap.size _ _ w3 o3 (by rw [List.length_mergeSort];omega))
 clear o3 k3 HSO
 go_wp2_with fail
 refine HCO.out.mono ?_
 rintro e w4 ⟨x,rfl,o4,k4⟩;have B4:=hide (k4 w.heap.size w (Nat.le_refl _) B3);have O4:=hide o4;obtain⟨p4,q4,rfl⟩:=Zac o4;clear o4 k4 HCO
 go_wp2
 go_ret
 exact⟨_,rfl,by rw [Zb3];unfold Zdj;rw [<-HL.out];exact O4.out,B4.out⟩
def togI (x y:WayD):WayD:=if Zbz x y then x else if Zbz y x then y else ⟨x.to,x.cost,Zdj x.hops y.hops⟩
theorem Zlm {B:Nat}{w W:World}(h:Below B w W):Below B w W.drew:=h.trans ⟨rfl,rfl,rfl,Nat.le_refl _,fun _ _=>rfl⟩
theorem ZkK (x y:WayD)(vx vy:Value)(bx bY:Nat)(w:World)(hx:w.ownsRow bx 3 1 vx x.hops.length (flat intE x.hops))(hy:w.ownsRow bY 3 1 vy y.hops.length (flat intE y.hops))(hlx:x.hops.length<=1048576)(hly:y.hops.length<=1048576):
  Calls Tryz.prog 246 #[.agg (wayC x vx),.agg (wayC y vy)] w fun e w'=>∃ u,e=.returned (.agg (wayC (togI x y) u))/\w'.ownsRow w.heap.size 3 1 u (togI x y).hops.length (flat intE (togI x y).hops)/\Below w.heap.size w w':=by
 obtain⟨D,hD⟩:∃ D,D=togI x y:=⟨_,rfl⟩;rw [<-hD];have HD:=hide hD;clear hD;obtain⟨p1,q1,rfl⟩:=Zac hx;obtain⟨p2,q2,rfl⟩:=Zac hy;have HW1:=hide (fun W (hb:Below w.heap.size w W)=>Zfj x (.slice p1 x.hops.length q1) bx W (Zae hx hb (Nat.le_refl _)) hlx)
 have HW2:=hide (fun W (hb:Below w.heap.size w W)=>Zfj y (.slice p2 y.hops.length q2) bY W (Zae hy hb (Nat.le_refl _)) hly)
 have HHB:=hide (fun W (hb:Below w.heap.size w W)=>Zlu x.hops y.hops (.slice p1 x.hops.length q1) (.slice p2 y.hops.length q2) bx bY W (Zae hx hb (Nat.le_refl _)) (Zae hy hb (Nat.le_refl _)) hlx hly)
 have HB1:=hide (fun W=>Zcf (.slice p1 x.hops.length q1) (.slice p2 y.hops.length q2) x y W)
 have HB2:=hide (fun W=>Zcf (.slice p2 y.hops.length q2) (.slice p1 x.hops.length q1) y x W)
 clear hx hy;have m0:=ZjG w (.cells #[.int .i64 x.to,.int .i64 x.cost,.slice p1 x.hops.length q1] 194) (.cells #[.int .i64 y.to,.int .i64 y.cost,.slice p2 y.hops.length q2] 194) (.cells #[.int .i64 0,.int .i64 0,.slice none 0 0] 194);have m1:=ZjH w (.cells #[.int .i64 x.to,.int .i64 x.cost,.slice p1 x.hops.length q1] 194) (.cells #[.int .i64 y.to,.int .i64 y.cost,.slice p2 y.hops.length q2] 194) (.cells #[.int .i64 0,.int .i64 0,.slice none 0 0] 194);have m2:=ZjI w (.cells #[.int .i64 x.to,.int .i64 x.cost,.slice p1 x.hops.length q1] 194) (.cells #[.int .i64 y.to,.int .i64 y.cost,.slice p2 y.hops.length q2] 194) (.cells #[.int .i64 0,.int .i64 0,.slice none 0 0] 194);have BQ:=Zcc (w:=w) (.cells #[.int .i64 x.to,.int .i64 x.cost,.slice p1 x.hops.length q1] 194) (.cells #[.int .i64 y.to,.int .i64 y.cost,.slice p2 y.hops.length q2] 194) (.cells #[.int .i64 0,.int .i64 0,.slice none 0 0] 194);obtain⟨w1,hw1⟩:∃ W,W=(((w.alloc (.cells #[.int .i64 x.to,.int .i64 x.cost,.slice p1 x.hops.length q1] 194)).alloc (.cells #[.int .i64 y.to,.int .i64 y.cost,.slice p2 y.hops.length q2] 194)).alloc (.cells #[.int .i64 0,.int .i64 0,.slice none 0 0] 194)):=⟨_,rfl⟩;rw [<-hw1] at m0 m1 m2 BQ;have s0:=0;have s1:=0;have s2:=0;have t0:=0;have t1:=0;have t2:=0;obtain⟨F1,hF1⟩:∃ b,b=Zbz x y:=⟨_,rfl⟩;obtain⟨F2,hF2⟩:∃ b,b=Zbz y x:=⟨_,rfl⟩;rw [<-hF1] at HB1;rw [<-hF2] at HB2;have HF1:=hide hF1;have HF2:=hide hF2;clear hF1 hF2;unfold wayC at HB1 HB2 HW1 HW2 |-
 go_enter Tryz.func246,Tryz.ntmps246
 go_wp2_with fail
 rw [<-hw1];clear hw1;refine (HB1.out _).mono ?_
 rintro e w2 ⟨rfl,b1⟩;have m0:=(b1.block _ (Zab m0)).trans m0;have m1:=(b1.block _ (Zab m1)).trans m1;have m2:=(b1.block _ (Zab m2)).trans m2;have BQ:=BQ.trans (b1.mono BQ.size);clear s0 s1 s2 t0 t1 t2 b1;have s0:=Zaa m0 0;have s1:=Zaa m0 1;have s2:=Zaa m0 2;have t0:=Zaa m1 0;have t1:=Zaa m1 1;have t2:=Zaa m1 2;simp at s0 s1 s2 t0 t1 t2
 cases F1
 ·go_wp2_with fail
  refine (HB2.out _).mono ?_
  rintro e w3 ⟨rfl,b1⟩;have m0:=(b1.block _ (Zab m0)).trans m0;have m1:=(b1.block _ (Zab m1)).trans m1;have m2:=(b1.block _ (Zab m2)).trans m2;have BQ:=BQ.trans (b1.mono BQ.size);clear s0 s1 s2 t0 t1 t2 b1;have s0:=Zaa m0 0;have s1:=Zaa m0 1;have s2:=Zaa m0 2;have t0:=Zaa m1 0;have t1:=Zaa m1 1;have t2:=Zaa m1 2;simp at s0 s1 s2 t0 t1 t2
  cases F2
  ·have hDe:D=⟨x.to,x.cost,Zdj x.hops y.hops⟩:=by rw [HD.out];unfold togI;rw [<-HF1.out, <-HF2.out];rfl
   subst hDe;clear HW1 HW2 HB1 HB2 HD
   go_wp2
   refine wp_region_noPanic ?_
   have hS0:w3.drew.cell? ⟨w.heap.size,0,none⟩=some (.int .i64 x.to)/\w3.drew.cell? ⟨w.heap.size,1,none⟩=some (.int .i64 x.cost)/\w3.drew.cell? ⟨w.heap.size,2,none⟩=some (.slice p1 x.hops.length q1)/\w3.drew.cell? ⟨w.heap.size+1,2,none⟩=some (.slice p2 y.hops.length q2):=⟨s0,s1,s2,t2⟩;refine Zag (S:=fun W=>W.cell? ⟨w.heap.size,0,none⟩=some (.int .i64 x.to)/\W.cell? ⟨w.heap.size,1,none⟩=some (.int .i64 x.cost)/\W.cell? ⟨w.heap.size,2,none⟩=some (.slice p1 x.hops.length q1)/\W.cell? ⟨w.heap.size+1,2,none⟩=some (.slice p2 y.hops.length q2)) (by kernel_rfl) 11 rfl hS0 ?_
   intro ops hops _
   show wpAnyH Tryz.prog .any ops _ _ 11 #[false,false,false,false,false,false,false,false,false,false,false] _ w3.drew
   iterate 8
    refine Zar 11 ?_ ?_ ?_ (by rw [hops.out];kernel_rfl) ?_ ?_ (by assumption) ?_
    rotate_left 2
    ·rw [hops.out];simp only [getS,Nat.reduceSub,Nat.reduceAdd];rfl
    ·intro W hW;obtain⟨k1,k2,k3,k4⟩:=hW;go_simp <;> with_reducible rfl
    ·exact fun _ _ _=>id
    try simp only [putS]
   refine Zak 8 (oi:=?_) ?_ (by rw [hops.out];kernel_rfl) ?_ ?_
   rotate_left 1
   ·rw [hops.out];simp only [getS];rfl
   ·rw [hops.out];kernel_rfl
   intro K hK
   go_simp
   refine (HHB.out _ (Zlm BQ)).mono ?_
   rintro e w4 ⟨u,rfl,hn2,b2⟩;obtain⟨na,nc,rfl⟩:=Zac hn2;have hK2:w4.cell? ⟨w.heap.size,0,none⟩=some (.int .i64 x.to)/\w4.cell? ⟨w.heap.size,1,none⟩=some (.int .i64 x.cost)/\w4.cell? ⟨w.heap.size,2,none⟩=some (.slice p1 x.hops.length q1)/\w4.cell? ⟨w.heap.size+1,2,none⟩=some (.slice p2 y.hops.length q2):=by
    refine⟨?_,?_,?_,?_⟩ <;> (rw [b2.cell (by first | exact Zab m0 | exact Zab m1)];assumption)
   refine hK.out _ _ hK2 (fun _=>?_)
   clear hK K
   try simp only [putS]
   refine ZaP 9 ?_ ?_ ?_ (by rw [hops.out];kernel_rfl) ?_ ?_ (by assumption) ?_
   rotate_left 2
   ·rw [hops.out];simp only [getS];rfl
   ·intro W hW;obtain⟨k1,k2,k3,k4⟩:=hW;go_simp <;> with_reducible rfl
   ·exact fun _ _ _=>id
   try simp only [putS]
   have hz2:=(b2.block _ (Zab m2)).trans m2;have hz0:=(b2.block _ (Zab m0)).trans m0;have hz1:=(b2.block _ (Zab m1)).trans m1;have u0:=Zaa hz2 0;have u1:=Zaa hz2 1;have u2:=Zaa hz2 2;simp at u0 u1 u2
   have fu:=Zaf hz2;have FF:=hide (Zc6 ⟨x.to,x.cost,Zdj x.hops y.hops⟩ (.slice na (Zdj x.hops y.hops).length nc) hz2);have G8:=Za2 w4 (w.heap.size+1+1) ⟨x.to,x.cost,Zdj x.hops y.hops⟩ (.slice na (Zdj x.hops y.hops).length nc);have hsz:=Zab m2;have O3:=hide (Zaj (b0:=w.heap.size) (hn2.kept G8 (by
    cases hv:(Value.slice na (Zdj x.hops y.hops).length nc).ownBlock with
    | none=>exact .inl rfl
    | some g=>exact .inr (fun e=>by
      have h9:=(hn2.lt g hv).1;have h8:w3.heap.size<=g:=h9;simp at e
      omega))) (by show w.heap.size<=w3.heap.size;omega))
   have B2:Below w.heap.size w w4:=(Zlm BQ).trans (b2.mono BQ.size);have BF:=hide (B2.grown G8 B2.size (fun k hk=>by simp at hk;omega))
   have hS5:∀ W:World,W.heap[w.heap.size]? = w4.heap[w.heap.size]? -> W.heap[w.heap.size+1]? = w4.heap[w.heap.size+1]? -> W.cell? ⟨w.heap.size,0,none⟩=some (.int .i64 x.to)/\W.cell? ⟨w.heap.size,1,none⟩=some (.int .i64 x.cost)/\W.cell? ⟨w.heap.size,2,none⟩=some (.slice p1 x.hops.length q1)/\W.cell? ⟨w.heap.size+1,2,none⟩=some (.slice p2 y.hops.length q2):=by
    intro W e1 e2;refine⟨?_,?_,?_,?_⟩
    ·rw [World.cell?_of_block (w:=w4) e1];exact hK2.1
    ·rw [World.cell?_of_block (w:=w4) e1];exact hK2.2.1
    ·rw [World.cell?_of_block (w:=w4) e1];exact hK2.2.2.1
    ·rw [World.cell?_of_block (w:=w4) e2];exact hK2.2.2.2
   have hS6:=hS5 (Za8 w4 (w.heap.size+1+1) ⟨x.to,x.cost,Zdj x.hops y.hops⟩ (.slice na (Zdj x.hops y.hops).length nc)) (G8.block _ (Zab hz0) (by simp;omega)) (G8.block _ (Zab hz1) (by simp))
   clear hS5 hz2 hn2 b2 G8 hz0 hz1;refine Zak 10 (oi:=?_) ?_ (by rw [hops.out];kernel_rfl) ?_ ?_
   rotate_left 1
   ·rw [hops.out];simp only [getS];rfl
   ·rw [hops.out];kernel_rfl
   intro K hK
   go_simp
   refine hK.out _ _ hS6 (fun _=>?_)
   clear hK K
   try simp only [putS]
   refine wpAnyH_done (by rw [hops.out];kernel_rfl) ?_ _
   clear hops ops;refine NoPanic.normal ?_
   go_wp2_with fail
   (try simp only [Exit.inBlock,Exit.then])
   refine bodyPost_ret (results_cell_row rfl _ _ (w.heap.size+1+1) 194 (wayC ⟨x.to,x.cost,Zdj x.hops y.hops⟩ (.slice na (Zdj x.hops y.hops).length nc)) (0,0) _ rfl FF.out Tryz.underlying194 rfl (by kernel_rfl)) rfl ?_
   exact⟨_,rfl,O3.out,BF.out⟩
  ·have hDe:D=y:=by rw [HD.out];unfold togI;rw [<-HF1.out, <-HF2.out];rfl
   subst hDe;clear HW1 HHB HB1 HB2 HD
   go_wp2_with fail
   refine (HW2.out _ BQ).mono ?_
   rintro e w4 ⟨v1,rfl,hn2,b2⟩;obtain⟨na,nc,rfl⟩:=Zac hn2;have hz2:=(b2.block _ (Zab m2)).trans m2;have u0:=Zaa hz2 0;have u1:=Zaa hz2 1;have u2:=Zaa hz2 2;simp at u0 u1 u2
   have fu:=Zaf hz2;have FF:=hide (Zc6 D (.slice na D.hops.length nc) hz2);have G8:=Za2 w4 (w.heap.size+1+1) D (.slice na D.hops.length nc);have hsz:=Zab m2;have O3:=hide (Zaj (b0:=w.heap.size) (hn2.kept G8 (by
    cases hv:(Value.slice na D.hops.length nc).ownBlock with
    | none=>exact .inl rfl
    | some g=>exact .inr (fun e=>by have:=(hn2.lt g hv).1;simp at e;omega))) (by omega))
   have B2:Below w.heap.size w w4:=BQ.trans (b2.mono BQ.size);have BF:=hide (B2.grown G8 B2.size (fun k hk=>by simp at hk;omega))
   clear hz2 hn2 b2 G8 m2 m0 m1
   go_wp2_with fail
   (try simp only [Exit.inBlock,Exit.then])
   refine bodyPost_ret (results_cell_row rfl _ _ (w.heap.size+1+1) 194 (wayC D (.slice na D.hops.length nc)) (0,0) _ rfl FF.out Tryz.underlying194 rfl (by kernel_rfl)) rfl ?_
   exact⟨_,rfl,O3.out,BF.out⟩
 ·have hDe:D=x:=by rw [HD.out];unfold togI;rw [<-HF1.out];rfl
  subst hDe;clear HW2 HHB HB1 HB2 HD
  go_wp2_with fail
  refine (HW1.out _ BQ).mono ?_
  rintro e w4 ⟨v1,rfl,hn2,b2⟩;obtain⟨na,nc,rfl⟩:=Zac hn2;have hz2:=(b2.block _ (Zab m2)).trans m2;have u0:=Zaa hz2 0;have u1:=Zaa hz2 1;have u2:=Zaa hz2 2;simp at u0 u1 u2
  have fu:=Zaf hz2;have FF:=hide (Zc6 D (.slice na D.hops.length nc) hz2);have G8:=Za2 w4 (w.heap.size+1+1) D (.slice na D.hops.length nc);have hsz:=Zab m2;have O3:=hide (Zaj (b0:=w.heap.size) (hn2.kept G8 (by
   cases hv:(Value.slice na D.hops.length nc).ownBlock with
   | none=>exact .inl rfl
   | some g=>exact .inr (fun e=>by have:=(hn2.lt g hv).1;simp at e;omega))) (by omega))
  have B2:Below w.heap.size w w4:=BQ.trans (b2.mono BQ.size);have BF:=hide (B2.grown G8 B2.size (fun k hk=>by simp at hk;omega))
  clear hz2 hn2 b2 G8 m2 m0 m1
  go_wp2_with fail
  (try simp only [Exit.inBlock,Exit.then])
  refine bodyPost_ret (results_cell_row rfl _ _ (w.heap.size+1+1) 194 (wayC D (.slice na D.hops.length nc)) (0,0) _ rfl FF.out Tryz.underlying194 rfl (by kernel_rfl)) rfl ?_
  exact⟨_,rfl,O3.out,BF.out⟩
theorem Zkf (v:Value)(ps:List RP)(hi:Nat)(r:RP)(w:World)(hv:RecsIn w hi v ps)(hhi:hi<=w.heap.size)(hn:tot ps<=1048576)(hr:ZaD w 0 hi r)(hmono:∀ s t,s<=t->t<ps.length->ltAt (fsts ps) r.1 t->ltAt (fsts ps) r.1 s):
  Calls Tryz.prog 211 #[v,.agg (recC r.1 r.2),.func (.func 133) #[] #[]] w fun e w'=>∃ (i:Nat) (f:Bool),e=.returned (.tuple #[.int .i64 (i:Int),.bool f])/\i<=ps.length/\(∀ t,t<i->ltAt (fsts ps) r.1 t)/\(∀ t,i<=t->t<ps.length->¬ltAt (fsts ps) r.1 t)/\(f=true↔∃ x,(fsts ps)[i]? = some x/\ordR x r.1=0)/\Below w.heap.size w w':=by
 have hnl:=Zbh ps;obtain⟨a1,c1,rfl⟩:=Zac hv.row;obtain⟨ra,rc,hrn⟩:=Zac hr.1;have HRN:=hide hrn;have HV:=hide hv;have HM:=hide hmono;unfold recC;rw [hrn];clear hv hr hrn hmono;have BX:Below w.heap.size w (w.alloc (.cells #[.int .i64 r.1.area,.int .i64 r.1.kind,.int .i64 r.1.owner,.int .i64 r.1.key,.int .i64 r.1.seq,.slice ra r.1.near.length rc,.int .i64 r.1.cost,.bool r.1.far] 39)):=(Below.refl _ _).alloc (Nat.le_refl _) _;have hx:=heap_alloc_new w (.cells #[.int .i64 r.1.area,.int .i64 r.1.kind,.int .i64 r.1.owner,.int .i64 r.1.key,.int .i64 r.1.seq,.slice ra r.1.near.length rc,.int .i64 r.1.cost,.bool r.1.far] 39);obtain⟨w0,hw0⟩:∃ w0,w0=w.alloc (.cells #[.int .i64 r.1.area,.int .i64 r.1.kind,.int .i64 r.1.owner,.int .i64 r.1.key,.int .i64 r.1.seq,.slice ra r.1.near.length rc,.int .i64 r.1.cost,.bool r.1.far] 39):=⟨_,rfl⟩;rw [<-hw0] at BX hx;have hs0:=Zab hx;have HX:=hide hx;clear hx
 go_enter Tryz.func211,Tryz.ntmps211
 go_wp2
 rw [<-hw0];clear hw0
 go_loopw [9,10] (fun i j wr=>∃ (m n:Nat),m<=n/\n<=ps.length/\i=.int .i64 m/\j=.int .i64 n/\Hid (∀ t,t<m->ltAt (fsts ps) r.1 t)/\Hid (∀ t,n<=t->t<ps.length->¬ltAt (fsts ps) r.1 t)/\Below w0.heap.size w0 wr) (fun i j _=>(intOf j).toNat-(intOf i).toNat)
 case atStart=>exact ⟨0,ps.length,by omega,by omega,rfl,rfl,hide (by omega),hide (by omega),Below.refl _ _⟩
 case round=>
  obtain⟨m,n,hmn,hnp,rfl,rfl,HLO,HHI,hnx⟩:=hrel;have hsz:=hnx.size;have BWR:Below w.heap.size w wr:=BX.trans (hnx.mono (by omega))
  by_cases hlt:m<n
  ·have hmi:(m:Int)<(n:Int):=by omega
   have hw1:IntKind.i64.wrap ((m:Int)+(n:Int))=(m:Int)+(n:Int):=ZaK _ (by omega) (by omega)
   go_wp2
   obtain⟨k,hk⟩:∃ k:Nat,k=(m+n) / 2:=⟨_,rfl⟩;have hke:((m:Int)+(n:Int)) / 2=(k:Int):=by omega
   rw [hke];have hkm:m<=k:=by omega
   have hkn:k<n:=by omega
   have hki:(0:Int)<=(k:Int):=by omega
   have hkj:(k:Int)<(ps.length:Int):=by omega
   clear hk hke hw1;obtain⟨p,hp⟩:∃ p,ps[k]? = some p:=⟨ps[k],List.getElem?_eq_getElem (by omega)⟩
   obtain⟨b,off,cap',hve,hbb,c0,c1,c2,c3,c4,c5,c6,c7,hnr⟩:=HV.out.at.cells k p hp;cases hve
   obtain⟨pa,pc,hpn⟩:=ZaC.shape hnr;rw [hpn] at c5;rw [<-BWR.cell (p:=⟨b,off+k*8,none⟩) (Nat.lt_of_lt_of_le hbb hhi)] at c0;rw [<-BWR.cell (p:=⟨b,off+k*8+1,none⟩) (Nat.lt_of_lt_of_le hbb hhi)] at c1;rw [<-BWR.cell (p:=⟨b,off+k*8+2,none⟩) (Nat.lt_of_lt_of_le hbb hhi)] at c2;rw [<-BWR.cell (p:=⟨b,off+k*8+3,none⟩) (Nat.lt_of_lt_of_le hbb hhi)] at c3;rw [<-BWR.cell (p:=⟨b,off+k*8+4,none⟩) (Nat.lt_of_lt_of_le hbb hhi)] at c4;rw [<-BWR.cell (p:=⟨b,off+k*8+5,none⟩) (Nat.lt_of_lt_of_le hbb hhi)] at c5;rw [<-BWR.cell (p:=⟨b,off+k*8+6,none⟩) (Nat.lt_of_lt_of_le hbb hhi)] at c6;rw [<-BWR.cell (p:=⟨b,off+k*8+7,none⟩) (Nat.lt_of_lt_of_le hbb hhi)] at c7;have hxx:=(hnx.block _ (Zab HX.out)).trans HX.out;have d0:=Zaa hxx 0;have d1:=Zaa hxx 1;have d2:=Zaa hxx 2;have d3:=Zaa hxx 3;have d4:=Zaa hxx 4;have d5:=Zaa hxx 5;have d6:=Zaa hxx 6;have d7:=Zaa hxx 7;simp at d0 d1 d2 d3 d4 d5 d6 d7
   have hb1:b<wr.heap.size:=by omega
   have hb2:w.heap.size<wr.heap.size:=by omega
   have hq:=fun W=>ZbV p.2 r.2 p.1 r.1 W
   unfold recC at hq;rw [hpn,HRN.out] at hq;obtain⟨x,hx⟩:∃ x,x=ordR p.1 r.1:=⟨_,rfl⟩;rw [<-hx] at hq;have HK:=hide hq;have HXV:=hide hx;have HPP:=hide (Zbw hp);clear hq hx hp hxx hnr hpn;by_cases hx0:x<0
   ·have HLO2:=hide (show ∀ t,t<k+1->ltAt (fsts ps) r.1 t from fun t ht=>HM.out t k (by omega) (by omega) ((ZcL HPP.out).2 (by rw [<-HXV.out];exact hx0)))
    go_region_held3 (fun W=>W.cell? ⟨b,off+k*8,none⟩=some (.int .i64 p.1.area)/\W.cell? ⟨b,off+k*8+1,none⟩=some (.int .i64 p.1.kind)/\W.cell? ⟨b,off+k*8+2,none⟩=some (.int .i64 p.1.owner)/\W.cell? ⟨b,off+k*8+3,none⟩=some (.int .i64 p.1.key)/\W.cell? ⟨b,off+k*8+4,none⟩=some (.int .i64 p.1.seq)/\W.cell? ⟨b,off+k*8+5,none⟩=some (.slice pa p.1.near.length pc)/\W.cell? ⟨b,off+k*8+6,none⟩=some (.int .i64 p.1.cost)/\W.cell? ⟨b,off+k*8+7,none⟩=some (.bool p.1.far)/\W.cell? ⟨w.heap.size,0,none⟩=some (.int .i64 r.1.area)/\W.cell? ⟨w.heap.size,1,none⟩=some (.int .i64 r.1.kind)/\W.cell? ⟨w.heap.size,2,none⟩=some (.int .i64 r.1.owner)/\W.cell? ⟨w.heap.size,3,none⟩=some (.int .i64 r.1.key)/\W.cell? ⟨w.heap.size,4,none⟩=some (.int .i64 r.1.seq)/\W.cell? ⟨w.heap.size,5,none⟩=some (.slice ra r.1.near.length rc)/\W.cell? ⟨w.heap.size,6,none⟩=some (.int .i64 r.1.cost)/\W.cell? ⟨w.heap.size,7,none⟩=some (.bool r.1.far)) (first | go_keep | (refine ⟨?_,?_,?_,?_,?_,?_,?_,?_,?_,?_,?_,?_,?_,?_,?_,?_⟩ <;> (rw [hbc.cell (by assumption)];assumption))) (first | (go_at_call 133;refine (HK.out _).mono ?_;rintro e w1 ⟨rfl,hbc⟩))
    go_wp2
    go_roundw
    case rel=>exact ⟨k+1,n,by omega,by omega,by go_num,rfl,HLO2,HHI,hnx.trans ((Below.refl _ _).drew.trans (hbc.mono hsz))⟩
    case measure=>simp [intOf];omega
   ·have HHI2:=hide (show ∀ t,k<=t->t<ps.length->¬ltAt (fsts ps) r.1 t from fun t h1 h2 h3=>hx0 (by rw [HXV.out];exact (ZcL HPP.out).1 (HM.out k t h1 h2 h3)))
    go_region_held3 (fun W=>W.cell? ⟨b,off+k*8,none⟩=some (.int .i64 p.1.area)/\W.cell? ⟨b,off+k*8+1,none⟩=some (.int .i64 p.1.kind)/\W.cell? ⟨b,off+k*8+2,none⟩=some (.int .i64 p.1.owner)/\W.cell? ⟨b,off+k*8+3,none⟩=some (.int .i64 p.1.key)/\W.cell? ⟨b,off+k*8+4,none⟩=some (.int .i64 p.1.seq)/\W.cell? ⟨b,off+k*8+5,none⟩=some (.slice pa p.1.near.length pc)/\W.cell? ⟨b,off+k*8+6,none⟩=some (.int .i64 p.1.cost)/\W.cell? ⟨b,off+k*8+7,none⟩=some (.bool p.1.far)/\W.cell? ⟨w.heap.size,0,none⟩=some (.int .i64 r.1.area)/\W.cell? ⟨w.heap.size,1,none⟩=some (.int .i64 r.1.kind)/\W.cell? ⟨w.heap.size,2,none⟩=some (.int .i64 r.1.owner)/\W.cell? ⟨w.heap.size,3,none⟩=some (.int .i64 r.1.key)/\W.cell? ⟨w.heap.size,4,none⟩=some (.int .i64 r.1.seq)/\W.cell? ⟨w.heap.size,5,none⟩=some (.slice ra r.1.near.length rc)/\W.cell? ⟨w.heap.size,6,none⟩=some (.int .i64 r.1.cost)/\W.cell? ⟨w.heap.size,7,none⟩=some (.bool r.1.far)) (first | go_keep | (refine ⟨?_,?_,?_,?_,?_,?_,?_,?_,?_,?_,?_,?_,?_,?_,?_,?_⟩ <;> (rw [hbc.cell (by assumption)];assumption))) (first | (go_at_call 133;refine (HK.out _).mono ?_;rintro e w1 ⟨rfl,hbc⟩))
    go_wp2
    go_roundw
    case rel=>exact ⟨m,k,by omega,by omega,rfl,rfl,HLO,HHI2,hnx.trans ((Below.refl _ _).drew.trans (hbc.mono hsz))⟩
    case measure=>simp [intOf];omega
  ·have hmn2:m=n:=by omega
   subst hmn2;by_cases hend:m<ps.length
   ·have hmi:(0:Int)<=(m:Int):=by omega
    have hmj:(m:Int)<(ps.length:Int):=by omega
    obtain⟨p,hp⟩:∃ p,ps[m]? = some p:=⟨ps[m],List.getElem?_eq_getElem (by omega)⟩
    obtain⟨b,off,cap',hve,hbb,c0,c1,c2,c3,c4,c5,c6,c7,hnr⟩:=HV.out.at.cells m p hp;cases hve
    obtain⟨pa,pc,hpn⟩:=ZaC.shape hnr;rw [hpn] at c5;rw [<-BWR.cell (p:=⟨b,off+m*8,none⟩) (Nat.lt_of_lt_of_le hbb hhi)] at c0;rw [<-BWR.cell (p:=⟨b,off+m*8+1,none⟩) (Nat.lt_of_lt_of_le hbb hhi)] at c1;rw [<-BWR.cell (p:=⟨b,off+m*8+2,none⟩) (Nat.lt_of_lt_of_le hbb hhi)] at c2;rw [<-BWR.cell (p:=⟨b,off+m*8+3,none⟩) (Nat.lt_of_lt_of_le hbb hhi)] at c3;rw [<-BWR.cell (p:=⟨b,off+m*8+4,none⟩) (Nat.lt_of_lt_of_le hbb hhi)] at c4;rw [<-BWR.cell (p:=⟨b,off+m*8+5,none⟩) (Nat.lt_of_lt_of_le hbb hhi)] at c5;rw [<-BWR.cell (p:=⟨b,off+m*8+6,none⟩) (Nat.lt_of_lt_of_le hbb hhi)] at c6;rw [<-BWR.cell (p:=⟨b,off+m*8+7,none⟩) (Nat.lt_of_lt_of_le hbb hhi)] at c7;have hxx:=(hnx.block _ (Zab HX.out)).trans HX.out;have d0:=Zaa hxx 0;have d1:=Zaa hxx 1;have d2:=Zaa hxx 2;have d3:=Zaa hxx 3;have d4:=Zaa hxx 4;have d5:=Zaa hxx 5;have d6:=Zaa hxx 6;have d7:=Zaa hxx 7;simp at d0 d1 d2 d3 d4 d5 d6 d7
    have hb1:b<wr.heap.size:=by omega
    have hb2:w.heap.size<wr.heap.size:=by omega
    have hq:=fun W=>ZbV p.2 r.2 p.1 r.1 W
    unfold recC at hq;rw [hpn,HRN.out] at hq;obtain⟨x,hx⟩:∃ x,x=ordR p.1 r.1:=⟨_,rfl⟩;rw [<-hx] at hq;have HK:=hide hq;have HXV:=hide hx;have HPP:=hide (Zbw hp);clear hq hx hp hxx hnr hpn;have hfin:(x==0)=true↔∃ y,(fsts ps)[m]? = some y/\ordR y r.1=0:=by
     rw [HPP.out]
     constructor
     ·intro h
      exact⟨p.1,rfl,by rw [<-HXV.out];simpa using h⟩
     ·rintro ⟨y,hy,he⟩
      cases hy
      rw [HXV.out]
      simpa using he
    have HFIN:=hide hfin;clear hfin
    go_wp2
    go_region_held3 (fun W=>W.cell? ⟨b,off+m*8,none⟩=some (.int .i64 p.1.area)/\W.cell? ⟨b,off+m*8+1,none⟩=some (.int .i64 p.1.kind)/\W.cell? ⟨b,off+m*8+2,none⟩=some (.int .i64 p.1.owner)/\W.cell? ⟨b,off+m*8+3,none⟩=some (.int .i64 p.1.key)/\W.cell? ⟨b,off+m*8+4,none⟩=some (.int .i64 p.1.seq)/\W.cell? ⟨b,off+m*8+5,none⟩=some (.slice pa p.1.near.length pc)/\W.cell? ⟨b,off+m*8+6,none⟩=some (.int .i64 p.1.cost)/\W.cell? ⟨b,off+m*8+7,none⟩=some (.bool p.1.far)/\W.cell? ⟨w.heap.size,0,none⟩=some (.int .i64 r.1.area)/\W.cell? ⟨w.heap.size,1,none⟩=some (.int .i64 r.1.kind)/\W.cell? ⟨w.heap.size,2,none⟩=some (.int .i64 r.1.owner)/\W.cell? ⟨w.heap.size,3,none⟩=some (.int .i64 r.1.key)/\W.cell? ⟨w.heap.size,4,none⟩=some (.int .i64 r.1.seq)/\W.cell? ⟨w.heap.size,5,none⟩=some (.slice ra r.1.near.length rc)/\W.cell? ⟨w.heap.size,6,none⟩=some (.int .i64 r.1.cost)/\W.cell? ⟨w.heap.size,7,none⟩=some (.bool r.1.far)) (first | go_keep | (refine ⟨?_,?_,?_,?_,?_,?_,?_,?_,?_,?_,?_,?_,?_,?_,?_,?_⟩ <;> (rw [hbc.cell (by assumption)];assumption))) (first | (go_at_call 133;refine (HK.out _).mono ?_;rintro e w1 ⟨rfl,hbc⟩))
    go_wp2
    go_returns
    exact⟨m,x==0,rfl,by omega,HLO.out,HHI.out,HFIN.out,BWR.trans ((Below.refl _ _).drew.trans (hbc.mono (show w.heap.size<=wr.heap.size by omega)))⟩
   ·have hme:¬(m:Int)<(ps.length:Int):=by omega
    have HNO:=hide (show (false=true↔∃ y,(fsts ps)[m]? = some y/\ordR y r.1=0) from ⟨(fun h=>by cases h),(fun ⟨y,hy,_⟩=>by rw [List.getElem?_eq_none (by simp [fsts];omega)] at hy;cases hy)⟩)
    go_wp2
    go_quiet (fail)
    go_wp2
    go_returns
    exact⟨m,false,rfl,by omega,HLO.out,HHI.out,HNO.out,BWR.trans ⟨rfl,rfl,rfl,Nat.le_refl _,fun _ _=>rfl⟩⟩
theorem ZhI (x:Int)(w:World):Calls Tryz.prog 249 #[.int .i64 x] w fun e w'=>e=.returned (.bool (x != 0))/\w=w':=by
 go_enter Tryz.func249,Tryz.ntmps249
 go_wp2
 go_ret
 exact⟨rfl,rfl⟩
theorem Zk8 {Z R:List Int}{k:Nat}{y:Int}(h:(Z++R)[k]? = some y)(hZ:∀ z∈Z,z=0)(hR:∀ z∈R,z≠0):(k<Z.length/\y=0)\/(Z.length<=k/\y≠0):=by
 rcases Nat.lt_or_ge k Z.length with h1 | h1
 ·rw [List.getElem?_append_left h1] at h
  exact .inl ⟨h1,hZ y (List.mem_of_getElem? h)⟩
 ·rw [List.getElem?_append_right h1] at h
  exact .inr ⟨h1,hR y (List.mem_of_getElem? h)⟩
theorem Zlx (v:Value)(Z R:List Int)(w:World)(hn:(Z++R).length<=1048576)(hZ:∀ z∈Z,z=0)(hR:∀ z∈R,z≠0)(hv:ZaM w v (Z++R) w.heap.size):
  Calls Tryz.prog 271 #[v,.func (.func 249) #[] #[]] w fun e w'=>e=.returned (.int .i64 (if R=[] then -1 else (Z.length:Int)))/\w=w':=by
 obtain⟨a,cap,rfl⟩:=hv.shape;have HV:=hide hv;clear hv;obtain⟨L,hL⟩:∃ L,L=Z++R:=⟨_,rfl⟩;rw [<-hL] at HV hn |-;have HLE:=hide hL;have HSP:=hide (fun (k:Nat) (y:Int) (h:L[k]? = some y)=>Zk8 (by rw [<-hL];exact h) hZ hR)
 obtain⟨res,hres⟩:∃ r:Int,r=if R=[] then -1 else (Z.length:Int):=⟨_,rfl⟩
 rw [<-hres];have HRES:=hide hres;clear hL hres
 go_enter Tryz.func271,Tryz.ntmps271
 go_wp2
 go_loop [8] (fun i=>∃ k:Nat,k<=L.length/\i=.int .i64 k/\k<=Z.length) (fun i=>L.length-(intOf i).toNat)
 case atStart=>exact ⟨0,by omega,rfl,by omega⟩
 case round=>
  obtain⟨k,hk,rfl,hkz⟩:=hrel;by_cases hlt:k<L.length
  ·obtain ⟨y,hy⟩:∃ y,L[k]? = some y:=⟨L[k],List.getElem?_eq_getElem hlt⟩
   obtain⟨b,off,cap',hve,hbb,c0⟩:=HV.out.cell k y hy;cases hve
   have hki:(0:Int)<=(k:Int):=by omega
   have hkj:(k:Int)<(L.length:Int):=by omega
   rcases HSP.out k y hy with ⟨h1,h2⟩ | ⟨h1,h2⟩
   ·have hd:(y != 0)=false:=by simpa using h2
    clear hy h2
    go_wp2_with fail
    refine (ZhI _ _).mono ?_
    rintro e w1 ⟨rfl,rfl⟩;rw [hd]
    go_wp2
    go_round
    case rel=>exact ⟨k+1,by omega,by go_num,by omega⟩
    case measure=>simp [intOf];omega
   ·have hd:(y != 0)=true:=by simpa using h2
    have hkz2:(k:Int)=res:=by
     rw [HRES.out,if_neg (fun e=>by have:=congrArg List.length HLE.out;rw [List.length_append,e] at this;simp at this;omega)]
     omega
    clear hy h2;have HKZ:=hide hkz2;clear hkz2
    go_wp2_with fail
    refine (ZhI _ _).mono ?_
    rintro e w1 ⟨rfl,rfl⟩;rw [hd]
    go_wp2
    go_ret
    exact⟨Zb6 HKZ.out,rfl⟩
  ·have hRE:(-1:Int)=res:=by
    have h1:=congrArg List.length HLE.out;rw [List.length_append] at h1;rw [HRES.out,if_pos (List.length_eq_zero_iff.1 (by omega))]
   have HRR:=hide hRE;clear hRE
   go_wp2
   go_ret
   exact⟨Zb6 HRR.out,rfl⟩
theorem ZeY {base g n cap:Nat}{e:TypeId}:∀ (vs:List Value) (o:Nat) (w:World) (xs:List Value),w.ownsRow base e 1 (.slice (some ⟨g,0,none⟩) n cap) n xs->∃ ys,(w.setCells g o vs).ownsRow base e 1 (.slice (some ⟨g,0,none⟩) n cap) n ys/\ys.take o=xs.take o
 | [],_,_,xs,h=>⟨xs,h,rfl⟩
 | v::vs,o,w,xs,h=>by
  obtain⟨ys,h1,h2⟩:=ZeY vs (o+1) (w.setCell ⟨g,o,none⟩ v) (xs.set o v) (h.stored o v).1;refine⟨ys,h1,?_⟩
  have h3:=congrArg (List.take o) h2;rw [List.take_take,List.take_take,Nat.min_eq_left (by omega),List.take_set_of_le (Nat.le_refl _)] at h3
  exact h3
theorem Zea {g:Nat}:∀ (vs:List Value) (o:Nat) (w:World),w.grownBy (w.setCells g o vs) (some g)
 | [],_,_=>⟨rfl,rfl,rfl,Nat.le_refl _,fun _ _ _=>rfl⟩
 | v::vs,o,w=>Zah (Zaq w g o v) (Zea vs (o+1) _)
theorem Znl {w:World}{base g n cap m:Nat}{e:TypeId}{xs:List Value}(h:w.ownsRow base e 1 (.slice (some ⟨g,0,none⟩) n cap) n xs)(hm:m<=n):w.ownsRow base e 1 (.slice (some ⟨g,0,none⟩) m cap) m (xs.take m):=by
 have hl:=h.1
 rcases h.2 with ⟨h0,_⟩ | ⟨g',cap',cur,hv,hb,hh,hnc,hcm,hcs,htk⟩
 ·cases h0
 ·cases hv
  refine⟨by rw [List.length_take];omega,.inr ⟨g,cap,cur,rfl,hb,hh,by omega,hcm,hcs,?_⟩⟩
  rw [<-htk,List.take_take,Nat.min_eq_left (by omega),Nat.mul_one]
theorem Zls (l:List Int)(k:Nat):(flat intE l).take k=flat intE (l.take k):=by
 rw [Zb3,Zb3];simp [Za5]
theorem Zoc (v:Value)(Z R:List Int)(lo:Nat)(w:World)(hn:(Z++R).length<=1048576)(hZ:∀ z∈Z,z=0)(hR:∀ z∈R,z≠0)(hv:IntsOwn w lo w.heap.size v (Z++R)):
  Calls Tryz.prog 248 #[v,.func (.func 249) #[] #[]] w fun e w'=>∃ x,e=.returned x/\IntsOwn w' lo w'.heap.size x Z/\w.grownBy w' v.ownBlock:=by
 have HI:=hide (Zlx v Z R w hn hZ hR hv.at);by_cases hRE:R=[]
 ·subst hRE
  rw [if_pos rfl] at HI;rw [List.append_nil] at hv;obtain⟨a,cap,rfl⟩:=Zac hv.row;have HV:=hide hv;clear hv
  go_enter Tryz.func248,Tryz.ntmps248
  go_wp2_with fail
  refine HI.out.mono ?_
  rintro e w1 ⟨rfl,rfl⟩
  go_wp2
  go_ret
  exact⟨_,rfl,HV.out,Zbd _ _⟩
 ·rw [if_neg hRE] at HI
  have hRl:0<R.length:=List.length_pos_iff.2 hRE;have hlen:(Z++R).length=Z.length+R.length:=List.length_append;obtain⟨g,cap,rfl,hg1,hg2⟩:=ZbQ hv.row (by omega)
  have hcl:∀ ty,(Builtin.clear_ #[28] ty #[.slice (some ⟨g,Z.length,none⟩) ((Z++R).length-Z.length) (cap-Z.length)]).run Tryz.prog w=.ok (.tuple #[]) (w.setCells g Z.length (List.replicate ((Z++R).length-Z.length) (.int .i64 0))):=fun ty=>
   Lib.run_clear_slice w 28 3 ty (.int .i64 0) Tryz.underlying28 (fun W=>by
    obtain⟨i0,hi,hz0,hz1,hz2⟩:=info_parts Tryz.info3;simp [zeroValue,typeInfo,hi,hz0]) rfl rfl g Z.length _ _ (by omega) (fun j hj=>by
     obtain⟨u,hu⟩:=ZaG hv.row (Z.length+j) (by omega)
     rw [hu];rfl) (fun j _=>hv.row.frozenAt _)
  have hcap:(Z++R).length<=cap:=by
   rcases hv.row.2 with ⟨h0,_⟩ | ⟨g',cap',cur,hv',_,_,hnc,_⟩
   ·cases h0
   ·cases hv';exact hnc
  have hcap2:cap<=9223372036854775807:=by
   rcases hv.row.2 with ⟨h0,_⟩ | ⟨g',cap',cur,hv',_,_,_,hcm,_⟩
   ·cases h0
   ·cases hv';unfold maxLen at hcm;omega
  have hfin:IntsOwn (w.setCells g Z.length (List.replicate ((Z++R).length-Z.length) (.int .i64 0))) lo (w.setCells g Z.length (List.replicate ((Z++R).length-Z.length) (.int .i64 0))).heap.size (.slice (some ⟨g,0,none⟩) Z.length cap) Z:=by
   obtain⟨ys,h1,h2⟩:=ZeY (List.replicate ((Z++R).length-Z.length) (.int .i64 0)) Z.length w _ hv.row;have h3:=Znl h1 (show Z.length<=(Z++R).length by omega)
   rw [h2,Zls,List.take_left] at h3;exact IntsOwn.of h3
  have HF:=hide hfin;have HG:=hide (Zea (g:=g) (List.replicate ((Z++R).length-Z.length) (.int .i64 0)) Z.length w);have HV:=hide hv.at;have HSP:=hide (fun (k:Nat) (y:Int) (h:(Z++R)[k]? = some y)=>Zk8 h hZ hR)
  obtain⟨L,hL⟩:∃ L,L=Z++R:=⟨_,rfl⟩;rw [<-hL] at HI HF HG HV HSP hcl hcap hlen hn |-;clear hv hfin hL hZ hR hRE;have hzn:((Z.length:Int) == -1)=false:=by simp <;> omega
  have hzl:Z.length<=L.length:=by omega
  have hzi:(Z.length:Int)<=(L.length:Int):=by omega
  have hzc:¬(cap=Z.length):=by omega
  have hzc2:Z.length<=cap:=by omega
  have HLN:=hide hlen;clear hlen
  go_enter Tryz.func248,Tryz.ntmps248
  go_wp2_with fail
  refine HI.out.mono ?_
  rintro e w1 ⟨rfl,rfl⟩
  go_wp2
  go_loopw [6,5] (fun i f wr=>∃ j:Nat,Z.length+1<=j/\j<=L.length/\i=.int .i64 (j:Int)/\f=.int .i64 (Z.length:Int)/\wr=w) (fun i _ _=>L.length-(intOf i).toNat)
  case atStart=>exact ⟨Z.length+1,by omega,by have:=HLN.out;omega,by go_num,rfl,rfl⟩
  case round=>
   obtain⟨j,hj0,hj,rfl,rfl,rfl⟩:=hrel;by_cases hlt:j<L.length
   ·obtain ⟨y,hy⟩:∃ y,L[j]? = some y:=⟨L[j],List.getElem?_eq_getElem hlt⟩
    obtain⟨b,off,cap',hve,hbb,c0⟩:=HV.out.cell j y hy;cases hve
    simp only [Nat.zero_add] at c0
    have hki:(0:Int)<=(j:Int):=by omega
    have hkj:(j:Int)<(L.length:Int):=by omega
    have hd:(y != 0)=true:=by
     rcases HSP.out j y hy with ⟨h1,h2⟩ | ⟨h1,h2⟩
     ·omega
     ·simpa using h2
    clear hy
    go_wp2_with fail
    refine (ZhI _ _).mono ?_
    rintro e w1 ⟨rfl,rfl⟩;rw [hd]
    go_wp2
    go_roundw
    case rel=>exact ⟨j+1,by omega,by omega,by go_num,rfl,trivial⟩
    case measure=>simp [intOf];omega
   ·have hjn:¬(j:Int)<(L.length:Int):=by omega
    clear HV HSP HI
    go_wp2
    go_ret
    exact⟨_,rfl,HF.out,HG.out⟩
def ZcZ (l:List Int)(border:Bool):List Int:=if border then (if (0:Int)∈l then [0] else []) else ZcT l 3
theorem Zft {l:List Int}{border:Bool}{a:Int}:a∈ZcZ l border↔(a∈l/\0<=a/\a<3)/\(border=true->a=0):=by
 unfold ZcZ;cases border
 ·simp only [Bool.false_eq_true,if_false,false_implies,and_true]
  exact Zgp
 ·simp only [if_true,true_implies]
  constructor
  ·intro h
   split at h
   ·rename_i h0
    have:a=0:=by simpa using h
    subst this;exact⟨⟨h0,by omega,by omega⟩,rfl⟩
   ·simp at h
  ·rintro ⟨⟨h1,_,_⟩,rfl⟩
   rw [if_pos h1];simp
theorem Zi3 (l:List Int)(border:Bool):(ZcZ l border).length<=3:=by
 unfold ZcZ
 split
 ·split <;> simp
 ·exact ZdJ l 3
theorem ZlW (l:List Int):∃ R,ZcT l 3=(if (0:Int)∈l then [0] else [])++R/\(∀ z∈R,z≠0)/\∀ z∈(if (0:Int)∈l then [(0:Int)] else []),z=0:=by
 refine⟨(if decide ((1:Int)∈l) then [1] else [])++(if decide ((2:Int)∈l) then [2] else []),?_,?_,?_⟩
 ·show (([]++_)++_)++_=_
  simp [List.append_assoc]
 ·intro z hz
  rcases List.mem_append.1 hz with h | h
  ·split at h
   ·have:z=1:=by simpa using h
    omega
   ·simp at h
  ·split at h
   ·have:z=2:=by simpa using h
    omega
   ·simp at h
 ·intro z hz
  split at hz
  ·simpa using hz
  ·simp at hz
theorem Zit (v:Value)(l:List Int)(border:Bool)(hi:Nat)(w:World)(hn:l.length<=1048576)(hv:ZaM w v l hi)(hhi:hi<=w.heap.size):
  Calls Tryz.prog 214 #[v,.bool border] w fun e w'=>∃ x,e=.returned x/\IntsOwn w' w.heap.size w'.heap.size x (ZcZ l border)/\Below w.heap.size w w':=by
 obtain⟨a,cap,rfl⟩:=hv.shape;have HR:=hide (Zk6 (.slice a l.length cap) l hi w hn hv hhi);clear hv;unfold ZcZ;cases border
 ·simp only [Bool.false_eq_true,if_false]
  obtain⟨L,hL⟩:∃ L,L=ZcT l 3:=⟨_,rfl⟩;rw [<-hL] at HR |-;have HLL:=hide hL;clear hL
  go_enter Tryz.func214,Tryz.ntmps214
  go_wp2_with fail
  refine HR.out.mono ?_
  rintro e w1 ⟨x,rfl,ho,b1⟩;obtain⟨xa,xc,rfl⟩:=Zac ho.row;have HO:=hide ho;clear ho
  go_wp2
  go_ret
  exact⟨_,rfl,HO.out,b1⟩
 ·simp only [if_true]
  obtain⟨R,hre,hR,hZ⟩:=ZlW l;obtain⟨Z,hZe⟩:∃ Z,Z=(if (0:Int)∈l then [(0:Int)] else []):=⟨_,rfl⟩
  rw [<-hZe] at hre hZ |-;have hl3:(Z++R).length<=3:=by rw [<-hre];exact ZdJ l 3
  rw [hre] at HR;have HDD:=hide (fun x W (ho:IntsOwn W w.heap.size W.heap.size x (Z++R))=>Zoc x Z R w.heap.size W (by omega) hZ hR ho)
  obtain⟨L,hL⟩:∃ L,L=Z++R:=⟨_,rfl⟩;rw [<-hL] at HR HDD;clear hre hZe hL hl3 hZ hR
  go_enter Tryz.func214,Tryz.ntmps214
  go_wp2_with fail
  refine HR.out.mono ?_
  rintro e w1 ⟨x,rfl,ho,b1⟩;have HD:=hide (HDD.out x w1 ho);clear HDD;obtain⟨xa,xc,rfl⟩:=Zac ho.row;have HO:=hide ho;clear ho
  go_wp2_with fail
  refine HD.out.mono ?_
  rintro e w2 ⟨y,rfl,ho2,hg⟩;have HO2:=hide ho2;have HB:=hide (b1.grown hg b1.size (fun k hk=>(HO.out.row.lt k hk).1))
  obtain⟨ya,yc,rfl⟩:=Zac ho2.row;clear ho2 hg
  go_wp2
  go_ret
  exact⟨_,rfl,HO2.out,HB.out⟩
end Go.Proofs.YtadokhjefnkajaaGreat
