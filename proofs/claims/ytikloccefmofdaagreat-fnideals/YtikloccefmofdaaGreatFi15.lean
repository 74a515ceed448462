/-
  Parts.
-/
import Derived.Test.YtikloccefmofdaaGreatFi12
import Derived.Test.YtikloccefmofdaaGreatFi13
namespace Go.Proofs.YtikloccefmofdaaGreat
open Go.RowKit
set_option linter.unusedSimpArgs false
set_option linter.unusedVariables false
set_option maxRecDepth 100000
set_option maxHeartbeats 8000000
variable {xs:List Value}{cap g k lo n z:Nat}{e:TypeId}{u:Value}{W W' w:World}
theorem Zh6 (la lb:List Int)(va vb:Value)(ba bb:Nat)(w:World)(ha:w.ownsRow ba 3 1 va la.length (flat intE la))(hb:w.ownsRow bb 3 1 vb lb.length (flat intE lb))(hla:la.length<=1048576)(hlb:lb.length<=1048576):
  Calls Tryz.prog 132 #[va,vb] w fun e w'=>∃ x,e=.returned x/\w'.ownsRow w.heap.size 3 1 x (Zcr la lb).length (flat intE (Zcr la lb))/\Below w.heap.size w w':=by
 have H1:=hide (Ze5 la va ba w ha hla);have HB:=hide hb;obtain⟨pa,qa,rfl⟩:=Zac ha;obtain⟨pb,qb,rfl⟩:=Zac hb;clear ha hb
 go_enter Tryz.func132,Tryz.ntmps132
 go_wp2_with fail
 refine H1.out.mono ?_;rintro e w1 ⟨v1,rfl,o1,b1⟩;obtain⟨p1,q1,rfl⟩:=Zac o1;have OB:=hide (Zad HB.out b1 (YA _));have O1:=hide o1;have hs1:=b1.size;clear o1 H1 HB
 go_wp2_with (first
  | (at_builtin;refine ZdL ZfB (by omega) Zdj (by omega) _ rfl _ _ 40 rfl w.heap.size 3 Tryz.underlying40 (.int .i64 0) rfl Tryz.info3 (.slice p1 la.length q1) la rfl O1.out bb (.slice pb lb.length qb) lb rfl OB.out (by omega) hs1 ?_))
 intro v2 w2 o2 hg2;have B2:Below w.heap.size w w2:=b1.grown hg2 hs1 (fun k hk=>(O1.out.lt k hk).1);have hLL:(la++lb).length<=2097152:=by simp;omega
 have o2':w2.ownsRow w.heap.size 3 1 v2 (la++lb).length (Zbb (la++lb)):=by rw [<-Zb7];simpa using o2
 obtain⟨L,hL⟩:∃ L,L=la++lb:=⟨_,rfl⟩;rw [<-hL] at o2' hLL;have HL:=hide hL;clear hL o2;obtain⟨p2,q2,rfl⟩:=Zac o2';have HSO:=hide (Zrf w.heap.size (.slice p2 L.length q2) L w2 o2' (by omega));clear o2' hg2
 go_wp2_with fail
 refine HSO.out.mono ?_;rintro e w3 ⟨rfl,o3,k3⟩;have B3:=k3 w.heap.size w (YA _) B2;have HCO:=hide (Zk1 w.heap.size _ _ w3 o3 (by rw [List.length_mergeSort];omega));clear o3 k3 HSO
 go_wp2_with fail
 refine HCO.out.mono ?_;rintro e w4 ⟨x,rfl,o4,k4⟩;have B4:=hide (k4 w.heap.size w (YA _) B3);have O4:=hide o4;obtain⟨p4,q4,rfl⟩:=Zac o4;clear o4 k4 HCO;go_wp2;go_ret;exact⟨_,rfl,by rw [Zb7];unfold Zcr;rw [<-HL.out];exact O4.out,B4.out⟩
def togI (x y:WayD):WayD:=if Zbr x y then x else if Zbr y x then y else ⟨x.to,x.cost,Zcr x.hops y.hops⟩
theorem Zm0 {B:Nat}(h:Below B w W):Below B w W.drew:=h.trans ⟨rfl,rfl,rfl,YA _,fun _ _=>rfl⟩
theorem Zmi (x y:WayD)(vx vy:Value)(bx bY:Nat)(w:World)(hx:w.ownsRow bx 3 1 vx x.hops.length (flat intE x.hops))(hy:w.ownsRow bY 3 1 vy y.hops.length (flat intE y.hops))(hlx:x.hops.length<=1048576)(hly:y.hops.length<=1048576):
  Calls Tryz.prog 126 #[.agg (wayC x vx),.agg (wayC y vy)] w fun e w'=>∃ u,e=.returned (.agg (wayC (togI x y) u))/\w'.ownsRow w.heap.size 3 1 u (togI x y).hops.length (flat intE (togI x y).hops)/\Below w.heap.size w w':=by
 obtain⟨D,hD⟩:∃ D,D=togI x y:=⟨_,rfl⟩;rw [<-hD];have HD:=hide hD;clear hD;obtain⟨p1,q1,rfl⟩:=Zac hx;obtain⟨p2,q2,rfl⟩:=Zac hy;have HW1:=hide (fun W (hb:Below w.heap.size w W)=>Zgg x (.slice p1 x.hops.length q1) bx W (Zad hx hb (YA _)) hlx);have HW2:=hide (fun W (hb:Below w.heap.size w W)=>Zgg y (.slice p2 y.hops.length q2) bY W (Zad hy hb (YA _)) hly);have HHB:=hide (fun W (hb:Below w.heap.size w W)=>Zh6 x.hops y.hops (.slice p1 x.hops.length q1) (.slice p2 y.hops.length q2) bx bY W (Zad hx hb (YA _)) (Zad hy hb (YA _)) hlx hly);have HB1:=hide (fun W=>Zcs (.slice p1 x.hops.length q1) (.slice p2 y.hops.length q2) x y W);have HB2:=hide (fun W=>Zcs (.slice p2 y.hops.length q2) (.slice p1 x.hops.length q1) y x W);clear hx hy;have m0:=Zos w (.cells #[.int .i64 x.to,.int .i64 x.cost,.slice p1 x.hops.length q1] 108) (.cells #[.int .i64 y.to,.int .i64 y.cost,.slice p2 y.hops.length q2] 108) (.cells #[.int .i64 0,.int .i64 0,.slice none 0 0] 108);have m1:=Zot w (.cells #[.int .i64 x.to,.int .i64 x.cost,.slice p1 x.hops.length q1] 108) (.cells #[.int .i64 y.to,.int .i64 y.cost,.slice p2 y.hops.length q2] 108) (.cells #[.int .i64 0,.int .i64 0,.slice none 0 0] 108);have m2:=Zou w (.cells #[.int .i64 x.to,.int .i64 x.cost,.slice p1 x.hops.length q1] 108) (.cells #[.int .i64 y.to,.int .i64 y.cost,.slice p2 y.hops.length q2] 108) (.cells #[.int .i64 0,.int .i64 0,.slice none 0 0] 108);have BQ:=ZeU (w:=w) (.cells #[.int .i64 x.to,.int .i64 x.cost,.slice p1 x.hops.length q1] 108) (.cells #[.int .i64 y.to,.int .i64 y.cost,.slice p2 y.hops.length q2] 108) (.cells #[.int .i64 0,.int .i64 0,.slice none 0 0] 108);obtain⟨w1,hw1⟩:∃ W,W=(((w.alloc (.cells #[.int .i64 x.to,.int .i64 x.cost,.slice p1 x.hops.length q1] 108)).alloc (.cells #[.int .i64 y.to,.int .i64 y.cost,.slice p2 y.hops.length q2] 108)).alloc (.cells #[.int .i64 0,.int .i64 0,.slice none 0 0] 108)):=⟨_,rfl⟩;rw [<-hw1] at m0 m1 m2 BQ;have s0:=0;have s1:=0;have s2:=0;have t0:=0;have t1:=0;have t2:=0;obtain⟨F1,hF1⟩:∃ b,b=Zbr x y:=⟨_,rfl⟩;obtain⟨F2,hF2⟩:∃ b,b=Zbr y x:=⟨_,rfl⟩;rw [<-hF1] at HB1;rw [<-hF2] at HB2;have HF1:=hide hF1;have HF2:=hide hF2;clear hF1 hF2;unfold wayC at HB1 HB2 HW1 HW2 |-
 go_enter Tryz.func126,Tryz.ntmps126
 go_wp2_with fail
 rw [<-hw1];clear hw1;refine (HB1.out _).mono ?_;rintro e w2 ⟨rfl,b1⟩;have m0:=(b1.block _ (Zab m0)).trans m0;have m1:=(b1.block _ (Zab m1)).trans m1;have m2:=(b1.block _ (Zab m2)).trans m2;have BQ:=BQ.trans (b1.mono BQ.size);clear s0 s1 s2 t0 t1 t2 b1;have s0:=Zaa m0 0;have s1:=Zaa m0 1;have s2:=Zaa m0 2;have t0:=Zaa m1 0;have t1:=Zaa m1 1;have t2:=Zaa m1 2;simp at s0 s1 s2 t0 t1 t2;cases F1
 ·go_wp2_with fail
  refine (HB2.out _).mono ?_;rintro e w3 ⟨rfl,b1⟩;have m0:=(b1.block _ (Zab m0)).trans m0;have m1:=(b1.block _ (Zab m1)).trans m1;have m2:=(b1.block _ (Zab m2)).trans m2;have BQ:=BQ.trans (b1.mono BQ.size);clear s0 s1 s2 t0 t1 t2 b1;have s0:=Zaa m0 0;have s1:=Zaa m0 1;have s2:=Zaa m0 2;have t0:=Zaa m1 0;have t1:=Zaa m1 1;have t2:=Zaa m1 2;simp at s0 s1 s2 t0 t1 t2;cases F2
  ·have hDe:D=⟨x.to,x.cost,Zcr x.hops y.hops⟩:=by rw [HD.out];unfold togI;rw [<-HF1.out, <-HF2.out];rfl
   subst hDe;clear HW1 HW2 HB1 HB2 HD;go_wp2;refine wp_region_noPanic ?_;have hS0:w3.drew.cell? ⟨w.heap.size,0,none⟩=some (.int .i64 x.to)/\w3.drew.cell? ⟨w.heap.size,1,none⟩=some (.int .i64 x.cost)/\w3.drew.cell? ⟨w.heap.size,2,none⟩=some (.slice p1 x.hops.length q1)/\w3.drew.cell? ⟨w.heap.size+1,2,none⟩=some (.slice p2 y.hops.length q2):=⟨s0,s1,s2,t2⟩;refine Zag (S:=fun W=>W.cell? ⟨w.heap.size,0,none⟩=some (.int .i64 x.to)/\W.cell? ⟨w.heap.size,1,none⟩=some (.int .i64 x.cost)/\W.cell? ⟨w.heap.size,2,none⟩=some (.slice p1 x.hops.length q1)/\W.cell? ⟨w.heap.size+1,2,none⟩=some (.slice p2 y.hops.length q2)) (by kernel_rfl) 11 rfl hS0 ?_;intro ops hops _;show wpAnyH Tryz.prog .any ops _ _ 11 #[false,false,false,false,false,false,false,false,false,false,false] _ w3.drew
   iterate 8
    refine ZhD 11 ?_ ?_ ?_ (by rw [hops.out];kernel_rfl) ?_ ?_ (by assumption) ?_
    rotate_left 2
    ·rw [hops.out];simp only [getS,Nat.reduceSub,Nat.reduceAdd];rfl
    ·intro W hW;obtain⟨k1,k2,k3,k4⟩:=hW;go_simp <;> with_reducible rfl
    ·exact fun _ _ _=>id
    try simp only [putS]
   refine TC 8 ?_;intro K hK;go_simp;refine (HHB.out _ (Zm0 BQ)).mono ?_;rintro e w4 ⟨u,rfl,hn2,b2⟩;obtain⟨na,nc,rfl⟩:=Zac hn2;have hK2:w4.cell? ⟨w.heap.size,0,none⟩=some (.int .i64 x.to)/\w4.cell? ⟨w.heap.size,1,none⟩=some (.int .i64 x.cost)/\w4.cell? ⟨w.heap.size,2,none⟩=some (.slice p1 x.hops.length q1)/\w4.cell? ⟨w.heap.size+1,2,none⟩=some (.slice p2 y.hops.length q2):=by
    refine⟨?_,?_,?_,?_⟩ <;> (rw [b2.cell (by first | exact Zab m0 | exact Zab m1)];assumption)
   refine hK.out _ _ hK2 (fun _=>?_);clear hK K
   try simp only [putS]
   refine Zbs 9 ?_ ?_ ?_ (by rw [hops.out];kernel_rfl) ?_ ?_ (by assumption) ?_
   rotate_left 2
   ·rw [hops.out];simp only [getS];rfl
   ·intro W hW;obtain⟨k1,k2,k3,k4⟩:=hW;go_simp <;> with_reducible rfl
   ·exact fun _ _ _=>id
   try simp only [putS]
   have hz2:=(b2.block _ (Zab m2)).trans m2;have hz0:=(b2.block _ (Zab m0)).trans m0;have hz1:=(b2.block _ (Zab m1)).trans m1;have u0:=Zaa hz2 0;have u1:=Zaa hz2 1;have u2:=Zaa hz2 2;simp at u0 u1 u2;have fu:=Zae hz2;have FF:=hide (Zds ⟨x.to,x.cost,Zcr x.hops y.hops⟩ (.slice na (Zcr x.hops y.hops).length nc) hz2);have G8:=Za2 w4 (w.heap.size+1+1) ⟨x.to,x.cost,Zcr x.hops y.hops⟩ (.slice na (Zcr x.hops y.hops).length nc);have hsz:=Zab m2;have O3:=hide (Zaf (b0:=w.heap.size) (hn2.kept G8 (by
    cases hv:(Value.slice na (Zcr x.hops y.hops).length nc).ownBlock with
    | none=>exact .inl rfl
    | some g=>exact .inr (fun e=>by
      have h9:=(hn2.lt g hv).1;have h8:w3.heap.size<=g:=h9;simp at e;omega))) (by show w.heap.size<=w3.heap.size;omega))
   have B2:Below w.heap.size w w4:=(Zm0 BQ).trans (b2.mono BQ.size);have BF:=hide (B2.grown G8 B2.size (fun k hk=>by simp at hk;omega));have hS5:∀ W:World,W.heap[w.heap.size]? = w4.heap[w.heap.size]? -> W.heap[w.heap.size+1]? = w4.heap[w.heap.size+1]? -> W.cell? ⟨w.heap.size,0,none⟩=some (.int .i64 x.to)/\W.cell? ⟨w.heap.size,1,none⟩=some (.int .i64 x.cost)/\W.cell? ⟨w.heap.size,2,none⟩=some (.slice p1 x.hops.length q1)/\W.cell? ⟨w.heap.size+1,2,none⟩=some (.slice p2 y.hops.length q2):=by
    intro W e1 e2;refine⟨?_,?_,?_,?_⟩
    ·rw [World.cell?_of_block (w:=w4) e1];exact hK2.1
    ·rw [World.cell?_of_block (w:=w4) e1];exact hK2.2.1
    ·rw [World.cell?_of_block (w:=w4) e1];exact hK2.2.2.1
    ·rw [World.cell?_of_block (w:=w4) e2];exact hK2.2.2.2
   have hS6:=hS5 (Za8 w4 (w.heap.size+1+1) ⟨x.to,x.cost,Zcr x.hops y.hops⟩ (.slice na (Zcr x.hops y.hops).length nc)) (G8.block _ (Zab hz0) (by simp;omega)) (G8.block _ (Zab hz1) (by simp));clear hS5 hz2 hn2 b2 G8 hz0 hz1;refine TC 10 ?_;intro K hK;go_simp;refine hK.out _ _ hS6 (fun _=>?_);clear hK K
   try simp only [putS]
   refine wpAnyH_done (by rw [hops.out];kernel_rfl) ?_ _;clear hops ops;refine NoPanic.normal ?_
   go_wp2_with fail
   (try simp only [Exit.inBlock,Exit.then])
   refine bodyPost_ret (results_cell_row rfl _ _ (w.heap.size+1+1) 108 (wayC ⟨x.to,x.cost,Zcr x.hops y.hops⟩ (.slice na (Zcr x.hops y.hops).length nc)) (0,0) _ rfl FF.out Tryz.underlying108 rfl (by kernel_rfl)) rfl ?_;exact⟨_,rfl,O3.out,BF.out⟩
  ·have hDe:D=y:=by rw [HD.out];unfold togI;rw [<-HF1.out, <-HF2.out];rfl
   subst hDe;clear HW1 HHB HB1 HB2 HD
   go_wp2_with fail
   refine (HW2.out _ BQ).mono ?_;rintro e w4 ⟨v1,rfl,hn2,b2⟩;obtain⟨na,nc,rfl⟩:=Zac hn2;have hz2:=(b2.block _ (Zab m2)).trans m2;have u0:=Zaa hz2 0;have u1:=Zaa hz2 1;have u2:=Zaa hz2 2;simp at u0 u1 u2;have fu:=Zae hz2;have FF:=hide (Zds D (.slice na D.hops.length nc) hz2);have G8:=Za2 w4 (w.heap.size+1+1) D (.slice na D.hops.length nc);have hsz:=Zab m2;have O3:=hide (Zaf (b0:=w.heap.size) (hn2.kept G8 (by
    cases hv:(Value.slice na D.hops.length nc).ownBlock with
    | none=>exact .inl rfl
    | some g=>exact .inr (fun e=>by have:=(hn2.lt g hv).1;simp at e;omega))) (by omega))
   have B2:Below w.heap.size w w4:=BQ.trans (b2.mono BQ.size);have BF:=hide (B2.grown G8 B2.size (fun k hk=>by simp at hk;omega));clear hz2 hn2 b2 G8 m2 m0 m1
   go_wp2_with fail
   (try simp only [Exit.inBlock,Exit.then])
   refine bodyPost_ret (results_cell_row rfl _ _ (w.heap.size+1+1) 108 (wayC D (.slice na D.hops.length nc)) (0,0) _ rfl FF.out Tryz.underlying108 rfl (by kernel_rfl)) rfl ?_;exact⟨_,rfl,O3.out,BF.out⟩
 ·have hDe:D=x:=by rw [HD.out];unfold togI;rw [<-HF1.out];rfl
  subst hDe;clear HW2 HHB HB1 HB2 HD
  go_wp2_with fail
  refine (HW1.out _ BQ).mono ?_;rintro e w4 ⟨v1,rfl,hn2,b2⟩;obtain⟨na,nc,rfl⟩:=Zac hn2;have hz2:=(b2.block _ (Zab m2)).trans m2;have u0:=Zaa hz2 0;have u1:=Zaa hz2 1;have u2:=Zaa hz2 2;simp at u0 u1 u2;have fu:=Zae hz2;have FF:=hide (Zds D (.slice na D.hops.length nc) hz2);have G8:=Za2 w4 (w.heap.size+1+1) D (.slice na D.hops.length nc);have hsz:=Zab m2;have O3:=hide (Zaf (b0:=w.heap.size) (hn2.kept G8 (by
   cases hv:(Value.slice na D.hops.length nc).ownBlock with
   | none=>exact .inl rfl
   | some g=>exact .inr (fun e=>by have:=(hn2.lt g hv).1;simp at e;omega))) (by omega))
  have B2:Below w.heap.size w w4:=BQ.trans (b2.mono BQ.size);have BF:=hide (B2.grown G8 B2.size (fun k hk=>by simp at hk;omega));clear hz2 hn2 b2 G8 m2 m0 m1
  go_wp2_with fail
  (try simp only [Exit.inBlock,Exit.then])
  refine bodyPost_ret (results_cell_row rfl _ _ (w.heap.size+1+1) 108 (wayC D (.slice na D.hops.length nc)) (0,0) _ rfl FF.out Tryz.underlying108 rfl (by kernel_rfl)) rfl ?_;exact⟨_,rfl,O3.out,BF.out⟩
def putL (ps:List RP)(r:RP):List RP:=ps.filter (fun p=>Zak p.1 r.1)++[r]++ps.filter (fun p=>Zak r.1 p.1)
theorem Zd2 {ps:List RP}{p:RP}(f:RP->Bool)(h:ps[k]? = some p):(ps.take (k+1)).filter f=(ps.take k).filter f++(if f p then [p] else []):=by
 obtain⟨hk,e⟩:=YAD.1 h;rw [YAI hk,List.filter_append,e];congr 1;by_cases hf:f p <;> simp [hf]
theorem Zq4 (v:Value)(ps:List RP)(hi:Nat)(r:RP)(w:World)(hv:RecsIn w hi v ps)(hhi:hi<=w.heap.size)(hn:tot ps<=1048576)(hr:ZaF w 0 hi r):
  Calls Tryz.prog 24 #[v,.agg (recC r.1 r.2)] w fun e w'=>∃ x,e=.returned x/\RecsIn w' w'.heap.size x (putL ps r)/\Below w.heap.size w w'/\∀ k,x.ownBlock=some k->w.heap.size<=k:=by
 unfold putL;have hnl:=Zbj ps;obtain⟨a1,c1,rfl⟩:=Zac hv.row;obtain⟨ra,rc,hrn⟩:=Zac hr.1;have HRN:=hide hrn;have HR:=hide hr;have HV:=hide hv;unfold recC;rw [hrn];clear hv hr hrn;have BX:Below w.heap.size w (w.alloc (.cells #[.int .i64 r.1.area,.int .i64 r.1.kind,.int .i64 r.1.owner,.int .i64 r.1.key,.int .i64 r.1.seq,.slice ra r.1.near.length rc,.int .i64 r.1.cost,.bool r.1.far] 37)):=(YAC _ _).alloc (YA _) _;have hx:=YAE w (.cells #[.int .i64 r.1.area,.int .i64 r.1.kind,.int .i64 r.1.owner,.int .i64 r.1.key,.int .i64 r.1.seq,.slice ra r.1.near.length rc,.int .i64 r.1.cost,.bool r.1.far] 37);obtain⟨w0,hw0⟩:∃ w0,w0=w.alloc (.cells #[.int .i64 r.1.area,.int .i64 r.1.kind,.int .i64 r.1.owner,.int .i64 r.1.key,.int .i64 r.1.seq,.slice ra r.1.near.length rc,.int .i64 r.1.cost,.bool r.1.far] 37):=⟨_,rfl⟩;have hs0:w0.heap.size=w.heap.size+1:=by rw [hw0];simp
 rw [<-hw0] at BX hx;have R0:=hide (World.ownsRow_lit (e:=37) (size:=8) w0 #[] 0 (show w.heap.size+1<=w0.heap.size by omega) (by unfold maxLen;omega) (by simp));have B0:=hide (show Below w0.heap.size w0 (w0.alloc (.cells #[] 37)) from (YAC _ _).alloc (YA _) _);have HX:=hide hx;clear hx
 go_enter Tryz.func24,Tryz.ntmps24
 go_wp2;rw [<-hw0];rw [hs0] at R0;have hs0l:w.heap.size+1<=w0.heap.size:=by omega
 have hs0r:w0.heap.size<=w.heap.size+1:=by omega
 clear hs0 hw0;generalize w0.alloc (.cells #[] 37)=wL at *
 go_loopw [6,5] (fun i o wr=>∃ (k:Nat) (u:Value) (l:List RP),k<=ps.length/\i=.int .i64 k/\o=u/\Hid (l=(ps.take k).filter (fun p=>Zak p.1 r.1))/\wr.ownsRow (w.heap.size+1) 37 8 u l.length (flat encP l)/\Below w0.heap.size w0 wr) (fun i _ _=>ps.length-(intOf i).toNat)
 case atStart=>exact ⟨0,_,[],by omega,rfl,rfl,rfl,by simpa [flat] using R0.out,B0.out⟩
 case round=>
  obtain⟨k,u,l,hk,rfl,rfl,HL,hown,hnx⟩:=hrel;obtain⟨ua,uc,rfl⟩:=Zac hown;have hsz:=hnx.size;have BWR:Below w.heap.size w wr:=BX.trans (hnx.mono (by omega));have HQL:=hide (show l.length<=2097153 by rw [(HL).out];have h2:=List.length_filter_le (fun p:RP=>Zak p.1 r.1) (ps.take k);simp at h2 |-;omega);by_cases hlt:k<ps.length
  ·obtain ⟨p,hp⟩:∃ p,ps[k]? = some p:=⟨ps[k],YAA hlt⟩;have hat:=HV.out.at;obtain⟨b,off,cap',hve,hbb,c0,c1,c2,c3,c4,c5,c6,c7,hnr⟩:=hat.cells k p hp;cases hve;obtain⟨pa,pc,hpn⟩:=Zat.shape hnr;rw [hpn] at c5;replace c0:=(BWR.cell (YAB hbb hhi)).trans c0;replace c1:=(BWR.cell (YAB hbb hhi)).trans c1;replace c2:=(BWR.cell (YAB hbb hhi)).trans c2;replace c3:=(BWR.cell (YAB hbb hhi)).trans c3;replace c4:=(BWR.cell (YAB hbb hhi)).trans c4;replace c5:=(BWR.cell (YAB hbb hhi)).trans c5;replace c6:=(BWR.cell (YAB hbb hhi)).trans c6;replace c7:=(BWR.cell (YAB hbb hhi)).trans c7;have hxx:=(hnx.block _ (Zab HX.out)).trans HX.out;have d0:=Zaa hxx 0;have d1:=Zaa hxx 1;have d2:=Zaa hxx 2;have d3:=Zaa hxx 3;have d4:=Zaa hxx 4;have d5:=Zaa hxx 5;have d6:=Zaa hxx 6;have d7:=Zaa hxx 7;simp at d0 d1 d2 d3 d4 d5 d6 d7;have hb1:b<wr.heap.size:=by omega
   have hb2:w.heap.size<wr.heap.size:=by omega
   have hki:(0:Int)<=(k:Int):=by omega
   have hkj:(k:Int)<(ps.length:Int):=by omega
   have hq:=fun W=>Zfg p.2 r.2 p.1 r.1 W;unfold recC at hq;rw [hpn,HRN.out] at hq;have hpe:p=(p.1,.slice pa p.1.near.length pc):=Prod.ext rfl hpn;obtain⟨q,hqq⟩:∃ q,q=Zak p.1 r.1:=⟨_,rfl⟩;rw [<-hqq] at hq;have HK:=hide hq;have hft:=Zd2 (fun p=>Zak p.1 r.1) hp;rw [<-hqq] at hft;have HFT:=hide hft;have HPE:=hide hpe;have OW:=hide hown;clear hq hqq hp hat hxx hnr hpn hft hpe hown;cases q
   ·go_wp2
    go_region_held3 (fun W=>W.cell? ⟨b,off+k*8,none⟩=some (.int .i64 p.1.area)/\W.cell? ⟨b,off+k*8+1,none⟩=some (.int .i64 p.1.kind)/\W.cell? ⟨b,off+k*8+2,none⟩=some (.int .i64 p.1.owner)/\W.cell? ⟨b,off+k*8+3,none⟩=some (.int .i64 p.1.key)/\W.cell? ⟨b,off+k*8+4,none⟩=some (.int .i64 p.1.seq)/\W.cell? ⟨b,off+k*8+5,none⟩=some (.slice pa p.1.near.length pc)/\W.cell? ⟨b,off+k*8+6,none⟩=some (.int .i64 p.1.cost)/\W.cell? ⟨b,off+k*8+7,none⟩=some (.bool p.1.far)/\W.cell? ⟨w.heap.size,0,none⟩=some (.int .i64 r.1.area)/\W.cell? ⟨w.heap.size,1,none⟩=some (.int .i64 r.1.kind)/\W.cell? ⟨w.heap.size,2,none⟩=some (.int .i64 r.1.owner)/\W.cell? ⟨w.heap.size,3,none⟩=some (.int .i64 r.1.key)/\W.cell? ⟨w.heap.size,4,none⟩=some (.int .i64 r.1.seq)/\W.cell? ⟨w.heap.size,5,none⟩=some (.slice ra r.1.near.length rc)/\W.cell? ⟨w.heap.size,6,none⟩=some (.int .i64 r.1.cost)/\W.cell? ⟨w.heap.size,7,none⟩=some (.bool r.1.far)) (first | go_keep | (refine ⟨?_,?_,?_,?_,?_,?_,?_,?_,?_,?_,?_,?_,?_,?_,?_,?_⟩ <;> (rw [hbc.cell (by assumption)];assumption))) (first | (go_at_call 37;refine (HK.out _).mono ?_;rintro e w1 ⟨rfl,hbc⟩))
    have B1:Below w0.heap.size w0 w1:=hnx.trans ((YAC _ _).drew.trans (hbc.mono hsz));have OW1:=hide (Zad OW.out ((YAC wr.heap.size wr).drew.trans hbc) (YA _));have HFT2:=hide (show l=(ps.take (k+1)).filter (fun p=>Zak p.1 r.1) by rw [(HL).out,HFT.out];simp);go_wp2;go_roundw
    case rel=>exact ⟨k+1,_,_,by omega,by go_num,rfl,HFT2,OW1.out,B1⟩
    case measure=>simp [intOf];omega
   ·go_wp2
    go_region_held3 (fun W=>W.cell? ⟨b,off+k*8,none⟩=some (.int .i64 p.1.area)/\W.cell? ⟨b,off+k*8+1,none⟩=some (.int .i64 p.1.kind)/\W.cell? ⟨b,off+k*8+2,none⟩=some (.int .i64 p.1.owner)/\W.cell? ⟨b,off+k*8+3,none⟩=some (.int .i64 p.1.key)/\W.cell? ⟨b,off+k*8+4,none⟩=some (.int .i64 p.1.seq)/\W.cell? ⟨b,off+k*8+5,none⟩=some (.slice pa p.1.near.length pc)/\W.cell? ⟨b,off+k*8+6,none⟩=some (.int .i64 p.1.cost)/\W.cell? ⟨b,off+k*8+7,none⟩=some (.bool p.1.far)/\W.cell? ⟨w.heap.size,0,none⟩=some (.int .i64 r.1.area)/\W.cell? ⟨w.heap.size,1,none⟩=some (.int .i64 r.1.kind)/\W.cell? ⟨w.heap.size,2,none⟩=some (.int .i64 r.1.owner)/\W.cell? ⟨w.heap.size,3,none⟩=some (.int .i64 r.1.key)/\W.cell? ⟨w.heap.size,4,none⟩=some (.int .i64 r.1.seq)/\W.cell? ⟨w.heap.size,5,none⟩=some (.slice ra r.1.near.length rc)/\W.cell? ⟨w.heap.size,6,none⟩=some (.int .i64 r.1.cost)/\W.cell? ⟨w.heap.size,7,none⟩=some (.bool r.1.far)) (first | go_keep | (refine ⟨?_,?_,?_,?_,?_,?_,?_,?_,?_,?_,?_,?_,?_,?_,?_,?_⟩ <;> (rw [hbc.cell (by assumption)];assumption))) (first | (go_at_call 37;refine (HK.out _).mono ?_;rintro e w1 ⟨rfl,hbc⟩))
    have B1:Below w0.heap.size w0 w1:=hnx.trans ((YAC _ _).drew.trans (hbc.mono hsz));have OW1:=hide (Zad OW.out ((YAC wr.heap.size wr).drew.trans hbc) (YA _));have b1s:=B1.size;have m0:=(hbc.cell (p:=⟨b,off+k*8,none⟩) hb1).trans c0;have m1:=(hbc.cell (p:=⟨b,off+k*8+1,none⟩) hb1).trans c1;have m2:=(hbc.cell (p:=⟨b,off+k*8+2,none⟩) hb1).trans c2;have m3:=(hbc.cell (p:=⟨b,off+k*8+3,none⟩) hb1).trans c3;have m4:=(hbc.cell (p:=⟨b,off+k*8+4,none⟩) hb1).trans c4;have m5:=(hbc.cell (p:=⟨b,off+k*8+5,none⟩) hb1).trans c5;have m6:=(hbc.cell (p:=⟨b,off+k*8+6,none⟩) hb1).trans c6;have m7:=(hbc.cell (p:=⟨b,off+k*8+7,none⟩) hb1).trans c7;have HFT2:=hide (show l++[(p.1,.slice pa p.1.near.length pc)]=(ps.take (k+1)).filter (fun p=>Zak p.1 r.1) by rw [(HL).out,HFT.out, <-HPE.out];simp)
    go_wp2_with (first
     | (at_builtin;refine ZaL Zay (by omega) (by omega) _ rfl _ _ 31 rfl (w.heap.size+1) 37 Tryz.underlying31 (.agg (recC Za9 (.slice none 0 0))) rfl Tryz.infoRec _ (l) (p.1,.slice pa p.1.near.length pc) (ZbY _ _ _ _) rfl (OW1.out.alloc _) ⟨w1.heap.size,0,none⟩ 1 rfl (Zan (cs:=encP (p.1,.slice pa p.1.near.length pc))) (by have:=HQL.out;omega) (by simp;omega) ?_))
    intro v' w4 hown' hgrow;obtain⟨va,vc,rfl⟩:=Zac hown';have B4:Below w0.heap.size w0 w4:=(B1.alloc b1s _).grown hgrow (by simp;omega) (fun j hj=>by have:=(OW1.out.lt j hj).1;omega);have OW4:=hide hown';clear hown' hgrow;go_wp2;go_roundw
    case rel=>exact ⟨k+1,_,_,by omega,by go_num,rfl,HFT2,by simpa using OW4.out,B4⟩
    case measure=>simp [intOf];omega
  ·have hkn:k=ps.length:=by omega
   have htk:ps.take k=ps:=by rw [hkn,YAh]
   rw [htk] at HL;have OW:=hide hown;clear hown hkn htk;have hxx:=(hnx.block _ (Zab HX.out)).trans HX.out;have d0:=Zaa hxx 0;have d1:=Zaa hxx 1;have d2:=Zaa hxx 2;have d3:=Zaa hxx 3;have d4:=Zaa hxx 4;have d5:=Zaa hxx 5;have d6:=Zaa hxx 6;have d7:=Zaa hxx 7;simp at d0 d1 d2 d3 d4 d5 d6 d7;clear hxx
   go_wp2_with (first
    | (at_builtin;refine ZaL Zay (by omega) (by omega) _ rfl _ _ 31 rfl (w.heap.size+1) 37 Tryz.underlying31 (.agg (recC Za9 (.slice none 0 0))) rfl Tryz.infoRec _ (l) (r.1,.slice ra r.1.near.length rc) (ZbY _ _ _ _) rfl (OW.out.alloc _) ⟨wr.heap.size,0,none⟩ 1 rfl (Zan (cs:=encP (r.1,.slice ra r.1.near.length rc))) (by have:=HQL.out;omega) (by simp;omega) ?_))
   intro v' w4 hown' hgrow;obtain⟨va,vc,rfl⟩:=Zac hown';have B2:=hide ((hnx.alloc hsz _).grown hgrow (by simp;omega) (fun j hj=>by have:=(OW.out.lt j hj).1;omega));have HRE:=hide (show r=(r.1,.slice ra r.1.near.length rc) from Prod.ext rfl HRN.out);have R2:=hide hown';clear hown' hgrow HQL d0 d1 d2 d3 d4 d5 d6 d7 OW hnx hsz BWR;go_wp2
   go_loopw [7,5] (fun i o wr=>∃ (k:Nat) (u:Value) (l:List RP),k<=ps.length/\i=.int .i64 k/\o=u/\Hid (l=ps.filter (fun p=>Zak p.1 r.1)++[r]++(ps.take k).filter (fun p=>Zak r.1 p.1))/\wr.ownsRow (w.heap.size+1) 37 8 u l.length (flat encP l)/\Below w0.heap.size w0 wr) (fun i _ _=>ps.length-(intOf i).toNat)
   case atStart=>exact ⟨0,_,l++[(r.1,.slice ra r.1.near.length rc)],by omega,rfl,rfl,(hide (by rw [HL.out, <-HRE.out];simp)),by simpa using R2.out,B2.out⟩
   case round=>
    obtain⟨k,u,m,hk,rfl,rfl,HM,hown,hnx⟩:=hrel;obtain⟨ua,uc,rfl⟩:=Zac hown;have hsz:=hnx.size;have BWR:Below w.heap.size w wr:=BX.trans (hnx.mono (by omega));have HQL:=hide (show m.length<=2097153 by rw [(HM).out];have h1:=List.length_filter_le (fun p:RP=>Zak p.1 r.1) ps;have h2:=List.length_filter_le (fun p:RP=>Zak r.1 p.1) (ps.take k);simp at h1 h2 |-;omega);by_cases hlt:k<ps.length
    ·obtain ⟨p,hp⟩:∃ p,ps[k]? = some p:=⟨ps[k],YAA hlt⟩;have hat:=HV.out.at;obtain⟨b,off,cap',hve,hbb,c0,c1,c2,c3,c4,c5,c6,c7,hnr⟩:=hat.cells k p hp;cases hve;obtain⟨pa,pc,hpn⟩:=Zat.shape hnr;rw [hpn] at c5;replace c0:=(BWR.cell (YAB hbb hhi)).trans c0;replace c1:=(BWR.cell (YAB hbb hhi)).trans c1;replace c2:=(BWR.cell (YAB hbb hhi)).trans c2;replace c3:=(BWR.cell (YAB hbb hhi)).trans c3;replace c4:=(BWR.cell (YAB hbb hhi)).trans c4;replace c5:=(BWR.cell (YAB hbb hhi)).trans c5;replace c6:=(BWR.cell (YAB hbb hhi)).trans c6;replace c7:=(BWR.cell (YAB hbb hhi)).trans c7;have hxx:=(hnx.block _ (Zab HX.out)).trans HX.out;have d0:=Zaa hxx 0;have d1:=Zaa hxx 1;have d2:=Zaa hxx 2;have d3:=Zaa hxx 3;have d4:=Zaa hxx 4;have d5:=Zaa hxx 5;have d6:=Zaa hxx 6;have d7:=Zaa hxx 7;simp at d0 d1 d2 d3 d4 d5 d6 d7;have hb1:b<wr.heap.size:=by omega
     have hb2:w.heap.size<wr.heap.size:=by omega
     have hki:(0:Int)<=(k:Int):=by omega
     have hkj:(k:Int)<(ps.length:Int):=by omega
     have hq:=fun W=>Zfg r.2 p.2 r.1 p.1 W;unfold recC at hq;rw [hpn,HRN.out] at hq;have hpe:p=(p.1,.slice pa p.1.near.length pc):=Prod.ext rfl hpn;obtain⟨q,hqq⟩:∃ q,q=Zak r.1 p.1:=⟨_,rfl⟩;rw [<-hqq] at hq;have HK:=hide hq;have hft:=Zd2 (fun p=>Zak r.1 p.1) hp;rw [<-hqq] at hft;have HFT:=hide hft;have HPE:=hide hpe;have OW:=hide hown;clear hq hqq hp hat hxx hnr hpn hft hpe hown;cases q
     ·go_wp2
      go_region_held3 (fun W=>W.cell? ⟨b,off+k*8,none⟩=some (.int .i64 p.1.area)/\W.cell? ⟨b,off+k*8+1,none⟩=some (.int .i64 p.1.kind)/\W.cell? ⟨b,off+k*8+2,none⟩=some (.int .i64 p.1.owner)/\W.cell? ⟨b,off+k*8+3,none⟩=some (.int .i64 p.1.key)/\W.cell? ⟨b,off+k*8+4,none⟩=some (.int .i64 p.1.seq)/\W.cell? ⟨b,off+k*8+5,none⟩=some (.slice pa p.1.near.length pc)/\W.cell? ⟨b,off+k*8+6,none⟩=some (.int .i64 p.1.cost)/\W.cell? ⟨b,off+k*8+7,none⟩=some (.bool p.1.far)/\W.cell? ⟨w.heap.size,0,none⟩=some (.int .i64 r.1.area)/\W.cell? ⟨w.heap.size,1,none⟩=some (.int .i64 r.1.kind)/\W.cell? ⟨w.heap.size,2,none⟩=some (.int .i64 r.1.owner)/\W.cell? ⟨w.heap.size,3,none⟩=some (.int .i64 r.1.key)/\W.cell? ⟨w.heap.size,4,none⟩=some (.int .i64 r.1.seq)/\W.cell? ⟨w.heap.size,5,none⟩=some (.slice ra r.1.near.length rc)/\W.cell? ⟨w.heap.size,6,none⟩=some (.int .i64 r.1.cost)/\W.cell? ⟨w.heap.size,7,none⟩=some (.bool r.1.far)) (first | go_keep | (refine ⟨?_,?_,?_,?_,?_,?_,?_,?_,?_,?_,?_,?_,?_,?_,?_,?_⟩ <;> (rw [hbc.cell (by assumption)];assumption))) (first | (go_at_call 37;refine (HK.out _).mono ?_;rintro e w1 ⟨rfl,hbc⟩))
      have B1:Below w0.heap.size w0 w1:=hnx.trans ((YAC _ _).drew.trans (hbc.mono hsz));have OW1:=hide (Zad OW.out ((YAC wr.heap.size wr).drew.trans hbc) (YA _));have HFT2:=hide (show m=ps.filter (fun p=>Zak p.1 r.1)++[r]++(ps.take (k+1)).filter (fun p=>Zak r.1 p.1) by rw [(HM).out,HFT.out];simp);go_wp2;go_roundw
      case rel=>exact ⟨k+1,_,_,by omega,by go_num,rfl,HFT2,OW1.out,B1⟩
      case measure=>simp [intOf];omega
     ·go_wp2
      go_region_held3 (fun W=>W.cell? ⟨b,off+k*8,none⟩=some (.int .i64 p.1.area)/\W.cell? ⟨b,off+k*8+1,none⟩=some (.int .i64 p.1.kind)/\W.cell? ⟨b,off+k*8+2,none⟩=some (.int .i64 p.1.owner)/\W.cell? ⟨b,off+k*8+3,none⟩=some (.int .i64 p.1.key)/\W.cell? ⟨b,off+k*8+4,none⟩=some (.int .i64 p.1.seq)/\W.cell? ⟨b,off+k*8+5,none⟩=some (.slice pa p.1.near.length pc)/\W.cell? ⟨b,off+k*8+6,none⟩=some (.int .i64 p.1.cost)/\W.cell? ⟨b,off+k*8+7,none⟩=some (.bool p.1.far)/\W.cell? ⟨w.heap.size,0,none⟩=some (.int .i64 r.1.area)/\W.cell? ⟨w.heap.size,1,none⟩=some (.int .i64 r.1.kind)/\W.cell? ⟨w.heap.size,2,none⟩=some (.int .i64 r.1.owner)/\W.cell? ⟨w.heap.size,3,none⟩=some (.int .i64 r.1.key)/\W.cell? ⟨w.heap.size,4,none⟩=some (.int .i64 r.1.seq)/\W.cell? ⟨w.heap.size,5,none⟩=some (.slice ra r.1.near.length rc)/\W.cell? ⟨w.heap.size,6,none⟩=some (.int .i64 r.1.cost)/\W.cell? ⟨w.heap.size,7,none⟩=some (.bool r.1.far)) (first | go_keep | (refine ⟨?_,?_,?_,?_,?_,?_,?_,?_,?_,?_,?_,?_,?_,?_,?_,?_⟩ <;> (rw [hbc.cell (by assumption)];assumption))) (first | (go_at_call 37;refine (HK.out _).mono ?_;rintro e w1 ⟨rfl,hbc⟩))
      have B1:Below w0.heap.size w0 w1:=hnx.trans ((YAC _ _).drew.trans (hbc.mono hsz));have OW1:=hide (Zad OW.out ((YAC wr.heap.size wr).drew.trans hbc) (YA _));have b1s:=B1.size;have m0:=(hbc.cell (p:=⟨b,off+k*8,none⟩) hb1).trans c0;have m1:=(hbc.cell (p:=⟨b,off+k*8+1,none⟩) hb1).trans c1;have m2:=(hbc.cell (p:=⟨b,off+k*8+2,none⟩) hb1).trans c2;have m3:=(hbc.cell (p:=⟨b,off+k*8+3,none⟩) hb1).trans c3;have m4:=(hbc.cell (p:=⟨b,off+k*8+4,none⟩) hb1).trans c4;have m5:=(hbc.cell (p:=⟨b,off+k*8+5,none⟩) hb1).trans c5;have m6:=(hbc.cell (p:=⟨b,off+k*8+6,none⟩) hb1).trans c6;have m7:=(hbc.cell (p:=⟨b,off+k*8+7,none⟩) hb1).trans c7;have HFT2:=hide (show m++[(p.1,.slice pa p.1.near.length pc)]=ps.filter (fun p=>Zak p.1 r.1)++[r]++(ps.take (k+1)).filter (fun p=>Zak r.1 p.1) by rw [(HM).out,HFT.out, <-HPE.out];simp)
      go_wp2_with (first
       | (at_builtin;refine ZaL Zay (by omega) (by omega) _ rfl _ _ 31 rfl (w.heap.size+1) 37 Tryz.underlying31 (.agg (recC Za9 (.slice none 0 0))) rfl Tryz.infoRec _ (m) (p.1,.slice pa p.1.near.length pc) (ZbY _ _ _ _) rfl (OW1.out.alloc _) ⟨w1.heap.size,0,none⟩ 1 rfl (Zan (cs:=encP (p.1,.slice pa p.1.near.length pc))) (by have:=HQL.out;omega) (by simp;omega) ?_))
      intro v' w4 hown' hgrow;obtain⟨va,vc,rfl⟩:=Zac hown';have B4:Below w0.heap.size w0 w4:=(B1.alloc b1s _).grown hgrow (by simp;omega) (fun j hj=>by have:=(OW1.out.lt j hj).1;omega);have OW4:=hide hown';clear hown' hgrow;go_wp2;go_roundw
      case rel=>exact ⟨k+1,_,_,by omega,by go_num,rfl,HFT2,by simpa using OW4.out,B4⟩
      case measure=>simp [intOf];omega
    ·have hkn:k=ps.length:=by omega
     have htk:ps.take k=ps:=by rw [hkn,YAh]
     rw [htk] at HM;have OW:=hide hown;clear hown hkn htk;go_wp2;go_ret;refine⟨_,rfl,⟨?_,fun j hj=>(OW.out.lt j hj).2,?_⟩,BWR,fun j hj=>by have:=(OW.out.lt j hj).1;omega⟩
     ·rw [<-HM.out];exact Zaf OW.out (Nat.zero_le _)
     intro q hq;have hmem:q∈ps\/q=r:=by
      rcases YAF.1 hq with h | h
      ·rcases YAF.1 h with h | h
       ·exact .inl ((YAP.1 h).1)
       ·exact .inr (by simpa using h)
      ·exact .inl ((YAP.1 h).1)
     have hno:ZaF w 0 hi q:=by
      rcases hmem with h | h
      ·exact HV.out.nears q h
      ·rw [h];exact HR.out
     exact (hno.keep (W':=wr) (fun j _ h2 _=>BWR.block j (by omega))).wide (YA _) (by omega)
theorem Zjq (v:Value)(ps:List RP)(hi:Nat)(r:RP)(w:World)(hv:RecsIn w hi v ps)(hhi:hi<=w.heap.size)(hn:tot ps<=1048576)(hr:ZaF w 0 hi r):
  Calls Tryz.prog 24 #[v,.agg (recC r.1 r.2)] w fun e w'=>∃ x,e=.returned x/\RecsIn w' w'.heap.size x (putL ps r)/\Below w.heap.size w w':=by
 refine (Zq4 v ps hi r w hv hhi hn hr).mono ?_;rintro e w' ⟨x,h1,h2,h3,_⟩;exact⟨x,h1,h2,h3⟩
theorem SelfIn.net {v1 v2 v3 v4:Value}{x:SelfD}{ps:List RP}{B:Nat}(h:SelfIn W v1 v2 v3 v4 x ps B):ZmR W (.agg #[.int .i64 x.net.n,v1,v2]) x.net B:=⟨v1,v2,rfl,h.links,h.things⟩
theorem Tryz.infoPtr :(Tryz.prog.info? 157).map (fun i=>(i.zero,i.size,i.bytes))=some (some (.pointer none),1,8):=by kernel_rfl
structure FK (W W':World) (lo z:Nat):Prop where
 os:W'.os=W.os
 tape:W'.tape=W.tape
 output:W'.output=W.output
 size:W.heap.size<=W'.heap.size
 low:∀ k,k<lo->W'.heap[k]? = W.heap[k]?
 typed:∀ (k:Nat) (cs:Array Value) (t:TypeId) (fr:Nat × Nat),W.heap[k]? = some (.cells cs t fr)->t≠157->k≠z->W'.heap[k]? = W.heap[k]?
theorem FK.trans {W1 W2:World}(a:FK W W1 lo z)(b:FK W1 W2 lo z):FK W W2 lo z:=
 ⟨b.os.trans a.os,b.tape.trans a.tape,b.output.trans a.output,YAK a.size b.size,fun k hk=>(b.low k hk).trans (a.low k hk),fun k cs t fr h ht hz=>(b.typed k cs t fr ((a.typed k cs t fr h ht hz).trans h) ht hz).trans (a.typed k cs t fr h ht hz)⟩
theorem FK.of_below (h:Below W.heap.size W W')(hlo:lo<=W.heap.size):FK W W' lo z:=⟨h.os,h.tape,h.output,h.size,fun k hk=>h.block k (by omega),fun k _ _ _ hk _ _=>h.block k (Zab hk)⟩
theorem FK.of_grown (hr:W.ownsRow lo 157 1 u n xs)(h:W.grownBy W' u.ownBlock)(hlo:lo<=W.heap.size):FK W W' lo z:=
 ⟨h.os,h.tape,h.output,h.size,fun k hk=>h.block k (by omega) (fun e=>by have:=(hr.lt k e.symm).1;omega),fun k _ _ _ hk ht _=>h.block k (Zab hk) (Zar hr hk (fun e=>ht e.symm))⟩
theorem FK.of_set {j:Nat}(u:Value)(hz:lo<=z):FK W (W.setCell ⟨z,j,none⟩ u) lo z:=
 ⟨rfl,rfl,rfl,by simp,fun k hk=>YAO W ⟨z,j,none⟩ k _ (by show k≠z;omega),fun k _ _ _ _ _ hk=>YAO W ⟨z,j,none⟩ k _ hk⟩
theorem FK.below (h:FK W W' lo z):Below lo W W':=⟨h.os,h.tape,h.output,h.size,h.low⟩
theorem Zpj (q:Nat->Nat)(n k:Nat):ptrs (fun x=>if x=n then k else q x) (n+1)=ptrs q n++[ptrV k]:=by
 unfold ptrs;rw [List.range_succ,YAf];congr 1
 ·apply List.map_congr_left;intro i hi;have hi2:=List.mem_range.1 hi;show ptrV (if i=n then k else q i)=ptrV (q i);rw [if_neg (by omega)]
 ·simp
theorem ZqX (h:W.ownsRow lo e 1 (.slice (some ⟨g,0,none⟩) n cap) n xs)(hk:k<=n):W.ownsRow lo e 1 (.slice (some ⟨g,0,none⟩) k cap) k (xs.take k):=by
 rcases h.2 with ⟨e1,_⟩ | ⟨g',cap',cur,hv,hg,hh,hnc,hcm,hcs,htk⟩
 ·cases e1
 ·cases hv;have hl:=h.1;refine⟨by rw [YAV];omega,.inr ⟨g,cap,cur,rfl,hg,hh,by omega,hcm,hcs,?_⟩⟩;rw [<-htk,List.take_take];congr 1;omega
theorem Zpk (q:Nat->Nat)(h:k<=n):(ptrs q n).take k=ptrs q k:=by
 unfold ptrs;rw [<-List.map_take,List.take_range,YAQ h]
theorem Zf2 {o:Oper}{a:Act}{K:Act->World->Prop}{Q:Exit->Act->World->Prop}(s x:Operand) (ho:o.op=.call { callee:=.builtin .append,args:=#[s,x],argTypes:=#[160,160] }) (q:Nat->Nat) (k n:Nat) (hs:a.eval s=u) (hown:w.ownsRow lo 157 1 u n (ptrs q n))
   (hx:a.eval x=.slice (some ⟨g,0,none⟩) 1 1) (hnew:w.cell? ⟨g,0,none⟩=some (ptrV k)) (hn:n<=1000000) (hlo:lo<=w.heap.size)
  (h:∀ v' w',w'.ownsRow lo 157 1 v' (n+1) (ptrs (fun x=>if x=n then k else q x) (n+1))->w.grownBy w' u.ownBlock->K (a.put o.dst v') w'):o.wp Tryz.prog a w K Q:=by
 obtain⟨i0,hi,hz0,hz1,hz2⟩:=info_parts Tryz.infoPtr;refine wp_append_own w s x 160 ho lo 157 i0 (.pointer none) 1 8 ZgU hi hz0 hz1 hz2 rfl (by omega) u n (ptrs q n) hs hown ⟨g,0,none⟩ 1 1 [ptrV k] hx rfl ?_ ?_ (by unfold maxLen;omega) (by omega) hlo ?_
 ·intro j u hj
  match j,hj with
  | 0,hj=>simp at hj;subst hj;exact hnew
 ·intro u hu;simp at hu;subst hu;rfl
 ·intro v' w' h1 h2 _;rw [<-Zpj] at h1;exact h v' w' h1 h2
theorem ZmU (v:Value)(w:World):(Instr.typeAssert (.iface 157 v) 20 157 false).run Tryz.prog w=.ok v w:=by kernel_rfl
theorem Zpl (W:World)(lo z n:Nat)(C:Array Value)(u:Value)(q:Nat->Nat)(wd:Nat->WayD)(wv:Nat->Value)(k:Nat)(h:HB W lo z C u n q wd wv)(hlo:lo<=W.heap.size)(hn:n<=1000)(hC:C.size=8)(hz:lo<=z)
  (hk:W.heap[k]? = some (.cells (wayC (wd k) (wv k)) 108)) (hks:∃ a l c,wv k=.slice a l c):
  Calls Tryz.prog 222 #[.pointer (some ⟨z,7,none⟩),.iface 157 (.pointer (some ⟨k,0,none⟩))] W fun e W'=>∃ u',e=.returned (.tuple #[])/\HB W' lo z (C.setIfInBounds 7 u') u' (n+1) (fun x=>if x=n then k else q x) wd wv/\FK W W' lo z:=by
 have cz:=h.cell;have fz:=Zae h.box;obtain⟨a1,c1,rfl⟩:=Zac h.hq.row;have FIN:∀ (W3:World) (u':Value) (W1:World),(∀ j,j<W.heap.size->W1.heap[j]? = W.heap[j]?)->W.heap.size<=W1.heap.size->W1.os=W.os->W1.tape=W.tape->W1.output=W.output->W3.ownsRow lo 157 1 u' (n+1) (ptrs (fun x=>if x=n then k else q x) (n+1))->W1.grownBy W3 (Value.slice a1 n c1).ownBlock ->
   W3.cell? ⟨z,7,none⟩=some (.slice a1 n c1)/\(∀ j,W3.frozen? ⟨z,j,none⟩=false)/\HB (W3.setCell ⟨z,7,none⟩ u') lo z (C.setIfInBounds 7 u') u' (n+1) (fun x=>if x=n then k else q x) wd wv/\FK W (W3.setCell ⟨z,7,none⟩ u') lo z:=by
  intro W3 u' W1 hW1 hs1 e1 e2 e3 ho3 hg3;have keep:∀ j,j<W.heap.size->some j≠(Value.slice a1 n c1).ownBlock->W3.heap[j]? = W.heap[j]? := fun j hj hne=>(hg3.block j (by omega) hne).trans (hW1 j hj);have hb3:W3.heap[z]? = some (.cells C 162):=(keep z (Zab h.box) (Zar h.hq.row h.box (by decide))).trans h.box;have kway:∀ (j:Nat) (x:Array Value),W.heap[j]? = some (.cells x 108)->(W3.setCell ⟨z,7,none⟩ u').heap[j]? = some (.cells x 108):=by
   intro j x hj;rw [YAO W3 ⟨z,7,none⟩ j _ (by
    intro e;have e':j=z:=e;rw [e',h.box] at hj;simp at hj)]
   exact (keep j (Zab hj) (Zar h.hq.row hj (by decide))).trans hj
  refine⟨(Zaa hb3 7).trans h.c7,Zae hb3,⟨YAU _ _ 7 _ _ _ hb3,by simp [hC],?_,fun i hi=>?_,fun i hi=>?_⟩,?_⟩
  ·exact Zal ho3 (fun j hj=>YAO W3 ⟨z,7,none⟩ j _ (fun e=>by
    have e':j=z:=e;exact Zar ho3 hb3 (by decide) (by rw [hj,e'])))
  ·show (W3.setCell ⟨z,7,none⟩ u').heap[if i=n then k else q i]? = some (.cells (wayC (wd (if i=n then k else q i)) (wv (if i=n then k else q i))) 108);by_cases e:i=n
   ·rw [if_pos e];exact kway k _ hk
   ·rw [if_neg e];exact kway _ _ (h.hq.way i (by omega))
  ·show ∃ a l c,wv (if i=n then k else q i)=.slice a l c;by_cases e:i=n
   ·rw [if_pos e];exact hks
   ·rw [if_neg e];exact h.hq.sl i (by omega)
  ·refine FK.trans ?_ (FK.of_set u' hz);exact⟨hg3.os.trans e1,hg3.tape.trans e2,hg3.output.trans e3,by have:=hg3.size;omega,fun j hj=>keep j (by omega) (fun e=>by have:=(h.hq.row.lt j e.symm).1;omega),fun j _ _ _ hj ht _=>keep j (Zab hj) (Zar h.hq.row hj (fun e=>ht e.symm))⟩
 have HFIN:=hide FIN;have HH:=hide h;have lz:=Zab h.box;clear FIN h fz hk
 go_enter Tryz.func222,Tryz.ntmps222
 go_wp2;refine Zag (S:=fun _=>True) (by kernel_rfl) 10 rfl trivial ?_;intro ops hops _;have czd:W.drew.cell? ⟨z,7,none⟩=some (.slice a1 n c1):=cz;show wpAnyH Tryz.prog .any ops _ (fun _=>True) 10 #[false,false,false,false,false,false,false,false,false,false] _ W.drew
 iterate 3
  refine ZhD 10 ?_ ?_ ?_ (by rw [hops.out];kernel_rfl) ?_ ?_ trivial ?_
  rotate_left 2
  ·rw [hops.out];simp only [getS,Nat.reduceSub,Nat.reduceAdd];rfl
  ·intro W _;have hAs:=fun v=>ZmU v W;go_simp <;> with_reducible rfl
  ·exact fun _ _ _=>id
  try simp only [putS]
 refine Zbs 4 ?_ ?_ ?_ (by rw [hops.out];kernel_rfl) ?_ ?_ trivial ?_
 rotate_left 2
 ·rw [hops.out];simp only [getS];rfl
 ·intro W _;have hAs:=fun v=>ZmU v W;go_simp <;> with_reducible rfl
 ·exact fun _ _ _=>id
 try simp only [putS]
 refine Zbs 5 ?_ ?_ ?_ (by rw [hops.out];kernel_rfl) ?_ ?_ trivial ?_
 rotate_left 2
 ·rw [hops.out];simp only [getS];rfl
 ·intro W _;have hAs:=fun v=>ZmU v W;go_simp <;> with_reducible rfl
 ·exact fun _ _ _=>id
 try simp only [putS]
 refine wpAnyH_ready (rs:=[3,6]) (by rw [hops.out];kernel_rfl) (by simp) ?_;refine AllReadyH.cons (o:=?_) ?_ (fun K hK=>?_) ?_
 rotate_left 1
 ·rw [hops.out];simp only [getS];rfl
 ·rw [if_pos (by rfl)];go_simp;refine hK.out _ _ trivial (fun _=>?_);clear hK K
  try simp only [putS]
  refine wpAnyH_ready (rs:=[6]) (by rw [hops.out];kernel_rfl) (by simp) ?_;refine AllReadyH.cons (o:=?_) ?_ (fun K hK=>?_) ?_
  rotate_left 1
  ·rw [hops.out];simp only [getS];rfl
  ·rw [if_pos (by rfl)];go_simp;refine hK.out _ _ trivial (fun _=>?_);clear hK K
   try simp only [putS]
   have ho2:=(HH.out.hq.row.drew).alloc (.cells #[.pointer (some ⟨k,0,none⟩)] 157);have nw2:=Zaa (YAE W.drew (.cells #[.pointer (some ⟨k,0,none⟩)] 157)) 0;have hs2:lo<=(W.drew.alloc (.cells #[.pointer (some ⟨k,0,none⟩)] 157)).heap.size:=by simp;omega
   refine TC 7 ?_;intro K hK;refine Zf2 _ _ rfl q k n rfl ho2 rfl nw2 (by omega) hs2 ?_;intro v' W3 ho3 hg3;obtain⟨na,nc,rfl⟩:=Zac ho3;refine hK.out _ _ trivial (fun _=>?_);clear hK K
   try simp only [putS]
   refine Zbs 8 ?_ ?_ ?_ (by rw [hops.out];kernel_rfl) ?_ ?_ trivial ?_
   rotate_left 2
   ·rw [hops.out];simp only [getS];rfl
   ·intro W _;have hAs:=fun v=>ZmU v W;go_simp <;> with_reducible rfl
   ·exact fun _ _ _=>id
   try simp only [putS]
   obtain⟨d7,f7,r1,r2⟩:=HFIN.out W3 _ ((W.alloc (.cells #[.pointer (some ⟨k,0,none⟩)] 157)).drew) (fun j hj=>YAH W _ j hj) (by show W.heap.size<=(W.alloc (.cells #[.pointer (some ⟨k,0,none⟩)] 157)).heap.size;simp) rfl rfl rfl ho3 hg3;have R1:=hide r1;have R2:=hide r2;clear r1 r2 ho3 hg3 ho2 nw2 HFIN HH;refine TC 9 ?_;intro K hK;have f77:=f7 7;go_simp;refine hK.out _ _ trivial (fun _=>?_);clear hK K;refine wpAnyH_done (by rw [hops.out];kernel_rfl) ?_ _;clear hops ops;go_wp2
   go_returns
   exact⟨_,rfl,R1.out,R2.out⟩
  exact AllReadyH.nil
 refine AllReadyH.cons (o:=?_) ?_ (fun K hK=>?_) ?_
 rotate_left 1
 ·rw [hops.out];simp only [getS];rfl
 ·rw [if_pos (by rfl)];go_simp;refine hK.out _ _ trivial (fun _=>?_);clear hK K
  try simp only [putS]
  refine wpAnyH_ready (rs:=[3]) (by rw [hops.out];kernel_rfl) (by simp) ?_;refine AllReadyH.cons (o:=?_) ?_ (fun K hK=>?_) ?_
  rotate_left 1
  ·rw [hops.out];simp only [getS];rfl
  ·rw [if_pos (by rfl)];have cz5:(W.drew.alloc (.cells #[.pointer (some ⟨k,0,none⟩)] 157)).cell? ⟨z,7,none⟩=some (.slice a1 n c1):=by
    rw [World.cell?_of_block (YAH _ _ _ (by simpa using lz))];exact czd
   go_simp;refine hK.out _ _ trivial (fun _=>?_);clear hK K cz5
   try simp only [putS]
   have ho2:=(HH.out.hq.row.drew).alloc (.cells #[.pointer (some ⟨k,0,none⟩)] 157);have nw2:=Zaa (YAE W.drew (.cells #[.pointer (some ⟨k,0,none⟩)] 157)) 0;have hs2:lo<=(W.drew.alloc (.cells #[.pointer (some ⟨k,0,none⟩)] 157)).heap.size:=by simp;omega
   refine TC 7 ?_;intro K hK;refine Zf2 _ _ rfl q k n rfl ho2 rfl nw2 (by omega) hs2 ?_;intro v' W3 ho3 hg3;obtain⟨na,nc,rfl⟩:=Zac ho3;refine hK.out _ _ trivial (fun _=>?_);clear hK K
   try simp only [putS]
   refine Zbs 8 ?_ ?_ ?_ (by rw [hops.out];kernel_rfl) ?_ ?_ trivial ?_
   rotate_left 2
   ·rw [hops.out];simp only [getS];rfl
   ·intro W _;have hAs:=fun v=>ZmU v W;go_simp <;> with_reducible rfl
   ·exact fun _ _ _=>id
   try simp only [putS]
   obtain⟨d7,f7,r1,r2⟩:=HFIN.out W3 _ ((W.alloc (.cells #[.pointer (some ⟨k,0,none⟩)] 157)).drew) (fun j hj=>YAH W _ j hj) (by show W.heap.size<=(W.alloc (.cells #[.pointer (some ⟨k,0,none⟩)] 157)).heap.size;simp) rfl rfl rfl ho3 hg3;have R1:=hide r1;have R2:=hide r2;clear r1 r2 ho3 hg3 ho2 nw2 HFIN HH;refine TC 9 ?_;intro K hK;have f77:=f7 7;go_simp;refine hK.out _ _ trivial (fun _=>?_);clear hK K;refine wpAnyH_done (by rw [hops.out];kernel_rfl) ?_ _;clear hops ops;go_wp2
   go_returns
   exact⟨_,rfl,R1.out,R2.out⟩
  exact AllReadyH.nil
 exact AllReadyH.nil
theorem ZqZ (W:World)(lo z n:Nat)(C:Array Value)(u:Value)(q:Nat->Nat)(wd:Nat->WayD)(wv:Nat->Value)(h:HB W lo z C u (n+1) q wd wv)(hn:n<=1000)(hC:C.size=8)(hz:lo<=z):
  Calls Tryz.prog 221 #[.pointer (some ⟨z,7,none⟩)] W fun e W'=>∃ u',e=.returned (.iface 157 (ptrV (q n)))/\HB W' lo z (C.setIfInBounds 7 u') u' n q wd wv/\FK W W' lo z:=by
 obtain⟨g,cap,hu,cn,hg⟩:=h.hq.cell (i:=n) (by omega);have cz:=h.cell;have fz:=Zae h.box;subst hu;unfold ptrV at cn |-;have hcap:n+1<=cap:=by
  rcases h.hq.row.2 with ⟨e1,_⟩ | ⟨g',cap',cur,hv,_,hh,hnc,_⟩
  ·cases e1
  ·cases hv;exact hnc
 have R1:=hide (show HB (W.setCell ⟨z,7,none⟩ (.slice (some ⟨g,0,none⟩) n cap)) lo z (C.setIfInBounds 7 (.slice (some ⟨g,0,none⟩) n cap)) (.slice (some ⟨g,0,none⟩) n cap) n q wd wv by
  have hzg:some z≠(Value.slice (some ⟨g,0,none⟩) (n+1) cap).ownBlock:=Zar h.hq.row h.box (by decide);have hgz:g≠z:=fun e=>hzg (by rw [e];rfl);refine⟨YAU _ _ 7 _ _ _ h.box,by simp [hC],?_,fun i hi=>?_,fun i hi=>h.hq.sl i (by omega)⟩
  ·have o1:=ZqX h.hq.row (k:=n) (by omega);rw [Zpk q (by omega)] at o1;exact Zal o1 (fun j hj=>YAO W ⟨z,7,none⟩ j _ (fun e=>by
    have e':j=z:=e;simp [Value.ownBlock] at hj;omega))
  ·have hw:=h.hq.way i (by omega);rw [YAO W ⟨z,7,none⟩ (q i) _ (fun e=>by
    have e':q i=z:=e;rw [e',h.box] at hw;simp at hw)]
   exact hw)
 have R2:=hide (show FK W (W.setCell ⟨z,7,none⟩ (.slice (some ⟨g,0,none⟩) n cap)) lo z from FK.of_set _ hz);have f7:=fz 7;have hw1:IntKind.i64.wrap (((n+1:Nat):Int)-1)=(n:Int):=by rw [ZaH _ (by omega) (by omega)];omega
 have hw2:IntKind.i64.wrap ((n:Int)+1-1)=(n:Int):=by rw [ZaH _ (by omega) (by omega)];omega
 have h1:(0:Int)<=(n:Int):=by omega
 have h2:(n:Int)<((n+1:Nat):Int):=by omega
 have h3:(n:Int)<=(cap:Int):=by omega
 clear h fz hC
 go_enter Tryz.func221,Tryz.ntmps221
 go_wp2;go_ret
 first
  | exact ⟨_,rfl,R1.out,R2.out⟩
  | exact ⟨rfl,_,R1.out,R2.out⟩
theorem Zkb (W:World)(lo z n:Nat)(C:Array Value)(u:Value)(q:Nat->Nat)(wd:Nat->WayD)(wv:Nat->Value)(k:Nat)(h:HB W lo z C u n q wd wv)(hlo:lo<=W.heap.size)(hn:n<=1000)(hC:C.size=8)(hz:lo<=z)
  (hk:W.heap[k]? = some (.cells (wayC (wd k) (wv k)) 108)) (hks:∃ a l c,wv k=.slice a l c) (hh:ZcV (fun k=>(wd k).cost) q n):
  Calls Tryz.prog 140 #[.iface 185 (.pointer (some ⟨z,7,none⟩)),.iface 157 (.pointer (some ⟨k,0,none⟩))] W fun e W'=>∃ u' q',e=.returned (.tuple #[])/\ZcV (fun k=>(wd k).cost) q' (n+1)/\Shuf (fun x=>if x=n then k else q x) q' (n+1)/\HB W' lo z (C.setIfInBounds 7 u') u' (n+1) q' wd wv/\FK W W' lo z:=by
 have HP:=hide (Zpl W lo z n C u q wd wv k h hlo hn hC hz hk hks);have HUP:=hide (Zr8 (k:=k) hh);clear h hk hh
 go_enter Tryz.func140,Tryz.ntmps140
 go_wp2_with fail
 refine HP.out.mono ?_;rintro e w1 ⟨u',rfl,h1,f1⟩;have cz1:=h1.cell;obtain⟨a1,c1,rfl⟩:=Zac h1.hq.row;have mL:=Zml cz1;have hs1:lo<=w1.heap.size:=YAK hlo f1.size;have HU:=hide (up_any w1 lo z (n+1) _ _ _ wd wv n h1 (by omega) (by omega) HUP.out);have HF1:=hide f1;have HR1:=hide h1.hq.row;have hw1:IntKind.i64.wrap (((n+1:Nat):Int)-1)=(n:Int):=by rw [ZaH _ (by omega) (by omega)];omega
 have hw2:IntKind.i64.wrap ((n:Int)+1-1)=(n:Int):=by rw [ZaH _ (by omega) (by omega)];omega
 clear h1 f1 HP HUP
 go_wp2_with fail
 refine (Zje _ _ _ _).mono ?_;rintro e w2 ⟨rfl,rfl⟩
 go_wp2_with fail
 refine HU.out.mono ?_;rintro e w2 ⟨q',rfl,hi,hsh,hb,hg⟩;have HI:=hide hi;have HS:=hide hsh;have HB2:=hide hb;have HF2:=hide (HF1.out.trans (FK.of_grown HR1.out hg hs1));clear hi hsh hb hg mL;go_wp2
 go_returns
 exact⟨_,q',rfl,HI.out,HS.out,HB2.out,HF2.out⟩
theorem Zka {C:Array Value}{q:Nat->Nat}{wd:Nat->WayD}{wv:Nat->Value}(h:HB W lo z C u n q wd wv)(hg:W.grownBy W' u.ownBlock)(hlo:lo<=W.heap.size):FK W W' lo z:=FK.of_grown h.hq.row hg hlo
theorem Zlb (W:World)(lo z n:Nat)(C:Array Value)(u:Value)(q:Nat->Nat)(wd:Nat->WayD)(wv:Nat->Value)(h:HB W lo z C u (n+1) q wd wv)(hlo:lo<=W.heap.size)(hn:n<=1000)(hC:C.size=8)(hz:lo<=z)(hh:ZcV (fun k=>(wd k).cost) q (n+1)):
  Calls Tryz.prog 142 #[.iface 185 (.pointer (some ⟨z,7,none⟩))] W fun e W'=>∃ u' q',e=.returned (.iface 157 (ptrV (q 0)))/\ZcV (fun k=>(wd k).cost) q' n/\Shuf (Zcn q 0 n) q' n/\HB W' lo z (C.setIfInBounds 7 u') u' n q' wd wv/\FK W W' lo z:=by
 have cz:=h.cell;obtain⟨a1,c1,rfl⟩:=Zac h.hq.row;have mL:=Zml cz;have mS:=Zeb cz;have HSW:=hide (ZfY W lo (n+1) _ q 0 n h.hq.row (by omega) (by omega));have HPD:=hide (Zq0 hh);have HH:=hide h;have hw1:IntKind.i64.wrap (((n+1:Nat):Int)-1)=(n:Int):=by rw [ZaH _ (by omega) (by omega)];omega
 have hw2:IntKind.i64.wrap ((n:Int)+1-1)=(n:Int):=by rw [ZaH _ (by omega) (by omega)];omega
 clear h hh
 go_enter Tryz.func142,Tryz.ntmps142
 go_wp2_with fail
 refine (Zje _ _ _ _).mono ?_;rintro e w1 ⟨rfl,rfl⟩
 go_wp2_with fail
 refine HSW.out.mono ?_;rintro e w2 ⟨rfl,ho2,hg2⟩;have h2:=HH.out.shuf hg2 ho2 (Shuf.swap q (by omega) (by omega));have hs2:lo<=w2.heap.size:=YAK hlo hg2.size;have HD:=hide (Zqb w2 lo z n (n+1) C _ _ wd wv h2 (by omega) (by omega) HPD.out);have HF2:=hide (Zka HH.out hg2 hlo (z:=z));have HH2:=hide h2;clear h2 ho2 hg2 mL mS cz HSW HPD
 go_wp2_with fail
 refine HD.out.mono ?_;rintro e w3 ⟨r,q',rfl,hi,hsh,hb,hg⟩;have HI:=hide hi;have HS:=hide hsh;have HF3:=hide (HF2.out.trans (Zka HH2.out hg hs2 (z:=z)));have HPO:=hide (ZqZ w3 lo z n C _ q' wd wv hb hn hC hz);have HQ0:=hide (show q' n=q 0 by
  rw [hsh.rest n (YA _)];unfold Zcn;by_cases e:n=0
  ·rw [if_pos e,e]
  ·rw [if_neg e,if_pos rfl])
 clear hi hsh hb hg HD
 go_wp2_with fail
 refine HPO.out.mono ?_;rintro e w4 ⟨u',rfl,hb4,f4⟩;rw [HQ0.out];have HB4:=hide hb4;have HF4:=hide (HF3.out.trans f4);clear hb4 f4 HPO;go_wp2
 go_returns
 exact⟨_,q',rfl,HI.out,HS.out,HB4.out,HF4.out⟩
theorem ZiW (x:Int)(w:World):Calls Tryz.prog 129 #[.int .i64 x] w fun e w'=>e=.returned (.bool (x != 0))/\w=w':=by
 go_enter Tryz.func129,Tryz.ntmps129
 go_wp2;go_ret;exact⟨rfl,rfl⟩
theorem ZmI {Z R:List Int}{y:Int}(h:(Z++R)[k]? = some y)(hZ:∀ z∈Z,z=0)(hR:∀ z∈R,z≠0):(k<Z.length/\y=0)\/(Z.length<=k/\y≠0):=by
 rcases Nat.lt_or_ge k Z.length with h1 | h1
 ·rw [List.getElem?_append_left h1] at h;exact .inl ⟨h1,hZ y (YAG h)⟩
 ·rw [List.getElem?_append_right h1] at h;exact .inr ⟨h1,hR y (YAG h)⟩
theorem Znc (v:Value)(Z R:List Int)(w:World)(hn:(Z++R).length<=1048576)(hZ:∀ z∈Z,z=0)(hR:∀ z∈R,z≠0)(hv:ZaI w v (Z++R) w.heap.size):
  Calls Tryz.prog 153 #[v,.func (.func 129) #[] #[]] w fun e w'=>e=.returned (.int .i64 (if R=[] then -1 else (Z.length:Int)))/\w=w':=by
 obtain⟨a,cap,rfl⟩:=hv.shape;have HV:=hide hv;clear hv;obtain⟨L,hL⟩:∃ L,L=Z++R:=⟨_,rfl⟩;rw [<-hL] at HV hn |-;have HLE:=hide hL;have HSP:=hide (fun (k:Nat) (y:Int) (h:L[k]? = some y)=>ZmI (by rw [<-hL];exact h) hZ hR);obtain⟨res,hres⟩:∃ r:Int,r=if R=[] then -1 else (Z.length:Int):=⟨_,rfl⟩
 rw [<-hres];have HRES:=hide hres;clear hL hres
 go_enter Tryz.func153,Tryz.ntmps153
 go_wp2
 go_loop [8] (fun i=>∃ k:Nat,k<=L.length/\i=.int .i64 k/\k<=Z.length) (fun i=>L.length-(intOf i).toNat)
 case atStart=>exact ⟨0,by omega,rfl,by omega⟩
 case round=>
  obtain⟨k,hk,rfl,hkz⟩:=hrel;by_cases hlt:k<L.length
  ·obtain ⟨y,hy⟩:∃ y,L[k]? = some y:=⟨L[k],YAA hlt⟩;obtain⟨b,off,cap',hve,hbb,c0⟩:=HV.out.cell k y hy;cases hve;have hki:(0:Int)<=(k:Int):=by omega
   have hkj:(k:Int)<(L.length:Int):=by omega
   rcases HSP.out k y hy with ⟨h1,h2⟩ | ⟨h1,h2⟩
   ·have hd:(y != 0)=false:=by simpa using h2
    clear hy h2
    go_wp2_with fail
    refine (ZiW _ _).mono ?_;rintro e w1 ⟨rfl,rfl⟩;rw [hd];go_wp2
    go_round
    case rel=>exact ⟨k+1,by omega,by go_num,by omega⟩
    case measure=>simp [intOf];omega
   ·have hd:(y != 0)=true:=by simpa using h2
    have hkz2:(k:Int)=res:=by
     rw [HRES.out,if_neg (fun e=>by have:=congrArg List.length HLE.out;rw [YAN,e] at this;simp at this;omega)];omega
    clear hy h2;have HKZ:=hide hkz2;clear hkz2
    go_wp2_with fail
    refine (ZiW _ _).mono ?_;rintro e w1 ⟨rfl,rfl⟩;rw [hd];go_wp2;go_ret;exact⟨ZgO HKZ.out,rfl⟩
  ·have hRE:(-1:Int)=res:=by
    have h1:=congrArg List.length HLE.out;rw [YAN] at h1;rw [HRES.out,if_pos (List.length_eq_zero_iff.1 (by omega))]
   have HRR:=hide hRE;clear hRE;go_wp2;go_ret;exact⟨ZgO HRR.out,rfl⟩
theorem ZfQ {base:Nat}:∀ (vs:List Value) (o:Nat) (w:World) (xs:List Value),w.ownsRow base e 1 (.slice (some ⟨g,0,none⟩) n cap) n xs->∃ ys,(w.setCells g o vs).ownsRow base e 1 (.slice (some ⟨g,0,none⟩) n cap) n ys/\ys.take o=xs.take o
 | [],_,_,xs,h=>⟨xs,h,rfl⟩
 | v::vs,o,w,xs,h=>by
  obtain⟨ys,h1,h2⟩:=ZfQ vs (o+1) (w.setCell ⟨g,o,none⟩ v) (xs.set o v) (h.stored o v).1;refine⟨ys,h1,?_⟩;have h3:=congrArg (List.take o) h2;rw [List.take_take,List.take_take,YAQ (by omega),List.take_set_of_le (YA _)] at h3;exact h3
theorem ZeP :∀ (vs:List Value) (o:Nat) (w:World),w.grownBy (w.setCells g o vs) (some g)
 | [],_,_=>⟨rfl,rfl,rfl,YA _,fun _ _ _=>rfl⟩
 | v::vs,o,w=>Zai (Zaw w g o v) (ZeP vs (o+1) _)
theorem Zpf {base m:Nat}(h:w.ownsRow base e 1 (.slice (some ⟨g,0,none⟩) n cap) n xs)(hm:m<=n):w.ownsRow base e 1 (.slice (some ⟨g,0,none⟩) m cap) m (xs.take m):=by
 have hl:=h.1;rcases h.2 with ⟨h0,_⟩ | ⟨g',cap',cur,hv,hb,hh,hnc,hcm,hcs,htk⟩
 ·cases h0
 ·cases hv;refine⟨by rw [YAV];omega,.inr ⟨g,cap,cur,rfl,hb,hh,by omega,hcm,hcs,?_⟩⟩;rw [<-htk,List.take_take,YAQ (by omega),Nat.mul_one]
theorem Zm7 (l:List Int)(k:Nat):(flat intE l).take k=flat intE (l.take k):=by
 rw [Zb7,Zb7];simp [Zbb]
theorem Zqa (v:Value)(Z R:List Int)(lo:Nat)(w:World)(hn:(Z++R).length<=1048576)(hZ:∀ z∈Z,z=0)(hR:∀ z∈R,z≠0)(hv:IntsOwn w lo w.heap.size v (Z++R)):
  Calls Tryz.prog 128 #[v,.func (.func 129) #[] #[]] w fun e w'=>∃ x,e=.returned x/\IntsOwn w' lo w'.heap.size x Z/\w.grownBy w' v.ownBlock:=by
 have HI:=hide (Znc v Z R w hn hZ hR hv.at);by_cases hRE:R=[]
 ·subst hRE;rw [if_pos rfl] at HI;rw [List.append_nil] at hv;obtain⟨a,cap,rfl⟩:=Zac hv.row;have HV:=hide hv;clear hv
  go_enter Tryz.func128,Tryz.ntmps128
  go_wp2_with fail
  refine HI.out.mono ?_;rintro e w1 ⟨rfl,rfl⟩;go_wp2;go_ret;exact⟨_,rfl,HV.out,Zcq _ _⟩
 ·rw [if_neg hRE] at HI;have hRl:0<R.length:=List.length_pos_iff.2 hRE;have hlen:(Z++R).length=Z.length+R.length:=YAN;obtain⟨g,cap,rfl,hg1,hg2⟩:=Ze7 hv.row (by omega);have hcl:∀ ty,(Builtin.clear_ #[40] ty #[.slice (some ⟨g,Z.length,none⟩) ((Z++R).length-Z.length) (cap-Z.length)]).run Tryz.prog w=.ok (.tuple #[]) (w.setCells g Z.length (List.replicate ((Z++R).length-Z.length) (.int .i64 0))):=fun ty=>
   Lib.run_clear_slice w 40 3 ty (.int .i64 0) Tryz.underlying40 (fun W=>by
    obtain⟨i0,hi,hz0,hz1,hz2⟩:=info_parts Tryz.info3;simp [zeroValue,typeInfo,hi,hz0]) rfl rfl g Z.length _ _ (by omega) (fun j hj=>by
     obtain⟨u,hu⟩:=Zbe hv.row (Z.length+j) (by omega);rw [hu];rfl) (fun j _=>hv.row.frozenAt _)
  have hcap:(Z++R).length<=cap:=by
   rcases hv.row.2 with ⟨h0,_⟩ | ⟨g',cap',cur,hv',_,_,hnc,_⟩
   ·cases h0
   ·cases hv';exact hnc
  have hcap2:cap<=9223372036854775807:=by
   rcases hv.row.2 with ⟨h0,_⟩ | ⟨g',cap',cur,hv',_,_,_,hcm,_⟩
   ·cases h0
   ·cases hv';unfold maxLen at hcm;omega
  have hfin:IntsOwn (w.setCells g Z.length (List.replicate ((Z++R).length-Z.length) (.int .i64 0))) lo (w.setCells g Z.length (List.replicate ((Z++R).length-Z.length) (.int .i64 0))).heap.size (.slice (some ⟨g,0,none⟩) Z.length cap) Z:=by
   obtain⟨ys,h1,h2⟩:=ZfQ (List.replicate ((Z++R).length-Z.length) (.int .i64 0)) Z.length w _ hv.row;have h3:=Zpf h1 (show Z.length<=(Z++R).length by omega);rw [h2,Zm7,List.take_left] at h3;exact IntsOwn.of h3
  have HF:=hide hfin;have HG:=hide (ZeP (g:=g) (List.replicate ((Z++R).length-Z.length) (.int .i64 0)) Z.length w);have HV:=hide hv.at;have HSP:=hide (fun (k:Nat) (y:Int) (h:(Z++R)[k]? = some y)=>ZmI h hZ hR);obtain⟨L,hL⟩:∃ L,L=Z++R:=⟨_,rfl⟩;rw [<-hL] at HI HF HG HV HSP hcl hcap hlen hn |-;clear hv hfin hL hZ hR hRE;have hzn:((Z.length:Int) == -1)=false:=by simp <;> omega
  have hzl:Z.length<=L.length:=by omega
  have hzi:(Z.length:Int)<=(L.length:Int):=by omega
  have hzc:¬(cap=Z.length):=by omega
  have hzc2:Z.length<=cap:=by omega
  have HLN:=hide hlen;clear hlen
  go_enter Tryz.func128,Tryz.ntmps128
  go_wp2_with fail
  refine HI.out.mono ?_;rintro e w1 ⟨rfl,rfl⟩;go_wp2
  go_loopw [6,5] (fun i f wr=>∃ j:Nat,Z.length+1<=j/\j<=L.length/\i=.int .i64 (j:Int)/\f=.int .i64 (Z.length:Int)/\wr=w) (fun i _ _=>L.length-(intOf i).toNat)
  case atStart=>exact ⟨Z.length+1,by omega,by have:=HLN.out;omega,by go_num,rfl,rfl⟩
  case round=>
   obtain⟨j,hj0,hj,rfl,rfl,rfl⟩:=hrel;by_cases hlt:j<L.length
   ·obtain ⟨y,hy⟩:∃ y,L[j]? = some y:=⟨L[j],YAA hlt⟩;obtain⟨b,off,cap',hve,hbb,c0⟩:=HV.out.cell j y hy;cases hve;simp only [Nat.zero_add] at c0;have hki:(0:Int)<=(j:Int):=by omega
    have hkj:(j:Int)<(L.length:Int):=by omega
    have hd:(y != 0)=true:=by
     rcases HSP.out j y hy with ⟨h1,h2⟩ | ⟨h1,h2⟩
     ·omega
     ·simpa using h2
    clear hy
    go_wp2_with fail
    refine (ZiW _ _).mono ?_;rintro e w1 ⟨rfl,rfl⟩;rw [hd];go_wp2;go_roundw
    case rel=>exact ⟨j+1,by omega,by omega,by go_num,rfl,trivial⟩
    case measure=>simp [intOf];omega
   ·have hjn:¬(j:Int)<(L.length:Int):=by omega
    clear HV HSP HI;go_wp2;go_ret;exact⟨_,rfl,HF.out,HG.out⟩
def Zdl (l:List Int)(border:Bool):List Int:=if border then (if (0:Int)∈l then [0] else []) else Zdc l 3
theorem Zgv {l:List Int}{border:Bool}{a:Int}:a∈Zdl l border↔(a∈l/\0<=a/\a<3)/\(border=true->a=0):=by
 unfold Zdl;cases border
 ·simp only [Bool.false_eq_true,if_false,false_implies,and_true];exact Zhq
 ·simp only [if_true,true_implies];constructor
  ·intro h
   split at h
   ·rename_i h0
    have:a=0:=by simpa using h
    subst this;exact⟨⟨h0,by omega,by omega⟩,rfl⟩
   ·simp at h
  ·rintro ⟨⟨h1,_,_⟩,rfl⟩;rw [if_pos h1];simp
theorem Zks (l:List Int)(border:Bool):(Zdl l border).length<=3:=by
 unfold Zdl
 split
 ·split <;> simp
 ·exact Zeh l 3
theorem Znz (l:List Int):∃ R,Zdc l 3=(if (0:Int)∈l then [0] else [])++R/\(∀ z∈R,z≠0)/\∀ z∈(if (0:Int)∈l then [(0:Int)] else []),z=0:=by
 refine⟨(if decide ((1:Int)∈l) then [1] else [])++(if decide ((2:Int)∈l) then [2] else []),?_,?_,?_⟩
 ·show (([]++_)++_)++_=_;simp [YAY]
 ·intro z hz;rcases YAF.1 hz with h | h
  ·split at h
   ·have:z=1:=by simpa using h
    omega
   ·simp at h
  ·split at h
   ·have:z=2:=by simpa using h
    omega
   ·simp at h
 ·intro z hz
  split at hz
  ·simpa using hz
  ·simp at hz
theorem ZjT (v:Value)(l:List Int)(border:Bool)(hi:Nat)(w:World)(hn:l.length<=1048576)(hv:ZaI w v l hi)(hhi:hi<=w.heap.size):
  Calls Tryz.prog 94 #[v,.bool border] w fun e w'=>∃ x,e=.returned x/\IntsOwn w' w.heap.size w'.heap.size x (Zdl l border)/\Below w.heap.size w w':=by
 obtain⟨a,cap,rfl⟩:=hv.shape;have HR:=hide (ZmG (.slice a l.length cap) l hi w hn hv hhi);clear hv;unfold Zdl;cases border
 ·simp only [Bool.false_eq_true,if_false];obtain⟨L,hL⟩:∃ L,L=Zdc l 3:=⟨_,rfl⟩;rw [<-hL] at HR |-;have HLL:=hide hL;clear hL
  go_enter Tryz.func94,Tryz.ntmps94
  go_wp2_with fail
  refine HR.out.mono ?_;rintro e w1 ⟨x,rfl,ho,b1⟩;obtain⟨xa,xc,rfl⟩:=Zac ho.row;have HO:=hide ho;clear ho;go_wp2;go_ret;exact⟨_,rfl,HO.out,b1⟩
 ·simp only [if_true];obtain⟨R,hre,hR,hZ⟩:=Znz l;obtain⟨Z,hZe⟩:∃ Z,Z=(if (0:Int)∈l then [(0:Int)] else []):=⟨_,rfl⟩;rw [<-hZe] at hre hZ |-;have hl3:(Z++R).length<=3:=by rw [<-hre];exact Zeh l 3
  rw [hre] at HR;have HDD:=hide (fun x W (ho:IntsOwn W w.heap.size W.heap.size x (Z++R))=>Zqa x Z R w.heap.size W (by omega) hZ hR ho);obtain⟨L,hL⟩:∃ L,L=Z++R:=⟨_,rfl⟩;rw [<-hL] at HR HDD;clear hre hZe hL hl3 hZ hR
  go_enter Tryz.func94,Tryz.ntmps94
  go_wp2_with fail
  refine HR.out.mono ?_;rintro e w1 ⟨x,rfl,ho,b1⟩;have HD:=hide (HDD.out x w1 ho);clear HDD;obtain⟨xa,xc,rfl⟩:=Zac ho.row;have HO:=hide ho;clear ho
  go_wp2_with fail
  refine HD.out.mono ?_;rintro e w2 ⟨y,rfl,ho2,hg⟩;have HO2:=hide ho2;have HB:=hide (b1.grown hg b1.size (fun k hk=>(HO.out.row.lt k hk).1));obtain⟨ya,yc,rfl⟩:=Zac ho2.row;clear ho2 hg;go_wp2;go_ret;exact⟨_,rfl,HO2.out,HB.out⟩
end Go.Proofs.YtikloccefmofdaaGreat
