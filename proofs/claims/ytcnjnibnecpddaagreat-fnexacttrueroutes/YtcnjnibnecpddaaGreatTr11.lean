/-
  Parts.
-/
import Derived.Test.YtcnjnibnecpddaaGreatTr9
import Derived.Test.YtcnjnibnecpddaaGreatTr8
namespace Go.Proofs.YtcnjnibnecpddaaGreat
open Go.RowKit
set_option linter.unusedSimpArgs false
set_option linter.unusedVariables false
set_option maxRecDepth 100000
set_option maxHeartbeats 8000000
variable {b:Int}{ns:List Nr}{ps:List QP}{cap g k n:Nat}{p q:QP}
def ZgB (area node:Int):RecD:=⟨area,1,node,0,0,[],0,false⟩
def ZcC (xs:List RecD)(area node:Int):RecD:=ZfE xs (ZgB area node)
def Zhj (xs:List RecD)(area node:Int):Bool:=Zfb xs (ZgB area node)
def ZhK (ns:List Nr)(b:Int):Int:=match ns.find? (fun n=>n.to==b) with
 | some n=>n.c
 | none=>0
def Ze4 (xs:List RecD)(area a b:Int):Int:=ZhK (ZcC xs area a).near b
theorem Zpa (W:World)(B:Nat):ZaG W (.slice none 0 0) [] B:=⟨none,0,rfl,.inl rfl⟩
theorem ZhF (v:Value)(ps:List RP)(hi:Nat)(area node:Int)(w:World)(hv:RecsIn w hi v ps)(hhi:hi<=w.heap.size)(hn:tot ps<=1048576):
  Calls Tryz.prog 233 #[v,M area,M node] w fun e w'=>∃ u,e=.returned (.tuple #[.agg (recC (ZcC (fsts ps) area node) u),.bool (Zhj (fsts ps) area node)])/\ZaG w' u (ZcC (fsts ps) area node).near hi/\(ZcC (fsts ps) area node).near.length<=1048576/\T_ w w':=by
 have hnl:=Zby ps;obtain⟨a1,c1,rfl⟩:=Zac hv.row;have BX:T_ w (w.alloc (.cells #[M 0,M 0,M 0,M 0,M 0,.slice none 0 0,M 0,.bool false] 39)):=(YAC _ _).alloc (YA _) _;have hq:=YAE w (.cells #[M 0,M 0,M 0,M 0,M 0,.slice none 0 0,M 0,.bool false] 39);obtain⟨w0,hw0⟩:∃ W,W=w.alloc (.cells #[M 0,M 0,M 0,M 0,M 0,.slice none 0 0,M 0,.bool false] 39):=⟨_,rfl⟩;rw [<-hw0] at BX hq;have hs0:=Zab hq;have HAT:=hide (Zrg (.slice a1 ps.length c1) ps hi (ZgB area node,.slice none 0 0) w0 (hv.below BX hhi) (by have:=BX.size;omega) hn);unfold recC ZgB at HAT;simp only [] at HAT;have HV:=hide hv;clear hv;unfold ZcC Zhj;obtain⟨nr,hnr⟩:∃ r,r=ZgB area node:=⟨_,rfl⟩;rw [show (⟨area,1,node,0,0,[],0,false⟩:RecD)=nr from hnr.symm] at HAT;rw [<-hnr];clear hnr;rcases Zea (fsts ps) nr with hz | ⟨j,y,hz,hy,_⟩
 ·obtain ⟨e1,e2⟩:=ZfF hz;rw [e1,e2];rw [hz] at HAT;clear hz e1 e2;unfold recC
  go_enter Tryz.func233,Tryz.ntmps233
  go_wp2_with fail
  rw [<-hw0];clear hw0;refine HAT.out.mono ?_;rintro e w1 ⟨rfl,b1⟩;have B1:T_ w w1:=BX.trans (b1.mono BX.size);have hz1:=(b1.block _ hs0).trans hq;clear b1 hq HAT;have u0:=Zaa hz1 0;have u1:=Zaa hz1 1;have u2:=Zaa hz1 2;have u3:=Zaa hz1 3;have u4:=Zaa hz1 4;have u5:=Zaa hz1 5;have u6:=Zaa hz1 6;have u7:=Zaa hz1 7;simp at u0 u1 u2 u3 u4 u5 u6 u7;have fu:=Zae hz1;have FF:=hide (ZrW Zbf (.slice none 0 0) hz1);have G8:=hide (Zle w1 w.heap.size Zbf (.slice none 0 0));clear hz1
  go_wp2_with fail
  (try simp only [Exit.inBlock,Exit.then])
  refine bodyPost_ret (ZcT rfl _ _ w.heap.size 39 (recC Zbf (.slice none 0 0)) (0,0) _ rfl FF Tryz.underlying39 rfl (by kernel_rfl)) rfl ?_;exact⟨.slice none 0 0,rfl,Zpa _ _,(by simp [Zbf]),B1.grown G8 B1.size (fun k hk=>by simp at hk;omega)⟩
 ·obtain ⟨e1,e2⟩:=Zi7 hz hy;rw [e1,e2];obtain⟨t,htj,hty⟩:=Zii hy;have hjl:j<ps.length:=(YAD.1 htj).1;have hji:(0:Int)<=(j:Int):=by omega
  have hjj:(j:Int)<(ps.length:Int):=by omega
  have hj0:¬(j:Int)<0:=by omega
  rw [hz] at HAT;obtain⟨b,off,cp,hve,hbb,c0,c1,c2,c3,c4,c5,c6,c7,hnr⟩:=HV.out.at.cells j t htj;cases hve;have hbw:b<w.heap.size:=by omega
  obtain⟨pa,pc,hpn⟩:=ZaG.shape hnr;rw [hpn] at c5 hnr;have HNL:=hide (show t.1.near.length<=1048576 by have:=ZhQ (YAH htj);omega);have HNR:=hide hnr;subst hty;clear hz hy htj e1 e2 hpn hnr;unfold recC
  go_enter Tryz.func233,Tryz.ntmps233
  go_wp2_with fail
  rw [<-hw0];clear hw0;refine HAT.out.mono ?_;rintro e w1 ⟨rfl,b1⟩;have B1:T_ w w1:=BX.trans (b1.mono BX.size);have hz1:=(b1.block _ hs0).trans hq;clear b1 hq HAT;replace c0:=(B1.cell hbw).trans c0;replace c1:=(B1.cell hbw).trans c1;replace c2:=(B1.cell hbw).trans c2;replace c3:=(B1.cell hbw).trans c3;replace c4:=(B1.cell hbw).trans c4;replace c5:=(B1.cell hbw).trans c5;replace c6:=(B1.cell hbw).trans c6;replace c7:=(B1.cell hbw).trans c7;obtain⟨z,hzz⟩:∃ z,z=w.heap.size:=⟨_,rfl⟩;rw [<-hzz] at hz1 |-;have HZ:=hide hzz;clear hzz;have u0:=Zaa hz1 0;have u1:=Zaa hz1 1;have u2:=Zaa hz1 2;have u3:=Zaa hz1 3;have u4:=Zaa hz1 4;have u5:=Zaa hz1 5;have u6:=Zaa hz1 6;have u7:=Zaa hz1 7;simp at u0 u1 u2 u3 u4 u5 u6 u7;have fu:=Zae hz1;have HZ1:=hide hz1;have FIN:∀ W,W=ZnL w1 z t.1 (.slice pa t.1.near.length pc)->ZaG W (.slice pa t.1.near.length pc) t.1.near hi/\T_ w W:=by
   intro W hW;have G8:=Zle w1 z t.1 (.slice pa t.1.near.length pc);rw [<-hW] at G8;have BF:T_ w W:=B1.grown G8 B1.size (fun k hk=>by have:=HZ.out;simp at hk;omega);exact⟨Zaw.later HNR BF hhi,BF⟩
  have HFIN:=hide FIN;clear hz1 FIN HNR B1 HV BX hs0 hjl hbb hbw
  go_wp2_with fail
  (try simp only [Exit.inBlock,Exit.then])
  refine bodyPost_ret (ZcT rfl _ _ z 39 (recC t.1 (.slice pa t.1.near.length pc)) (0,0) _ rfl (ZrW t.1 (.slice pa t.1.near.length pc) HZ1) Tryz.underlying39 rfl (by kernel_rfl)) rfl ?_;obtain⟨W5,hW5⟩:∃ W,W=ZnL w1 z t.1 (.slice pa t.1.near.length pc):=⟨_,rfl⟩;have h:=HFIN.out W5 hW5;subst hW5;exact⟨_,rfl,h.1,HNL,h.2⟩
theorem ZpP {n:Nr}(h:ns[k]? = some n)(hno:∀ q∈ns.take k,q.to≠b)(hb:n.to=b):ZhK ns b=n.c:=by
 have e:ns.find? (fun x=>x.to==b)=some n:=by
  obtain⟨hk,e1⟩:=YAD.1 h;rw [List.find?_eq_some_iff_append];refine⟨by simpa using hb,ns.take k,ns.drop (k+1),?_,?_⟩
  ·rw [<-e1, <-YAk hk,YAa]
  ·intro x hx;simpa using hno x hx
 unfold ZhK;rw [e]
theorem Zn2 (hno:∀ q∈ns,q.to≠b):ZhK ns b=0:=by
 have e:ns.find? (fun x=>x.to==b)=none:=by
  rw [List.find?_eq_none];intro x hx;simpa using hno x hx
 unfold ZhK;rw [e]
theorem ZkG {n:Nr}(h:ns[k]? = some n)(hno:∀ q∈ns.take k,q.to≠b)(hz:n.to≠b):∀ q∈ns.take (k+1),q.to≠b:=by
 obtain⟨hk,e⟩:=YAD.1 h;rw [YAI hk,e];intro q hq;rcases YAF.1 hq with h1 | h1
 ·exact hno q h1
 ·have:q=n:=by simpa using h1
  subst this;exact hz
theorem ZnZ (v:Value)(ps:List RP)(hi:Nat)(area a b:Int)(w:World)(hv:RecsIn w hi v ps)(hhi:hi<=w.heap.size)(hn:tot ps<=1048576):
  Calls Tryz.prog 259 #[v,M area,M a,M b] w fun e w'=>e=.returned (M (Ze4 (fsts ps) area a b))/\T_ w w':=by
 have HNO:=hide (ZhF v ps hi area a w hv hhi hn);obtain⟨a1,c1,rfl⟩:=Zac hv.row;clear hv;unfold Ze4;obtain⟨D,hD⟩:∃ D,D=ZcC (fsts ps) area a:=⟨_,rfl⟩;rw [<-hD] at HNO;rw [<-hD];clear hD;obtain⟨X,hX⟩:∃ X,X=ZhK D.near b:=⟨_,rfl⟩;rw [<-hX];have HX:=hide hX;clear hX;unfold recC at HNO
 go_enter Tryz.func259,Tryz.ntmps259
 go_wp2_with fail
 refine HNO.out.mono ?_;rintro e w1 ⟨u,rfl,hu,hul,b1⟩;obtain⟨ua,uc,rfl⟩:=ZaG.shape hu;have hx:=YAE w1 (.cells #[M D.area,M D.kind,M D.owner,M D.key,M D.seq,.slice ua D.near.length uc,M D.cost,.bool D.far] 39);have BX:T_ w1 (w1.alloc (.cells #[M D.area,M D.kind,M D.owner,M D.key,M D.seq,.slice ua D.near.length uc,M D.cost,.bool D.far] 39)):=(YAC _ _).alloc (YA _) _;obtain⟨w2,hw2⟩:∃ W,W=w1.alloc (.cells #[M D.area,M D.kind,M D.owner,M D.key,M D.seq,.slice ua D.near.length uc,M D.cost,.bool D.far] 39):=⟨_,rfl⟩;rw [<-hw2] at hx BX;have B2:T_ w w2:=b1.trans (BX.mono b1.size);have HU:Hid (ZaG w2 (.slice ua D.near.length uc) D.near w2.heap.size):=hide ((Zaw.later hu BX (YAG hhi b1.size)).more (YAG hhi B2.size));have hs2:=Zab hx;have HXX:=hide hx;clear hu hx;go_wp2;rw [<-hw2];clear hw2
 go_loopw [11] (fun i wr=>∃ k:Nat,k<=D.near.length/\i=M k/\Hid (∀ q∈D.near.take k,q.to≠b)/\T_ w2 wr) (fun i _=>D.near.length-(intOf i).toNat)
 case atStart=>exact ⟨0,by omega,rfl,hide (by simp),YAC _ _⟩
 case round=>
  obtain⟨k,hk,rfl,HNN,hnx⟩:=hrel;have hx2:=(hnx.block _ hs2).trans HXX;have d5:=Zaa hx2 5;simp at d5;clear hx2;have BWR:T_ w wr:=B2.trans (hnx.mono B2.size);by_cases hlt:k<D.near.length
  ·obtain ⟨n,hnk⟩:∃ n,D.near[k]? = some n:=⟨D.near[k],YAA hlt⟩;obtain⟨g,off,cap',hve,hbb,c0,c1⟩:=HU.out.cells k n hnk;cases hve;replace c0:=(hnx.cell hbb).trans c0;replace c1:=(hnx.cell hbb).trans c1;have hki:(0:Int)<=(k:Int):=by omega
   have hkj:(k:Int)<(D.near.length:Int):=by omega
   by_cases hzz:n.to=b
   ·have HF:=hide (HX.out.trans (ZpP hnk HNN hzz));rw [hzz] at c0;clear hnk hzz;go_wp2;go_ret;exact⟨by rw [HF.out];rfl,BWR⟩
   ·have HN:=hide (ZkG hnk HNN hzz);have hd:(n.to==b)=false:=by simpa using hzz
    clear hnk;go_wp2;go_roundw
    case rel=>exact ⟨k+1,by omega,by go_num,HN,hnx⟩
    case measure=>exact MS_
  ·have HF:=hide (HX.out.trans (Zn2 (by have h:=HNN.out;rw [YAP (by omega)] at h;exact h)));go_wp2;go_ret;exact⟨by rw [HF.out];rfl,BWR⟩
theorem Zij (la lb:List Int)(va vb:Value)(ba bb:Nat)(w:World)(ha:w.ownsRow ba 3 1 va la.length (flat intE la))(hb:w.ownsRow bb 3 1 vb lb.length (flat intE lb))(hla:la.length<=1048576)(hlb:lb.length<=1048576):
  Calls Tryz.prog 251 #[va,vb] w fun e w'=>∃ x,e=.returned x/\w'.ownsRow w.heap.size 3 1 x (Zcy la lb).length (flat intE (Zcy la lb))/\T_ w w':=by
 have H1:=hide (Zfg la va ba w ha hla);have HB:=hide hb;obtain⟨pa,qa,rfl⟩:=Zac ha;obtain⟨pb,qb,rfl⟩:=Zac hb;clear ha hb
 go_enter Tryz.func251,Tryz.ntmps251
 go_wp2_with fail
 refine H1.out.mono ?_;rintro e w1 ⟨v1,rfl,o1,b1⟩;obtain⟨p1,q1,rfl⟩:=Zac o1;have OB:=hide (Zad HB b1 (YA _));have O1:=hide o1;have hs1:=b1.size;clear o1 H1 HB
 go_wp2_with (first
  | (at_builtin;refine Zcv ZdI (by omega) ZcM (by omega) _ rfl _ _ 28 rfl w.heap.size 3 Tryz.underlying28 (M 0) rfl Tryz.info3 (.slice p1 la.length q1) la rfl O1 bb (.slice pb lb.length qb) lb rfl OB (by omega) hs1 ?_))
 intro v2 w2 o2 hg2;have B2:T_ w w2:=b1.grown hg2 hs1 (fun k hk=>(O1.out.lt k hk).1);have hLL:(la++lb).length<=2097152:=by simp;omega
 have o2':w2.ownsRow w.heap.size 3 1 v2 (la++lb).length (Za5 (la++lb)):=by rw [<-ZbL];simpa using o2
 obtain⟨L,hL⟩:∃ L,L=la++lb:=⟨_,rfl⟩;rw [<-hL] at o2' hLL;have HL:=hide hL;clear hL o2;obtain⟨p2,q2,rfl⟩:=Zac o2';have HSO:=hide (Zrm w.heap.size (.slice p2 L.length q2) L w2 o2' (by omega));clear o2' hg2
 go_wp2_with fail
 refine HSO.out.mono ?_;rintro e w3 ⟨rfl,o3,k3⟩;have B3:=k3 w.heap.size w (YA _) B2;have HCO:=hide (Zk3 w.heap.size _ _ w3 o3 (by rw [List.length_mergeSort];omega));clear o3 k3 HSO
 go_wp2_with fail
 refine HCO.out.mono ?_;rintro e w4 ⟨x,rfl,o4,k4⟩;have B4:=hide (k4 w.heap.size w (YA _) B3);have O4:=hide o4;obtain⟨p4,q4,rfl⟩:=Zac o4;clear o4 k4 HCO;go_wp2;go_ret;exact⟨_,rfl,by rw [ZbL];unfold Zcy;rw [<-HL.out];exact O4,B4⟩
def togI (x y:WayD):WayD:=if Zbp x y then x else if Zbp y x then y else ⟨x.to,x.cost,Zcy x.hops y.hops⟩
theorem Zm6 {B:Nat}{w W:World}(h:Below B w W):Below B w W.drew:=h.trans ⟨rfl,rfl,rfl,YA _,fun _ _=>rfl⟩
theorem Zmp (x y:WayD)(vx vy:Value)(bx bY:Nat)(w:World)(hx:w.ownsRow bx 3 1 vx x.hops.length (flat intE x.hops))(hy:w.ownsRow bY 3 1 vy y.hops.length (flat intE y.hops))(hlx:x.hops.length<=1048576)(hly:y.hops.length<=1048576):
  Calls Tryz.prog 245 #[.agg (wayC x vx),.agg (wayC y vy)] w fun e w'=>∃ u,e=.returned (.agg (wayC (togI x y) u))/\w'.ownsRow w.heap.size 3 1 u (togI x y).hops.length (flat intE (togI x y).hops)/\T_ w w':=by
 obtain⟨D,hD⟩:∃ D,D=togI x y:=⟨_,rfl⟩;rw [<-hD];have HD:=hide hD;clear hD;obtain⟨p1,q1,rfl⟩:=Zac hx;obtain⟨p2,q2,rfl⟩:=Zac hy;have HW1:=hide (fun W (hb:T_ w W)=>Zgf x (.slice p1 x.hops.length q1) bx W (Zad hx hb (YA _)) hlx);have HW2:=hide (fun W (hb:T_ w W)=>Zgf y (.slice p2 y.hops.length q2) bY W (Zad hy hb (YA _)) hly);have HHB:=hide (fun W (hb:T_ w W)=>Zij x.hops y.hops (.slice p1 x.hops.length q1) (.slice p2 y.hops.length q2) bx bY W (Zad hx hb (YA _)) (Zad hy hb (YA _)) hlx hly);have HB1:=hide (fun W=>Zcz (.slice p1 x.hops.length q1) (.slice p2 y.hops.length q2) x y W);have HB2:=hide (fun W=>Zcz (.slice p2 y.hops.length q2) (.slice p1 x.hops.length q1) y x W);clear hx hy;have m0:=Zlf w (.cells #[M x.to,M x.cost,.slice p1 x.hops.length q1] 193) (.cells #[M y.to,M y.cost,.slice p2 y.hops.length q2] 193) (.cells #[M 0,M 0,.slice none 0 0] 193);have m1:=Zlg w (.cells #[M x.to,M x.cost,.slice p1 x.hops.length q1] 193) (.cells #[M y.to,M y.cost,.slice p2 y.hops.length q2] 193) (.cells #[M 0,M 0,.slice none 0 0] 193);have m2:=Zlh w (.cells #[M x.to,M x.cost,.slice p1 x.hops.length q1] 193) (.cells #[M y.to,M y.cost,.slice p2 y.hops.length q2] 193) (.cells #[M 0,M 0,.slice none 0 0] 193);have BQ:=Zcw (w:=w) (.cells #[M x.to,M x.cost,.slice p1 x.hops.length q1] 193) (.cells #[M y.to,M y.cost,.slice p2 y.hops.length q2] 193) (.cells #[M 0,M 0,.slice none 0 0] 193);obtain⟨w1,hw1⟩:∃ W,W=(((w.alloc (.cells #[M x.to,M x.cost,.slice p1 x.hops.length q1] 193)).alloc (.cells #[M y.to,M y.cost,.slice p2 y.hops.length q2] 193)).alloc (.cells #[M 0,M 0,.slice none 0 0] 193)):=⟨_,rfl⟩;rw [<-hw1] at m0 m1 m2 BQ;have s0:=0;have s1:=0;have s2:=0;have t0:=0;have t1:=0;have t2:=0;obtain⟨F1,hF1⟩:∃ b,b=Zbp x y:=⟨_,rfl⟩;obtain⟨F2,hF2⟩:∃ b,b=Zbp y x:=⟨_,rfl⟩;rw [<-hF1] at HB1;rw [<-hF2] at HB2;have HF1:=hide hF1;have HF2:=hide hF2;clear hF1 hF2;unfold wayC at HB1 HB2 HW1 HW2 |-
 go_enter Tryz.func245,Tryz.ntmps245
 go_wp2_with fail
 rw [<-hw1];clear hw1;refine (HB1 _).mono ?_;rintro e w2 ⟨rfl,b1⟩;have m0:=(b1.block _ (Zab m0)).trans m0;have m1:=(b1.block _ (Zab m1)).trans m1;have m2:=(b1.block _ (Zab m2)).trans m2;have BQ:=BQ.trans (b1.mono BQ.size);clear s0 s1 s2 t0 t1 t2 b1;have s0:=Zaa m0 0;have s1:=Zaa m0 1;have s2:=Zaa m0 2;have t0:=Zaa m1 0;have t1:=Zaa m1 1;have t2:=Zaa m1 2;simp at s0 s1 s2 t0 t1 t2;cases F1
 ·go_wp2_with fail
  refine (HB2 _).mono ?_;rintro e w3 ⟨rfl,b1⟩;have m0:=(b1.block _ (Zab m0)).trans m0;have m1:=(b1.block _ (Zab m1)).trans m1;have m2:=(b1.block _ (Zab m2)).trans m2;have BQ:=BQ.trans (b1.mono BQ.size);clear s0 s1 s2 t0 t1 t2 b1;have s0:=Zaa m0 0;have s1:=Zaa m0 1;have s2:=Zaa m0 2;have t0:=Zaa m1 0;have t1:=Zaa m1 1;have t2:=Zaa m1 2;simp at s0 s1 s2 t0 t1 t2;cases F2
  ·have hDe:D=⟨x.to,x.cost,Zcy x.hops y.hops⟩:=by rw [HD.out];unfold togI;rw [<-HF1.out, <-HF2.out];rfl
   subst hDe;clear HW1 HW2 HB1 HB2 HD;go_wp2;refine wp_region_noPanic ?_;have hS0:w3.drew.cell? (U w.heap.size 0)=some (M x.to)/\w3.drew.cell? (U w.heap.size 1)=some (M x.cost)/\w3.drew.cell? (U w.heap.size 2)=some (.slice p1 x.hops.length q1)/\w3.drew.cell? (U (w.heap.size+1) 2)=some (.slice p2 y.hops.length q2):=⟨s0,s1,s2,t2⟩;refine Zah (S:=fun W=>W.cell? (U w.heap.size 0)=some (M x.to)/\W.cell? (U w.heap.size 1)=some (M x.cost)/\W.cell? (U w.heap.size 2)=some (.slice p1 x.hops.length q1)/\W.cell? (U (w.heap.size+1) 2)=some (.slice p2 y.hops.length q2)) (by kernel_rfl) 11 rfl hS0 ?_;intro ops hops _;show wpAnyH Tryz.prog .any ops _ _ 11 #[false,false,false,false,false,false,false,false,false,false,false] _ w3.drew
   iterate 8
    refine ZhJ 11 ?_ ?_ ?_ (by rw [hops.out];kernel_rfl) ?_ ?_ (by assumption) ?_
    rotate_left 2
    ·rw [hops.out];simp only [getS,Nat.reduceSub,Nat.reduceAdd];rfl
    ·intro W hW;obtain⟨k1,k2,k3,k4⟩:=hW;go_simp <;> with_reducible rfl
    ·exact fun _ _ _=>id
    try simp only [putS]
   refine TC 8 ?_;intro K hK;go_simp;refine (HHB _ (Zm6 BQ)).mono ?_;rintro e w4 ⟨u,rfl,hn2,b2⟩;obtain⟨na,nc,rfl⟩:=Zac hn2;have hK2:w4.cell? (U w.heap.size 0)=some (M x.to)/\w4.cell? (U w.heap.size 1)=some (M x.cost)/\w4.cell? (U w.heap.size 2)=some (.slice p1 x.hops.length q1)/\w4.cell? (U (w.heap.size+1) 2)=some (.slice p2 y.hops.length q2):=by
    refine⟨?_,?_,?_,?_⟩ <;> (rw [b2.cell (by first | exact Zab m0 | exact Zab m1)];assumption)
   refine hK _ _ hK2 (fun _=>?_);clear hK K
   try simp only [putS]
   refine ZbA 9 ?_ ?_ ?_ (by rw [hops.out];kernel_rfl) ?_ ?_ (by assumption) ?_
   rotate_left 2
   ·rw [hops.out];simp only [getS];rfl
   ·intro W hW;obtain⟨k1,k2,k3,k4⟩:=hW;go_simp <;> with_reducible rfl
   ·exact fun _ _ _=>id
   try simp only [putS]
   have hz2:=(b2.block _ (Zab m2)).trans m2;have hz0:=(b2.block _ (Zab m0)).trans m0;have hz1:=(b2.block _ (Zab m1)).trans m1;have u0:=Zaa hz2 0;have u1:=Zaa hz2 1;have u2:=Zaa hz2 2;simp at u0 u1 u2;have fu:=Zae hz2;have FF:=hide (ZdA ⟨x.to,x.cost,Zcy x.hops y.hops⟩ (.slice na (Zcy x.hops y.hops).length nc) hz2);have G8:=Za7 w4 (w.heap.size+1+1) ⟨x.to,x.cost,Zcy x.hops y.hops⟩ (.slice na (Zcy x.hops y.hops).length nc);have hsz:=Zab m2;have O3:=hide (Zaf (b0:=w.heap.size) (hn2.kept G8 (by
    cases hv:(Value.slice na (Zcy x.hops y.hops).length nc).ownBlock with
    | none=>exact .inl rfl
    | some g=>exact .inr (fun e=>by
      have h9:=(hn2.lt g hv).1;have h8:w3.heap.size<=g:=h9;simp at e;omega))) (by show w.heap.size<=w3.heap.size;omega))
   have B2:T_ w w4:=(Zm6 BQ).trans (b2.mono BQ.size);have BF:=hide (B2.grown G8 B2.size (fun k hk=>by simp at hk;omega));have hS5:∀ W:World,W.heap[w.heap.size]? = w4.heap[w.heap.size]? -> W.heap[w.heap.size+1]? = w4.heap[w.heap.size+1]? -> W.cell? (U w.heap.size 0)=some (M x.to)/\W.cell? (U w.heap.size 1)=some (M x.cost)/\W.cell? (U w.heap.size 2)=some (.slice p1 x.hops.length q1)/\W.cell? (U (w.heap.size+1) 2)=some (.slice p2 y.hops.length q2):=by
    intro W e1 e2;refine⟨?_,?_,?_,?_⟩
    ·rw [World.cell?_of_block (w:=w4) e1];exact hK2.1
    ·rw [World.cell?_of_block (w:=w4) e1];exact hK2.2.1
    ·rw [World.cell?_of_block (w:=w4) e1];exact hK2.2.2.1
    ·rw [World.cell?_of_block (w:=w4) e2];exact hK2.2.2.2
   have hS6:=hS5 (Zbb w4 (w.heap.size+1+1) ⟨x.to,x.cost,Zcy x.hops y.hops⟩ (.slice na (Zcy x.hops y.hops).length nc)) (G8.block _ (Zab hz0) (by simp;omega)) (G8.block _ (Zab hz1) (by simp));clear hS5 hz2 hn2 b2 G8 hz0 hz1;refine TC 10 ?_;intro K hK;go_simp;refine hK _ _ hS6 (fun _=>?_);clear hK K
   try simp only [putS]
   refine wpAnyH_done (by rw [hops.out];kernel_rfl) ?_ _;clear hops ops;refine NoPanic.normal ?_
   go_wp2_with fail
   (try simp only [Exit.inBlock,Exit.then])
   refine bodyPost_ret (results_cell_row rfl _ _ (w.heap.size+1+1) 193 (wayC ⟨x.to,x.cost,Zcy x.hops y.hops⟩ (.slice na (Zcy x.hops y.hops).length nc)) (0,0) _ rfl FF Tryz.underlying193 rfl (by kernel_rfl)) rfl ?_;exact⟨_,rfl,O3,BF⟩
  ·have hDe:D=y:=by rw [HD.out];unfold togI;rw [<-HF1.out, <-HF2.out];rfl
   subst hDe;clear HW1 HHB HB1 HB2 HD
   go_wp2_with fail
   refine (HW2 _ BQ).mono ?_;rintro e w4 ⟨v1,rfl,hn2,b2⟩;obtain⟨na,nc,rfl⟩:=Zac hn2;have hz2:=(b2.block _ (Zab m2)).trans m2;have u0:=Zaa hz2 0;have u1:=Zaa hz2 1;have u2:=Zaa hz2 2;simp at u0 u1 u2;have fu:=Zae hz2;have FF:=hide (ZdA D (.slice na D.hops.length nc) hz2);have G8:=Za7 w4 (w.heap.size+1+1) D (.slice na D.hops.length nc);have hsz:=Zab m2;have O3:=hide (Zaf (b0:=w.heap.size) (hn2.kept G8 (by
    cases hv:(Value.slice na D.hops.length nc).ownBlock with
    | none=>exact .inl rfl
    | some g=>exact .inr (fun e=>by have:=(hn2.lt g hv).1;simp at e;omega))) (by omega))
   have B2:T_ w w4:=BQ.trans (b2.mono BQ.size);have BF:=hide (B2.grown G8 B2.size (fun k hk=>by simp at hk;omega));clear hz2 hn2 b2 G8 m2 m0 m1
   go_wp2_with fail
   (try simp only [Exit.inBlock,Exit.then])
   refine bodyPost_ret (results_cell_row rfl _ _ (w.heap.size+1+1) 193 (wayC D (.slice na D.hops.length nc)) (0,0) _ rfl FF Tryz.underlying193 rfl (by kernel_rfl)) rfl ?_;exact⟨_,rfl,O3,BF⟩
 ·have hDe:D=x:=by rw [HD.out];unfold togI;rw [<-HF1.out];rfl
  subst hDe;clear HW2 HHB HB1 HB2 HD
  go_wp2_with fail
  refine (HW1 _ BQ).mono ?_;rintro e w4 ⟨v1,rfl,hn2,b2⟩;obtain⟨na,nc,rfl⟩:=Zac hn2;have hz2:=(b2.block _ (Zab m2)).trans m2;have u0:=Zaa hz2 0;have u1:=Zaa hz2 1;have u2:=Zaa hz2 2;simp at u0 u1 u2;have fu:=Zae hz2;have FF:=hide (ZdA D (.slice na D.hops.length nc) hz2);have G8:=Za7 w4 (w.heap.size+1+1) D (.slice na D.hops.length nc);have hsz:=Zab m2;have O3:=hide (Zaf (b0:=w.heap.size) (hn2.kept G8 (by
   cases hv:(Value.slice na D.hops.length nc).ownBlock with
   | none=>exact .inl rfl
   | some g=>exact .inr (fun e=>by have:=(hn2.lt g hv).1;simp at e;omega))) (by omega))
  have B2:T_ w w4:=BQ.trans (b2.mono BQ.size);have BF:=hide (B2.grown G8 B2.size (fun k hk=>by simp at hk;omega));clear hz2 hn2 b2 G8 m2 m0 m1
  go_wp2_with fail
  (try simp only [Exit.inBlock,Exit.then])
  refine bodyPost_ret (results_cell_row rfl _ _ (w.heap.size+1+1) 193 (wayC D (.slice na D.hops.length nc)) (0,0) _ rfl FF Tryz.underlying193 rfl (by kernel_rfl)) rfl ?_;exact⟨_,rfl,O3,BF⟩
theorem ZlP (v:Value)(ps:List RP)(hi:Nat)(r:RP)(w:World)(hv:RecsIn w hi v ps)(hhi:hi<=w.heap.size)(hn:tot ps<=1048576)(hr:ZaH w 0 hi r)(hmono:∀ s t,s<=t->t<ps.length->ltAt (fsts ps) r.1 t->ltAt (fsts ps) r.1 s):
  Calls Tryz.prog 210 #[v,.agg (recC r.1 r.2),.func (.func 132) #[] #[]] w fun e w'=>∃ (i:Nat) (f:Bool),e=.returned (.tuple #[M (i:Int),.bool f])/\i<=ps.length/\(∀ t,t<i->ltAt (fsts ps) r.1 t)/\(∀ t,i<=t->t<ps.length->¬ltAt (fsts ps) r.1 t)/\(f=true↔∃ x,(fsts ps)[i]? = some x/\ordR x r.1=0)/\T_ w w':=by
 have hnl:=Zby ps;obtain⟨a1,c1,rfl⟩:=Zac hv.row;obtain⟨ra,rc,hrn⟩:=Zac hr.1;have HRN:=hide hrn;have HV:=hide hv;have HM:=hide hmono;unfold recC;rw [hrn];clear hv hr hrn hmono;have BX:T_ w (w.alloc (.cells #[M r.1.area,M r.1.kind,M r.1.owner,M r.1.key,M r.1.seq,.slice ra r.1.near.length rc,M r.1.cost,.bool r.1.far] 39)):=(YAC _ _).alloc (YA _) _;have hx:=YAE w (.cells #[M r.1.area,M r.1.kind,M r.1.owner,M r.1.key,M r.1.seq,.slice ra r.1.near.length rc,M r.1.cost,.bool r.1.far] 39);obtain⟨w0,hw0⟩:∃ w0,w0=w.alloc (.cells #[M r.1.area,M r.1.kind,M r.1.owner,M r.1.key,M r.1.seq,.slice ra r.1.near.length rc,M r.1.cost,.bool r.1.far] 39):=⟨_,rfl⟩;rw [<-hw0] at BX hx;have hs0:=Zab hx;have HX:=hide hx;clear hx
 go_enter Tryz.func210,Tryz.ntmps210
 go_wp2;rw [<-hw0];clear hw0
 go_loopw [9,10] (fun i j wr=>∃ (m n:Nat),m<=n/\n<=ps.length/\i=M m/\j=M n/\Hid (∀ t,t<m->ltAt (fsts ps) r.1 t)/\Hid (∀ t,n<=t->t<ps.length->¬ltAt (fsts ps) r.1 t)/\T_ w0 wr) (fun i j _=>(intOf j).toNat-(intOf i).toNat)
 case atStart=>exact ⟨0,ps.length,by omega,by omega,rfl,rfl,hide (by omega),hide (by omega),YAC _ _⟩
 case round=>
  obtain⟨m,n,hmn,hnp,rfl,rfl,HLO,HHI,hnx⟩:=hrel;have hsz:=hnx.size;have BWR:T_ w wr:=BX.trans (hnx.mono (by omega));by_cases hlt:m<n
  ·have hmi:(m:Int)<(n:Int):=by omega
   have hw1:IntKind.i64.wrap ((m:Int)+(n:Int))=(m:Int)+(n:Int):=ZaN _ (by omega) (by omega);go_wp2;obtain⟨k,hk⟩:∃ k:Nat,k=(m+n) / 2:=⟨_,rfl⟩;have hke:((m:Int)+(n:Int)) / 2=(k:Int):=by omega
   rw [hke];have hkm:m<=k:=by omega
   have hkn:k<n:=by omega
   have hki:(0:Int)<=(k:Int):=by omega
   have hkj:(k:Int)<(ps.length:Int):=by omega
   clear hk hke hw1;obtain⟨p,hp⟩:∃ p,ps[k]? = some p:=⟨ps[k],YAA (by omega)⟩;obtain⟨b,off,cap',hve,hbb,c0,c1,c2,c3,c4,c5,c6,c7,hnr⟩:=HV.out.at.cells k p hp;cases hve;obtain⟨pa,pc,hpn⟩:=ZaG.shape hnr;rw [hpn] at c5;replace c0:=(BWR.cell (YAB hbb hhi)).trans c0;replace c1:=(BWR.cell (YAB hbb hhi)).trans c1;replace c2:=(BWR.cell (YAB hbb hhi)).trans c2;replace c3:=(BWR.cell (YAB hbb hhi)).trans c3;replace c4:=(BWR.cell (YAB hbb hhi)).trans c4;replace c5:=(BWR.cell (YAB hbb hhi)).trans c5;replace c6:=(BWR.cell (YAB hbb hhi)).trans c6;replace c7:=(BWR.cell (YAB hbb hhi)).trans c7;have hxx:=(hnx.block _ (Zab HX)).trans HX;have d0:=Zaa hxx 0;have d1:=Zaa hxx 1;have d2:=Zaa hxx 2;have d3:=Zaa hxx 3;have d4:=Zaa hxx 4;have d5:=Zaa hxx 5;have d6:=Zaa hxx 6;have d7:=Zaa hxx 7;simp at d0 d1 d2 d3 d4 d5 d6 d7;have hb1:b<wr.heap.size:=by omega
   have hb2:w.heap.size<wr.heap.size:=by omega
   have hq:=fun W=>Zb8 p.2 r.2 p.1 r.1 W;unfold recC at hq;rw [hpn,HRN.out] at hq;obtain⟨x,hx⟩:∃ x,x=ordR p.1 r.1:=⟨_,rfl⟩;rw [<-hx] at hq;have HK:=hide hq;have HXV:=hide hx;have HPP:=hide (Zbq hp);clear hq hx hp hxx hnr hpn;by_cases hx0:x<0
   ·have HLO2:=hide (show ∀ t,t<k+1->ltAt (fsts ps) r.1 t from fun t ht=>HM t k (by omega) (by omega) ((Zdc HPP).2 (by rw [<-HXV.out];exact hx0)))
    go_region_held3 (fun W=>W.cell? (U b (off+k*8))=some (M p.1.area)/\W.cell? (U b (off+k*8+1))=some (M p.1.kind)/\W.cell? (U b (off+k*8+2))=some (M p.1.owner)/\W.cell? (U b (off+k*8+3))=some (M p.1.key)/\W.cell? (U b (off+k*8+4))=some (M p.1.seq)/\W.cell? (U b (off+k*8+5))=some (.slice pa p.1.near.length pc)/\W.cell? (U b (off+k*8+6))=some (M p.1.cost)/\W.cell? (U b (off+k*8+7))=some (.bool p.1.far)/\W.cell? (U w.heap.size 0)=some (M r.1.area)/\W.cell? (U w.heap.size 1)=some (M r.1.kind)/\W.cell? (U w.heap.size 2)=some (M r.1.owner)/\W.cell? (U w.heap.size 3)=some (M r.1.key)/\W.cell? (U w.heap.size 4)=some (M r.1.seq)/\W.cell? (U w.heap.size 5)=some (.slice ra r.1.near.length rc)/\W.cell? (U w.heap.size 6)=some (M r.1.cost)/\W.cell? (U w.heap.size 7)=some (.bool r.1.far)) (first | go_keep | (refine ⟨?_,?_,?_,?_,?_,?_,?_,?_,?_,?_,?_,?_,?_,?_,?_,?_⟩ <;> (rw [hbc.cell (by assumption)];assumption))) (first | (go_at_call 132;refine (HK _).mono ?_;rintro e w1 ⟨rfl,hbc⟩))
    go_wp2;go_roundw
    case rel=>exact ⟨k+1,n,by omega,by omega,by go_num,rfl,HLO2,HHI,hnx.trans ((YAC _ _).drew.trans (hbc.mono hsz))⟩
    case measure=>exact MS_
   ·have HHI2:=hide (show ∀ t,k<=t->t<ps.length->¬ltAt (fsts ps) r.1 t from fun t h1 h2 h3=>hx0 (by rw [HXV.out];exact (Zdc HPP).1 (HM k t h1 h2 h3)))
    go_region_held3 (fun W=>W.cell? (U b (off+k*8))=some (M p.1.area)/\W.cell? (U b (off+k*8+1))=some (M p.1.kind)/\W.cell? (U b (off+k*8+2))=some (M p.1.owner)/\W.cell? (U b (off+k*8+3))=some (M p.1.key)/\W.cell? (U b (off+k*8+4))=some (M p.1.seq)/\W.cell? (U b (off+k*8+5))=some (.slice pa p.1.near.length pc)/\W.cell? (U b (off+k*8+6))=some (M p.1.cost)/\W.cell? (U b (off+k*8+7))=some (.bool p.1.far)/\W.cell? (U w.heap.size 0)=some (M r.1.area)/\W.cell? (U w.heap.size 1)=some (M r.1.kind)/\W.cell? (U w.heap.size 2)=some (M r.1.owner)/\W.cell? (U w.heap.size 3)=some (M r.1.key)/\W.cell? (U w.heap.size 4)=some (M r.1.seq)/\W.cell? (U w.heap.size 5)=some (.slice ra r.1.near.length rc)/\W.cell? (U w.heap.size 6)=some (M r.1.cost)/\W.cell? (U w.heap.size 7)=some (.bool r.1.far)) (first | go_keep | (refine ⟨?_,?_,?_,?_,?_,?_,?_,?_,?_,?_,?_,?_,?_,?_,?_,?_⟩ <;> (rw [hbc.cell (by assumption)];assumption))) (first | (go_at_call 132;refine (HK _).mono ?_;rintro e w1 ⟨rfl,hbc⟩))
    go_wp2;go_roundw
    case rel=>exact ⟨m,k,by omega,by omega,rfl,rfl,HLO,HHI2,hnx.trans ((YAC _ _).drew.trans (hbc.mono hsz))⟩
    case measure=>exact MS_
  ·have hmn2:m=n:=by omega
   subst hmn2;by_cases hend:m<ps.length
   ·have hmi:(0:Int)<=(m:Int):=by omega
    have hmj:(m:Int)<(ps.length:Int):=by omega
    obtain⟨p,hp⟩:∃ p,ps[m]? = some p:=⟨ps[m],YAA (by omega)⟩;obtain⟨b,off,cap',hve,hbb,c0,c1,c2,c3,c4,c5,c6,c7,hnr⟩:=HV.out.at.cells m p hp;cases hve;obtain⟨pa,pc,hpn⟩:=ZaG.shape hnr;rw [hpn] at c5;replace c0:=(BWR.cell (YAB hbb hhi)).trans c0;replace c1:=(BWR.cell (YAB hbb hhi)).trans c1;replace c2:=(BWR.cell (YAB hbb hhi)).trans c2;replace c3:=(BWR.cell (YAB hbb hhi)).trans c3;replace c4:=(BWR.cell (YAB hbb hhi)).trans c4;replace c5:=(BWR.cell (YAB hbb hhi)).trans c5;replace c6:=(BWR.cell (YAB hbb hhi)).trans c6;replace c7:=(BWR.cell (YAB hbb hhi)).trans c7;have hxx:=(hnx.block _ (Zab HX)).trans HX;have d0:=Zaa hxx 0;have d1:=Zaa hxx 1;have d2:=Zaa hxx 2;have d3:=Zaa hxx 3;have d4:=Zaa hxx 4;have d5:=Zaa hxx 5;have d6:=Zaa hxx 6;have d7:=Zaa hxx 7;simp at d0 d1 d2 d3 d4 d5 d6 d7;have hb1:b<wr.heap.size:=by omega
    have hb2:w.heap.size<wr.heap.size:=by omega
    have hq:=fun W=>Zb8 p.2 r.2 p.1 r.1 W;unfold recC at hq;rw [hpn,HRN.out] at hq;obtain⟨x,hx⟩:∃ x,x=ordR p.1 r.1:=⟨_,rfl⟩;rw [<-hx] at hq;have HK:=hide hq;have HXV:=hide hx;have HPP:=hide (Zbq hp);clear hq hx hp hxx hnr hpn;have hfin:(x==0)=true↔∃ y,(fsts ps)[m]? = some y/\ordR y r.1=0:=by
     rw [HPP.out];constructor
     ·intro h;exact⟨p.1,rfl,by rw [<-HXV.out];simpa using h⟩
     ·rintro ⟨y,hy,he⟩;cases hy;rw [HXV.out];simpa using he
    have HFIN:=hide hfin;clear hfin;go_wp2
    go_region_held3 (fun W=>W.cell? (U b (off+m*8))=some (M p.1.area)/\W.cell? (U b (off+m*8+1))=some (M p.1.kind)/\W.cell? (U b (off+m*8+2))=some (M p.1.owner)/\W.cell? (U b (off+m*8+3))=some (M p.1.key)/\W.cell? (U b (off+m*8+4))=some (M p.1.seq)/\W.cell? (U b (off+m*8+5))=some (.slice pa p.1.near.length pc)/\W.cell? (U b (off+m*8+6))=some (M p.1.cost)/\W.cell? (U b (off+m*8+7))=some (.bool p.1.far)/\W.cell? (U w.heap.size 0)=some (M r.1.area)/\W.cell? (U w.heap.size 1)=some (M r.1.kind)/\W.cell? (U w.heap.size 2)=some (M r.1.owner)/\W.cell? (U w.heap.size 3)=some (M r.1.key)/\W.cell? (U w.heap.size 4)=some (M r.1.seq)/\W.cell? (U w.heap.size 5)=some (.slice ra r.1.near.length rc)/\W.cell? (U w.heap.size 6)=some (M r.1.cost)/\W.cell? (U w.heap.size 7)=some (.bool r.1.far)) (first | go_keep | (refine ⟨?_,?_,?_,?_,?_,?_,?_,?_,?_,?_,?_,?_,?_,?_,?_,?_⟩ <;> (rw [hbc.cell (by assumption)];assumption))) (first | (go_at_call 132;refine (HK _).mono ?_;rintro e w1 ⟨rfl,hbc⟩))
    go_wp2
    go_returns
    exact⟨m,x==0,rfl,by omega,HLO,HHI,HFIN,BWR.trans ((YAC _ _).drew.trans (hbc.mono (show w.heap.size<=wr.heap.size by omega)))⟩
   ·have hme:¬(m:Int)<(ps.length:Int):=by omega
    have HNO:=hide (show (false=true↔∃ y,(fsts ps)[m]? = some y/\ordR y r.1=0) from ⟨(fun h=>by cases h),(fun ⟨y,hy,_⟩=>by rw [List.getElem?_eq_none (by simp [fsts];omega)] at hy;cases hy)⟩);go_wp2
    go_quiet (fail)
    go_wp2
    go_returns
    exact⟨m,false,rfl,by omega,HLO,HHI,HNO,BWR.trans ⟨rfl,rfl,rfl,YA _,fun _ _=>rfl⟩⟩
theorem Zi4 (x:Int)(w:World):Calls Tryz.prog 248 #[M x] w fun e w'=>e=.returned (.bool (x != 0))/\w=w':=by
 go_enter Tryz.func248,Tryz.ntmps248
 go_wp2;go_ret;exact⟨rfl,rfl⟩
theorem ZmS {Z R:List Int}{y:Int}(h:(Z++R)[k]? = some y)(hZ:∀ z∈Z,z=0)(hR:∀ z∈R,z≠0):(k<Z.length/\y=0)\/(Z.length<=k/\y≠0):=by
 rcases Nat.lt_or_ge k Z.length with h1 | h1
 ·rw [List.getElem?_append_left h1] at h;exact .inl ⟨h1,hZ y (YAH h)⟩
 ·rw [YAv h1] at h;exact .inr ⟨h1,hR y (YAH h)⟩
theorem Zng (v:Value)(Z R:List Int)(w:World)(hn:(Z++R).length<=1048576)(hZ:∀ z∈Z,z=0)(hR:∀ z∈R,z≠0)(hv:ZaI w v (Z++R) w.heap.size):
  Calls Tryz.prog 270 #[v,.func (.func 248) #[] #[]] w fun e w'=>e=.returned (M (if R=[] then -1 else (Z.length:Int)))/\w=w':=by
 obtain⟨a,cap,rfl⟩:=hv.shape;have HV:=hide hv;clear hv;obtain⟨L,hL⟩:∃ L,L=Z++R:=⟨_,rfl⟩;rw [<-hL] at HV hn |-;have HLE:=hide hL;have HSP:=hide (fun (k:Nat) (y:Int) (h:L[k]? = some y)=>ZmS (by rw [<-hL];exact h) hZ hR);obtain⟨res,hres⟩:∃ r:Int,r=if R=[] then -1 else (Z.length:Int):=⟨_,rfl⟩
 rw [<-hres];have HRES:=hide hres;clear hL hres
 go_enter Tryz.func270,Tryz.ntmps270
 go_wp2
 go_loop [8] (fun i=>∃ k:Nat,k<=L.length/\i=M k/\k<=Z.length) (fun i=>L.length-(intOf i).toNat)
 case atStart=>exact ⟨0,by omega,rfl,by omega⟩
 case round=>
  obtain⟨k,hk,rfl,hkz⟩:=hrel;by_cases hlt:k<L.length
  ·obtain ⟨y,hy⟩:∃ y,L[k]? = some y:=⟨L[k],YAA hlt⟩;obtain⟨b,off,cap',hve,hbb,c0⟩:=HV.out.cell k y hy;cases hve;have hki:(0:Int)<=(k:Int):=by omega
   have hkj:(k:Int)<(L.length:Int):=by omega
   rcases HSP.out k y hy with ⟨h1,h2⟩ | ⟨h1,h2⟩
   ·have hd:(y != 0)=false:=by simpa using h2
    clear hy h2
    go_wp2_with fail
    refine (Zi4 _ _).mono ?_;rintro e w1 ⟨rfl,rfl⟩;rw [hd];go_wp2
    go_round
    case rel=>exact ⟨k+1,by omega,by go_num,by omega⟩
    case measure=>exact MS_
   ·have hd:(y != 0)=true:=by simpa using h2
    have hkz2:(k:Int)=res:=by
     rw [HRES.out,if_neg (fun e=>by have:=congrArg List.length HLE.out;rw [YAO,e] at this;simp at this;omega)];omega
    clear hy h2;have HKZ:=hide hkz2;clear hkz2
    go_wp2_with fail
    refine (Zi4 _ _).mono ?_;rintro e w1 ⟨rfl,rfl⟩;rw [hd];go_wp2;go_ret;exact⟨Zc4 HKZ,rfl⟩
  ·have hRE:(-1:Int)=res:=by
    have h1:=congrArg List.length HLE;rw [YAO] at h1;rw [HRES.out,if_pos (List.length_eq_zero_iff.1 (by omega))]
   have HRR:=hide hRE;clear hRE;go_wp2;go_ret;exact⟨Zc4 HRR,rfl⟩
theorem ZfT {base:Nat}{e:TypeId}:∀ (vs:List Value) (o:Nat) (w:World) (xs:List Value),w.ownsRow base e 1 (.slice (some (U g 0)) n cap) n xs->∃ ys,(w.setCells g o vs).ownsRow base e 1 (.slice (some (U g 0)) n cap) n ys/\ys.take o=xs.take o
 | [],_,_,xs,h=>⟨xs,h,rfl⟩
 | v::vs,o,w,xs,h=>by
  obtain⟨ys,h1,h2⟩:=ZfT vs (o+1) (w.setCell (U g o) v) (xs.set o v) (h.stored o v).1;refine⟨ys,h1,?_⟩;have h3:=congrArg (List.take o) h2;rw [List.take_take,List.take_take,YAR (by omega),List.take_set_of_le (YA _)] at h3;exact h3
theorem Ze1 :∀ (vs:List Value) (o:Nat) (w:World),w.grownBy (w.setCells g o vs) (some g)
 | [],_,_=>⟨rfl,rfl,rfl,YA _,fun _ _ _=>rfl⟩
 | v::vs,o,w=>Zaj (Zak w g o v) (Ze1 vs (o+1) _)
theorem Zpp {w:World}{base m:Nat}{e:TypeId}{xs:List Value} (h:w.ownsRow base e 1 (.slice (some (U g 0)) n cap) n xs) (hm:m<=n):w.ownsRow base e 1 (.slice (some (U g 0)) m cap) m (xs.take m):=by
 have hl:=h.1;rcases h.2 with ⟨h0,_⟩ | ⟨g',cap',cur,hv,hb,hh,hnc,hcm,hcs,htk⟩
 ·cases h0
 ·cases hv;refine⟨by rw [YAS];omega,.inr ⟨g,cap,cur,rfl,hb,hh,by omega,hcm,hcs,?_⟩⟩;rw [<-htk,List.take_take,YAR (by omega),Nat.mul_one]
theorem Znd (l:List Int)(k:Nat):(flat intE l).take k=flat intE (l.take k):=by
 rw [ZbL,ZbL];simp [Za5]
theorem Zqm (v:Value)(Z R:List Int)(lo:Nat)(w:World)(hn:(Z++R).length<=1048576)(hZ:∀ z∈Z,z=0)(hR:∀ z∈R,z≠0)(hv:IntsOwn w lo w.heap.size v (Z++R)):
  Calls Tryz.prog 247 #[v,.func (.func 248) #[] #[]] w fun e w'=>∃ x,e=.returned x/\IntsOwn w' lo w'.heap.size x Z/\w.grownBy w' v.ownBlock:=by
 have HI:=hide (Zng v Z R w hn hZ hR hv.at);by_cases hRE:R=[]
 ·subst hRE;rw [if_pos rfl] at HI;rw [List.append_nil] at hv;obtain⟨a,cap,rfl⟩:=Zac hv.row;have HV:=hide hv;clear hv
  go_enter Tryz.func247,Tryz.ntmps247
  go_wp2_with fail
  refine HI.out.mono ?_;rintro e w1 ⟨rfl,rfl⟩;go_wp2;go_ret;exact⟨_,rfl,HV,Zbz _ _⟩
 ·rw [if_neg hRE] at HI;have hRl:0<R.length:=List.length_pos_iff.2 hRE;have hlen:(Z++R).length=Z.length+R.length:=YAO;obtain⟨g,cap,rfl,hg1,hg2⟩:=Zce hv.row (by omega);have hcl:∀ ty,(Builtin.clear_ #[28] ty #[.slice (some (U g Z.length)) ((Z++R).length-Z.length) (cap-Z.length)]).run Tryz.prog w=.ok (.tuple #[]) (w.setCells g Z.length (List.replicate ((Z++R).length-Z.length) (M 0))):=fun ty=>
   Lib.run_clear_slice w 28 3 ty (M 0) Tryz.underlying28 (fun W=>by
    obtain⟨i0,hi,hz0,hz1,hz2⟩:=info_parts Tryz.info3;simp [zeroValue,typeInfo,hi,hz0]) rfl rfl g Z.length _ _ (by omega) (fun j hj=>by
     obtain⟨u,hu⟩:=ZaM hv.row (Z.length+j) (by omega);rw [hu];rfl) (fun j _=>hv.row.frozenAt _)
  have hcap:(Z++R).length<=cap:=by
   rcases hv.row.2 with ⟨h0,_⟩ | ⟨g',cap',cur,hv',_,_,hnc,_⟩
   ·cases h0
   ·cases hv';exact hnc
  have hcap2:cap<=9223372036854775807:=by
   rcases hv.row.2 with ⟨h0,_⟩ | ⟨g',cap',cur,hv',_,_,_,hcm,_⟩
   ·cases h0
   ·cases hv';unfold maxLen at hcm;omega
  have hfin:IntsOwn (w.setCells g Z.length (List.replicate ((Z++R).length-Z.length) (M 0))) lo (w.setCells g Z.length (List.replicate ((Z++R).length-Z.length) (M 0))).heap.size (.slice (some (U g 0)) Z.length cap) Z:=by
   obtain⟨ys,h1,h2⟩:=ZfT (List.replicate ((Z++R).length-Z.length) (M 0)) Z.length w _ hv.row;have h3:=Zpp h1 (show Z.length<=(Z++R).length by omega);rw [h2,Znd,List.take_left] at h3;exact IntsOwn.of h3
  have HF:=hide hfin;have HG:=hide (Ze1 (g:=g) (List.replicate ((Z++R).length-Z.length) (M 0)) Z.length w);have HV:=hide hv.at;have HSP:=hide (fun (k:Nat) (y:Int) (h:(Z++R)[k]? = some y)=>ZmS h hZ hR);obtain⟨L,hL⟩:∃ L,L=Z++R:=⟨_,rfl⟩;rw [<-hL] at HI HF HG HV HSP hcl hcap hlen hn |-;clear hv hfin hL hZ hR hRE;have hzn:((Z.length:Int) == -1)=false:=by simp <;> omega
  have hzl:Z.length<=L.length:=by omega
  have hzi:(Z.length:Int)<=(L.length:Int):=by omega
  have hzc:¬(cap=Z.length):=by omega
  have hzc2:Z.length<=cap:=by omega
  have HLN:=hide hlen;clear hlen
  go_enter Tryz.func247,Tryz.ntmps247
  go_wp2_with fail
  refine HI.out.mono ?_;rintro e w1 ⟨rfl,rfl⟩;go_wp2
  go_loopw [6,5] (fun i f wr=>∃ j:Nat,Z.length+1<=j/\j<=L.length/\i=M (j:Int)/\f=M (Z.length:Int)/\wr=w) (fun i _ _=>L.length-(intOf i).toNat)
  case atStart=>exact ⟨Z.length+1,by omega,by have:=HLN.out;omega,by go_num,rfl,rfl⟩
  case round=>
   obtain⟨j,hj0,hj,rfl,rfl,rfl⟩:=hrel;by_cases hlt:j<L.length
   ·obtain ⟨y,hy⟩:∃ y,L[j]? = some y:=⟨L[j],YAA hlt⟩;obtain⟨b,off,cap',hve,hbb,c0⟩:=HV.out.cell j y hy;cases hve;simp only [Nat.zero_add] at c0;have hki:(0:Int)<=(j:Int):=by omega
    have hkj:(j:Int)<(L.length:Int):=by omega
    have hd:(y != 0)=true:=by
     rcases HSP.out j y hy with ⟨h1,h2⟩ | ⟨h1,h2⟩
     ·omega
     ·simpa using h2
    clear hy
    go_wp2_with fail
    refine (Zi4 _ _).mono ?_;rintro e w1 ⟨rfl,rfl⟩;rw [hd];go_wp2;go_roundw
    case rel=>exact ⟨j+1,by omega,by omega,by go_num,rfl,trivial⟩
    case measure=>exact MS_
   ·have hjn:¬(j:Int)<(L.length:Int):=by omega
    clear HV HSP HI;go_wp2;go_ret;exact⟨_,rfl,HF,HG⟩
def Zdv (l:List Int)(border:Bool):List Int:=if border then (if (0:Int)∈l then [0] else []) else Zdp l 3
theorem Zgu {l:List Int}{border:Bool}{a:Int}:a∈Zdv l border↔(a∈l/\0<=a/\a<3)/\(border=true->a=0):=by
 unfold Zdv;cases border
 ·simp only [Bool.false_eq_true,if_false,false_implies,and_true];exact Zhu
 ·simp only [if_true,true_implies];constructor
  ·intro h
   split at h
   ·rename_i h0
    have:a=0:=by simpa using h
    subst this;exact⟨⟨h0,by omega,by omega⟩,rfl⟩
   ·simp at h
  ·rintro ⟨⟨h1,_,_⟩,rfl⟩;rw [if_pos h1];simp
theorem Zkv (l:List Int)(border:Bool):(Zdv l border).length<=3:=by
 unfold Zdv
 split
 ·split <;> simp
 ·exact Zes l 3
theorem ZnM (l:List Int):∃ R,Zdp l 3=(if (0:Int)∈l then [0] else [])++R/\(∀ z∈R,z≠0)/\∀ z∈(if (0:Int)∈l then [(0:Int)] else []),z=0:=by
 refine⟨(if decide ((1:Int)∈l) then [1] else [])++(if decide ((2:Int)∈l) then [2] else []),?_,?_,?_⟩
 ·show (([]++_)++_)++_=_;simp [YAW]
 ·intro z hz;rcases YAF.1 hz with h | h
  ·split at h
   ·have:z=1:=by simpa using h
    omega
   ·simp at h
  ·split at h
   ·have:z=2:=by simpa using h
    omega
   ·simp at h
 ·intro z hz
  split at hz
  ·simpa using hz
  ·simp at hz
theorem ZjT (v:Value)(l:List Int)(border:Bool)(hi:Nat)(w:World)(hn:l.length<=1048576)(hv:ZaI w v l hi)(hhi:hi<=w.heap.size):
  Calls Tryz.prog 213 #[v,.bool border] w fun e w'=>∃ x,e=.returned x/\IntsOwn w' w.heap.size w'.heap.size x (Zdv l border)/\T_ w w':=by
 obtain⟨a,cap,rfl⟩:=hv.shape;have HR:=hide (ZmP (.slice a l.length cap) l hi w hn hv hhi);clear hv;unfold Zdv;cases border
 ·simp only [Bool.false_eq_true,if_false];obtain⟨L,hL⟩:∃ L,L=Zdp l 3:=⟨_,rfl⟩;rw [<-hL] at HR |-;have HLL:=hide hL;clear hL
  go_enter Tryz.func213,Tryz.ntmps213
  go_wp2_with fail
  refine HR.out.mono ?_;rintro e w1 ⟨x,rfl,ho,b1⟩;obtain⟨xa,xc,rfl⟩:=Zac ho.row;have HO:=hide ho;clear ho;go_wp2;go_ret;exact⟨_,rfl,HO,b1⟩
 ·simp only [if_true];obtain⟨R,hre,hR,hZ⟩:=ZnM l;obtain⟨Z,hZe⟩:∃ Z,Z=(if (0:Int)∈l then [(0:Int)] else []):=⟨_,rfl⟩;rw [<-hZe] at hre hZ |-;have hl3:(Z++R).length<=3:=by rw [<-hre];exact Zes l 3
  rw [hre] at HR;have HDD:=hide (fun x W (ho:IntsOwn W w.heap.size W.heap.size x (Z++R))=>Zqm x Z R w.heap.size W (by omega) hZ hR ho);obtain⟨L,hL⟩:∃ L,L=Z++R:=⟨_,rfl⟩;rw [<-hL] at HR HDD;clear hre hZe hL hl3 hZ hR
  go_enter Tryz.func213,Tryz.ntmps213
  go_wp2_with fail
  refine HR.out.mono ?_;rintro e w1 ⟨x,rfl,ho,b1⟩;have HD:=hide (HDD x w1 ho);clear HDD;obtain⟨xa,xc,rfl⟩:=Zac ho.row;have HO:=hide ho;clear ho
  go_wp2_with fail
  refine HD.out.mono ?_;rintro e w2 ⟨y,rfl,ho2,hg⟩;have HO2:=hide ho2;have HB:=hide (b1.grown hg b1.size (fun k hk=>(HO.out.row.lt k hk).1));obtain⟨ya,yc,rfl⟩:=Zac ho2.row;clear ho2 hg;go_wp2;go_ret;exact⟨_,rfl,HO2,HB⟩
def mkQ (c:Int)(p:QP):QP:=(⟨c%3==0,c+1,c+1+1,c+1+1+1,c+1+1+1+1,Zdt (c+1+1+1+1+1) p.1.hops.length⟩,p.2)
def nxQ (c:Int)(p:QP):Int:=c+1+1+1+1+1+(p.1.hops.length:Int)
def mkQL:Int->List QP->List QP
 | _,[]=>[]
 | c,p::ps=>mkQ c p::mkQL (nxQ c p) ps
def mkQE:Int->List QP->Int
 | c,[]=>c
 | c,p::ps=>mkQE (nxQ c p) ps
theorem Zc3 (c:Int)(ps:List QP):(mkQL c ps).length=ps.length:=by
 induction ps generalizing c with
 | nil=>rfl
 | cons p ps ih=>simp [mkQL,ih]
theorem ZlG (c:Int)(a b:List QP):mkQE c (a++b)=mkQE (mkQE c a) b:=by
 induction a generalizing c with
 | nil=>rfl
 | cons p a ih=>exact ih _
theorem Zhi (c:Int)(a b:List QP):mkQL c (a++b)=mkQL c a++mkQL (mkQE c a) b:=by
 induction a generalizing c with
 | nil=>rfl
 | cons p a ih=>simp only [List.cons_append,mkQL,mkQE,ih]
theorem Zko (c:Int)(h:ps[k]? = some p):mkQE c (ps.take (k+1))=nxQ (mkQE c (ps.take k)) p:=by
 obtain⟨hk,e⟩:=YAD.1 h;rw [YAI hk,ZlG,e];rfl
theorem Zo8 (c:Int)(h:ps[k]? = some p):mkQL c (ps.take (k+1))=mkQL c (ps.take k)++[mkQ (mkQE c (ps.take k)) p]:=by
 obtain⟨hk,e⟩:=YAD.1 h;rw [YAI hk,Zhi,e];rfl
theorem Zjh (c:Int)(ps:List QP):c+(totQ ps:Int)<=mkQE c ps/\mkQE c ps<=c+5*(totQ ps:Int):=by
 induction ps generalizing c with
 | nil=>simp [mkQE,totQ]
 | cons p ps ih=>
  have h:=ih (nxQ c p);rw [ZhN];simp only [mkQE];unfold nxQ at h |-;omega
theorem ZhO (ps:List QP)(k:Nat):totQ (ps.take k)<=totQ ps:=by
 have h:=Zl1 (ps.take k) (ps.drop k);rw [YAa] at h;omega
theorem Zr7 (c:Int)(h:ps[k]? = some p):(mkQL c ps)[k]? = some (mkQ (mkQE c (ps.take k)) p):=by
 obtain⟨hk,e⟩:=YAD.1 h;have e2:ps=ps.take k++(p::ps.drop (k+1)):=by
  rw [<-e];simp
 have e3:mkQL c ps=mkQL c (ps.take k)++(mkQ (mkQE c (ps.take k)) p::mkQL (nxQ (mkQE c (ps.take k)) p) (ps.drop (k+1))):=by
  conv=>lhs;rw [e2]
  rw [Zhi];rfl
 rw [e3,YAv (by rw [Zc3,YAS];omega),Zc3,YAS,YAR (by omega),Nat.sub_self];rfl
theorem Zh9 (ps:List QP):ps.Pairwise ZdB↔(ps.map (·.2)).Pairwise (fun a b:Value=>∀ k,a.ownBlock=some k->b.ownBlock≠some k):=by
 rw [YAn];exact Iff.rfl
theorem Zoe (h:ps.Pairwise ZdB){i:Nat}(hi:ps[i]? = some p)(hk:ps[k]? = some q)(hne:i≠k):ZdB p q:=by
 obtain⟨h1,e1⟩:=YAD.1 hi;obtain⟨h2,e2⟩:=YAD.1 hk;rw [YAb] at h;rcases Nat.lt_or_ge i k with hl | hl
 ·have:=h i k h1 h2 hl;rw [e1,e2] at this;exact this
 ·have:=h k i h2 h1 (by omega);rw [e1,e2] at this;exact fun j hj he=>this j he hj
theorem Zrj (hk:ps[k]? = some p)(h:q.2=p.2):(ps.set k q).map (·.2)=ps.map (·.2):=by
 apply List.ext_getElem?;intro i;by_cases e:i=k
 ·subst e;obtain⟨h1,e1⟩:=YAD.1 hk;rw [List.getElem?_map,List.getElem?_set_self h1,List.getElem?_map,hk];simp [h]
 ·simp [List.getElem?_set_ne (Ne.symm e)]
theorem RtsOwn.turn {W W8:World}{lo hi:Nat}{xs:List QP} (h:RtsOwn W lo hi (.slice (some (U g 0)) n cap) xs) (hn:xs.length=n) (hk:xs[k]? = some p) (hq:q.2=p.2)
  (row:W8.ownsRow lo 54 6 (.slice (some (U g 0)) n cap) n (flat encQ (xs.set k q))) (near:W8.ownsRow lo 3 1 q.2 q.1.hops.length (flat intE q.1.hops))
  (hkeep:∀ j,j<W.heap.size->j≠g->some j≠p.2.ownBlock->W8.heap[j]? = W.heap[j]?):RtsOwn W8 lo hi (.slice (some (U g 0)) n cap) (xs.set k q) where
 row:=by rw [List.length_set,hn];exact row
 top:=h.top
 apart:=by rw [Zh9,Zrj hk hq, <-Zh9];exact h.apart
 nears:=by
  intro r hr;obtain⟨i,hi,e⟩:=List.getElem_of_mem hr;have hr2:(xs.set k q)[i]? = some r:=by rw [<-e];exact YAA hi
  by_cases ek:i=k
  ·subst ek;rw [List.getElem?_set_self (by simpa using hi)] at hr2;cases hr2;refine⟨near,?_⟩;rw [hq];exact (h.nears p (YAH hk)).2
  ·rw [List.getElem?_set_ne (Ne.symm ek)] at hr2;have ho:=h.nears r (YAH hr2);refine⟨Zal ho.1 (fun j hj=>?_),ho.2⟩;refine hkeep j (ho.1.lt j hj).2 ?_ ?_
   ·rintro rfl;obtain⟨cur,hh⟩:∃ cur,W.heap[j]? = some (.cells cur 54 (0,0)):=by
     rcases h.row.2 with ⟨h0,_⟩ | ⟨g',cap',cur',hv',_,hh',_⟩
     ·cases h0
     ·cases hv';exact⟨cur',hh'⟩
    rcases ho.1.2 with ⟨h0,_⟩ | ⟨g',cap',cur',hv',_,hh',_⟩
    ·rw [h0] at hj;simp [Value.ownBlock] at hj
    ·rw [hv'] at hj;simp [Value.ownBlock] at hj;subst hj;rw [hh] at hh';simp at hh'
   ·intro he;exact Zoe h.apart hr2 hk ek j hj he.symm
theorem setQ5 {xs:List QP}(hk:xs[k]? = some p)(hq:q.2=p.2):((((((flat encQ xs).set (k*6) (.bool q.1.thing)).set (k*6+1) (M q.1.to)).set (k*6+2) (M q.1.kind)).set (k*6+3) (M q.1.cost)).set (k*6+4) (M q.1.far))=flat encQ (xs.set k q):=by
 obtain⟨hlt,_⟩:=YAD.1 hk;have e:((((((flat encQ xs).set (k*6) (.bool q.1.thing)).set (k*6+1) (M q.1.to)).set (k*6+2) (M q.1.kind)).set (k*6+3) (M q.1.cost)).set (k*6+4) (M q.1.far)).set (k*6+5) q.2=flat encQ (xs.set k q):=Zc1 ZbF xs k q hlt;rw [<-e];have h5:((((((flat encQ xs).set (k*6) (.bool q.1.thing)).set (k*6+1) (M q.1.to)).set (k*6+2) (M q.1.kind)).set (k*6+3) (M q.1.cost)).set (k*6+4) (M q.1.far))[k*6+5]? = some q.2:=by
  rw [List.getElem?_set_ne (by omega),List.getElem?_set_ne (by omega),List.getElem?_set_ne (by omega),List.getElem?_set_ne (by omega),List.getElem?_set_ne (by omega),Zca ZbF xs k 5 p hk (by omega),hq];rfl
 obtain⟨h6,e6⟩:=YAD.1 h5;rw [<-e6];exact (List.set_getElem_self h6).symm
abbrev Zri (W:World) (g o:Nat) (z:Int):World:=(((((W.setCell (U g o) (.bool (z%3==0))).setCell (U g (o+1)) (M (z+1))).setCell (U g (o+2)) (M (z+1+1))).setCell (U g (o+3)) (M (z+1+1+1))).setCell (U g (o+4)) (M (z+1+1+1+1)))
theorem ZlS (W:World)(g o:Nat)(z:Int):W.grownBy (Zri W g o z) (some g):=Zaj (Zaj (Zaj (Zaj (Zak W g _ _) (Zak _ g _ _)) (Zak _ g _ _)) (Zak _ g _ _)) (Zak _ g _ _)
theorem ZhX (v:Value)(lo hi:Nat)(ps:List QP)(c:Int)(w:World)(h:RtsOwn w lo hi v ps)(hn:totQ ps<=1048576)(hc:0<=c)(hc2:c<=10000000):
  Calls Tryz.prog 48 #[v,M c] w fun e w'=>e=.returned (M (mkQE c ps))/\RtsOwn w' lo hi v (mkQL c ps)/\Frame lo hi w w':=by
 have hnl:=ZjA ps;by_cases h0:ps.length=0
 ·have hps:ps=[]:=List.length_eq_zero_iff.1 h0;subst hps;obtain⟨a1,c1,rfl⟩:=Zac h.row;have H1:=hide h;clear h
  go_enter Tryz.func48,Tryz.ntmps48
  go_wp2;refine wp_loop_rounds 1 ?_;rw [rounds_succ];go_wp2;go_ret;exact⟨rfl,H1,Frame.refl _ _ _⟩
 ·obtain ⟨g,cap,rfl,hg1,hl1⟩:=Zce h.row (by omega);have H1:=hide h;have HG:=hide (h.top g rfl);clear h h0
  go_enter Tryz.func48,Tryz.ntmps48
  go_wp2
  go_loopw [5,1] (fun i r wr=>∃ (k:Nat),k<=ps.length/\i=M k/\r=M (mkQE c (ps.take k))/\RtsOwn wr lo hi (.slice (some (U g 0)) ps.length cap) (mkQL c (ps.take k)++ps.drop k)/\Frame lo hi w wr) (fun i _ _=>ps.length-(intOf i).toNat)
  case atStart=>exact ⟨0,by omega,rfl,rfl,H1,Frame.refl _ _ _⟩
  case round=>
   clear H1;obtain⟨k,hk,rfl,rfl,hown,hnx⟩:=hrel;by_cases hlt:k<ps.length
   ·obtain ⟨p,hp⟩:∃ p,ps[k]? = some p:=⟨ps[k],YAA hlt⟩;have hki:(0:Int)<=(k:Int):=by omega
    have hkj:(k:Int)<(ps.length:Int):=by omega
    have ht1:=ZhO ps k;have ht2:=Zjh c (ps.take k);have hpl:=ZjB (YAH hp);obtain⟨z,hz⟩:∃ z,z=mkQE c (ps.take k):=⟨_,rfl⟩;rw [<-hz] at ht2 |-;have hz0:0<=z:=by omega
    have hz2:z<=100000000:=by omega
    obtain⟨xs,hxs⟩:∃ xs,xs=mkQL c (ps.take k)++ps.drop k:=⟨_,rfl⟩;rw [<-hxs] at hown;have hxl:xs.length=ps.length:=by rw [hxs];simp [Zc3];omega
    have hxk:xs[k]? = some p:=by
     rw [hxs,YAv (by rw [Zc3,YAS];omega),Zc3,YAS,YAR (by omega),Nat.sub_self,List.getElem?_drop,Nat.add_zero];exact hp
    have hstep:xs.set k (mkQ z p)=mkQL c (ps.take (k+1))++ps.drop (k+1):=by
     have ed:ps.drop k=p::ps.drop (k+1):=by
      obtain⟨h1,e1⟩:=YAD.1 hp;rw [YAk h1,e1]
     rw [hxs,Zo8 c hp, <-hz,List.set_append_right _ _ (by rw [Zc3,YAS];omega),Zc3,YAS,YAR (by omega),Nat.sub_self,ed,YAp];simp
    have hnext:mkQE c (ps.take (k+1))=nxQ z p:=by rw [Zko c hp,hz]
    have hrow:=hown.row;rw [hxl] at hrow;have hex:∀ r,r<6->∃ u,wr.cell? (U g (k*6+r))=some u:=fun r hr=>ZaM hrow _ (by omega);obtain⟨u0,d0⟩:=hex 0 (by omega);obtain⟨u1,d1⟩:=hex 1 (by omega);obtain⟨u2,d2⟩:=hex 2 (by omega);obtain⟨u3,d3⟩:=hex 3 (by omega);obtain⟨u4,d4⟩:=hex 4 (by omega);rw [Nat.add_zero] at d0;have d5:wr.cell? (U g (k*6+5))=some p.2:=by
     rw [hrow.cellAt _ (by omega),Zca ZbF xs k 5 p hxk (by omega)];rfl
    have f0:=hrow.frozenAt (k*6);have f1:=hrow.frozenAt (k*6+1);have f2:=hrow.frozenAt (k*6+2);have f3:=hrow.frozenAt (k*6+3);have f4:=hrow.frozenAt (k*6+4);have f5:=hrow.frozenAt (k*6+5);have hnear:=(hown.nears p (YAH hxk)).1;obtain⟨na,nc,hpn⟩:=Zac hnear;rw [hpn] at d5;have hzr:w.heap.size<=wr.heap.size:=hnx.size;obtain⟨curg,hcurg⟩:∃ cur,wr.heap[g]? = some (.cells cur 54 (0,0)):=by
     rcases hrow.2 with ⟨h0,_⟩ | ⟨g',cap',cur',hv',_,hh',_⟩
     ·cases h0
     ·cases hv';exact⟨cur',hh'⟩
    have hgne:some g≠p.2.ownBlock:=Zaq hnear hcurg (by decide);rw [hpn] at hnear hgne;have row5:=(((((hrow.stored (k*6) (.bool (z%3==0))).1.stored (k*6+1) (M (z+1))).1.stored (k*6+2) (M (z+1+1))).1.stored (k*6+3) (M (z+1+1+1))).1.stored (k*6+4) (M (z+1+1+1+1))).1;have e5:=setQ5 (q:=mkQ z p) hxk rfl;have row5:(Zri wr g (k*6) z).ownsRow lo 54 6 (.slice (some (U g 0)) ps.length cap) ps.length (flat encQ (xs.set k (mkQ z p))):=by
     rw [<-e5];exact row5
    have gr5:=ZlS wr g (k*6) z;have near5:(Zri wr g (k*6) z).ownsRow lo 3 1 (.slice na p.1.hops.length nc) p.1.hops.length (flat intE p.1.hops):=Zal hnear (fun j hj=>gr5.block j (hnear.lt j hj).2 (fun e=>hgne (by rw [hj,e])));have HMN:=hide (Zo6 (.slice na p.1.hops.length nc) lo p.1.hops (z+1+1+1+1+1) (Zri wr g (k*6) z) near5 (by omega) (by omega) (by omega));have HOWN:=hide hown;have HROW5:=hide row5;have HGR5:=hide gr5;have HXL:=hide hxl;have HXK:=hide hxk;have HSTEP:=hide hstep;have HNEXT:=hide hnext;have HPN:=hide hpn;have HGNE:=hide hgne;have HZ:=hide hz;have HTK:=hide ht2;clear hown hrow hxl hxk hstep hnext hpn hnear hex hcurg hxs hz hp row5 gr5 near5 hgne ht2 ht1 e5
    go_wp2_with fail
    refine HMN.out.mono ?_;rintro e w6 ⟨rfl,near6,gr6⟩;have row6:w6.ownsRow lo 54 6 (.slice (some (U g 0)) ps.length cap) ps.length (flat encQ (xs.set k (mkQ z p))):=Zal HROW5 (fun j hj=>gr6.block j (HROW5.out.lt j hj).2 (fun e=>HGNE (by cases hj;exact e)));have fr:Frame lo hi wr w6:=(Frame.grown HGR5 (fun j hj=>by simp at hj;have:=HG.out;omega)).trans (Frame.grown gr6 (fun j hj=>⟨(near6.lt j hj).1,by have:=(HOWN.out.nears p (YAH HXK)).2 j (by rw [HPN.out];exact hj);exact this⟩));have fin:=HOWN.out.turn (W8:=w6) (q:=mkQ z p) HXL HXK rfl row6 (by
      have h9:=near6;show World.ownsRow _ lo 3 1 p.2 (Zdt _ _).length (flat intE (Zdt _ _));rw [HPN.out,Zbr];exact h9) (fun j h1 h2 h3=>by
      have g5:=HGR5.out.size;have g6:=gr6.size;rw [gr6.block j (by omega) (by rw [<-HPN.out];exact h3),HGR5.out.block j h1 (by simp;omega)])
    rw [HSTEP.out] at fin;have FIN:=hide fin;have FR:=hide fr;clear row6 fr fin near6 gr6 HOWN HROW5 HMN HGR5;go_wp2;refine⟨⟨k+1,by omega,by go_num,?_,FIN,hnx.trans FR⟩,by simp [intOf];omega⟩;rw [HNEXT.out];rfl
   ·have hkn:k=ps.length:=by omega
    have KN:=hide hkn;have OW:=hide hown;clear hkn hown;go_wp2;go_ret;have h1:=OW.out;rw [KN.out,YAf,List.drop_length,List.append_nil] at h1;exact⟨Zc4 (by rw [KN.out,YAf]),h1,hnx⟩
end Go.Proofs.YtcnjnibnecpddaaGreat
