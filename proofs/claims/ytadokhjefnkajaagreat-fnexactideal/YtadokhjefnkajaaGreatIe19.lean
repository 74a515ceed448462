/-
  BsI TogS WayToI AppAt INetOk
-/
import Derived.Test.YtadokhjefnkajaaGreatIe16
import Derived.Test.YtadokhjefnkajaaGreatIe14
import Derived.Test.YtadokhjefnkajaaGreatIe15
import Derived.Test.YtadokhjefnkajaaGreatIe5
import Derived.Deep.RegionHeld3
import Derived.Maps.AppendAt
namespace Go.Proofs.YtadokhjefnkajaaGreat
open Go.RowKit
set_option linter.unusedSimpArgs false
set_option linter.unusedVariables false
set_option maxRecDepth 100000
set_option maxHeartbeats 8000000
def ltAt (xs:List RecD)(r:RecD)(t:Nat):Prop:=∃ x,xs[t]? = some x/\ordR x r<0
theorem ZcL {xs:List RecD}{r x:RecD}{t:Nat}(h:xs[t]? = some x):ltAt xs r t↔ordR x r<0:=by
 constructor
 ·rintro ⟨y,hy,hl⟩
  rw [h] at hy;cases hy
  exact hl
 ·exact fun hl=>⟨x,h,hl⟩
theorem Zhf (v:Value)(ps:List RP)(hi:Nat)(r:RP)(w:World)(hv:RecsIn w hi v ps)(hhi:hi<=w.heap.size)(hn:tot ps<=1048576)(hr:ZaD w 0 hi r)(hmono:∀ s t,s<=t->t<ps.length->ltAt (fsts ps) r.1 t->ltAt (fsts ps) r.1 s):
  Calls Tryz.prog 191 #[v,.agg (recC r.1 r.2),.func (.func 133) #[] #[]] w fun e w'=>∃ (i:Nat) (f:Bool),e=.returned (.tuple #[.int .i64 (i:Int),.bool f])/\i<=ps.length/\(∀ t,t<i->ltAt (fsts ps) r.1 t)/\(∀ t,i<=t->t<ps.length->¬ltAt (fsts ps) r.1 t)/\(f=true↔∃ x,(fsts ps)[i]? = some x/\ordR x r.1=0)/\Below w.heap.size w w':=by
 have hnl:=Zbh ps;obtain⟨a1,c1,rfl⟩:=Zac hv.row;obtain⟨ra,rc,hrn⟩:=Zac hr.1;have HRN:=hide hrn;have HV:=hide hv;have HM:=hide hmono;unfold recC;rw [hrn];clear hv hr hrn hmono;have BX:Below w.heap.size w (w.alloc (.cells #[.int .i64 r.1.area,.int .i64 r.1.kind,.int .i64 r.1.owner,.int .i64 r.1.key,.int .i64 r.1.seq,.slice ra r.1.near.length rc,.int .i64 r.1.cost,.bool r.1.far] 39)):=(Below.refl _ _).alloc (Nat.le_refl _) _;have hx:=heap_alloc_new w (.cells #[.int .i64 r.1.area,.int .i64 r.1.kind,.int .i64 r.1.owner,.int .i64 r.1.key,.int .i64 r.1.seq,.slice ra r.1.near.length rc,.int .i64 r.1.cost,.bool r.1.far] 39);obtain⟨w0,hw0⟩:∃ w0,w0=w.alloc (.cells #[.int .i64 r.1.area,.int .i64 r.1.kind,.int .i64 r.1.owner,.int .i64 r.1.key,.int .i64 r.1.seq,.slice ra r.1.near.length rc,.int .i64 r.1.cost,.bool r.1.far] 39):=⟨_,rfl⟩;rw [<-hw0] at BX hx;have hs0:=Zab hx;have HX:=hide hx;clear hx
 go_enter Tryz.func191,Tryz.ntmps191
 go_wp2
 rw [<-hw0];clear hw0
 go_loopw [9,10] (fun i j wr=>∃ (m n:Nat),m<=n/\n<=ps.length/\i=.int .i64 m/\j=.int .i64 n/\Hid (∀ t,t<m->ltAt (fsts ps) r.1 t)/\Hid (∀ t,n<=t->t<ps.length->¬ltAt (fsts ps) r.1 t)/\Below w0.heap.size w0 wr) (fun i j _=>(intOf j).toNat-(intOf i).toNat)
 case atStart=>exact ⟨0,ps.length,by omega,by omega,rfl,rfl,hide (by omega),hide (by omega),Below.refl _ _⟩
 case round=>
  obtain⟨m,n,hmn,hnp,rfl,rfl,HLO,HHI,hnx⟩:=hrel;have hsz:=hnx.size;have BWR:Below w.heap.size w wr:=BX.trans (hnx.mono (by omega))
  by_cases hlt:m<n
  ·have hmi:(m:Int)<(n:Int):=by omega
   have hw1:IntKind.i64.wrap ((m:Int)+(n:Int))=(m:Int)+(n:Int):=ZaK _ (by omega) (by omega)
   go_wp2
   obtain⟨k,hk⟩:∃ k:Nat,k=(m+n) / 2:=⟨_,rfl⟩;have hke:((m:Int)+(n:Int)) / 2=(k:Int):=by omega
   rw [hke];have hkm:m<=k:=by omega
   have hkn:k<n:=by omega
   have hki:(0:Int)<=(k:Int):=by omega
   have hkj:(k:Int)<(ps.length:Int):=by omega
   clear hk hke hw1;obtain⟨p,hp⟩:∃ p,ps[k]? = some p:=⟨ps[k],List.getElem?_eq_getElem (by omega)⟩
   obtain⟨b,off,cap',hve,hbb,c0,c1,c2,c3,c4,c5,c6,c7,hnr⟩:=HV.out.at.cells k p hp;cases hve
   obtain⟨pa,pc,hpn⟩:=ZaC.shape hnr;rw [hpn] at c5;rw [<-BWR.cell (p:=⟨b,off+k*8,none⟩) (Nat.lt_of_lt_of_le hbb hhi)] at c0;rw [<-BWR.cell (p:=⟨b,off+k*8+1,none⟩) (Nat.lt_of_lt_of_le hbb hhi)] at c1;rw [<-BWR.cell (p:=⟨b,off+k*8+2,none⟩) (Nat.lt_of_lt_of_le hbb hhi)] at c2;rw [<-BWR.cell (p:=⟨b,off+k*8+3,none⟩) (Nat.lt_of_lt_of_le hbb hhi)] at c3;rw [<-BWR.cell (p:=⟨b,off+k*8+4,none⟩) (Nat.lt_of_lt_of_le hbb hhi)] at c4;rw [<-BWR.cell (p:=⟨b,off+k*8+5,none⟩) (Nat.lt_of_lt_of_le hbb hhi)] at c5;rw [<-BWR.cell (p:=⟨b,off+k*8+6,none⟩) (Nat.lt_of_lt_of_le hbb hhi)] at c6;rw [<-BWR.cell (p:=⟨b,off+k*8+7,none⟩) (Nat.lt_of_lt_of_le hbb hhi)] at c7;have hxx:=(hnx.block _ (Zab HX.out)).trans HX.out;have d0:=Zaa hxx 0;have d1:=Zaa hxx 1;have d2:=Zaa hxx 2;have d3:=Zaa hxx 3;have d4:=Zaa hxx 4;have d5:=Zaa hxx 5;have d6:=Zaa hxx 6;have d7:=Zaa hxx 7;simp at d0 d1 d2 d3 d4 d5 d6 d7
   have hb1:b<wr.heap.size:=by omega
   have hb2:w.heap.size<wr.heap.size:=by omega
   have hq:=fun W=>ZbV p.2 r.2 p.1 r.1 W
   unfold recC at hq;rw [hpn,HRN.out] at hq;obtain⟨x,hx⟩:∃ x,x=ordR p.1 r.1:=⟨_,rfl⟩;rw [<-hx] at hq;have HK:=hide hq;have HXV:=hide hx;have HPP:=hide (Zbw hp);clear hq hx hp hxx hnr hpn;by_cases hx0:x<0
   ·have HLO2:=hide (show ∀ t,t<k+1->ltAt (fsts ps) r.1 t from fun t ht=>HM.out t k (by omega) (by omega) ((ZcL HPP.out).2 (by rw [<-HXV.out];exact hx0)))
    go_region_held3 (fun W=>W.cell? ⟨b,off+k*8,none⟩=some (.int .i64 p.1.area)/\W.cell? ⟨b,off+k*8+1,none⟩=some (.int .i64 p.1.kind)/\W.cell? ⟨b,off+k*8+2,none⟩=some (.int .i64 p.1.owner)/\W.cell? ⟨b,off+k*8+3,none⟩=some (.int .i64 p.1.key)/\W.cell? ⟨b,off+k*8+4,none⟩=some (.int .i64 p.1.seq)/\W.cell? ⟨b,off+k*8+5,none⟩=some (.slice pa p.1.near.length pc)/\W.cell? ⟨b,off+k*8+6,none⟩=some (.int .i64 p.1.cost)/\W.cell? ⟨b,off+k*8+7,none⟩=some (.bool p.1.far)/\W.cell? ⟨w.heap.size,0,none⟩=some (.int .i64 r.1.area)/\W.cell? ⟨w.heap.size,1,none⟩=some (.int .i64 r.1.kind)/\W.cell? ⟨w.heap.size,2,none⟩=some (.int .i64 r.1.owner)/\W.cell? ⟨w.heap.size,3,none⟩=some (.int .i64 r.1.key)/\W.cell? ⟨w.heap.size,4,none⟩=some (.int .i64 r.1.seq)/\W.cell? ⟨w.heap.size,5,none⟩=some (.slice ra r.1.near.length rc)/\W.cell? ⟨w.heap.size,6,none⟩=some (.int .i64 r.1.cost)/\W.cell? ⟨w.heap.size,7,none⟩=some (.bool r.1.far)) (first | go_keep | (refine ⟨?_,?_,?_,?_,?_,?_,?_,?_,?_,?_,?_,?_,?_,?_,?_,?_⟩ <;> (rw [hbc.cell (by assumption)];assumption))) (first | (go_at_call 133;refine (HK.out _).mono ?_;rintro e w1 ⟨rfl,hbc⟩))
    go_wp2
    go_roundw
    case rel=>exact ⟨k+1,n,by omega,by omega,by go_num,rfl,HLO2,HHI,hnx.trans ((Below.refl _ _).drew.trans (hbc.mono hsz))⟩
    case measure=>simp [intOf];omega
   ·have HHI2:=hide (show ∀ t,k<=t->t<ps.length->¬ltAt (fsts ps) r.1 t from fun t h1 h2 h3=>hx0 (by rw [HXV.out];exact (ZcL HPP.out).1 (HM.out k t h1 h2 h3)))
    go_region_held3 (fun W=>W.cell? ⟨b,off+k*8,none⟩=some (.int .i64 p.1.area)/\W.cell? ⟨b,off+k*8+1,none⟩=some (.int .i64 p.1.kind)/\W.cell? ⟨b,off+k*8+2,none⟩=some (.int .i64 p.1.owner)/\W.cell? ⟨b,off+k*8+3,none⟩=some (.int .i64 p.1.key)/\W.cell? ⟨b,off+k*8+4,none⟩=some (.int .i64 p.1.seq)/\W.cell? ⟨b,off+k*8+5,none⟩=some (.slice pa p.1.near.length pc)/\W.cell? ⟨b,off+k*8+6,none⟩=some (.int .i64 p.1.cost)/\W.cell? ⟨b,off+k*8+7,none⟩=some (.bool p.1.far)/\W.cell? ⟨w.heap.size,0,none⟩=some (.int .i64 r.1.area)/\W.cell? ⟨w.heap.size,1,none⟩=some (.int .i64 r.1.kind)/\W.cell? ⟨w.heap.size,2,none⟩=some (.int .i64 r.1.owner)/\W.cell? ⟨w.heap.size,3,none⟩=some (.int .i64 r.1.key)/\W.cell? ⟨w.heap.size,4,none⟩=some (.int .i64 r.1.seq)/\W.cell? ⟨w.heap.size,5,none⟩=some (.slice ra r.1.near.length rc)/\W.cell? ⟨w.heap.size,6,none⟩=some (.int .i64 r.1.cost)/\W.cell? ⟨w.heap.size,7,none⟩=some (.bool r.1.far)) (first | go_keep | (refine ⟨?_,?_,?_,?_,?_,?_,?_,?_,?_,?_,?_,?_,?_,?_,?_,?_⟩ <;> (rw [hbc.cell (by assumption)];assumption))) (first | (go_at_call 133;refine (HK.out _).mono ?_;rintro e w1 ⟨rfl,hbc⟩))
    go_wp2
    go_roundw
    case rel=>exact ⟨m,k,by omega,by omega,rfl,rfl,HLO,HHI2,hnx.trans ((Below.refl _ _).drew.trans (hbc.mono hsz))⟩
    case measure=>simp [intOf];omega
  ·have hmn2:m=n:=by omega
   subst hmn2;by_cases hend:m<ps.length
   ·have hmi:(0:Int)<=(m:Int):=by omega
    have hmj:(m:Int)<(ps.length:Int):=by omega
    obtain⟨p,hp⟩:∃ p,ps[m]? = some p:=⟨ps[m],List.getElem?_eq_getElem (by omega)⟩
    obtain⟨b,off,cap',hve,hbb,c0,c1,c2,c3,c4,c5,c6,c7,hnr⟩:=HV.out.at.cells m p hp;cases hve
    obtain⟨pa,pc,hpn⟩:=ZaC.shape hnr;rw [hpn] at c5;rw [<-BWR.cell (p:=⟨b,off+m*8,none⟩) (Nat.lt_of_lt_of_le hbb hhi)] at c0;rw [<-BWR.cell (p:=⟨b,off+m*8+1,none⟩) (Nat.lt_of_lt_of_le hbb hhi)] at c1;rw [<-BWR.cell (p:=⟨b,off+m*8+2,none⟩) (Nat.lt_of_lt_of_le hbb hhi)] at c2;rw [<-BWR.cell (p:=⟨b,off+m*8+3,none⟩) (Nat.lt_of_lt_of_le hbb hhi)] at c3;rw [<-BWR.cell (p:=⟨b,off+m*8+4,none⟩) (Nat.lt_of_lt_of_le hbb hhi)] at c4;rw [<-BWR.cell (p:=⟨b,off+m*8+5,none⟩) (Nat.lt_of_lt_of_le hbb hhi)] at c5;rw [<-BWR.cell (p:=⟨b,off+m*8+6,none⟩) (Nat.lt_of_lt_of_le hbb hhi)] at c6;rw [<-BWR.cell (p:=⟨b,off+m*8+7,none⟩) (Nat.lt_of_lt_of_le hbb hhi)] at c7;have hxx:=(hnx.block _ (Zab HX.out)).trans HX.out;have d0:=Zaa hxx 0;have d1:=Zaa hxx 1;have d2:=Zaa hxx 2;have d3:=Zaa hxx 3;have d4:=Zaa hxx 4;have d5:=Zaa hxx 5;have d6:=Zaa hxx 6;have d7:=Zaa hxx 7;simp at d0 d1 d2 d3 d4 d5 d6 d7
    have hb1:b<wr.heap.size:=by omega
    have hb2:w.heap.size<wr.heap.size:=by omega
    have hq:=fun W=>ZbV p.2 r.2 p.1 r.1 W
    unfold recC at hq;rw [hpn,HRN.out] at hq;obtain⟨x,hx⟩:∃ x,x=ordR p.1 r.1:=⟨_,rfl⟩;rw [<-hx] at hq;have HK:=hide hq;have HXV:=hide hx;have HPP:=hide (Zbw hp);clear hq hx hp hxx hnr hpn;have hfin:(x==0)=true↔∃ y,(fsts ps)[m]? = some y/\ordR y r.1=0:=by
     rw [HPP.out]
     constructor
     ·intro h
      exact⟨p.1,rfl,by rw [<-HXV.out];simpa using h⟩
     ·rintro ⟨y,hy,he⟩
      cases hy
      rw [HXV.out]
      simpa using he
    have HFIN:=hide hfin;clear hfin
    go_wp2
    go_region_held3 (fun W=>W.cell? ⟨b,off+m*8,none⟩=some (.int .i64 p.1.area)/\W.cell? ⟨b,off+m*8+1,none⟩=some (.int .i64 p.1.kind)/\W.cell? ⟨b,off+m*8+2,none⟩=some (.int .i64 p.1.owner)/\W.cell? ⟨b,off+m*8+3,none⟩=some (.int .i64 p.1.key)/\W.cell? ⟨b,off+m*8+4,none⟩=some (.int .i64 p.1.seq)/\W.cell? ⟨b,off+m*8+5,none⟩=some (.slice pa p.1.near.length pc)/\W.cell? ⟨b,off+m*8+6,none⟩=some (.int .i64 p.1.cost)/\W.cell? ⟨b,off+m*8+7,none⟩=some (.bool p.1.far)/\W.cell? ⟨w.heap.size,0,none⟩=some (.int .i64 r.1.area)/\W.cell? ⟨w.heap.size,1,none⟩=some (.int .i64 r.1.kind)/\W.cell? ⟨w.heap.size,2,none⟩=some (.int .i64 r.1.owner)/\W.cell? ⟨w.heap.size,3,none⟩=some (.int .i64 r.1.key)/\W.cell? ⟨w.heap.size,4,none⟩=some (.int .i64 r.1.seq)/\W.cell? ⟨w.heap.size,5,none⟩=some (.slice ra r.1.near.length rc)/\W.cell? ⟨w.heap.size,6,none⟩=some (.int .i64 r.1.cost)/\W.cell? ⟨w.heap.size,7,none⟩=some (.bool r.1.far)) (first | go_keep | (refine ⟨?_,?_,?_,?_,?_,?_,?_,?_,?_,?_,?_,?_,?_,?_,?_,?_⟩ <;> (rw [hbc.cell (by assumption)];assumption))) (first | (go_at_call 133;refine (HK.out _).mono ?_;rintro e w1 ⟨rfl,hbc⟩))
    go_wp2
    go_returns
    exact⟨m,x==0,rfl,by omega,HLO.out,HHI.out,HFIN.out,BWR.trans ((Below.refl _ _).drew.trans (hbc.mono (show w.heap.size<=wr.heap.size by omega)))⟩
   ·have hme:¬(m:Int)<(ps.length:Int):=by omega
    have HNO:=hide (show (false=true↔∃ y,(fsts ps)[m]? = some y/\ordR y r.1=0) from ⟨(fun h=>by cases h),(fun ⟨y,hy,_⟩=>by rw [List.getElem?_eq_none (by simp [fsts];omega)] at hy;cases hy)⟩)
    go_wp2
    go_quiet (fail)
    go_wp2
    go_returns
    exact⟨m,false,rfl,by omega,HLO.out,HHI.out,HNO.out,BWR.trans ⟨rfl,rfl,rfl,Nat.le_refl _,fun _ _=>rfl⟩⟩
def togD (x y:WayD):WayD:=if Zbz x y then x else if Zbz y x then y else ⟨x.to,x.cost,addL x.hops y.hops⟩
theorem Zkt (a b:List Int):(addL a b).length<=6:=Zhq a b 6
theorem ZnP {x y:WayD}{n:Nat}(hx:x.hops.length<=n)(hy:y.hops.length<=n)(h6:6<=n):(togD x y).hops.length<=n:=by
 unfold togD
 split
 ·exact hx
 ·split
  ·exact hy
  ·exact Nat.le_trans (Zkt _ _) h6
theorem cellW3 {W:World}{g b j:Nat}{x0 x1 x2:Value}(h:b≠g):(((W.setCell ⟨g,0,none⟩ x0).setCell ⟨g,1,none⟩ x1).setCell ⟨g,2,none⟩ x2).cell? ⟨b,j,none⟩=W.cell? ⟨b,j,none⟩:=by
 refine World.cell?_of_block ?_
 show (((W.setCell ⟨g,0,none⟩ x0).setCell ⟨g,1,none⟩ x1).setCell ⟨g,2,none⟩ x2).heap[b]? = W.heap[b]?
 rw [heap_setCell_other _ ⟨g,2,none⟩ b _ h,heap_setCell_other _ ⟨g,1,none⟩ b _ h,heap_setCell_other _ ⟨g,0,none⟩ b _ h]
theorem Zk9 (x y:WayD)(u1 u2:Value)(b1 b2:Nat)(w:World)(h1:w.ownsRow b1 3 1 u1 x.hops.length (flat intE x.hops))(h2:w.ownsRow b2 3 1 u2 y.hops.length (flat intE y.hops))(hx:x.hops.length<=1048576)(hy:y.hops.length<=1048576):
  Calls Tryz.prog 224 #[.agg (wayC x u1),.agg (wayC y u2)] w fun e w'=>∃ v',e=.returned (.agg (wayC (togD x y) v'))/\w'.ownsRow w.heap.size 3 1 v' (togD x y).hops.length (flat intE (togD x y).hops)/\Below w.heap.size w w':=by
 obtain⟨a1,c1,rfl⟩:=Zac h1;obtain⟨a2,c2,rfl⟩:=Zac h2;have HC1:=hide (fun W (hb:Below w.heap.size w W)=>ZfX x (.slice a1 x.hops.length c1) b1 W (Zae h1 hb (Nat.le_refl _)) hx)
 have HC2:=hide (fun W (hb:Below w.heap.size w W)=>ZfX y (.slice a2 y.hops.length c2) b2 W (Zae h2 hb (Nat.le_refl _)) hy)
 have HB1:=hide (fun W=>Zgw (.slice a1 x.hops.length c1) (.slice a2 y.hops.length c2) x y W)
 have HB2:=hide (fun W=>Zgw (.slice a2 y.hops.length c2) (.slice a1 x.hops.length c1) y x W)
 have HAD:=hide (fun W (hb:Below w.heap.size w W)=>Zdo (.slice a1 x.hops.length c1) (.slice a2 y.hops.length c2) x.hops y.hops W hx hy ((ZaE.later (Zap h1) hb (Nat.le_refl _)).more hb.size) ((ZaE.later (Zap h2) hb (Nat.le_refl _)).more hb.size))
 obtain⟨P,hP⟩:∃ P,P=Zbz x y:=⟨_,rfl⟩;obtain⟨Q,hQ⟩:∃ Q,Q=Zbz y x:=⟨_,rfl⟩;obtain⟨D,hD⟩:∃ D,D=togD x y:=⟨_,rfl⟩;rw [<-hP] at HB1;rw [<-hQ] at HB2;rw [<-hD];have HD:=hide hD;unfold togD at HD;rw [<-hP, <-hQ] at HD;have BW:=Zcc (w:=w) (.cells #[.int .i64 x.to,.int .i64 x.cost,.slice a1 x.hops.length c1] 194) (.cells #[.int .i64 y.to,.int .i64 y.cost,.slice a2 y.hops.length c2] 194) (.cells #[.int .i64 0,.int .i64 0,.slice none 0 0] 194);have q0:=ZjG w (.cells #[.int .i64 x.to,.int .i64 x.cost,.slice a1 x.hops.length c1] 194) (.cells #[.int .i64 y.to,.int .i64 y.cost,.slice a2 y.hops.length c2] 194) (.cells #[.int .i64 0,.int .i64 0,.slice none 0 0] 194);have q1:=ZjH w (.cells #[.int .i64 x.to,.int .i64 x.cost,.slice a1 x.hops.length c1] 194) (.cells #[.int .i64 y.to,.int .i64 y.cost,.slice a2 y.hops.length c2] 194) (.cells #[.int .i64 0,.int .i64 0,.slice none 0 0] 194);have q2:=ZjI w (.cells #[.int .i64 x.to,.int .i64 x.cost,.slice a1 x.hops.length c1] 194) (.cells #[.int .i64 y.to,.int .i64 y.cost,.slice a2 y.hops.length c2] 194) (.cells #[.int .i64 0,.int .i64 0,.slice none 0 0] 194);obtain⟨w0,hw0⟩:∃ W,W=((w.alloc (.cells #[.int .i64 x.to,.int .i64 x.cost,.slice a1 x.hops.length c1] 194)).alloc (.cells #[.int .i64 y.to,.int .i64 y.cost,.slice a2 y.hops.length c2] 194)).alloc (.cells #[.int .i64 0,.int .i64 0,.slice none 0 0] 194):=⟨_,rfl⟩;rw [<-hw0] at BW q0 q1 q2;clear h1 h2 hP hQ hD;unfold wayC at *;have fin:∀ (X:WayD) (na:Option Addr) (nc lo:Nat) (W:World),W.heap[w.heap.size+1+1]? = some (.cells #[.int .i64 0,.int .i64 0,.slice none 0 0] 194)->W.ownsRow lo 3 1 (.slice na X.hops.length nc) X.hops.length (flat intE X.hops)->w.heap.size+1+1<lo->Below w.heap.size w W->(Za8 W (w.heap.size+1+1) X (.slice na X.hops.length nc)).heap[w.heap.size+1+1]? = some (.cells (wayC X (.slice na X.hops.length nc)) 194)/\(Za8 W (w.heap.size+1+1) X (.slice na X.hops.length nc)).ownsRow w.heap.size 3 1 (.slice na X.hops.length nc) X.hops.length (flat intE X.hops)/\Below w.heap.size w (Za8 W (w.heap.size+1+1) X (.slice na X.hops.length nc)):=by
  intro X na nc lo W hz ho hlo hb;have G:=Za2 W (w.heap.size+1+1) X (.slice na X.hops.length nc);refine⟨Zc6 X _ hz,Zaj (Zan ho (fun k hk=>G.block k (ho.lt k hk).2 (fun e=>by have:=(ho.lt k hk).1;simp at e;omega))) (by omega),hb.grown G hb.size (fun k hk=>by simp at hk;omega)⟩
 have FIN:=hide fin;clear fin;have r0:=Zaa q0 0;have r1:=Zaa q0 1;have r2:=Zaa q0 2;have s0:=Zaa q1 0;have s1:=Zaa q1 1;have s2:=Zaa q1 2;simp at r0 r1 r2 s0 s1 s2
 have z0:=Zab q0;have z1:=Zab q1;have z2:=Zab q2
 go_enter Tryz.func224,Tryz.ntmps224
 go_wp2_with fail
 rw [<-hw0];clear hw0;refine (HB1.out _).mono ?_
 rintro e w1 ⟨rfl,e1⟩;have e1s:=e1.size;have B1:Below w.heap.size w w1:=BW.trans (e1.mono BW.size);have p0:=(e1.block _ z0).trans q0;have p1:=(e1.block _ z1).trans q1;have p2:=(e1.block _ z2).trans q2;clear r0 r1 r2 s0 s1 s2 q0 q1 q2 e1;have r0:=Zaa p0 0;have r1:=Zaa p0 1;have r2:=Zaa p0 2;have s0:=Zaa p1 0;have s1:=Zaa p1 1;have s2:=Zaa p1 2;simp at r0 r1 r2 s0 s1 s2
 cases P
 ·go_wp2_with fail
  refine (HB2.out _).mono ?_
  rintro e w2 ⟨rfl,e2⟩;have e2s:=e2.size;have B2:Below w.heap.size w w2:=B1.trans (e2.mono B1.size);have k0:=(e2.block _ (Zab p0)).trans p0;have k1:=(e2.block _ (Zab p1)).trans p1;have k2:=(e2.block _ (Zab p2)).trans p2;clear r0 r1 r2 s0 s1 s2 p0 p1 p2 e2;have r0:=Zaa k0 0;have r1:=Zaa k0 1;have r2:=Zaa k0 2;have s0:=Zaa k1 0;have s1:=Zaa k1 1;have s2:=Zaa k1 2;simp at r0 r1 r2 s0 s1 s2
  cases Q
  ·have hDe:D=⟨x.to,x.cost,addL x.hops y.hops⟩:=HD.out
   have zz0:w.heap.size<w2.heap.size:=by omega
   have zz1:w.heap.size+1<w2.heap.size:=by omega
   have B2D:Below w.heap.size w w2.drew:=B2.drew;have HAL:=hide (Zkt x.hops y.hops);have K2:=hide k2;clear k0 k1 k2
   go_wp2
   go_region_held3 (fun W=>W.cell? ⟨w.heap.size,0,none⟩=some (.int .i64 x.to)/\W.cell? ⟨w.heap.size,1,none⟩=some (.int .i64 x.cost)/\W.cell? ⟨w.heap.size,2,none⟩=some (.slice a1 x.hops.length c1)/\W.cell? ⟨w.heap.size+1,2,none⟩=some (.slice a2 y.hops.length c2)) (first | (refine ⟨?_,?_,?_,?_⟩ <;> (rw [b3.cell (by assumption)];assumption)) | (refine ⟨?_,?_,?_,?_⟩ <;> (rw [cellW3 (by omega),b3.cell (by assumption)];assumption)) | go_keep) (first | (go_at_call 227;refine (HAD.out _ B2D).mono ?_;rintro e w3 ⟨v3,rfl,o3,b3⟩;obtain⟨na,nc,rfl⟩:=Zac o3;have k3:=(b3.block _ (show w.heap.size+1+1<w2.drew.heap.size from Zab K2.out)).trans K2.out;have t0:=Zaa k3 0;have t1:=Zaa k3 1;have t2:=Zaa k3 2;simp at t0 t1 t2;have ft:=Zaf k3))
   have F:=FIN.out ⟨x.to,x.cost,addL x.hops y.hops⟩ na nc _ w3 k3 o3 (Zab K2.out) (B2D.trans (b3.mono B2D.size));subst hDe;clear k3 t0 t1 t2 ft;have FF:=hide F.1;have O5:=hide F.2.1;have B5:=hide F.2.2;clear F
   go_wp2_with fail
   (try simp only [Exit.inBlock,Exit.then])
   refine bodyPost_ret (results_cell_row rfl _ _ (w.heap.size+1+1) 194 (wayC _ _) (0,0) _ rfl FF.out Tryz.underlying194 rfl (by kernel_rfl)) rfl ?_
   exact⟨_,rfl,O5.out,B5.out⟩
  ·have hDe:D=y:=HD.out
   subst hDe
   go_wp2_with fail
   refine (HC2.out _ B2).mono ?_
   rintro e w3 ⟨v3,rfl,o3,b3⟩;obtain⟨na,nc,rfl⟩:=Zac o3;have k3:=(b3.block _ (Zab k2)).trans k2;have t0:=Zaa k3 0;have t1:=Zaa k3 1;have t2:=Zaa k3 2;simp at t0 t1 t2
   have ft:=Zaf k3;have F:=FIN.out D na nc _ w3 k3 o3 (Zab k2) (B2.trans (b3.mono B2.size));clear k0 k1 k2 k3 o3 r0 r1 r2 s0 s1 s2;have FF:=hide F.1;have O5:=hide F.2.1;have B5:=hide F.2.2;clear F
   go_wp2_with fail
   (try simp only [Exit.inBlock,Exit.then])
   refine bodyPost_ret (results_cell_row rfl _ _ (w.heap.size+1+1) 194 (wayC _ _) (0,0) _ rfl FF.out Tryz.underlying194 rfl (by kernel_rfl)) rfl ?_
   exact⟨_,rfl,O5.out,B5.out⟩
 ·have hDe:D=x:=HD.out
  subst hDe
  go_wp2_with fail
  refine (HC1.out _ B1).mono ?_
  rintro e w3 ⟨v3,rfl,o3,b3⟩;obtain⟨na,nc,rfl⟩:=Zac o3;have k3:=(b3.block _ (Zab p2)).trans p2;have t0:=Zaa k3 0;have t1:=Zaa k3 1;have t2:=Zaa k3 2;simp at t0 t1 t2
  have ft:=Zaf k3;have F:=FIN.out D na nc _ w3 k3 o3 (Zab p2) (B1.trans (b3.mono B1.size));clear p0 p1 p2 k3 o3 r0 r1 r2 s0 s1 s2;have FF:=hide F.1;have O5:=hide F.2.1;have B5:=hide F.2.2;clear F
  go_wp2_with fail
  (try simp only [Exit.inBlock,Exit.then])
  refine bodyPost_ret (results_cell_row rfl _ _ (w.heap.size+1+1) 194 (wayC _ _) (0,0) _ rfl FF.out Tryz.underlying194 rfl (by kernel_rfl)) rfl ?_
  exact⟨_,rfl,O5.out,B5.out⟩
theorem Zel (l:List Int)(v:Value)(base:Nat)(w:World)(ho:w.ownsRow base 3 1 v l.length (flat intE l))(hn:l.length<=1048576):
  Calls Tryz.prog 267 #[v] w fun e w'=>∃ v',e=.returned v'/\w'.ownsRow w.heap.size 3 1 v' l.length (flat intE l)/\Below w.heap.size w w':=by
 obtain⟨va,vc,rfl⟩:=Zac ho;have OW:=hide ho;clear ho
 go_enter Tryz.func267,Tryz.ntmps267
 go_wp2_with (first
  | (at_builtin;refine Zdf ZeM (by omega) ZcY (by omega) _ rfl _ _ 28 rfl w.heap.size 3 Tryz.underlying28 (.int .i64 0) rfl Tryz.info3 _ [] rfl (World.ownsRow_nil _ _ _ _) base _ l rfl OW.out (by simp;omega) (by simp) ?_))
 intro v' w4 hown' hgrow;obtain⟨na,nc,rfl⟩:=Zac hown';simp only [Value.ownBlock] at hgrow
 have hb4:=hide (show Below w.heap.size w w4 from (Below.refl w.heap.size w).grown hgrow (Nat.le_refl _) (fun k hk=>by simp at hk))
 have H1:=hide hown';clear hown' hgrow
 go_wp2
 go_ret
 exact⟨_,rfl,by simpa using H1.out,hb4.out⟩
theorem Zfj (x:WayD)(v:Value)(base:Nat)(w:World)(ho:w.ownsRow base 3 1 v x.hops.length (flat intE x.hops))(hn:x.hops.length<=1048576):
  Calls Tryz.prog 242 #[.agg (wayC x v)] w fun e w'=>∃ v',e=.returned (.agg (wayC x v'))/\w'.ownsRow w.heap.size 3 1 v' x.hops.length (flat intE x.hops)/\Below w.heap.size w w':=by
 obtain⟨va,vc,rfl⟩:=Zac ho;have HC:=hide (fun W (hb:Below w.heap.size w W)=>Zel x.hops (.slice va x.hops.length vc) base W (Zae ho hb (Nat.le_refl _)) hn)
 clear ho
 go_enter Tryz.func242,Tryz.ntmps242
 unfold wayC
 go_wp2_with fail
 have hb0:Below w.heap.size w ((w.alloc (.cells #[.int .i64 x.to,.int .i64 x.cost,.slice va x.hops.length vc] 194)).alloc (.cells #[.int .i64 0,.int .i64 0,.slice none 0 0] 194)):=((Below.refl w.heap.size w).alloc (by simp) _).alloc (by simp) _
 have q0:((w.alloc (.cells #[.int .i64 x.to,.int .i64 x.cost,.slice va x.hops.length vc] 194)).alloc (.cells #[.int .i64 0,.int .i64 0,.slice none 0 0] 194)).heap[w.heap.size]? = some (.cells #[.int .i64 x.to,.int .i64 x.cost,.slice va x.hops.length vc] 194):=by
  rw [Below.heap_alloc _ _ _ (by simp),heap_alloc_new]
 have q1:((w.alloc (.cells #[.int .i64 x.to,.int .i64 x.cost,.slice va x.hops.length vc] 194)).alloc (.cells #[.int .i64 0,.int .i64 0,.slice none 0 0] 194)).heap[w.heap.size+1]? = some (.cells #[.int .i64 0,.int .i64 0,.slice none 0 0] 194):=by
  have e:=heap_alloc_new (w.alloc (.cells #[.int .i64 x.to,.int .i64 x.cost,.slice va x.hops.length vc] 194)) (.cells #[.int .i64 0,.int .i64 0,.slice none 0 0] 194);rw [show (w.alloc (.cells #[.int .i64 x.to,.int .i64 x.cost,.slice va x.hops.length vc] 194)).heap.size=w.heap.size+1 by simp] at e
  exact e
 generalize ((w.alloc (.cells #[.int .i64 x.to,.int .i64 x.cost,.slice va x.hops.length vc] 194)).alloc (.cells #[.int .i64 0,.int .i64 0,.slice none 0 0] 194))=w3 at *;refine (HC.out _ hb0).mono ?_
 rintro e w4 ⟨v',rfl,hown',hb4'⟩;obtain⟨na,nc,rfl⟩:=Zac hown';have hs1:=Zab q1;have hb4:Below w.heap.size w w4:=hb0.trans (hb4'.mono (by omega))
 have q0:=(hb4'.block _ (by omega)).trans q0
 have q1:=(hb4'.block _ hs1).trans q1;have r2:=Zaa q0 2;have f0:=Zaf q0;simp at r2
 have q2:=heap_setCell_same w4 w.heap.size 2 _ _ (.slice na x.hops.length nc) q0;simp only [List.setIfInBounds_toArray,List.set_cons_zero,List.set_cons_succ] at q2
 have q3:(w4.setCell ⟨w.heap.size,2,none⟩ (.slice na x.hops.length nc)).heap[w.heap.size+1]? = some (.cells #[.int .i64 0,.int .i64 0,.slice none 0 0] 194):=by
  rw [heap_setCell_other w4 ⟨w.heap.size,2,none⟩ _ _ (by show w.heap.size+1≠w.heap.size;omega)];exact q1
 have y0:=Zaa q2 0;have y1:=Zaa q2 1;have y2:=Zaa q2 2;simp at y0 y1 y2
 have u0:=Zaa q3 0;have u1:=Zaa q3 1;have u2:=Zaa q3 2;simp at u0 u1 u2
 have fu:=Zaf q3;have F:=Zc6 x (.slice na x.hops.length nc) q3;have hown2:=Zbe (j:=2) (u:=.slice na x.hops.length nc) hown' (show w.heap.size<w3.heap.size by omega)
 have G8:=Za2 (w4.setCell ⟨w.heap.size,2,none⟩ (.slice na x.hops.length nc)) (w.heap.size+1) x (.slice na x.hops.length nc);have hown3:=Zaj (b0:=w.heap.size) (hown2.kept G8 (by
  cases hv:(Value.slice na x.hops.length nc).ownBlock with
  | none=>exact .inl rfl
  | some g=>exact .inr (fun e=>by have:=(hown2.lt g hv).1;simp at e;omega))) (by omega)
 have hb5:Below w.heap.size w (Za8 (w4.setCell ⟨w.heap.size,2,none⟩ (.slice na x.hops.length nc)) (w.heap.size+1) x (.slice na x.hops.length nc)):=(hb4.setCell (p:=⟨w.heap.size,2,none⟩) (Nat.le_refl _) _).grown G8 (by have:=Zab q3;omega) (fun k hk=>by simp at hk;omega)
 have FF:=hide F;have H3:=hide hown3;have H5:=hide hb5;clear F hown3 hb5 hown2 G8 hb4 hown' hb4' q0 q1 q2 q3 hb0 HC
 go_wp2_with fail
 (try simp only [Exit.inBlock,Exit.then])
 refine bodyPost_ret (results_cell_row rfl _ _ (w.heap.size+1) 194 (wayC _ _) (0,0) _ rfl FF.out Tryz.underlying194 rfl (by kernel_rfl)) rfl ?_
 exact⟨_,rfl,H3.out,H5.out⟩
theorem Zff (v:Value)(ps:List WP)(lo hi:Nat)(z:Int)(w:World)(hv:WaysOwn w lo hi v ps)(hhi:hi<=w.heap.size)(hn:totW ps<=1048576):
  Calls Tryz.prog 208 #[v,.int .i64 z] w fun e w'=>∃ u,e=.returned (.tuple #[.agg (wayC (ZbD (Zal ps) z) u),.bool (Zbs (Zal ps) z)])/\w'.ownsRow w.heap.size 3 1 u (ZbD (Zal ps) z).hops.length (flat intE (ZbD (Zal ps) z).hops)/\Below w.heap.size w w':=by
 have hnl:=Zld ps;obtain⟨D,hD⟩:∃ D,D=ZbD (Zal ps) z:=⟨_,rfl⟩;obtain⟨F,hF⟩:∃ F,F=Zbs (Zal ps) z:=⟨_,rfl⟩;rw [<-hD, <-hF];have HD:=hide hD;have HF:=hide hF;clear hD hF;obtain⟨a1,c1,rfl⟩:=Zac hv.row;have HV:=hide hv;clear hv;have BX:Below w.heap.size w (w.alloc (.cells #[.int .i64 0,.int .i64 0,.slice none 0 0] 194)):=(Below.refl _ _).alloc (Nat.le_refl _) _;have hq:=heap_alloc_new w (.cells #[.int .i64 0,.int .i64 0,.slice none 0 0] 194);obtain⟨w0,hw0⟩:∃ W,W=w.alloc (.cells #[.int .i64 0,.int .i64 0,.slice none 0 0] 194):=⟨_,rfl⟩;rw [<-hw0] at BX hq;have hs0:=Zab hq;have HQ:=hide hq;clear hq;unfold wayC
 go_enter Tryz.func208,Tryz.ntmps208
 go_wp2
 rw [<-hw0];clear hw0
 go_loopw [10] (fun i wr=>∃ k:Nat,k<=ps.length/\i=.int .i64 k/\Hid (∀ q∈ps.take k,q.1.to≠z)/\Below w0.heap.size w0 wr) (fun i _=>ps.length-(intOf i).toNat)
 case atStart=>exact ⟨0,by omega,rfl,hide (by simp),Below.refl _ _⟩
 case round=>
  obtain⟨k,hk,rfl,HNO,hnx⟩:=hrel;have hsz:=hnx.size;have BWR:Below w.heap.size w wr:=BX.trans (hnx.mono (by omega))
  have hz1:=(hnx.block _ hs0).trans HQ.out;by_cases hlt:k<ps.length
  ·obtain ⟨p,hp⟩:∃ p,ps[k]? = some p:=⟨ps[k],List.getElem?_eq_getElem hlt⟩
   obtain⟨b,off,cp,hve,hbb,c0,c1,c2,_⟩:=HV.out.at.cells k p hp;cases hve
   have hbw:b<w.heap.size:=by omega
   have hno:=HV.out.nears p (List.mem_of_getElem? hp);obtain⟨pa,pc,hpn⟩:=Zac hno.1;have HCP:=hide (fun W (hb:Below w.heap.size w W)=>Zfj p.1 p.2 lo W (Zae hno.1 hb (Nat.le_refl _)) (by have:=Zle (List.mem_of_getElem? hp);omega))
   unfold wayC at HCP;rw [hpn] at c2 HCP;rw [<-BWR.cell (p:=⟨b,off+k*3,none⟩) hbw] at c0;rw [<-BWR.cell (p:=⟨b,off+k*3+1,none⟩) hbw] at c1;rw [<-BWR.cell (p:=⟨b,off+k*3+2,none⟩) hbw] at c2;have hki:(0:Int)<=(k:Int):=by omega
   have hkj:(k:Int)<(ps.length:Int):=by omega
   by_cases hzz:p.1.to=z
   ·have hh:=Zjn hp HNO.out hzz
    have hDe:D=p.1:=HD.out.trans hh.1;have hFe:F=true:=HF.out.trans hh.2;subst hDe hFe;subst hzz;clear hp hno hpn hh
    go_wp2_with fail
    refine (HCP.out _ (BWR.alloc (by omega) _)).mono ?_
    rintro e w2 ⟨v1,rfl,hn2',b2'⟩;obtain⟨na,nc,rfl⟩:=Zac hn2';have hn2:=Zaj (b0:=wr.heap.size) hn2' (by simp)
    have b2:Below wr.heap.size wr w2:=((Below.refl _ _).alloc (Nat.le_refl _) _).trans (b2'.mono (by simp))
    clear hn2' b2';have b2s:=b2.size;have hz2:=(b2.block _ (Zab hz1)).trans hz1;have u0:=Zaa hz2 0;have u1:=Zaa hz2 1;have u2:=Zaa hz2 2;simp at u0 u1 u2
    have fu:=Zaf hz2;have FF:=hide (Zc6 p.1 (.slice na p.1.hops.length nc) hz2);have G8:=Za2 w2 w.heap.size p.1 (.slice na p.1.hops.length nc);have O3:=hide (Zaj (b0:=w.heap.size) (hn2.kept G8 (by
     cases hv:(Value.slice na p.1.hops.length nc).ownBlock with
     | none=>exact .inl rfl
     | some g=>exact .inr (fun e=>by have:=(hn2.lt g hv).1;simp at e;omega))) (by omega))
    have B2:Below w.heap.size w w2:=BWR.trans (b2.mono (by omega))
    have BF:=hide (B2.grown G8 B2.size (fun k hk=>by simp at hk;omega))
    clear hz2 hn2 b2 G8 hz1
    go_wp2_with fail
    (try simp only [Exit.inBlock,Exit.then])
    refine bodyPost_ret (Zbb rfl _ _ w.heap.size 194 (wayC p.1 (.slice na p.1.hops.length nc)) (0,0) _ rfl FF.out Tryz.underlying194 rfl (by kernel_rfl)) rfl ?_
    exact⟨_,rfl,O3.out,BF.out⟩
   ·have HN:=hide (Zla hp HNO.out hzz)
    have hd:(p.1.to==z)=false:=by simpa using hzz
    clear hp hno hpn hz1
    go_wp2
    go_roundw
    case rel=>exact ⟨k+1,by omega,by go_num,HN,hnx.alloc (by omega) _⟩
    case measure=>simp [intOf];omega
  ·have hh:=Zhn (ps:=ps) (z:=z) (by have h:=HNO.out;rw [List.take_of_length_le (by omega)] at h;exact h)
   have hDe:D=Zbt:=HD.out.trans hh.1;have hFe:F=false:=HF.out.trans hh.2;subst hDe hFe;have u0:=Zaa hz1 0;have u1:=Zaa hz1 1;have u2:=Zaa hz1 2;simp at u0 u1 u2
   have fu:=Zaf hz1;have FF:=hide (Zc6 Zbt (.slice none 0 0) hz1);have G8:=hide (Za2 wr w.heap.size Zbt (.slice none 0 0));clear hz1 hh
   go_wp2_with fail
   (try simp only [Exit.inBlock,Exit.then])
   refine bodyPost_ret (Zbb rfl _ _ w.heap.size 194 (wayC Zbt (.slice none 0 0)) (0,0) _ rfl FF.out Tryz.underlying194 rfl (by kernel_rfl)) rfl ?_
   exact⟨.slice none 0 0,rfl,World.ownsRow_nil _ _ _ _,BWR.grown G8.out BWR.size (fun k hk=>by simp at hk;omega)⟩
theorem Zbp {α:Type}{enc:α->List Value}{sz bytes:Nat}(hlen:∀ a,(enc a).length=sz)(hpos:0<sz)(hbb:bytes<=100){P:Program}(w:World){ops:Array Oper}{rest:List Oper}{o:Oper}{a:Act}{Q:Exit->Act->World->Prop}(hgd:o.guard=none)(s x:Operand)(t:TypeId)
  (ho:o.op=.call { callee:=.builtin .append,args:=#[s,x],argTypes:=#[t,t] }) (base:Nat) (e:TypeId) (ht:P.underlying t=some (.slice e)) (zv:Value) (hzv:zv.cells.size=sz)
  (hinfo:(P.info? e).map (fun i=>(i.zero,i.size,i.bytes))=some (some zv,sz,bytes))
  (v:Value) (l:List α) (y:α) (hone:∀ u∈enc y,u.oneCell'=true) (hs:a.eval s=v) (hown:w.ownsRow base e sz v l.length (flat enc l))
  (ad:Addr) (c:Nat) (hx:a.eval x=.slice (some ad) 1 c) (hnews:∀ j u,(enc y)[j]? = some u->w.cell? (ad.add j)=some u)
  (hl:l.length+1<=1000000000) (hbase:base<=w.heap.size)
  (h:∀ v' w',w'.ownsRow base e sz v' (l++[y]).length (flat enc (l++[y]))->w.grownBy w' v.ownBlock->(v'.ownBlock=v.ownBlock\/v'.ownBlock=some w.heap.size)->wpList P ops Q rest (a.put o.dst v') w'):wpList P ops Q (o::rest) a w:=by
 obtain⟨i0,hi,hz0,hz1,hz2⟩:=info_parts hinfo;refine wpList_append_own_at w hgd s x t ho base e i0 zv sz bytes ht hi hz0 hz1 hz2 hzv hpos v l.length (flat enc l) hs hown ad 1 c (enc y) hx (by rw [hlen];omega) hnews hone (by unfold maxLen;omega) ?_ hbase ?_
 ·have:(l.length+1)*bytes<=1000000000*100:=Nat.mul_le_mul hl hbb
  omega
 ·intro v' w' h1 h2 _ h4
  have e1:flat enc l++enc y=flat enc (l++[y]):=by rw [ZaH];simp [flat]
  rw [e1] at h1;exact h v' w' (by simpa using h1) h2 h4
def Zb4 (n:Int)(ls:List Lk):Bool:=decide (ls.length<=12)&&ZbJ (ZaY n) ls&&ascB ordL ls
theorem ZjY (n:Int)(v:Value)(ls:List Lk)(w:World)(hls:ls.length<=1048576)(hv:ZaS w v ls w.heap.size):
  Calls Tryz.prog 143 #[.int .i64 n,v] w fun e w'=>e=.returned (.bool (Zb4 n ls))/\Below w.heap.size w w':=by
 obtain⟨a,cap,rfl⟩:=hv.shape;have HV:=hide hv;clear hv;by_cases h12:ls.length<=12
 case neg=>
  have hno:Zb4 n ls=false:=by unfold Zb4;rw [decide_eq_false h12];rfl
  rw [hno];have h12':(12:Int)<(ls.length:Int):=by omega
  clear hno
  go_enter Tryz.func143,Tryz.ntmps143
  go_wp2
  go_ret
  exact⟨rfl,Below.refl _ _⟩
 have h12':¬(12:Int)<(ls.length:Int):=by omega
 have hB:Zb4 n ls=(ZbJ (ZaY n) ls&&ascB ordL ls):=by unfold Zb4;rw [decide_eq_true h12];rfl
 have HB:=hide hB;clear hB
 go_enter Tryz.func143,Tryz.ntmps143
 go_wp2
 go_loopw [12] (fun i wr=>∃ k:Nat,k<=ls.length/\i=.int .i64 k/\(∀ j,j<k->okAt (ZaY n) ls j=true)/\Below w.heap.size w wr) (fun i _=>ls.length-(intOf i).toNat)
 case atStart=>exact ⟨0,by omega,rfl,by omega,Below.refl _ _⟩
 case round=>
  obtain⟨k,hk,rfl,hno,hb⟩:=hrel;have HNO:=hide hno;clear hno;by_cases hlt:k<ls.length
  ·obtain ⟨l,hl⟩:∃ l,ls[k]? = some l:=⟨ls[k],List.getElem?_eq_getElem hlt⟩
   obtain⟨b,off,cap',hve,hbb,c0,c1,c2,c3⟩:=HV.out.cells k l hl;cases hve
   rw [<-hb.cell (p:=⟨b,off+k*4,none⟩) hbb] at c0;rw [<-hb.cell (p:=⟨b,off+k*4+1,none⟩) hbb] at c1;rw [<-hb.cell (p:=⟨b,off+k*4+2,none⟩) hbb] at c2;rw [<-hb.cell (p:=⟨b,off+k*4+3,none⟩) hbb] at c3;have HAT:=hide (Zck (ok:=ZaY n) hl);have HOK:=hide (ZjQ n l);clear hl;obtain⟨q,hq⟩:∃ q,q=ZaY n l:=⟨_,rfl⟩;rw [<-hq] at HAT HOK;unfold lkV at HOK;clear hq;have hzr:=hb.size
   go_wp2_with fail
   refine (HOK.out _).mono ?_
   rintro e w2 ⟨rfl,hbc⟩;have B2:Below w.heap.size w w2:=(hb.alloc hb.size _).trans (hbc.mono (by simp;omega))
   cases q
   ·have hf:Zb4 n ls=false:=by rw [HB.out];unfold ZbJ;rw [ZaT hlt HAT.out];rfl
    have HF:=hide hf;clear hf
    go_wp2
    go_ret
    exact⟨Zai HF.out,B2⟩
   ·go_wp2
    exact⟨⟨k+1,by omega,by go_num,ZaO HNO.out HAT.out,B2⟩,by simp [intOf];omega⟩
  ·have hall:ZbJ (ZaY n) ls=true:=Za9 fun i hi=>HNO.out i (by omega)
   have hF:Zb4 n ls=ascB ordL ls:=by rw [HB.out,hall];rfl
   have HF:=hide hF;clear hF hall;have HVR:=hide (HV.out.then hb)
   go_wp2_with fail
   refine (Zn1 _ ls _ hls HVR.out).mono ?_
   rintro e w2 ⟨rfl,hbc⟩
   go_wp2
   go_ret
   exact⟨Zai HF.out,hb.trans (hbc.mono hb.size)⟩
def Zdp (n:Int)(t:Th):Bool:=inB t.k 1 9&&inB t.o 1 n&&inB t.c 1 1000
def ZbA (n:Int)(ls:List Th):Bool:=decide (ls.length<=4)&&ZbJ (Zdp n) ls&&ascB ordT ls
theorem Zji (n:Int)(v:Value)(ls:List Th)(w:World)(hls:ls.length<=1048576)(hv:ZaV w v ls w.heap.size):
  Calls Tryz.prog 144 #[.int .i64 n,v] w fun e w'=>e=.returned (.bool (ZbA n ls))/\Below w.heap.size w w':=by
 obtain⟨a,cap,rfl⟩:=hv.shape;have HV:=hide hv;clear hv;by_cases h12:ls.length<=4
 case neg=>
  have hno:ZbA n ls=false:=by unfold ZbA;rw [decide_eq_false h12];rfl
  rw [hno];have h12':(4:Int)<(ls.length:Int):=by omega
  clear hno
  go_enter Tryz.func144,Tryz.ntmps144
  go_wp2
  go_ret
  exact⟨rfl,Below.refl _ _⟩
 have h12':¬(4:Int)<(ls.length:Int):=by omega
 have hB:ZbA n ls=(ZbJ (Zdp n) ls&&ascB ordT ls):=by unfold ZbA;rw [decide_eq_true h12];rfl
 have HB:=hide hB;clear hB
 go_enter Tryz.func144,Tryz.ntmps144
 go_wp2
 go_loopw [12] (fun i wr=>∃ k:Nat,k<=ls.length/\i=.int .i64 k/\(∀ j,j<k->okAt (Zdp n) ls j=true)/\Below w.heap.size w wr) (fun i _=>ls.length-(intOf i).toNat)
 case atStart=>exact ⟨0,by omega,rfl,by omega,Below.refl _ _⟩
 case round=>
  obtain⟨k,hk,rfl,hno,hb⟩:=hrel;have HNO:=hide hno;clear hno;by_cases hlt:k<ls.length
  ·obtain ⟨l,hl⟩:∃ l,ls[k]? = some l:=⟨ls[k],List.getElem?_eq_getElem hlt⟩
   obtain⟨b,off,cap',hve,hbb,c0,c1,c2,c3⟩:=HV.out.cells k l hl;cases hve
   rw [<-hb.cell (p:=⟨b,off+k*4,none⟩) hbb] at c0;rw [<-hb.cell (p:=⟨b,off+k*4+1,none⟩) hbb] at c1;rw [<-hb.cell (p:=⟨b,off+k*4+2,none⟩) hbb] at c2;rw [<-hb.cell (p:=⟨b,off+k*4+3,none⟩) hbb] at c3;have HAT:=hide (Zck (ok:=Zdp n) hl);obtain⟨q1,hq1⟩:∃ q,q=inB l.k 1 9:=⟨_,rfl⟩;obtain⟨q2,hq2⟩:∃ q,q=inB l.o 1 n:=⟨_,rfl⟩;obtain⟨q3,hq3⟩:∃ q,q=inB l.c 1 1000:=⟨_,rfl⟩;have hok:Zdp n l=(q1&&q2&&q3):=by unfold Zdp;rw [hq1,hq2,hq3]
   have H1:=hide (Za3 l.k 1 9);have H2:=hide (Za3 l.o 1 n);have H3:=hide (Za3 l.c 1 1000);rw [<-hq1] at H1;rw [<-hq2] at H2;rw [<-hq3] at H3;rw [hok] at HAT;clear hl hq1 hq2 hq3 hok;have hzr:=hb.size;have B2:Below w.heap.size w (wr.alloc (.cells #[.int .i64 l.o,.int .i64 l.k,.int .i64 l.c,.bool l.f] 120)):=hb.alloc hb.size _;cases q1
   ·have hf:ZbA n ls=false:=by rw [HB.out];unfold ZbJ;rw [ZaT hlt HAT.out];rfl
    have HF:=hide hf;clear hf
    go_wp2_with fail
    refine (H1.out _).mono ?_
    rintro e w2 ⟨rfl,rfl⟩
    go_wp2
    go_ret
    exact⟨Zai HF.out,B2⟩
   cases q2
   ·have hf:ZbA n ls=false:=by rw [HB.out];unfold ZbJ;rw [ZaT hlt HAT.out];rfl
    have HF:=hide hf;clear hf
    go_wp2_with fail
    refine (H1.out _).mono ?_
    rintro e w2 ⟨rfl,rfl⟩
    go_wp2_with fail
    refine (H2.out _).mono ?_
    rintro e w2 ⟨rfl,rfl⟩
    go_wp2
    go_ret
    exact⟨Zai HF.out,B2⟩
   cases q3
   ·have hf:ZbA n ls=false:=by rw [HB.out];unfold ZbJ;rw [ZaT hlt HAT.out];rfl
    have HF:=hide hf;clear hf
    go_wp2_with fail
    refine (H1.out _).mono ?_
    rintro e w2 ⟨rfl,rfl⟩
    go_wp2_with fail
    refine (H2.out _).mono ?_
    rintro e w2 ⟨rfl,rfl⟩
    go_wp2_with fail
    refine (H3.out _).mono ?_
    rintro e w2 ⟨rfl,rfl⟩
    go_wp2
    go_ret
    exact⟨Zai HF.out,B2⟩
   ·go_wp2_with fail
    refine (H1.out _).mono ?_
    rintro e w2 ⟨rfl,rfl⟩
    go_wp2_with fail
    refine (H2.out _).mono ?_
    rintro e w2 ⟨rfl,rfl⟩
    go_wp2_with fail
    refine (H3.out _).mono ?_
    rintro e w2 ⟨rfl,rfl⟩
    go_wp2
    exact⟨⟨k+1,by omega,by go_num,ZaO HNO.out HAT.out,B2⟩,by simp [intOf];omega⟩
  ·have hall:ZbJ (Zdp n) ls=true:=Za9 fun i hi=>HNO.out i (by omega)
   have hF:ZbA n ls=ascB ordT ls:=by rw [HB.out,hall];rfl
   have HF:=hide hF;clear hF hall;have HVR:=hide (HV.out.then hb)
   go_wp2_with fail
   refine (Zn2 _ ls _ hls HVR.out).mono ?_
   rintro e w2 ⟨rfl,hbc⟩
   go_wp2
   go_ret
   exact⟨Zai HF.out,hb.trans (hbc.mono hb.size)⟩
def Zbl (x:NetD):Bool:=inB x.n 1 6&&Zb4 x.n x.ls&&ZbA x.n x.ts
theorem Zg2 (v:Value)(x:NetD)(w:World)(hl:x.ls.length<=1048576)(ht:x.ts.length<=1048576)(hv:Zfy w v x w.heap.size):
  Calls Tryz.prog 70 #[v] w fun e w'=>e=.returned (.bool (Zbl x))/\Below w.heap.size w w':=by
 obtain⟨n,ls,ts⟩:=x;obtain⟨v1,v2,rfl,h1,h2⟩:=hv;simp only [] at h1 h2 hl ht |-
 obtain⟨a1,c1,rfl⟩:=h1.shape;obtain⟨a2,c2,rfl⟩:=h2.shape;obtain⟨q1,hq1⟩:∃ q,q=inB n 1 6:=⟨_,rfl⟩;obtain⟨q2,hq2⟩:∃ q,q=Zb4 n ls:=⟨_,rfl⟩;obtain⟨q3,hq3⟩:∃ q,q=ZbA n ts:=⟨_,rfl⟩;have hok:Zbl ⟨n,ls,ts⟩=(q1&&q2&&q3):=by unfold Zbl;rw [hq1,hq2,hq3]
 rw [hok];have HIN:=hide (Za3 n 1 6);rw [<-hq1] at HIN;have HL:=hide (fun W (h:Below w.heap.size w W)=>ZjY n _ ls W hl (h1.then h))
 have HT:=hide (fun W (h:Below w.heap.size w W)=>Zji n _ ts W ht (h2.then h))
 rw [<-hq2] at HL;rw [<-hq3] at HT;clear hq1 hq2 hq3 hok h1 h2;have B0:Below w.heap.size w (w.alloc (.cells #[.int .i64 n,.slice a1 ls.length c1,.slice a2 ts.length c2] 27)):=(Below.refl _ _).alloc (Nat.le_refl _) _;have hnew:=heap_alloc_new w (.cells #[.int .i64 n,.slice a1 ls.length c1,.slice a2 ts.length c2] 27);have NEW:=hide hnew;clear hnew;cases q1
 ·go_enter Tryz.func70,Tryz.ntmps70
  go_wp2_with fail
  refine (HIN.out _).mono ?_
  rintro e w1 ⟨rfl,rfl⟩
  go_wp2
  go_ret
  exact⟨by simp,B0⟩
 cases q2
 ·go_enter Tryz.func70,Tryz.ntmps70
  go_wp2_with fail
  refine (HIN.out _).mono ?_
  rintro e w1 ⟨rfl,rfl⟩
  go_wp2_with fail
  refine (HL.out _ B0).mono ?_
  rintro e w1 ⟨rfl,b1⟩
  go_wp2
  go_ret
  exact⟨by simp,B0.trans (b1.mono B0.size)⟩
 ·go_enter Tryz.func70,Tryz.ntmps70
  go_wp2_with fail
  refine (HIN.out _).mono ?_
  rintro e w1 ⟨rfl,rfl⟩
  go_wp2_with fail
  refine (HL.out _ B0).mono ?_
  rintro e w1 ⟨rfl,b1⟩;have g1:w1.heap[w.heap.size]? = some (.cells #[.int .i64 n,.slice a1 ls.length c1,.slice a2 ts.length c2] 27):=by rw [b1.block _ (by simp)];exact NEW.out
  have B1:Below w.heap.size w w1:=B0.trans (b1.mono B0.size);have s0:=Zaa g1 0;have s2:=Zaa g1 2;simp at s0 s2
  clear g1 b1 B0
  go_wp2_with fail
  refine (HT.out _ B1).mono ?_
  rintro e w2 ⟨rfl,b2⟩
  go_wp2
  go_ret
  exact⟨by simp,B1.trans (b2.mono B1.size)⟩
end Go.Proofs.YtadokhjefnkajaaGreat
