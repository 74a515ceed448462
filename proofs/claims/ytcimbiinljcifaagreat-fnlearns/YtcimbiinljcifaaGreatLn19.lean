/-
  BsI PutMath PutP
-/
import Derived.Test.YtcimbiinljcifaaGreatLn7
import Derived.Test.YtcimbiinljcifaaGreatLn17
import Derived.Test.YtcimbiinljcifaaGreatLn18
namespace Go.Proofs.YtcimbiinljcifaaGreat
open Go.RowKit
set_option linter.unusedSimpArgs false
set_option linter.unusedVariables false
set_option maxRecDepth 100000
set_option maxHeartbeats 8000000
def ltAt (xs:List RecD)(r:RecD)(t:Nat):Prop:=∃ x,xs[t]? = some x/\ordR x r<0
theorem Zdf {xs:List RecD}{r x:RecD}{t:Nat}(h:xs[t]? = some x):ltAt xs r t↔ordR x r<0:=by
 constructor
 ·rintro ⟨y,hy,hl⟩
  rw [h] at hy;cases hy
  exact hl
 ·exact fun hl=>⟨x,h,hl⟩
theorem ZjB (v:Value)(ps:List RP)(hi:Nat)(r:RP)(w:World)(hv:RecsIn w hi v ps)(hhi:hi<=w.heap.size)(hn:tot ps<=1048576)(hr:Zat w 0 hi r)(hmono:∀ s t,s<=t->t<ps.length->ltAt (fsts ps) r.1 t->ltAt (fsts ps) r.1 s):
  Calls Tryz.prog 105 #[v,.agg (recC r.1 r.2),.func (.func 106) #[] #[]] w fun e w'=>∃ (i:Nat) (f:Bool),e=.returned (.tuple #[.int .i64 (i:Int),.bool f])/\i<=ps.length/\(∀ t,t<i->ltAt (fsts ps) r.1 t)/\(∀ t,i<=t->t<ps.length->¬ltAt (fsts ps) r.1 t)/\(f=true↔∃ x,(fsts ps)[i]? = some x/\ordR x r.1=0)/\Below w.heap.size w w':=by
 have hnl:=Za3 ps;obtain⟨a1,c1,rfl⟩:=Zac hv.row;obtain⟨ra,rc,hrn⟩:=Zac hr.1;have HRN:=hide hrn;have HV:=hide hv;have HM:=hide hmono;unfold recC;rw [hrn];clear hv hr hrn hmono;have BX:Below w.heap.size w (w.alloc (.cells #[.int .i64 r.1.area,.int .i64 r.1.kind,.int .i64 r.1.owner,.int .i64 r.1.key,.int .i64 r.1.seq,.slice ra r.1.near.length rc,.int .i64 r.1.cost,.bool r.1.far] 40)):=(Below.refl _ _).alloc (Nat.le_refl _) _;have hx:=heap_alloc_new w (.cells #[.int .i64 r.1.area,.int .i64 r.1.kind,.int .i64 r.1.owner,.int .i64 r.1.key,.int .i64 r.1.seq,.slice ra r.1.near.length rc,.int .i64 r.1.cost,.bool r.1.far] 40);obtain⟨w0,hw0⟩:∃ w0,w0=w.alloc (.cells #[.int .i64 r.1.area,.int .i64 r.1.kind,.int .i64 r.1.owner,.int .i64 r.1.key,.int .i64 r.1.seq,.slice ra r.1.near.length rc,.int .i64 r.1.cost,.bool r.1.far] 40):=⟨_,rfl⟩;rw [<-hw0] at BX hx;have hs0:=Zab hx;have HX:=hide hx;clear hx
 go_enter Tryz.func105,Tryz.ntmps105
 go_wp2
 rw [<-hw0];clear hw0
 go_loopw [9,10] (fun i j wr=>∃ (m n:Nat),m<=n/\n<=ps.length/\i=.int .i64 m/\j=.int .i64 n/\Hid (∀ t,t<m->ltAt (fsts ps) r.1 t)/\Hid (∀ t,n<=t->t<ps.length->¬ltAt (fsts ps) r.1 t)/\Below w0.heap.size w0 wr) (fun i j _=>(intOf j).toNat-(intOf i).toNat)
 case atStart=>exact ⟨0,ps.length,by omega,by omega,rfl,rfl,hide (by omega),hide (by omega),Below.refl _ _⟩
 case round=>
  obtain⟨m,n,hmn,hnp,rfl,rfl,HLO,HHI,hnx⟩:=hrel;have hsz:=hnx.size;have BWR:Below w.heap.size w wr:=BX.trans (hnx.mono (by omega))
  by_cases hlt:m<n
  ·have hmi:(m:Int)<(n:Int):=by omega
   have hw1:IntKind.i64.wrap ((m:Int)+(n:Int))=(m:Int)+(n:Int):=ZaD _ (by omega) (by omega)
   go_wp2
   obtain⟨k,hk⟩:∃ k:Nat,k=(m+n) / 2:=⟨_,rfl⟩;have hke:((m:Int)+(n:Int)) / 2=(k:Int):=by omega
   rw [hke];have hkm:m<=k:=by omega
   have hkn:k<n:=by omega
   have hki:(0:Int)<=(k:Int):=by omega
   have hkj:(k:Int)<(ps.length:Int):=by omega
   clear hk hke hw1;obtain⟨p,hp⟩:∃ p,ps[k]? = some p:=⟨ps[k],List.getElem?_eq_getElem (by omega)⟩
   obtain⟨b,off,cap',hve,hbb,c0,c1,c2,c3,c4,c5,c6,c7,hnr⟩:=HV.out.at.cells k p hp;cases hve
   obtain⟨pa,pc,hpn⟩:=ZaA.shape hnr;rw [hpn] at c5;rw [<-BWR.cell (p:=⟨b,off+k*8,none⟩) (Nat.lt_of_lt_of_le hbb hhi)] at c0;rw [<-BWR.cell (p:=⟨b,off+k*8+1,none⟩) (Nat.lt_of_lt_of_le hbb hhi)] at c1;rw [<-BWR.cell (p:=⟨b,off+k*8+2,none⟩) (Nat.lt_of_lt_of_le hbb hhi)] at c2;rw [<-BWR.cell (p:=⟨b,off+k*8+3,none⟩) (Nat.lt_of_lt_of_le hbb hhi)] at c3;rw [<-BWR.cell (p:=⟨b,off+k*8+4,none⟩) (Nat.lt_of_lt_of_le hbb hhi)] at c4;rw [<-BWR.cell (p:=⟨b,off+k*8+5,none⟩) (Nat.lt_of_lt_of_le hbb hhi)] at c5;rw [<-BWR.cell (p:=⟨b,off+k*8+6,none⟩) (Nat.lt_of_lt_of_le hbb hhi)] at c6;rw [<-BWR.cell (p:=⟨b,off+k*8+7,none⟩) (Nat.lt_of_lt_of_le hbb hhi)] at c7;have hxx:=(hnx.block _ (Zab HX.out)).trans HX.out;have d0:=Zaa hxx 0;have d1:=Zaa hxx 1;have d2:=Zaa hxx 2;have d3:=Zaa hxx 3;have d4:=Zaa hxx 4;have d5:=Zaa hxx 5;have d6:=Zaa hxx 6;have d7:=Zaa hxx 7;simp at d0 d1 d2 d3 d4 d5 d6 d7
   have hb1:b<wr.heap.size:=by omega
   have hb2:w.heap.size<wr.heap.size:=by omega
   have hq:=fun W=>ZcD p.2 r.2 p.1 r.1 W
   unfold recC at hq;rw [hpn,HRN.out] at hq;obtain⟨x,hx⟩:∃ x,x=ordR p.1 r.1:=⟨_,rfl⟩;rw [<-hx] at hq;have HK:=hide hq;have HXV:=hide hx;have HPP:=hide (ZbB hp);clear hq hx hp hxx hnr hpn;by_cases hx0:x<0
   ·have HLO2:=hide (show ∀ t,t<k+1->ltAt (fsts ps) r.1 t from fun t ht=>HM.out t k (by omega) (by omega) ((Zdf HPP.out).2 (by rw [<-HXV.out];exact hx0)))
    go_region_held3 (fun W=>W.cell? ⟨b,off+k*8,none⟩=some (.int .i64 p.1.area)/\W.cell? ⟨b,off+k*8+1,none⟩=some (.int .i64 p.1.kind)/\W.cell? ⟨b,off+k*8+2,none⟩=some (.int .i64 p.1.owner)/\W.cell? ⟨b,off+k*8+3,none⟩=some (.int .i64 p.1.key)/\W.cell? ⟨b,off+k*8+4,none⟩=some (.int .i64 p.1.seq)/\W.cell? ⟨b,off+k*8+5,none⟩=some (.slice pa p.1.near.length pc)/\W.cell? ⟨b,off+k*8+6,none⟩=some (.int .i64 p.1.cost)/\W.cell? ⟨b,off+k*8+7,none⟩=some (.bool p.1.far)/\W.cell? ⟨w.heap.size,0,none⟩=some (.int .i64 r.1.area)/\W.cell? ⟨w.heap.size,1,none⟩=some (.int .i64 r.1.kind)/\W.cell? ⟨w.heap.size,2,none⟩=some (.int .i64 r.1.owner)/\W.cell? ⟨w.heap.size,3,none⟩=some (.int .i64 r.1.key)/\W.cell? ⟨w.heap.size,4,none⟩=some (.int .i64 r.1.seq)/\W.cell? ⟨w.heap.size,5,none⟩=some (.slice ra r.1.near.length rc)/\W.cell? ⟨w.heap.size,6,none⟩=some (.int .i64 r.1.cost)/\W.cell? ⟨w.heap.size,7,none⟩=some (.bool r.1.far)) (first | go_keep | (refine ⟨?_,?_,?_,?_,?_,?_,?_,?_,?_,?_,?_,?_,?_,?_,?_,?_⟩ <;> (rw [hbc.cell (by assumption)];assumption))) (first | (go_at_call 106;refine (HK.out _).mono ?_;rintro e w1 ⟨rfl,hbc⟩))
    go_wp2
    go_roundw
    case rel=>exact ⟨k+1,n,by omega,by omega,by go_num,rfl,HLO2,HHI,hnx.trans ((Below.refl _ _).drew.trans (hbc.mono hsz))⟩
    case measure=>simp [intOf];omega
   ·have HHI2:=hide (show ∀ t,k<=t->t<ps.length->¬ltAt (fsts ps) r.1 t from fun t h1 h2 h3=>hx0 (by rw [HXV.out];exact (Zdf HPP.out).1 (HM.out k t h1 h2 h3)))
    go_region_held3 (fun W=>W.cell? ⟨b,off+k*8,none⟩=some (.int .i64 p.1.area)/\W.cell? ⟨b,off+k*8+1,none⟩=some (.int .i64 p.1.kind)/\W.cell? ⟨b,off+k*8+2,none⟩=some (.int .i64 p.1.owner)/\W.cell? ⟨b,off+k*8+3,none⟩=some (.int .i64 p.1.key)/\W.cell? ⟨b,off+k*8+4,none⟩=some (.int .i64 p.1.seq)/\W.cell? ⟨b,off+k*8+5,none⟩=some (.slice pa p.1.near.length pc)/\W.cell? ⟨b,off+k*8+6,none⟩=some (.int .i64 p.1.cost)/\W.cell? ⟨b,off+k*8+7,none⟩=some (.bool p.1.far)/\W.cell? ⟨w.heap.size,0,none⟩=some (.int .i64 r.1.area)/\W.cell? ⟨w.heap.size,1,none⟩=some (.int .i64 r.1.kind)/\W.cell? ⟨w.heap.size,2,none⟩=some (.int .i64 r.1.owner)/\W.cell? ⟨w.heap.size,3,none⟩=some (.int .i64 r.1.key)/\W.cell? ⟨w.heap.size,4,none⟩=some (.int .i64 r.1.seq)/\W.cell? ⟨w.heap.size,5,none⟩=some (.slice ra r.1.near.length rc)/\W.cell? ⟨w.heap.size,6,none⟩=some (.int .i64 r.1.cost)/\W.cell? ⟨w.heap.size,7,none⟩=some (.bool r.1.far)) (first | go_keep | (refine ⟨?_,?_,?_,?_,?_,?_,?_,?_,?_,?_,?_,?_,?_,?_,?_,?_⟩ <;> (rw [hbc.cell (by assumption)];assumption))) (first | (go_at_call 106;refine (HK.out _).mono ?_;rintro e w1 ⟨rfl,hbc⟩))
    go_wp2
    go_roundw
    case rel=>exact ⟨m,k,by omega,by omega,rfl,rfl,HLO,HHI2,hnx.trans ((Below.refl _ _).drew.trans (hbc.mono hsz))⟩
    case measure=>simp [intOf];omega
  ·have hmn2:m=n:=by omega
   subst hmn2;by_cases hend:m<ps.length
   ·have hmi:(0:Int)<=(m:Int):=by omega
    have hmj:(m:Int)<(ps.length:Int):=by omega
    obtain⟨p,hp⟩:∃ p,ps[m]? = some p:=⟨ps[m],List.getElem?_eq_getElem (by omega)⟩
    obtain⟨b,off,cap',hve,hbb,c0,c1,c2,c3,c4,c5,c6,c7,hnr⟩:=HV.out.at.cells m p hp;cases hve
    obtain⟨pa,pc,hpn⟩:=ZaA.shape hnr;rw [hpn] at c5;rw [<-BWR.cell (p:=⟨b,off+m*8,none⟩) (Nat.lt_of_lt_of_le hbb hhi)] at c0;rw [<-BWR.cell (p:=⟨b,off+m*8+1,none⟩) (Nat.lt_of_lt_of_le hbb hhi)] at c1;rw [<-BWR.cell (p:=⟨b,off+m*8+2,none⟩) (Nat.lt_of_lt_of_le hbb hhi)] at c2;rw [<-BWR.cell (p:=⟨b,off+m*8+3,none⟩) (Nat.lt_of_lt_of_le hbb hhi)] at c3;rw [<-BWR.cell (p:=⟨b,off+m*8+4,none⟩) (Nat.lt_of_lt_of_le hbb hhi)] at c4;rw [<-BWR.cell (p:=⟨b,off+m*8+5,none⟩) (Nat.lt_of_lt_of_le hbb hhi)] at c5;rw [<-BWR.cell (p:=⟨b,off+m*8+6,none⟩) (Nat.lt_of_lt_of_le hbb hhi)] at c6;rw [<-BWR.cell (p:=⟨b,off+m*8+7,none⟩) (Nat.lt_of_lt_of_le hbb hhi)] at c7;have hxx:=(hnx.block _ (Zab HX.out)).trans HX.out;have d0:=Zaa hxx 0;have d1:=Zaa hxx 1;have d2:=Zaa hxx 2;have d3:=Zaa hxx 3;have d4:=Zaa hxx 4;have d5:=Zaa hxx 5;have d6:=Zaa hxx 6;have d7:=Zaa hxx 7;simp at d0 d1 d2 d3 d4 d5 d6 d7
    have hb1:b<wr.heap.size:=by omega
    have hb2:w.heap.size<wr.heap.size:=by omega
    have hq:=fun W=>ZcD p.2 r.2 p.1 r.1 W
    unfold recC at hq;rw [hpn,HRN.out] at hq;obtain⟨x,hx⟩:∃ x,x=ordR p.1 r.1:=⟨_,rfl⟩;rw [<-hx] at hq;have HK:=hide hq;have HXV:=hide hx;have HPP:=hide (ZbB hp);clear hq hx hp hxx hnr hpn;have hfin:(x==0)=true↔∃ y,(fsts ps)[m]? = some y/\ordR y r.1=0:=by
     rw [HPP.out]
     constructor
     ·intro h
      exact⟨p.1,rfl,by rw [<-HXV.out];simpa using h⟩
     ·rintro ⟨y,hy,he⟩
      cases hy
      rw [HXV.out]
      simpa using he
    have HFIN:=hide hfin;clear hfin
    go_wp2
    go_region_held3 (fun W=>W.cell? ⟨b,off+m*8,none⟩=some (.int .i64 p.1.area)/\W.cell? ⟨b,off+m*8+1,none⟩=some (.int .i64 p.1.kind)/\W.cell? ⟨b,off+m*8+2,none⟩=some (.int .i64 p.1.owner)/\W.cell? ⟨b,off+m*8+3,none⟩=some (.int .i64 p.1.key)/\W.cell? ⟨b,off+m*8+4,none⟩=some (.int .i64 p.1.seq)/\W.cell? ⟨b,off+m*8+5,none⟩=some (.slice pa p.1.near.length pc)/\W.cell? ⟨b,off+m*8+6,none⟩=some (.int .i64 p.1.cost)/\W.cell? ⟨b,off+m*8+7,none⟩=some (.bool p.1.far)/\W.cell? ⟨w.heap.size,0,none⟩=some (.int .i64 r.1.area)/\W.cell? ⟨w.heap.size,1,none⟩=some (.int .i64 r.1.kind)/\W.cell? ⟨w.heap.size,2,none⟩=some (.int .i64 r.1.owner)/\W.cell? ⟨w.heap.size,3,none⟩=some (.int .i64 r.1.key)/\W.cell? ⟨w.heap.size,4,none⟩=some (.int .i64 r.1.seq)/\W.cell? ⟨w.heap.size,5,none⟩=some (.slice ra r.1.near.length rc)/\W.cell? ⟨w.heap.size,6,none⟩=some (.int .i64 r.1.cost)/\W.cell? ⟨w.heap.size,7,none⟩=some (.bool r.1.far)) (first | go_keep | (refine ⟨?_,?_,?_,?_,?_,?_,?_,?_,?_,?_,?_,?_,?_,?_,?_,?_⟩ <;> (rw [hbc.cell (by assumption)];assumption))) (first | (go_at_call 106;refine (HK.out _).mono ?_;rintro e w1 ⟨rfl,hbc⟩))
    go_wp2
    go_returns
    exact⟨m,x==0,rfl,by omega,HLO.out,HHI.out,HFIN.out,BWR.trans ((Below.refl _ _).drew.trans (hbc.mono (show w.heap.size<=wr.heap.size by omega)))⟩
   ·have hme:¬(m:Int)<(ps.length:Int):=by omega
    have HNO:=hide (show (false=true↔∃ y,(fsts ps)[m]? = some y/\ordR y r.1=0) from ⟨(fun h=>by cases h),(fun ⟨y,hy,_⟩=>by rw [List.getElem?_eq_none (by simp [fsts];omega)] at hy;cases hy)⟩)
    go_wp2
    go_quiet (fail)
    go_wp2
    go_returns
    exact⟨m,false,rfl,by omega,HLO.out,HHI.out,HNO.out,BWR.trans ⟨rfl,rfl,rfl,Nat.le_refl _,fun _ _=>rfl⟩⟩
end Go.Proofs.YtcimbiinljcifaaGreat
namespace Go.Proofs.YtcimbiinljcifaaGreat
open Go.RowKit

theorem ZcG {x y z:RecD}(h1:Zan x y=true)(h2:Zan y z=true):Zan x z=true:=by
 unfold Zan at *;simp only [Bool.or_eq_true,Bool.and_eq_true,decide_eq_true_eq,beq_iff_eq] at *
 omega

theorem Zgy {x y z:RecD}(h1:Zak x y=true)(h2:Zan x z=true):Zan y z=true:=by
 unfold Zan Zak at *;simp only [Bool.or_eq_true,Bool.and_eq_true,decide_eq_true_eq,beq_iff_eq] at *
 omega

theorem ZbQ {x y:RecD}(h1:Zak x y=true):Zan x y=false/\Zan y x=false:=by
 unfold Zan Zak at *;simp only [Bool.or_eq_false_iff,Bool.and_eq_false_iff,decide_eq_false_iff_not,beq_eq_false_iff_ne,Bool.and_eq_true,beq_iff_eq] at *
 omega

theorem Zgz (x y:RecD):Zan x y=true\/Zak x y=true\/Zan y x=true:=by
 unfold Zan Zak;simp only [Bool.or_eq_true,Bool.and_eq_true,decide_eq_true_eq,beq_iff_eq]
 omega

theorem Zfm (x y:RecD):ordR x y<0↔Zan x y=true:=by
 rw [<-ZeR];simp

theorem ZhA (x y:RecD):ordR x y=0↔Zak x y=true:=by
 unfold ordR cmpK Zak;simp only [Bool.and_eq_true,beq_iff_eq]
 by_cases h1:x.area=y.area
 ·rw [if_pos (Za5.2 h1)]
  by_cases h2:x.kind=y.kind
  ·rw [if_pos (Za5.2 h2)]
   by_cases h3:x.owner=y.owner
   ·rw [if_pos (Za5.2 h3),Za5]
    simp [h1,h2,h3]
   ·rw [if_neg (fun h=>h3 (Za5.1 h)),Za5]
    simp [h3]
  ·rw [if_neg (fun h=>h2 (Za5.1 h)),Za5]
   simp [h2]
 ·rw [if_neg (fun h=>h1 (Za5.1 h)),Za5]
  simp [h1]

def Asc (xs:List RecD):Prop:=xs.Pairwise (fun x y=>Zan x y=true)

theorem asc_of {xs:List RecD}(h:ascB ordR xs=true):Asc xs:=by
 unfold Asc;rw [List.pairwise_iff_getElem];have step:∀ i (h2:i+1<xs.length),Zan xs[i] xs[i+1]=true:=by
  intro i h2;have h3:=List.all_eq_true.1 h (i+1) (List.mem_range.2 h2);rw [Za6 (List.getElem?_eq_getElem (by omega)) (List.getElem?_eq_getElem h2),ZeR] at h3
  exact h3
 have main:∀ d i (h2:i+1+d<xs.length),Zan xs[i] (xs[i+1+d])=true:=by
  intro d
  induction d with
  | zero=>intro i h2;exact step i h2
  | succ d ih=>intro i h2;exact ZcG (ih i (by omega)) (step (i+1+d) h2)
 intro i j hi hj hij;have h2:=main (j-i-1) i (by omega)
 have e:i+1+(j-i-1)=j:=by omega
 simp only [e] at h2
 exact h2

theorem Zgv {xs:List RecD}(h:Asc xs):ascB ordR xs=true:=by
 unfold Asc at h;rw [List.pairwise_iff_getElem] at h;refine ZaG fun j hj=>?_
 cases j with
 | zero=>rfl
 | succ k=>
  rw [Za6 (List.getElem?_eq_getElem (by omega)) (List.getElem?_eq_getElem hj),ZeR]
  exact h k (k+1) (by omega) hj (by omega)

theorem ZkU {xs:List RecD}(h:Asc xs)(r:RecD):∀ s t,s<=t->t<xs.length->ltAt xs r t->ltAt xs r s:=by
 intro s t hst ht hl;unfold Asc at h;rw [List.pairwise_iff_getElem] at h;have h1:=(Zdf (List.getElem?_eq_getElem ht)).1 hl;refine (Zdf (List.getElem?_eq_getElem (by omega))).2 ?_
 by_cases e:s=t
 ·subst e;exact h1
 ·rw [Zfm] at h1 |-
  exact ZcG (h s t (by omega) ht (by omega)) h1

def putD (xs:List RecD)(r:RecD):List RecD:=xs.filter (fun x=>Zan x r)++[r]++xs.filter (fun x=>Zan r x)

theorem Zdk (ps:List RP)(r:RP):fsts (putL ps r)=putD (fsts ps) r.1:=by
 unfold putL putD fsts;simp [List.filter_map,Function.comp_def]

section
variable {xs:List RecD} {r:RecD} {i:Nat}

theorem Zj0 (hi:i<=xs.length)(h1:∀ t,t<i->ltAt xs r t)(h2:∀ t,i<=t->t<xs.length->¬ltAt xs r t):xs.filter (fun x=>Zan x r)=xs.take i:=by
 conv=>lhs;rw [<-List.take_append_drop i xs]
 rw [List.filter_append];have e1:(xs.take i).filter (fun x=>Zan x r)=xs.take i:=by
  rw [List.filter_eq_self];intro x hx;obtain⟨t,ht,e⟩:=List.getElem_of_mem hx;rw [List.length_take] at ht;rw [List.getElem_take] at e;have:=(Zdf (List.getElem?_eq_getElem (show t<xs.length by omega))).1 (h1 t (by omega))
  rw [e,Zfm] at this;exact this
 have e2:(xs.drop i).filter (fun x=>Zan x r)=[]:=by
  rw [List.filter_eq_nil_iff];intro x hx hb;obtain⟨t,ht,e⟩:=List.getElem_of_mem hx;rw [List.length_drop] at ht;rw [List.getElem_drop] at e;refine h2 (i+t) (by omega) (by omega) ((Zdf (List.getElem?_eq_getElem (by omega))).2 ?_)
  rw [e,Zfm];exact hb
 rw [e1,e2,List.append_nil]

theorem Zez (h1:∀ t,t<i->ltAt xs r t)(hi:i<=xs.length):(xs.take i).filter (fun x=>Zan r x)=[]:=by
 rw [List.filter_eq_nil_iff];intro x hx hb;obtain⟨t,ht,e⟩:=List.getElem_of_mem hx;rw [List.length_take] at ht;rw [List.getElem_take] at e;have:=(Zdf (List.getElem?_eq_getElem (show t<xs.length by omega))).1 (h1 t (by omega))
 rw [e,Zfm] at this;rw [ZbY this] at hb;cases hb

theorem ZlA (hs:Asc xs)(hi:i<=xs.length)(h1:∀ t,t<i->ltAt xs r t)(h2:∀ t,i<=t->t<xs.length->¬ltAt xs r t)(h3:¬∃ x,xs[i]? = some x/\ordR x r=0):putD xs r=xs.take i++[r]++xs.drop i:=by
 unfold putD;rw [Zj0 hi h1 h2]
 congr 1
 conv=>lhs;rw [<-List.take_append_drop i xs]
 rw [List.filter_append,Zez h1 hi,List.nil_append,List.filter_eq_self];unfold Asc at hs;rw [List.pairwise_iff_getElem] at hs;intro x hx;obtain⟨t,ht,e⟩:=List.getElem_of_mem hx;rw [List.length_drop] at ht;rw [List.getElem_drop] at e;have hin:i<xs.length:=by omega
 have hfirst:Zan r xs[i]=true:=by
  rcases Zgz xs[i] r with h | h | h
  ·exact absurd ((Zdf (List.getElem?_eq_getElem hin)).2 ((Zfm _ _).2 h)) (h2 i (Nat.le_refl _) hin)
  ·exact absurd ⟨xs[i],List.getElem?_eq_getElem hin,(ZhA _ _).2 h⟩ h3
  ·exact h
 by_cases e0:t=0
 ·subst e0
  simp only [Nat.add_zero] at e
  rw [<-e];exact hfirst
 ·rw [<-e]
  exact ZcG hfirst (hs i (i+t) hin (by omega) (by omega))

theorem ZlB (hs:Asc xs)(hi:i<xs.length)(h1:∀ t,t<i->ltAt xs r t)(h2:∀ t,i<=t->t<xs.length->¬ltAt xs r t)(h3:ordR xs[i] r=0):putD xs r=xs.set i r:=by
 have hsame:=(ZhA _ _).1 h3;have e0:xs.drop i=xs[i]::xs.drop (i+1):=List.drop_eq_getElem_cons hi;unfold putD;rw [Zj0 (Nat.le_of_lt hi) h1 h2];have e1:xs.filter (fun x=>Zan r x)=xs.drop (i+1):=by
  conv=>lhs;rw [<-List.take_append_drop i xs]
  rw [List.filter_append,Zez h1 (Nat.le_of_lt hi),List.nil_append,e0,List.filter_cons,if_neg (by rw [(ZbQ hsame).2];simp),List.filter_eq_self]
  unfold Asc at hs;rw [List.pairwise_iff_getElem] at hs;intro x hx;obtain⟨t,ht,e⟩:=List.getElem_of_mem hx;rw [List.length_drop] at ht;rw [List.getElem_drop] at e;rw [<-e];exact Zgy hsame (hs i (i+1+t) hi (by omega) (by omega))
 rw [e1]
 apply List.ext_getElem?
 intro j;by_cases hj:j<i
 ·rw [List.getElem?_set_ne (by omega),List.append_assoc,List.getElem?_append_left (by simp;omega),List.getElem?_take_of_lt hj]
 ·by_cases hje:j=i
  ·subst hje
   rw [List.getElem?_set_self hi,List.append_assoc,List.getElem?_append_right (by simp;omega),List.length_take,Nat.min_eq_left (by omega),Nat.sub_self]
   rfl
  ·rw [List.getElem?_set_ne (by omega),List.append_assoc,List.getElem?_append_right (by simp;omega),List.length_take,Nat.min_eq_left (by omega),List.getElem?_append_right (by simp;omega),List.getElem?_drop]
   congr 1
   simp
   omega
end
end Go.Proofs.YtcimbiinljcifaaGreat
namespace Go.Proofs.YtcimbiinljcifaaGreat
open Go.RowKit
set_option linter.unusedSimpArgs false
set_option linter.unusedVariables false
set_option maxRecDepth 100000
set_option maxHeartbeats 8000000
theorem Zef.symm {p q:RP}(h:Zef p q):Zef q p:=fun k hk hp=>h k hp hk
theorem Zf3 {W W2:World}{lo:Nat}{v:Value}{ps:List RP}(h:RecsOwn W lo W.heap.size v ps)(hg:W.grownBy W2 v.ownBlock){q:RP}(hq:Zat W lo W.heap.size q):Zat W2 lo W2.heap.size q:=
 ⟨Zam hq.1 (fun j hj=>hg.block j (hq.2 j hj) (Zcm hq h.row j hj)),fun k hk=>Nat.lt_of_lt_of_le (hq.2 k hk) hg.size⟩
theorem RecsOwn.put {W:World}{lo i g cap n:Nat}{ps:List RP}{r:RP}(h:RecsOwn W lo W.heap.size (.slice (some ⟨g,0,none⟩) n cap) ps)(hn:n=ps.length)(hr:Zat W lo W.heap.size r)(hap:∀ p∈ps,Zef p r)(hi:i<ps.length):RecsOwn (putP W g (i*8) r) lo (putP W g (i*8) r).heap.size (.slice (some ⟨g,0,none⟩) n cap) (ps.set i r):=by
 subst hn;have hst:=Zkp (p:=r) h.row hi;have hg:W.grownBy (putP W g (i*8) r) (Value.slice (some ⟨g,0,none⟩) ps.length cap).ownBlock:=Zer W g (i*8) r;refine⟨by simpa using hst,fun k hk=>(hst.lt k hk).2,?_,?_⟩
 ·intro q hq
  refine Zf3 h hg ?_
  rcases List.mem_or_eq_of_mem_set hq with h1 | h1
  ·exact h.nears q h1
  ·subst h1;exact hr
 ·have hp:=h.apart
  rw [List.pairwise_iff_getElem] at hp |-;intro a b ha hb hab;simp only [List.length_set] at ha hb
  rw [List.getElem_set,List.getElem_set];by_cases e1:i=a
  ·rw [if_pos e1,if_neg (by omega)]
   exact (hap _ (List.getElem_mem hb)).symm
  ·rw [if_neg e1]
   by_cases e2:i=b
   ·rw [if_pos e2]
    exact hap _ (List.getElem_mem ha)
   ·rw [if_neg e2]
    exact hp a b ha hb hab
theorem Zk1 (ps:List RP)(r:RP)(i:Nat):fsts (ps.take i++[r]++ps.drop i)=(fsts ps).take i++[r.1]++(fsts ps).drop i:=by simp [fsts]
theorem Zk2 (ps:List RP)(r:RP)(i:Nat):fsts (ps.set i r)=(fsts ps).set i r.1:=by simp [fsts,List.map_set]
end Go.Proofs.YtcimbiinljcifaaGreat
