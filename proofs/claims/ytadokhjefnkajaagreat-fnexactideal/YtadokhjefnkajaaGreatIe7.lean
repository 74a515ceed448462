/-
  ToLinks EqLinks RowsK IKey RecOk INear
-/
import Derived.Test.YtadokhjefnkajaaGreatIe4
import Derived.OwnWalk
import Derived.Test.YtadokhjefnkajaaGreatIe6
import Derived.Deep.RegionHeld3
import Derived.Test.YtadokhjefnkajaaGreatIe5
import Derived.ChangeKeysEq
import Derived.Test.YtadokhjefnkajaaGreatIe3
namespace Go.Proofs.YtadokhjefnkajaaGreat
open Go.RowKit
set_option linter.unusedSimpArgs false
set_option linter.unusedVariables false
set_option maxRecDepth 100000
set_option maxHeartbeats 8000000
def lk0:Lk:=⟨0,0,0,0⟩
theorem Tryz.infoLk:(Tryz.prog.info? 174).map (fun i=>(i.zero,i.size,i.bytes))=some (some (lkV lk0),4,32):=by kernel_rfl
theorem Zkl (v:Value)(ls:List Lk)(w:World)(hls:ls.length<=1048576)(hv:ZaS w v ls w.heap.size):
  Calls Tryz.prog 110 #[v] w fun e w'=>∃ x,e=.returned x/\w'.ownsRow w.heap.size 174 4 x ls.length (flat lkE ls)/\Below w.heap.size w w':=by
 obtain⟨a,cap,rfl⟩:=hv.shape;have HV:=hide hv;clear hv;obtain⟨i0,hi,hz0,hz1,hz2⟩:=info_parts Tryz.infoLk;have HI:=hide hi;have HZ:=hide hz0;clear hi hz0
 go_enter Tryz.func110,Tryz.ntmps110
 go_wp2_with (first
  | (refine ZbZ Zgc (by omega) _ rfl _ _ 24 rfl w.heap.size 174 i0 (lkV lk0) lk0 rfl Tryz.underlying24 HI.out HZ.out hz1 ls.length rfl rfl (by rw [hz2];omega) (by unfold maxLen;omega) (Nat.le_refl _) ?_))
 intro w1 hown hg;have b1:Below w.heap.size w w1:=(Below.refl _ _).grown hg (Nat.le_refl _) (fun k hk=>by simp at hk)
 have hg1:w.heap.size<w1.heap.size:=by
  rcases hown.2 with ⟨h0,_⟩ | ⟨g,cp,cur,hv,_,hh,_⟩
  ·cases h0
  ·cases hv;exact Zab hh
 have OW:=hide hown;clear hown hg
 go_wp2
 go_loopw [4] (fun i wr=>∃ k:Nat,k<=ls.length/\i=.int .i64 k/\wr.ownsRow w.heap.size 174 4 (.slice (some ⟨w.heap.size,0,none⟩) ls.length ls.length) ls.length (flat lkE (part ls lk0 k))/\Below w.heap.size w wr) (fun i _=>ls.length-(intOf i).toNat)
 case atStart=>exact ⟨0,by omega,rfl,(by simpa [part] using OW.out),b1⟩
 case round=>
  obtain⟨k,hk,rfl,hown,hnx⟩:=hrel;by_cases hlt:k<ls.length
  ·obtain ⟨l,hl⟩:∃ l,ls[k]? = some l:=⟨ls[k],List.getElem?_eq_getElem hlt⟩
   obtain⟨b,off,cap',hve,hbb,c0,c1,c2,c3⟩:=HV.out.cells k l hl;cases hve
   rw [<-hnx.cell (p:=⟨b,off+k*4,none⟩) hbb] at c0;rw [<-hnx.cell (p:=⟨b,off+k*4+1,none⟩) hbb] at c1;rw [<-hnx.cell (p:=⟨b,off+k*4+2,none⟩) hbb] at c2;rw [<-hnx.cell (p:=⟨b,off+k*4+3,none⟩) hbb] at c3;have HL:=hide hl;have OW2:=hide hown;clear hl hown;have hki:(0:Int)<=(k:Int):=by omega
   have hkj:(k:Int)<(ls.length:Int):=by omega
   have hto:=Zmc l;unfold lkV at hto;have HTO:=hide hto;clear hto
   go_wp2_with fail
   refine (HTO.out _).mono ?_
   rintro e w2 ⟨rfl,b2⟩;have hown2:=Zae OW2.out b2 (Nat.le_refl _);have hex:∀ r,r<4->∃ u,w2.cell? ⟨w.heap.size,k*4+r,none⟩=some u:=fun r hr=>by
    have hj:k*4+r<ls.length*4:=by omega
    rw [hown2.cellAt _ hj];have hln:k*4+r<(flat lkE (part ls lk0 k)).length:=by rw [hown2.1];exact hj
    exact⟨_,List.getElem?_eq_getElem hln⟩
   obtain⟨u0,d0⟩:=hex 0 (by omega)
   obtain⟨u1,d1⟩:=hex 1 (by omega)
   obtain⟨u2,d2⟩:=hex 2 (by omega)
   obtain⟨u3,d3⟩:=hex 3 (by omega)
   rw [Nat.add_zero] at d0;have f0:=hown2.frozenAt (k*4);have f1:=hown2.frozenAt (k*4+1);have f2:=hown2.frozenAt (k*4+2);have f3:=hown2.frozenAt (k*4+3);have OW3:=hide hown2;clear hown2 hex
   go_wp2
   refine⟨⟨k+1,by omega,by go_num,?_,((((hnx.trans (b2.mono hnx.size)).setCell (Nat.le_refl _) _).setCell (Nat.le_refl _) _).setCell (Nat.le_refl _) _).setCell (Nat.le_refl _) _⟩,by simp [intOf];omega⟩
   have h4:=((((OW3.out.stored (k*4) (.int .i64 l.a)).1.stored (k*4+1) (.int .i64 l.b)).1.stored (k*4+2) (.int .i64 l.c)).1.stored (k*4+3) (.int .i64 l.r)).1;have e4:((((flat lkE (part ls lk0 k)).set (k*4) (.int .i64 l.a)).set (k*4+1) (.int .i64 l.b)).set (k*4+2) (.int .i64 l.c)).set (k*4+3) (.int .i64 l.r)=flat lkE (part ls lk0 (k+1)):=by
    rw [<-Zgo ls lk0 l k HL.out, <-Zcr Zgc _ _ _ (by rw [Zh5 _ _ _ hk];exact hlt)]
    rfl
   rw [e4] at h4;exact h4
  ·have hkn:k=ls.length:=by omega
   have KN:=hide hkn;have OW2:=hide hown;clear hkn hown
   go_wp2
   go_ret
   refine⟨_,rfl,?_,hnx⟩
   have h:=OW2.out;rw [KN.out,Zh4] at h;exact h
def th0:Th:=⟨0,0,0,false⟩
theorem Tryz.infoTh:(Tryz.prog.info? 120).map (fun i=>(i.zero,i.size,i.bytes))=some (some (thV th0),4,32):=by kernel_rfl
theorem Zjk (v:Value)(ls:List Th)(w:World)(hls:ls.length<=1048576)(hv:ZaV w v ls w.heap.size):
  Calls Tryz.prog 111 #[v] w fun e w'=>∃ x,e=.returned x/\w'.ownsRow w.heap.size 120 4 x ls.length (flat thE ls)/\Below w.heap.size w w':=by
 obtain⟨a,cap,rfl⟩:=hv.shape;have HV:=hide hv;clear hv;obtain⟨i0,hi,hz0,hz1,hz2⟩:=info_parts Tryz.infoTh;have HI:=hide hi;have HZ:=hide hz0;clear hi hz0
 go_enter Tryz.func111,Tryz.ntmps111
 go_wp2_with (first
  | (refine ZbZ ZgC (by omega) _ rfl _ _ 25 rfl w.heap.size 120 i0 (thV th0) th0 rfl Tryz.underlying25 HI.out HZ.out hz1 ls.length rfl rfl (by rw [hz2];omega) (by unfold maxLen;omega) (Nat.le_refl _) ?_))
 intro w1 hown hg;have b1:Below w.heap.size w w1:=(Below.refl _ _).grown hg (Nat.le_refl _) (fun k hk=>by simp at hk)
 have hg1:w.heap.size<w1.heap.size:=by
  rcases hown.2 with ⟨h0,_⟩ | ⟨g,cp,cur,hv,_,hh,_⟩
  ·cases h0
  ·cases hv;exact Zab hh
 have OW:=hide hown;clear hown hg
 go_wp2
 go_loopw [4] (fun i wr=>∃ k:Nat,k<=ls.length/\i=.int .i64 k/\wr.ownsRow w.heap.size 120 4 (.slice (some ⟨w.heap.size,0,none⟩) ls.length ls.length) ls.length (flat thE (part ls th0 k))/\Below w.heap.size w wr) (fun i _=>ls.length-(intOf i).toNat)
 case atStart=>exact ⟨0,by omega,rfl,(by simpa [part] using OW.out),b1⟩
 case round=>
  obtain⟨k,hk,rfl,hown,hnx⟩:=hrel;by_cases hlt:k<ls.length
  ·obtain ⟨l,hl⟩:∃ l,ls[k]? = some l:=⟨ls[k],List.getElem?_eq_getElem hlt⟩
   obtain⟨b,off,cap',hve,hbb,c0,c1,c2,c3⟩:=HV.out.cells k l hl;cases hve
   rw [<-hnx.cell (p:=⟨b,off+k*4,none⟩) hbb] at c0;rw [<-hnx.cell (p:=⟨b,off+k*4+1,none⟩) hbb] at c1;rw [<-hnx.cell (p:=⟨b,off+k*4+2,none⟩) hbb] at c2;rw [<-hnx.cell (p:=⟨b,off+k*4+3,none⟩) hbb] at c3;have HL:=hide hl;have OW2:=hide hown;clear hl hown;have hki:(0:Int)<=(k:Int):=by omega
   have hkj:(k:Int)<(ls.length:Int):=by omega
   have hto:=Zkm l;unfold thV at hto;have HTO:=hide hto;clear hto
   go_wp2_with fail
   refine (HTO.out _).mono ?_
   rintro e w2 ⟨rfl,b2⟩;have hown2:=Zae OW2.out b2 (Nat.le_refl _);have hex:∀ r,r<4->∃ u,w2.cell? ⟨w.heap.size,k*4+r,none⟩=some u:=fun r hr=>by
    have hj:k*4+r<ls.length*4:=by omega
    rw [hown2.cellAt _ hj];have hln:k*4+r<(flat thE (part ls th0 k)).length:=by rw [hown2.1];exact hj
    exact⟨_,List.getElem?_eq_getElem hln⟩
   obtain⟨u0,d0⟩:=hex 0 (by omega)
   obtain⟨u1,d1⟩:=hex 1 (by omega)
   obtain⟨u2,d2⟩:=hex 2 (by omega)
   obtain⟨u3,d3⟩:=hex 3 (by omega)
   rw [Nat.add_zero] at d0;have f0:=hown2.frozenAt (k*4);have f1:=hown2.frozenAt (k*4+1);have f2:=hown2.frozenAt (k*4+2);have f3:=hown2.frozenAt (k*4+3);have OW3:=hide hown2;clear hown2 hex
   go_wp2
   refine⟨⟨k+1,by omega,by go_num,?_,((((hnx.trans (b2.mono hnx.size)).setCell (Nat.le_refl _) _).setCell (Nat.le_refl _) _).setCell (Nat.le_refl _) _).setCell (Nat.le_refl _) _⟩,by simp [intOf];omega⟩
   have h4:=((((OW3.out.stored (k*4) (.int .i64 l.o)).1.stored (k*4+1) (.int .i64 l.k)).1.stored (k*4+2) (.int .i64 l.c)).1.stored (k*4+3) (.bool l.f)).1;have e4:((((flat thE (part ls th0 k)).set (k*4) (.int .i64 l.o)).set (k*4+1) (.int .i64 l.k)).set (k*4+2) (.int .i64 l.c)).set (k*4+3) (.bool l.f)=flat thE (part ls th0 (k+1)):=by
    rw [<-Zgo ls th0 l k HL.out, <-Zcr ZgC _ _ _ (by rw [Zh5 _ _ _ hk];exact hlt)]
    rfl
   rw [e4] at h4;exact h4
  ·have hkn:k=ls.length:=by omega
   have KN:=hide hkn;have OW2:=hide hown;clear hkn hown
   go_wp2
   go_ret
   refine⟨_,rfl,?_,hnx⟩
   have h:=OW2.out;rw [KN.out,Zh4] at h;exact h
theorem Zjz (v1 v2:Value)(xs ys:List Lk)(w:World)(h1:ZaS w v1 xs w.heap.size)(h2:ZaS w v2 ys w.heap.size)(hn:xs.length<=1048576):
  Calls Tryz.prog 114 #[v1,v2] w fun e w'=>e=.returned (.bool (decide (xs=ys)))/\Below w.heap.size w w':=by
 obtain⟨a1,c1,rfl⟩:=h1.shape;obtain⟨a2,c2,rfl⟩:=h2.shape;by_cases hl:xs.length=ys.length
 ·have K1:=hide h1
  have K2:=hide h2;have HLN:=hide hl;rw [<-hl];clear h1 h2 hl
  go_enter Tryz.func114,Tryz.ntmps114
  go_wp2
  go_loopw [5] (fun i wr=>∃ k:Nat,k<=xs.length/\i=.int .i64 k/\(∀ j,j<k->xs[j]? = ys[j]?)/\Below w.heap.size w wr) (fun i _=>xs.length-(intOf i).toNat)
  case atStart=>exact ⟨0,by omega,rfl,by omega,Below.refl _ _⟩
  case round=>
   obtain⟨k,hk,rfl,hall,hnx⟩:=hrel;have HALL:=hide hall;clear hall;by_cases hlt:k<xs.length
   ·obtain ⟨x,hx⟩:∃ l,xs[k]? = some l:=⟨xs[k],List.getElem?_eq_getElem hlt⟩
    obtain⟨y,hy⟩:∃ l,ys[k]? = some l:=⟨ys[k],List.getElem?_eq_getElem (by have:=HLN.out;omega)⟩
    obtain⟨b1,o1,cp1,hv1,hb1,c0,c1',c2',c3⟩:=K1.out.cells k x hx;obtain⟨b2,o2,cp2,hv2,hb2,d0,d1,d2,d3⟩:=K2.out.cells k y hy;cases hv1
    cases hv2
    rw [<-hnx.cell (p:=⟨b1,o1+k*4,none⟩) hb1] at c0;rw [<-hnx.cell (p:=⟨b1,o1+k*4+1,none⟩) hb1] at c1';rw [<-hnx.cell (p:=⟨b1,o1+k*4+2,none⟩) hb1] at c2';rw [<-hnx.cell (p:=⟨b1,o1+k*4+3,none⟩) hb1] at c3;rw [<-hnx.cell (p:=⟨b2,o2+k*4,none⟩) hb2] at d0;rw [<-hnx.cell (p:=⟨b2,o2+k*4+1,none⟩) hb2] at d1;rw [<-hnx.cell (p:=⟨b2,o2+k*4+2,none⟩) hb2] at d2;rw [<-hnx.cell (p:=⟨b2,o2+k*4+3,none⟩) hb2] at d3;have hzr:=hnx.size;have hb1':b1<wr.heap.size:=by omega
    have hb2':b2<wr.heap.size:=by omega
    have hki:(0:Int)<=(k:Int):=by omega
    have hkj:(k:Int)<(xs.length:Int):=by omega
    have hq:=Zln x y;unfold lkV at hq;obtain⟨q,hqq⟩:∃ q,q=decide (x=y):=⟨_,rfl⟩;rw [<-hqq] at hq;have HQ:=hide hq;have HQQ:=hide hqq;have HX:=hide hx;have HY:=hide hy;clear hq hqq hx hy;cases q
    ·go_wp2
     go_region_held3 (fun W=>W.cell? ⟨b1,o1+k*4,none⟩=some (.int .i64 x.a)/\W.cell? ⟨b1,o1+k*4+1,none⟩=some (.int .i64 x.b)/\W.cell? ⟨b1,o1+k*4+2,none⟩=some (.int .i64 x.c)/\W.cell? ⟨b1,o1+k*4+3,none⟩=some (.int .i64 x.r)/\W.cell? ⟨b2,o2+k*4,none⟩=some (.int .i64 y.a)/\W.cell? ⟨b2,o2+k*4+1,none⟩=some (.int .i64 y.b)/\W.cell? ⟨b2,o2+k*4+2,none⟩=some (.int .i64 y.c)/\W.cell? ⟨b2,o2+k*4+3,none⟩=some (.int .i64 y.r)) (first | go_keep | (refine ⟨?_,?_,?_,?_,?_,?_,?_,?_⟩ <;> (rw [hbc.cell (by assumption)];assumption))) (first | (go_at_call 180;refine (HQ.out _).mono ?_;rintro e w1 ⟨rfl,hbc⟩))
     go_wp2
     go_ret
     exact⟨Zbm (ZoA HX.out HY.out (of_decide_eq_false HQQ.out.symm)),hnx.trans ((Below.refl _ _).drew.trans (hbc.mono hzr))⟩
    ·go_wp2
     go_region_held3 (fun W=>W.cell? ⟨b1,o1+k*4,none⟩=some (.int .i64 x.a)/\W.cell? ⟨b1,o1+k*4+1,none⟩=some (.int .i64 x.b)/\W.cell? ⟨b1,o1+k*4+2,none⟩=some (.int .i64 x.c)/\W.cell? ⟨b1,o1+k*4+3,none⟩=some (.int .i64 x.r)/\W.cell? ⟨b2,o2+k*4,none⟩=some (.int .i64 y.a)/\W.cell? ⟨b2,o2+k*4+1,none⟩=some (.int .i64 y.b)/\W.cell? ⟨b2,o2+k*4+2,none⟩=some (.int .i64 y.c)/\W.cell? ⟨b2,o2+k*4+3,none⟩=some (.int .i64 y.r)) (first | go_keep | (refine ⟨?_,?_,?_,?_,?_,?_,?_,?_⟩ <;> (rw [hbc.cell (by assumption)];assumption))) (first | (go_at_call 180;refine (HQ.out _).mono ?_;rintro e w1 ⟨rfl,hbc⟩))
     go_wp2
     go_roundw
     case rel=>exact ⟨k+1,by omega,by go_num,(fun j hj=>by
      by_cases e:j=k
      ·subst e;rw [HX.out,HY.out,of_decide_eq_true HQQ.out.symm]
      ·exact HALL.out j (by omega)),hnx.trans ((Below.refl _ _).drew.trans (hbc.mono hzr))⟩
     case measure=>simp [intOf];omega
   ·have hkn:k=xs.length:=by omega
    have KN:=hide hkn;clear hkn
    go_wp2
    go_ret
    exact⟨ZbR (ZkC HLN.out (by rw [<-KN.out];exact HALL.out)),hnx⟩
 ·clear h1 h2
  have hd:((xs.length:Int) != (ys.length:Int))=true:=by simp;omega
  go_enter Tryz.func114,Tryz.ntmps114
  go_wp2
  go_ret
  exact⟨Zbm (fun h=>hl (by rw [h])),Below.refl _ _⟩
theorem ZiF (v1 v2:Value)(xs ys:List Th)(w:World)(h1:ZaV w v1 xs w.heap.size)(h2:ZaV w v2 ys w.heap.size)(hn:xs.length<=1048576):
  Calls Tryz.prog 115 #[v1,v2] w fun e w'=>e=.returned (.bool (decide (xs=ys)))/\Below w.heap.size w w':=by
 obtain⟨a1,c1,rfl⟩:=h1.shape;obtain⟨a2,c2,rfl⟩:=h2.shape;by_cases hl:xs.length=ys.length
 ·have K1:=hide h1
  have K2:=hide h2;have HLN:=hide hl;rw [<-hl];clear h1 h2 hl
  go_enter Tryz.func115,Tryz.ntmps115
  go_wp2
  go_loopw [5] (fun i wr=>∃ k:Nat,k<=xs.length/\i=.int .i64 k/\(∀ j,j<k->xs[j]? = ys[j]?)/\Below w.heap.size w wr) (fun i _=>xs.length-(intOf i).toNat)
  case atStart=>exact ⟨0,by omega,rfl,by omega,Below.refl _ _⟩
  case round=>
   obtain⟨k,hk,rfl,hall,hnx⟩:=hrel;have HALL:=hide hall;clear hall;by_cases hlt:k<xs.length
   ·obtain ⟨x,hx⟩:∃ l,xs[k]? = some l:=⟨xs[k],List.getElem?_eq_getElem hlt⟩
    obtain⟨y,hy⟩:∃ l,ys[k]? = some l:=⟨ys[k],List.getElem?_eq_getElem (by have:=HLN.out;omega)⟩
    obtain⟨b1,o1,cp1,hv1,hb1,c0,c1',c2',c3⟩:=K1.out.cells k x hx;obtain⟨b2,o2,cp2,hv2,hb2,d0,d1,d2,d3⟩:=K2.out.cells k y hy;cases hv1
    cases hv2
    rw [<-hnx.cell (p:=⟨b1,o1+k*4,none⟩) hb1] at c0;rw [<-hnx.cell (p:=⟨b1,o1+k*4+1,none⟩) hb1] at c1';rw [<-hnx.cell (p:=⟨b1,o1+k*4+2,none⟩) hb1] at c2';rw [<-hnx.cell (p:=⟨b1,o1+k*4+3,none⟩) hb1] at c3;rw [<-hnx.cell (p:=⟨b2,o2+k*4,none⟩) hb2] at d0;rw [<-hnx.cell (p:=⟨b2,o2+k*4+1,none⟩) hb2] at d1;rw [<-hnx.cell (p:=⟨b2,o2+k*4+2,none⟩) hb2] at d2;rw [<-hnx.cell (p:=⟨b2,o2+k*4+3,none⟩) hb2] at d3;have hzr:=hnx.size;have hb1':b1<wr.heap.size:=by omega
    have hb2':b2<wr.heap.size:=by omega
    have hki:(0:Int)<=(k:Int):=by omega
    have hkj:(k:Int)<(xs.length:Int):=by omega
    have hq:=ZjB x y;unfold thV at hq;obtain⟨q,hqq⟩:∃ q,q=decide (x=y):=⟨_,rfl⟩;rw [<-hqq] at hq;have HQ:=hide hq;have HQQ:=hide hqq;have HX:=hide hx;have HY:=hide hy;clear hq hqq hx hy;cases q
    ·go_wp2
     go_region_held3 (fun W=>W.cell? ⟨b1,o1+k*4,none⟩=some (.int .i64 x.o)/\W.cell? ⟨b1,o1+k*4+1,none⟩=some (.int .i64 x.k)/\W.cell? ⟨b1,o1+k*4+2,none⟩=some (.int .i64 x.c)/\W.cell? ⟨b1,o1+k*4+3,none⟩=some (.bool x.f)/\W.cell? ⟨b2,o2+k*4,none⟩=some (.int .i64 y.o)/\W.cell? ⟨b2,o2+k*4+1,none⟩=some (.int .i64 y.k)/\W.cell? ⟨b2,o2+k*4+2,none⟩=some (.int .i64 y.c)/\W.cell? ⟨b2,o2+k*4+3,none⟩=some (.bool y.f)) (first | go_keep | (refine ⟨?_,?_,?_,?_,?_,?_,?_,?_⟩ <;> (rw [hbc.cell (by assumption)];assumption))) (first | (go_at_call 181;refine (HQ.out _).mono ?_;rintro e w1 ⟨rfl,hbc⟩))
     go_wp2
     go_ret
     exact⟨Zbm (ZoA HX.out HY.out (of_decide_eq_false HQQ.out.symm)),hnx.trans ((Below.refl _ _).drew.trans (hbc.mono hzr))⟩
    ·go_wp2
     go_region_held3 (fun W=>W.cell? ⟨b1,o1+k*4,none⟩=some (.int .i64 x.o)/\W.cell? ⟨b1,o1+k*4+1,none⟩=some (.int .i64 x.k)/\W.cell? ⟨b1,o1+k*4+2,none⟩=some (.int .i64 x.c)/\W.cell? ⟨b1,o1+k*4+3,none⟩=some (.bool x.f)/\W.cell? ⟨b2,o2+k*4,none⟩=some (.int .i64 y.o)/\W.cell? ⟨b2,o2+k*4+1,none⟩=some (.int .i64 y.k)/\W.cell? ⟨b2,o2+k*4+2,none⟩=some (.int .i64 y.c)/\W.cell? ⟨b2,o2+k*4+3,none⟩=some (.bool y.f)) (first | go_keep | (refine ⟨?_,?_,?_,?_,?_,?_,?_,?_⟩ <;> (rw [hbc.cell (by assumption)];assumption))) (first | (go_at_call 181;refine (HQ.out _).mono ?_;rintro e w1 ⟨rfl,hbc⟩))
     go_wp2
     go_roundw
     case rel=>exact ⟨k+1,by omega,by go_num,(fun j hj=>by
      by_cases e:j=k
      ·subst e;rw [HX.out,HY.out,of_decide_eq_true HQQ.out.symm]
      ·exact HALL.out j (by omega)),hnx.trans ((Below.refl _ _).drew.trans (hbc.mono hzr))⟩
     case measure=>simp [intOf];omega
   ·have hkn:k=xs.length:=by omega
    have KN:=hide hkn;clear hkn
    go_wp2
    go_ret
    exact⟨ZbR (ZkC HLN.out (by rw [<-KN.out];exact HALL.out)),hnx⟩
 ·clear h1 h2
  have hd:((xs.length:Int) != (ys.length:Int))=true:=by simp;omega
  go_enter Tryz.func115,Tryz.ntmps115
  go_wp2
  go_ret
  exact⟨Zbm (fun h=>hl (by rw [h])),Below.refl _ _⟩
abbrev RP:=RecD × Value
def encP (p:RP):List Value:=[.int .i64 p.1.area,.int .i64 p.1.kind,.int .i64 p.1.owner,.int .i64 p.1.key,.int .i64 p.1.seq,p.2,.int .i64 p.1.cost,.bool p.1.far]
theorem Zav (p:RP):(encP p).length=8:=rfl
def Za6:RecD:=⟨0,0,0,0,0,[],0,false⟩
def Zbn (W:World)(v:Value)(ps:List RP)(B:Nat):Prop:=ZaN encP 8 W v ps B/\∀ p∈ps,ZaC W p.2 p.1.near B
theorem Zbn.shape {W:World}{v:Value}{ps:List RP}{B:Nat}(h:Zbn W v ps B):∃ a cap,v=.slice a ps.length cap:=by
 obtain⟨⟨a,cap,h,_⟩,_⟩:=h;exact⟨a,cap,h⟩
theorem Zbn.later {W W':World}{v:Value}{ps:List RP}{B C:Nat}(h:Zbn W v ps B)(hb:Below C W W')(hBC:B<=C):Zbn W' v ps B:=
 ⟨ZaE.later h.1 hb hBC,fun p hp=>ZaE.later (h.2 p hp) hb hBC⟩
theorem Zbn.more {W:World}{v:Value}{ps:List RP}{B C:Nat}(h:Zbn W v ps B)(hBC:B<=C):Zbn W v ps C:=
 ⟨ZaE.more h.1 hBC,fun p hp=>ZaE.more (h.2 p hp) hBC⟩
theorem Zbn.then {W W':World}{v:Value}{ps:List RP}(h:Zbn W v ps W.heap.size)(hb:Below W.heap.size W W'):Zbn W' v ps W'.heap.size:=(h.later hb (Nat.le_refl _)).more hb.size
theorem Zbn.cells {W:World}{v:Value}{ps:List RP}{B:Nat}(h:Zbn W v ps B)(i:Nat)(p:RP)(hp:ps[i]? = some p):
  ∃ b off cap,v=.slice (some ⟨b,off,none⟩) ps.length cap/\b<B/\W.cell? ⟨b,off+i*8,none⟩=some (.int .i64 p.1.area)/\W.cell? ⟨b,off+i*8+1,none⟩=some (.int .i64 p.1.kind)/\W.cell? ⟨b,off+i*8+2,none⟩=some (.int .i64 p.1.owner)/\W.cell? ⟨b,off+i*8+3,none⟩=some (.int .i64 p.1.key)/\W.cell? ⟨b,off+i*8+4,none⟩=some (.int .i64 p.1.seq)/\W.cell? ⟨b,off+i*8+5,none⟩=some p.2/\W.cell? ⟨b,off+i*8+6,none⟩=some (.int .i64 p.1.cost)/\W.cell? ⟨b,off+i*8+7,none⟩=some (.bool p.1.far)/\ZaC W p.2 p.1.near B:=by
 obtain⟨b,off,cap,hv,hb,hc⟩:=ZaN.cell h.1 Zav i p hp;exact⟨b,off,cap,hv,hb,hc 0 _ rfl,hc 1 _ rfl,hc 2 _ rfl,hc 3 _ rfl,hc 4 _ rfl,hc 5 _ rfl,hc 6 _ rfl,hc 7 _ rfl,h.2 p (List.mem_of_getElem? hp)⟩
def ZaD (W:World)(lo hi:Nat)(p:RP):Prop:=W.ownsRow lo 107 2 p.2 p.1.near.length (flat nrE p.1.near)/\∀ k,p.2.ownBlock=some k->k<hi
def Zd4 (p q:RP):Prop:=∀ k,p.2.ownBlock=some k->q.2.ownBlock≠some k
structure RecsOwn (W:World) (lo hi:Nat) (v:Value) (ps:List RP):Prop where
 row:W.ownsRow lo 39 8 v ps.length (flat encP ps)
 top:∀ k,v.ownBlock=some k->k<hi
 nears:∀ p∈ps,ZaD W lo hi p
 apart:ps.Pairwise Zd4
theorem Zan {W W':World}{base size:Nat}{e:TypeId}{v:Value}{n:Nat}{xs:List Value}(h:W.ownsRow base e size v n xs)(hk:∀ k,v.ownBlock=some k->W'.heap[k]? = W.heap[k]?):W'.ownsRow base e size v n xs:=by
 refine⟨h.1,?_⟩
 rcases h.2 with h2 | ⟨g,cap,cur,hv,hg,hh,r⟩
 ·exact .inl h2
 ·exact .inr ⟨g,cap,cur,hv,hg,by rw [hk g (by rw [hv];rfl)];exact hh,r⟩
theorem ZaD.keep {W W':World}{lo hi:Nat}{p:RP}(h:ZaD W lo hi p)(hk:∀ k,lo<=k->k<hi->k<W.heap.size->W'.heap[k]? = W.heap[k]?):ZaD W' lo hi p:=
 ⟨Zan h.1 (fun k e=>hk k (h.1.lt k e).1 (h.2 k e) (h.1.lt k e).2),h.2⟩
theorem ZaD.wide {W:World}{lo hi lo' hi':Nat}{p:RP}(h:ZaD W lo hi p)(hl:lo'<=lo)(hh:hi<=hi'):ZaD W lo' hi' p:=
 ⟨Zaj h.1 hl,fun k e=>Nat.lt_of_lt_of_le (h.2 k e) hh⟩
theorem ZaD.at {W:World}{lo hi:Nat}{p:RP}(h:ZaD W lo hi p):ZaC W p.2 p.1.near hi:=by
 have h1:=Zap h.1;obtain⟨a,cap,hv,h2⟩:=h1;refine⟨a,cap,hv,?_⟩
 rcases h2 with h0 | ⟨b,off,ha,hb1,hx⟩
 ·exact .inl h0
 ·exact .inr ⟨b,off,ha,h.2 b (by rw [hv,ha];rfl),hx⟩
theorem RecsOwn.keep {W W':World}{lo hi:Nat}{v:Value}{ps:List RP}(h:RecsOwn W lo hi v ps)(hk:∀ k,lo<=k->k<hi->k<W.heap.size->W'.heap[k]? = W.heap[k]?):RecsOwn W' lo hi v ps where
 row:=Zan h.row (fun k e=>hk k (h.row.lt k e).1 (h.top k e) (h.row.lt k e).2)
 top:=h.top
 nears:=fun p hp=>(h.nears p hp).keep hk
 apart:=h.apart
theorem RecsOwn.below {W W':World}{lo hi B:Nat}{v:Value}{ps:List RP}(h:RecsOwn W lo hi v ps)(hb:Below B W W')(hB:hi<=B):RecsOwn W' lo hi v ps:=h.keep (fun k _ h2 _=>hb.block k (by omega))
theorem RecsOwn.wide {W:World}{lo hi lo' hi':Nat}{v:Value}{ps:List RP}(h:RecsOwn W lo hi v ps)(hl:lo'<=lo)(hh:hi<=hi'):RecsOwn W lo' hi' v ps where
 row:=Zaj h.row hl
 top:=fun k e=>Nat.lt_of_lt_of_le (h.top k e) hh
 nears:=fun p hp=>(h.nears p hp).wide hl hh
 apart:=h.apart
theorem RecsOwn.at {W:World}{lo hi:Nat}{v:Value}{ps:List RP}(h:RecsOwn W lo hi v ps):Zbn W v ps hi:=by
 refine⟨?_,fun p hp=>(h.nears p hp).at⟩
 have h1:=Zap h.row;obtain⟨a,cap,hv,h2⟩:=h1;refine⟨a,cap,hv,?_⟩
 rcases h2 with h0 | ⟨b,off,ha,hb1,hx⟩
 ·exact .inl h0
 ·exact .inr ⟨b,off,ha,h.top b (by rw [hv,ha];rfl),hx⟩
structure Frame (lo hi:Nat) (w w':World):Prop where
 os:w'.os=w.os
 tape:w'.tape=w.tape
 output:w'.output=w.output
 size:w.heap.size<=w'.heap.size
 block:∀ k,k<w.heap.size->(k<lo\/hi<=k)->w'.heap[k]? = w.heap[k]?
theorem Frame.refl (lo hi:Nat)(w:World):Frame lo hi w w:=⟨rfl,rfl,rfl,Nat.le_refl _,fun _ _ _=>rfl⟩
theorem Frame.trans {lo hi:Nat}{a b c:World}(h:Frame lo hi a b)(k:Frame lo hi b c):Frame lo hi a c:=
 ⟨k.os.trans h.os,k.tape.trans h.tape,k.output.trans h.output,Nat.le_trans h.size k.size,fun i hi hr=>(k.block i (Nat.lt_of_lt_of_le hi h.size) hr).trans (h.block i hi hr)⟩
theorem Frame.grown {lo hi:Nat}{a b:World}{row:Option Nat}(g:a.grownBy b row)(hr:∀ k,row=some k->lo<=k/\k<hi):Frame lo hi a b:=
 ⟨g.os,g.tape,g.output,g.size,fun k hk hh=>g.block k hk (fun e=>by have:=hr k e.symm;omega)⟩
theorem Frame.set {lo hi:Nat}(w:World)(p j:Nat)(u:Value)(h1:lo<=p)(h2:p<hi):Frame lo hi w (w.setCell ⟨p,j,none⟩ u):=Frame.grown (Zaq w p j u) (fun k e=>by simp at e;omega)
theorem Frame.below {lo hi:Nat}{w w':World}(h:Frame lo hi w w')(hw:lo<=w.heap.size):Below lo w w':=(Below.refl _ _).trans ⟨h.os,h.tape,h.output,h.size,fun k hk=>h.block k (by omega) (.inl hk)⟩
theorem RecsOwn.frame {W W':World}{lo hi l2 h2:Nat}{v:Value}{ps:List RP}(h:RecsOwn W lo hi v ps)(hb:Frame l2 h2 W W')(hB:hi<=l2\/h2<=lo):RecsOwn W' lo hi v ps:=h.keep (fun k h1 h2 h3=>hb.block k h3 (by omega))
abbrev putP (W:World) (g o:Nat) (p:RP):World:=(((((((W.setCell ⟨g,o,none⟩ (.int .i64 p.1.area)).setCell ⟨g,o+1,none⟩ (.int .i64 p.1.kind)).setCell ⟨g,o+2,none⟩ (.int .i64 p.1.owner)).setCell ⟨g,o+3,none⟩ (.int .i64 p.1.key)).setCell ⟨g,o+4,none⟩ (.int .i64 p.1.seq)).setCell ⟨g,o+5,none⟩ p.2).setCell ⟨g,o+6,none⟩ (.int .i64 p.1.cost)).setCell ⟨g,o+7,none⟩ (.bool p.1.far)
theorem Zd1 (W:World)(g o:Nat)(p:RP):W.grownBy (putP W g o p) (some g):=
 Zah (Zah (Zah (Zah (Zah (Zah (Zah (Zaq W g _ _) (Zaq _ g _ _)) (Zaq _ g _ _)) (Zaq _ g _ _)) (Zaq _ g _ _)) (Zaq _ g _ _)) (Zaq _ g _ _)) (Zaq _ g _ _)
theorem Znq {W:World}{base g cap n j:Nat}{xs:List RP}{p:RP}(h:W.ownsRow base 39 8 (.slice (some ⟨g,0,none⟩) n cap) n (flat encP xs))(hj:j<xs.length):
  (putP W g (j*8) p).ownsRow base 39 8 (.slice (some ⟨g,0,none⟩) n cap) n (flat encP (xs.set j p)):=by
 have e:(((((((((flat encP xs).set (j*8) (.int .i64 p.1.area)).set (j*8+1) (.int .i64 p.1.kind)).set (j*8+2) (.int .i64 p.1.owner)).set (j*8+3) (.int .i64 p.1.key)).set (j*8+4) (.int .i64 p.1.seq)).set (j*8+5) p.2).set (j*8+6) (.int .i64 p.1.cost)).set (j*8+7) (.bool p.1.far))=flat encP (xs.set j p):=Zcr Zav xs j p hj;rw [<-e];exact ((((((((h.stored (j*8) _).1.stored (j*8+1) _).1.stored (j*8+2) _).1.stored (j*8+3) _).1.stored (j*8+4) _).1.stored (j*8+5) _).1.stored (j*8+6) _).1.stored (j*8+7) _).1
theorem Zml {W:World}{lo hi:Nat}{ps:List RP}{p:RP}(h:ps.Pairwise Zd4)(hn:∀ q∈ps,ZaD W lo hi q)(hp:∀ k,p.2.ownBlock=some k->hi<=k):(ps++[p]).Pairwise Zd4:=by
 rw [List.pairwise_append];refine⟨h,by simp,?_⟩
 intro a ha b hb;have:b=p:=by simpa using hb
 subst this;intro k hk he;have h1:=(hn a ha).2 k hk;have h2:=hp k he;omega
def tot (ps:List RP):Nat:=(ps.map (fun p=>1+p.1.near.length)).sum
theorem Zb9 (p:RP)(ps:List RP):tot (p::ps)=1+p.1.near.length+tot ps:=by simp [tot]
theorem ZcE (a b:List RP):tot (a++b)=tot a+tot b:=by simp [tot]
theorem Zbh (ps:List RP):ps.length<=tot ps:=by
 induction ps with
 | nil=>simp [tot]
 | cons p ps ih=>rw [Zb9,List.length_cons];omega
theorem ZdN {ps:List RP}{p:RP}(h:p∈ps):p.1.near.length<=tot ps:=by
 induction ps with
 | nil=>simp at h
 | cons q ps ih=>
  rw [Zb9]
  rcases List.mem_cons.1 h with rfl | h1
  ·omega
  ·have:=ih h1;omega
theorem Zp2 {ps qs:List RP}(h:ps.map (·.1)=qs.map (·.1)):tot ps=tot qs:=by
 have e:∀ l:List RP,tot l=((l.map (·.1)).map (fun x=>1+x.near.length)).sum:=fun l=>by simp [tot,List.map_map,Function.comp_def]
 rw [e,e,h]
theorem map_take {ps:List RP}{k:Nat}{p:RP}(h:ps[k]? = some p):(ps.take (k+1)).map (·.1)=(ps.take k).map (·.1)++[p.1]:=by
 obtain⟨hk,e⟩:=List.getElem?_eq_some_iff.1 h;rw [List.take_succ_eq_append_getElem hk,List.map_append,e]
 rfl
def keyC (x:RecD):Array Value:=#[.int .i64 x.area,.int .i64 x.kind,.int .i64 x.owner,.int .i64 x.key]
theorem Zm2 (v1:Value)(x:RecD)(w:World):Calls Tryz.prog 187 #[.agg (recC x v1)] w fun e w'=>e=.returned (.agg (keyC x))/\Below w.heap.size w w':=by
 obtain⟨a0,a1,a2,a3,a4,ns,a6,a7⟩:=x;unfold recC keyC;simp only []
 go_enter Tryz.func187,Tryz.ntmps187
 go_wp2
 go_returns
 exact⟨rfl,Zas _ _⟩
theorem Zm3 (a0 a1 a2 a3 a4:Int)(v:Value)(a6:Int)(a7:Bool)(w:World):Calls Tryz.prog 187 #[.agg #[.int .i64 a0,.int .i64 a1,.int .i64 a2,.int .i64 a3,.int .i64 a4,v,.int .i64 a6,.bool a7]] w fun e w'=>e=.returned (.agg #[.int .i64 a0,.int .i64 a1,.int .i64 a2,.int .i64 a3])/\Below w.heap.size w w':=
 Zm2 v ⟨a0,a1,a2,a3,a4,[],a6,a7⟩ w
def ZaX (x:RecD):Bool:=inB x.owner 1 6&&inB x.seq 1 100000 &&
 (if x.kind=1 then inB x.area 0 2&&x.key==0&&Zbi x.owner x.near&&x.cost==0 && !x.far
  else if x.kind=2 then inB x.area 0 2&&inB x.key 1 6&&x.near.length==0&&inB x.cost 0 60000 && !x.far
  else if x.kind=3 then x.area==9&&inB x.key 1 9&&x.near.length==0&&(inB x.cost 1 1000||x.cost==60000)
  else false)
theorem Zl7 (v1:Value)(x:RecD)(w:World)(hl:x.near.length<=1048576)(hv:ZaC w v1 x.near w.heap.size):
  Calls Tryz.prog 94 #[.agg (recC x v1)] w fun e w'=>e=.returned (.bool (ZaX x))/\Below w.heap.size w w':=by
 obtain⟨p1,c1,rfl⟩:=hv.shape;have HN:=hide (fun W (h:Below w.heap.size w W)=>ZnC (.slice p1 x.near.length c1) x W hl (hv.then h))
 obtain⟨R,hR⟩:∃ R,R=ZaX x:=⟨_,rfl⟩;rw [<-hR];obtain⟨qn,hqn⟩:∃ q,q=Zbi x.owner x.near:=⟨_,rfl⟩;rw [<-hqn] at HN;unfold ZaX at hR;rw [<-hqn] at hR;obtain⟨area,kind,owner,key,seq,ns,cost,far⟩:=x;unfold recC at HN |-;simp only [] at HN hR hl hv |-
 have hnew:=heap_alloc_new w (.cells #[.int .i64 area,.int .i64 kind,.int .i64 owner,.int .i64 key,.int .i64 seq,.slice p1 ns.length c1,.int .i64 cost,.bool far] 39);have B0:Below w.heap.size w (w.alloc (.cells #[.int .i64 area,.int .i64 kind,.int .i64 owner,.int .i64 key,.int .i64 seq,.slice p1 ns.length c1,.int .i64 cost,.bool far] 39)):=(Below.refl _ _).alloc (Nat.le_refl _) _;have H1:=hide (ZbO owner 1 6);have H2:=hide (ZbO seq 1 100000);obtain⟨q1,hq1⟩:∃ q,q=inB owner 1 6:=⟨_,rfl⟩;obtain⟨q2,hq2⟩:∃ q,q=inB seq 1 100000:=⟨_,rfl⟩;rw [<-hq1] at H1 hR;rw [<-hq2] at H2 hR;have NEW:=hide hnew;have HR:=hide hR;have HL:=hide hl;clear hnew hR hq1 hq2 hqn hv hl
 go_enter Tryz.func94,Tryz.ntmps94
 go_wp2_with fail
 refine (H1.out _).mono ?_
 rintro e w1 ⟨rfl,rfl⟩;cases q1
 ·go_wp2
  go_ret
  exact⟨Zai (by rw [HR.out];rfl),B0⟩
 go_wp2_with fail
 refine (H2.out _).mono ?_
 rintro e w1 ⟨rfl,rfl⟩;cases q2
 ·go_wp2
  go_ret
  exact⟨Zai (by rw [HR.out];rfl),B0⟩
 clear H1 H2;by_cases hk1:kind=1
 ·subst hk1
  have HR2:=hide (show R=(inB area 0 2&&key==0&&qn&&cost==0 && !far) by have:=HR.out;simpa using this)
  have H3:=hide (ZbO area 0 2);obtain⟨q3,hq3⟩:∃ q,q=inB area 0 2:=⟨_,rfl⟩;rw [<-hq3] at H3 HR2;clear hq3 HR
  go_wp2_with fail
  refine (H3.out _).mono ?_
  rintro e w1 ⟨rfl,rfl⟩;cases q3
  ·go_wp2
   go_ret
   exact⟨Zai (by rw [HR2.out];rfl),B0⟩
  by_cases hkey:key=0
  case neg=>
   have hd:(key==0)=false:=by simpa using hkey
   rw [hd] at HR2
   go_wp2
   go_ret
   exact⟨Zai (by rw [HR2.out];rfl),B0⟩
  subst hkey
  go_wp2_with fail
  refine (HN.out _ B0).mono ?_
  rintro e w2 ⟨rfl,b2⟩;have hx2:w2.heap[w.heap.size]? = some (.cells #[.int .i64 area,.int .i64 1,.int .i64 owner,.int .i64 0,.int .i64 seq,.slice p1 ns.length c1,.int .i64 cost,.bool far] 39):=by rw [b2.block _ (by simp)];exact NEW.out
  have f6:=Zaa hx2 6;have f7:=Zaa hx2 7;simp at f6 f7
  have B2:=B0.trans (b2.mono B0.size);clear hx2 b2 NEW B0;cases qn
  ·go_wp2
   go_ret
   exact⟨Zai (by rw [HR2.out];rfl),B2⟩
  by_cases hco:cost=0
  case neg=>
   have hd:(cost==0)=false:=by simpa using hco
   rw [hd] at HR2
   go_wp2
   go_ret
   exact⟨Zai (by rw [HR2.out];rfl),B2⟩
  subst hco;cases far
  ·go_wp2
   go_ret
   exact⟨Zai (by rw [HR2.out];rfl),B2⟩
  ·go_wp2
   go_ret
   exact⟨Zai (by rw [HR2.out];rfl),B2⟩
 have k1:(kind==1)=false:=by simpa using hk1
 by_cases hk2:kind=2
 ·subst hk2
  have HR2:=hide (show R=(inB area 0 2&&inB key 1 6&&ns.length==0&&inB cost 0 60000 && !far) by have:=HR.out;simpa using this)
  have H3:=hide (ZbO area 0 2);obtain⟨q3,hq3⟩:∃ q,q=inB area 0 2:=⟨_,rfl⟩;rw [<-hq3] at H3 HR2;have H4:=hide (ZbO key 1 6);obtain⟨q4,hq4⟩:∃ q,q=inB key 1 6:=⟨_,rfl⟩;rw [<-hq4] at H4 HR2;have H5:=hide (ZbO cost 0 60000);obtain⟨q5,hq5⟩:∃ q,q=inB cost 0 60000:=⟨_,rfl⟩;rw [<-hq5] at H5 HR2;clear hq3 hq4 hq5 HR hk1 k1
  go_wp2_with fail
  refine (H3.out _).mono ?_
  rintro e w1 ⟨rfl,rfl⟩;cases q3
  ·go_wp2
   go_ret
   exact⟨Zai (by rw [HR2.out];rfl),B0⟩
  go_wp2_with fail
  refine (H4.out _).mono ?_
  rintro e w1 ⟨rfl,rfl⟩;cases q4
  ·go_wp2
   go_ret
   exact⟨Zai (by rw [HR2.out];rfl),B0⟩
  by_cases hn0:ns.length=0
  case neg=>
   have hd:((ns.length:Int)==0)=false:=by simp;intro h;rw [h] at hn0;exact hn0 rfl
   have hR2:R=false:=by rw [HR2.out,show (ns.length==0)=false by simpa using hn0];rfl
   have HR3:=hide hR2;clear hR2 hn0 HR2
   go_wp2
   go_ret
   exact⟨Zai HR3.out,B0⟩
  have hd:((ns.length:Int)==0)=true:=by simp;exact List.length_eq_zero_iff.1 hn0
  have HR3:=hide (show R=(q5 && !far) by have:=HR2.out;rw [show (ns.length==0)=true by simpa using hn0] at this;simpa using this)
  clear hn0 HR2
  go_wp2_with fail
  refine (H5.out _).mono ?_
  rintro e w1 ⟨rfl,rfl⟩;cases q5
  ·go_wp2
   go_ret
   exact⟨Zai (by rw [HR3.out];rfl),B0⟩
  cases far
  ·go_wp2
   go_ret
   exact⟨Zai (by rw [HR3.out];rfl),B0⟩
  ·go_wp2
   go_ret
   exact⟨Zai (by rw [HR3.out];rfl),B0⟩
 have k2:(kind==2)=false:=by simpa using hk2
 by_cases hk3:kind=3
 ·subst hk3
  have HR2:=hide (show R=(area==9&&inB key 1 9&&ns.length==0&&(inB cost 1 1000||cost==60000)) by have:=HR.out;simpa using this)
  have H4:=hide (ZbO key 1 9);obtain⟨q4,hq4⟩:∃ q,q=inB key 1 9:=⟨_,rfl⟩;rw [<-hq4] at H4 HR2;have H5:=hide (ZbO cost 1 1000);obtain⟨q5,hq5⟩:∃ q,q=inB cost 1 1000:=⟨_,rfl⟩;rw [<-hq5] at H5 HR2;clear hq4 hq5 HR hk1 k1 hk2 k2;by_cases ha:area=9
  case neg=>
   have hd:(area==9)=false:=by simpa using ha
   rw [hd] at HR2
   go_wp2
   go_ret
   exact⟨Zai (by rw [HR2.out];rfl),B0⟩
  subst ha
  go_wp2_with fail
  refine (H4.out _).mono ?_
  rintro e w1 ⟨rfl,rfl⟩;cases q4
  ·go_wp2
   go_ret
   exact⟨Zai (by rw [HR2.out];rfl),B0⟩
  by_cases hn0:ns.length=0
  case neg=>
   have hd:((ns.length:Int)==0)=false:=by simp;intro h;rw [h] at hn0;exact hn0 rfl
   have hR2:R=false:=by rw [HR2.out,show (ns.length==0)=false by simpa using hn0];rfl
   have HR3:=hide hR2;clear hR2 hn0 HR2
   go_wp2
   go_ret
   exact⟨Zai HR3.out,B0⟩
  have hd:((ns.length:Int)==0)=true:=by simp;exact List.length_eq_zero_iff.1 hn0
  have HR3:=hide (show R=(q5||cost==60000) by have:=HR2.out;rw [show (ns.length==0)=true by simpa using hn0] at this;simpa using this)
  clear hn0 HR2
  go_wp2_with fail
  refine (H5.out _).mono ?_
  rintro e w1 ⟨rfl,rfl⟩;cases q5
  ·go_wp2
   go_ret
   exact⟨Zai (by rw [HR3.out];rfl),B0⟩
  ·go_wp2
   go_ret
   exact⟨Zai (by rw [HR3.out];rfl),B0⟩
 have k3:(kind==3)=false:=by simpa using hk3
 have hR2:R=false:=by rw [HR.out,if_neg hk1,if_neg hk2,if_neg hk3];rfl
 have HR2:=hide hR2;clear hR2 HR hk1 hk2 hk3
 go_wp2
 go_ret
 exact⟨Zai HR2.out,B0⟩
def Zfa (p l:Nr):Int:=cmpN p.to l.to
theorem Zpu (ls:List Nr):ascB Zfa ls=ascB ordN ls:=by
 unfold ascB
 congr 1
 funext k
 cases k with
 | zero=>rfl
 | succ k=>
  simp only [Zb0]
  split
  ·rename_i p l _ _
   have h:(Zfa p l<0)↔(ordN p l<0):=by
    unfold Zfa ordN;rw [Zdh];omega
   exact decide_eq_decide.2 h
  ·rfl
theorem Zh2 (l m:Nr)(w:World):Calls Tryz.prog 259 #[nrV l,nrV m] w fun e w'=>e=.returned (.int .i64 (Zfa l m))/\Below w.heap.size w w':=by
 obtain⟨a,b⟩:=l;obtain⟨a',b'⟩:=m;unfold nrV Zfa;simp only []
 have H:=hide (ZbN a a')
 go_enter Tryz.func259,Tryz.ntmps259
 go_wp2_with fail
 refine (H.out _).mono ?_
 rintro e w1 ⟨rfl,rfl⟩
 go_wp2
 go_ret
 exact⟨rfl,Zas _ _⟩
theorem Zjs (v:Value)(ls:List Nr)(w:World)(hls:ls.length<=1048576)(hv:ZaC w v ls w.heap.size):
  Calls Tryz.prog 258 #[v,.func (.func 259) #[] #[]] w fun e w'=>e=.returned (.bool (ascB Zfa ls))/\Below w.heap.size w w':=by
 obtain⟨a,cap,rfl⟩:=hv.shape;have HV:=hide hv;clear hv
 go_enter Tryz.func258,Tryz.ntmps258
 go_wp2
 go_loopw [5] (fun i wr=>∃ k:Nat,1<=k/\(k<=ls.length\/k=1)/\i=.int .i64 k/\(∀ j,j<k->Zb0 Zfa ls j=true)/\Below w.heap.size w wr) (fun i _=>ls.length+1-(intOf i).toNat)
 case atStart=>exact ⟨1,by omega,by omega,rfl,fun j hj=>by (obtain rfl:j=0:=by omega);rfl,Below.refl _ _⟩
 case round=>
  obtain⟨k,hk1,hk,rfl,hno,hb⟩:=hrel;have HNO:=hide hno;clear hno;by_cases hlt:k<ls.length
  ·obtain ⟨l,hl⟩:∃ l,ls[k]? = some l:=⟨ls[k],List.getElem?_eq_getElem hlt⟩
   obtain⟨j,hj⟩:∃ j,k=j+1:=⟨k-1,by omega⟩
   obtain⟨p,hp⟩:∃ p,ls[j]? = some p:=⟨ls[j],List.getElem?_eq_getElem (by omega)⟩
   obtain⟨b,off,cap',hve,hbb,c0,c1⟩:=HV.out.cells k l hl;cases hve
   obtain⟨b',off',cap2,hve2,hbb2,d0,d1⟩:=HV.out.cells j p hp;cases hve2
   rw [<-hb.cell (p:=⟨b,off+k*2,none⟩) hbb] at c0;rw [<-hb.cell (p:=⟨b,off+k*2+1,none⟩) hbb] at c1;rw [<-hb.cell (p:=⟨b,off+j*2,none⟩) hbb] at d0;rw [<-hb.cell (p:=⟨b,off+j*2+1,none⟩) hbb] at d1;have hat:Zb0 Zfa ls k=decide (Zfa p l<0):=by rw [hj];exact ZbW hp (by rw [<-hj];exact hl)
   have hzr:=hb.size;have hbr:b<wr.heap.size:=by omega
   have hki:(0:Int)<=(k:Int):=by omega
   have hkj:(k:Int)<(ls.length:Int):=by omega
   have hj1:(k:Int)-1=(j:Int):=by omega
   have hj2:(0:Int)<=(j:Int):=by omega
   have hj3:(j:Int)<(ls.length:Int):=by omega
   have hj5:IntKind.i64.wrap (j:Int)=(j:Int):=ZaK _ (by omega) (by omega)
   have HORD:=hide (Zh2 p l);have HAT:=hide hat;have HJ:=hide hj;clear hl hp hat hj;obtain⟨x,hx⟩:∃ x,x=Zfa p l:=⟨_,rfl⟩;rw [<-hx] at HORD HAT;clear hx;unfold nrV at HORD;by_cases hx0:x<0
   ·have hx1:¬(0:Int)<=x:=by omega
    rw [decide_eq_true hx0] at HAT
    go_wp2
    go_region_held3 (fun W=>W.cell? ⟨b,off+k*2,none⟩=some (.int .i64 l.to)/\W.cell? ⟨b,off+k*2+1,none⟩=some (.int .i64 l.c)/\W.cell? ⟨b,off+j*2,none⟩=some (.int .i64 p.to)/\W.cell? ⟨b,off+j*2+1,none⟩=some (.int .i64 p.c)) (first | go_keep | (refine ⟨?_,?_,?_,?_⟩ <;> (rw [hbc.cell (by assumption)];assumption))) (first | (go_at_call 259;refine (HORD.out _).mono ?_;rintro e w2 ⟨rfl,hbc⟩))
    go_wp2
    exact⟨⟨k+1,by omega,by omega,by go_num,ZaO HNO.out HAT.out,hb.drew.trans (hbc.mono hb.size)⟩,by simp [intOf];omega⟩
   ·have hx1:(0:Int)<=x:=by omega
    rw [decide_eq_false hx0] at HAT;have hf:ascB Zfa ls=false:=ZaT hlt HAT.out;have HF:=hide hf;clear hf
    go_wp2
    go_region_held3 (fun W=>W.cell? ⟨b,off+k*2,none⟩=some (.int .i64 l.to)/\W.cell? ⟨b,off+k*2+1,none⟩=some (.int .i64 l.c)/\W.cell? ⟨b,off+j*2,none⟩=some (.int .i64 p.to)/\W.cell? ⟨b,off+j*2+1,none⟩=some (.int .i64 p.c)) (first | go_keep | (refine ⟨?_,?_,?_,?_⟩ <;> (rw [hbc.cell (by assumption)];assumption))) (first | (go_at_call 259;refine (HORD.out _).mono ?_;rintro e w2 ⟨rfl,hbc⟩))
    go_wp2
    go_ret
    exact⟨Zai HF.out,hb.drew.trans (hbc.mono hb.size)⟩
  ·have hall:ascB Zfa ls=true:=Za9 fun i hi=>HNO.out i (by omega)
   have HA:=hide hall;clear hall
   go_wp2
   go_ret
   exact⟨Zai HA.out,hb⟩
theorem ZmT (o:Int)(v:Value)(ls:List Nr)(w:World)(hls:ls.length<=1048576)(hv:ZaC w v ls w.heap.size):
  Calls Tryz.prog 233 #[.int .i64 o,v] w fun e w'=>e=.returned (.bool (Zbi o ls))/\Below w.heap.size w w':=by
 obtain⟨a,cap,rfl⟩:=hv.shape;have HV:=hide hv;clear hv
 go_enter Tryz.func233,Tryz.ntmps233
 go_wp2
 go_loopw [9] (fun i wr=>∃ k:Nat,k<=ls.length/\i=.int .i64 k/\(∀ j,j<k->okAt (Zch o) ls j=true)/\Below w.heap.size w wr) (fun i _=>ls.length-(intOf i).toNat)
 case atStart=>exact ⟨0,by omega,rfl,by omega,Below.refl _ _⟩
 case round=>
  obtain⟨k,hk,rfl,hno,hb⟩:=hrel;have HNO:=hide hno;clear hno;by_cases hlt:k<ls.length
  ·obtain ⟨l,hl⟩:∃ l,ls[k]? = some l:=⟨ls[k],List.getElem?_eq_getElem hlt⟩
   obtain⟨b,off,cap',hve,hbb,c0,c1⟩:=HV.out.cells k l hl;cases hve
   rw [<-hb.cell (p:=⟨b,off+k*2,none⟩) hbb] at c0;rw [<-hb.cell (p:=⟨b,off+k*2+1,none⟩) hbb] at c1;have hki:(0:Int)<=(k:Int):=by omega
   have hkj:(k:Int)<(ls.length:Int):=by omega
   have HAT:=hide (Zck (ok:=Zch o) hl);obtain⟨lt,lc⟩:=l;simp only [Zch] at HAT c0 c1
   obtain⟨q1,hq1⟩:∃ q,q=inB lt 1 6:=⟨_,rfl⟩;obtain⟨q3,hq3⟩:∃ q,q=inB lc 1 1000:=⟨_,rfl⟩;have H1:=hide (Za3 lt 1 6);have H3:=hide (Za3 lc 1 1000);rw [<-hq1] at H1 HAT;rw [<-hq3] at H3 HAT;clear hl hq1 hq3;have hzr:=hb.size;have B2:Below w.heap.size w (wr.alloc (.cells #[.int .i64 lt,.int .i64 lc] 107)):=hb.alloc hb.size _
   go_wp2_with fail
   refine (H1.out _).mono ?_
   rintro e w2 ⟨rfl,rfl⟩;cases q1
   ·have hf:Zbi o ls=false:=by unfold Zbi ZbJ;rw [ZaT hlt HAT.out];rfl
    have HF:=hide hf;clear hf
    go_wp2
    go_ret
    exact⟨Zai HF.out,B2⟩
   by_cases hlo:lt=o
   ·have hd:(lt==o)=true:=by simpa using hlo
    have hf:Zbi o ls=false:=by
     have:=HAT.out;rw [hd] at this;unfold Zbi ZbJ;rw [ZaT hlt this];rfl
    have HF:=hide hf;clear hf hlo HAT
    go_wp2
    go_ret
    exact⟨Zai HF.out,B2⟩
   have hd:(lt==o)=false:=by simpa using hlo
   rw [hd] at HAT;clear hlo
   go_wp2_with fail
   refine (H3.out _).mono ?_
   rintro e w2 ⟨rfl,rfl⟩;cases q3
   ·have hf:Zbi o ls=false:=by unfold Zbi ZbJ;rw [ZaT hlt HAT.out];rfl
    have HF:=hide hf;clear hf
    go_wp2
    go_ret
    exact⟨Zai HF.out,B2⟩
   ·go_wp2
    exact⟨⟨k+1,by omega,by go_num,ZaO HNO.out HAT.out,B2⟩,by simp [intOf];omega⟩
  ·have hall:ZbJ (Zch o) ls=true:=Za9 fun i hi=>HNO.out i (by omega)
   have hF:Zbi o ls=ascB Zfa ls:=by unfold Zbi;rw [hall,Zpu];rfl
   have HF:=hide hF;clear hF hall;have HVR:=hide (HV.out.then hb)
   go_wp2_with fail
   refine (Zjs _ ls _ hls HVR.out).mono ?_
   rintro e w2 ⟨rfl,hbc⟩
   go_wp2
   go_ret
   exact⟨Zai HF.out,hb.trans (hbc.mono hb.size)⟩
end Go.Proofs.YtadokhjefnkajaaGreat
