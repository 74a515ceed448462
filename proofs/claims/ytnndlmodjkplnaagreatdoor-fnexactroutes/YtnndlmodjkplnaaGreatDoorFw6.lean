/-
  IAsc INetOk HeardM NodeM AppS AppTwo ICost NodeI PutL PutT
-/
import Derived.Test.YtnndlmodjkplnaaGreatDoorFw5
import Derived.Test.YtnndlmodjkplnaaGreatDoorFw1
import Derived.Test.YtnndlmodjkplnaaGreatDoorFw2
import Derived.Test.YtnndlmodjkplnaaGreatDoorFw3
import Derived.Deep.RegionHeld3
import Derived.Laws.StructEq
namespace Go.Proofs.YtnndlmodjkplnaaGreatDoor
open Go.RowKit
set_option linter.unusedSimpArgs false
set_option linter.unusedVariables false
set_option maxRecDepth 100000
set_option maxHeartbeats 8000000
theorem Zoq (v:Value)(ls:List Lk)(w:World)(hls:ls.length<=1048576)(hv:Zbf w v ls w.heap.size):
  Calls Tryz.prog 158 #[v,.func (.func 159) #[] #[]] w fun e w'=>e=.returned (.bool (ascB ordL ls))/\Below w.heap.size w w':=by
 obtain⟨a,cap,rfl⟩:=hv.shape;have HV:=hide hv;clear hv
 go_enter Tryz.func158,Tryz.ntmps158
 go_wp2
 go_loopw [5] (fun i wr=>∃ k:Nat,1<=k/\(k<=ls.length\/k=1)/\i=.int .i64 k/\(∀ j,j<k->ZbP ordL ls j=true)/\Below w.heap.size w wr) (fun i _=>ls.length+1-(intOf i).toNat)
 case atStart=>exact ⟨1,by omega,by omega,rfl,fun j hj=>by (obtain rfl:j=0:=by omega);rfl,Below.refl _ _⟩
 case round=>
  obtain⟨k,hk1,hk,rfl,hno,hb⟩:=hrel;have HNO:=hide hno;clear hno;by_cases hlt:k<ls.length
  ·obtain ⟨l,hl⟩:∃ l,ls[k]? = some l:=⟨ls[k],List.getElem?_eq_getElem hlt⟩
   obtain⟨j,hj⟩:∃ j,k=j+1:=⟨k-1,by omega⟩
   obtain⟨p,hp⟩:∃ p,ls[j]? = some p:=⟨ls[j],List.getElem?_eq_getElem (by omega)⟩
   obtain⟨b,off,cap',hve,hbb,c0,c1,c2,c3⟩:=HV.out.cells k l hl;cases hve
   obtain⟨b',off',cap2,hve2,hbb2,d0,d1,d2,d3⟩:=HV.out.cells j p hp;cases hve2
   rw [<-hb.cell (p:=⟨b,off+k*4,none⟩) hbb] at c0;rw [<-hb.cell (p:=⟨b,off+k*4+1,none⟩) hbb] at c1;rw [<-hb.cell (p:=⟨b,off+k*4+2,none⟩) hbb] at c2;rw [<-hb.cell (p:=⟨b,off+k*4+3,none⟩) hbb] at c3;rw [<-hb.cell (p:=⟨b,off+j*4,none⟩) hbb] at d0;rw [<-hb.cell (p:=⟨b,off+j*4+1,none⟩) hbb] at d1;rw [<-hb.cell (p:=⟨b,off+j*4+2,none⟩) hbb] at d2;rw [<-hb.cell (p:=⟨b,off+j*4+3,none⟩) hbb] at d3;have hat:ZbP ordL ls k=decide (ordL p l<0):=by rw [hj];exact ZbV hp (by rw [<-hj];exact hl)
   have hzr:=hb.size;have hbr:b<wr.heap.size:=by omega
   have hki:(0:Int)<=(k:Int):=by omega
   have hkj:(k:Int)<(ls.length:Int):=by omega
   have hj1:(k:Int)-1=(j:Int):=by omega
   have hj2:(0:Int)<=(j:Int):=by omega
   have hj3:(j:Int)<(ls.length:Int):=by omega
   have hj5:IntKind.i64.wrap (j:Int)=(j:Int):=ZaC _ (by omega) (by omega)
   have HORD:=hide (ZoY p l);have HAT:=hide hat;have HJ:=hide hj;clear hl hp hat hj;obtain⟨x,hx⟩:∃ x,x=ordL p l:=⟨_,rfl⟩;rw [<-hx] at HORD HAT;clear hx;unfold lkV at HORD;by_cases hx0:x<0
   ·have hx1:¬(0:Int)<=x:=by omega
    rw [decide_eq_true hx0] at HAT
    go_wp2
    go_region_held3 (fun W=>W.cell? ⟨b,off+k*4,none⟩=some (.int .i64 l.a)/\W.cell? ⟨b,off+k*4+1,none⟩=some (.int .i64 l.b)/\W.cell? ⟨b,off+k*4+2,none⟩=some (.int .i64 l.c)/\W.cell? ⟨b,off+k*4+3,none⟩=some (.int .i64 l.r)/\W.cell? ⟨b,off+j*4,none⟩=some (.int .i64 p.a)/\W.cell? ⟨b,off+j*4+1,none⟩=some (.int .i64 p.b)/\W.cell? ⟨b,off+j*4+2,none⟩=some (.int .i64 p.c)/\W.cell? ⟨b,off+j*4+3,none⟩=some (.int .i64 p.r)) (first | go_keep | (refine ⟨?_,?_,?_,?_,?_,?_,?_,?_⟩ <;> (rw [hbc.cell (by assumption)];assumption))) (first | (go_at_call 159;refine (HORD.out _).mono ?_;rintro e w2 ⟨rfl,hbc⟩))
    go_wp2
    exact⟨⟨k+1,by omega,by omega,by go_num,ZaE HNO.out HAT.out,hb.drew.trans (hbc.mono hb.size)⟩,by simp [intOf];omega⟩
   ·have hx1:(0:Int)<=x:=by omega
    rw [decide_eq_false hx0] at HAT;have hf:ascB ordL ls=false:=ZaH hlt HAT.out;have HF:=hide hf;clear hf
    go_wp2
    go_region_held3 (fun W=>W.cell? ⟨b,off+k*4,none⟩=some (.int .i64 l.a)/\W.cell? ⟨b,off+k*4+1,none⟩=some (.int .i64 l.b)/\W.cell? ⟨b,off+k*4+2,none⟩=some (.int .i64 l.c)/\W.cell? ⟨b,off+k*4+3,none⟩=some (.int .i64 l.r)/\W.cell? ⟨b,off+j*4,none⟩=some (.int .i64 p.a)/\W.cell? ⟨b,off+j*4+1,none⟩=some (.int .i64 p.b)/\W.cell? ⟨b,off+j*4+2,none⟩=some (.int .i64 p.c)/\W.cell? ⟨b,off+j*4+3,none⟩=some (.int .i64 p.r)) (first | go_keep | (refine ⟨?_,?_,?_,?_,?_,?_,?_,?_⟩ <;> (rw [hbc.cell (by assumption)];assumption))) (first | (go_at_call 159;refine (HORD.out _).mono ?_;rintro e w2 ⟨rfl,hbc⟩))
    go_wp2
    go_ret
    exact⟨Zag HF.out,hb.drew.trans (hbc.mono hb.size)⟩
  ·have hall:ascB ordL ls=true:=Zbl fun i hi=>HNO.out i (by omega)
   have HA:=hide hall;clear hall
   go_wp2
   go_ret
   exact⟨Zag HA.out,hb⟩
theorem Zor (v:Value)(ls:List Th)(w:World)(hls:ls.length<=1048576)(hv:ZaP w v ls w.heap.size):
  Calls Tryz.prog 160 #[v,.func (.func 161) #[] #[]] w fun e w'=>e=.returned (.bool (ascB ordT ls))/\Below w.heap.size w w':=by
 obtain⟨a,cap,rfl⟩:=hv.shape;have HV:=hide hv;clear hv
 go_enter Tryz.func160,Tryz.ntmps160
 go_wp2
 go_loopw [5] (fun i wr=>∃ k:Nat,1<=k/\(k<=ls.length\/k=1)/\i=.int .i64 k/\(∀ j,j<k->ZbP ordT ls j=true)/\Below w.heap.size w wr) (fun i _=>ls.length+1-(intOf i).toNat)
 case atStart=>exact ⟨1,by omega,by omega,rfl,fun j hj=>by (obtain rfl:j=0:=by omega);rfl,Below.refl _ _⟩
 case round=>
  obtain⟨k,hk1,hk,rfl,hno,hb⟩:=hrel;have HNO:=hide hno;clear hno;by_cases hlt:k<ls.length
  ·obtain ⟨l,hl⟩:∃ l,ls[k]? = some l:=⟨ls[k],List.getElem?_eq_getElem hlt⟩
   obtain⟨j,hj⟩:∃ j,k=j+1:=⟨k-1,by omega⟩
   obtain⟨p,hp⟩:∃ p,ls[j]? = some p:=⟨ls[j],List.getElem?_eq_getElem (by omega)⟩
   obtain⟨b,off,cap',hve,hbb,c0,c1,c2,c3⟩:=HV.out.cells k l hl;cases hve
   obtain⟨b',off',cap2,hve2,hbb2,d0,d1,d2,d3⟩:=HV.out.cells j p hp;cases hve2
   rw [<-hb.cell (p:=⟨b,off+k*4,none⟩) hbb] at c0;rw [<-hb.cell (p:=⟨b,off+k*4+1,none⟩) hbb] at c1;rw [<-hb.cell (p:=⟨b,off+k*4+2,none⟩) hbb] at c2;rw [<-hb.cell (p:=⟨b,off+k*4+3,none⟩) hbb] at c3;rw [<-hb.cell (p:=⟨b,off+j*4,none⟩) hbb] at d0;rw [<-hb.cell (p:=⟨b,off+j*4+1,none⟩) hbb] at d1;rw [<-hb.cell (p:=⟨b,off+j*4+2,none⟩) hbb] at d2;rw [<-hb.cell (p:=⟨b,off+j*4+3,none⟩) hbb] at d3;have hat:ZbP ordT ls k=decide (ordT p l<0):=by rw [hj];exact ZbV hp (by rw [<-hj];exact hl)
   have hzr:=hb.size;have hbr:b<wr.heap.size:=by omega
   have hki:(0:Int)<=(k:Int):=by omega
   have hkj:(k:Int)<(ls.length:Int):=by omega
   have hj1:(k:Int)-1=(j:Int):=by omega
   have hj2:(0:Int)<=(j:Int):=by omega
   have hj3:(j:Int)<(ls.length:Int):=by omega
   have hj5:IntKind.i64.wrap (j:Int)=(j:Int):=ZaC _ (by omega) (by omega)
   have HORD:=hide (Zo0 p l);have HAT:=hide hat;have HJ:=hide hj;clear hl hp hat hj;obtain⟨x,hx⟩:∃ x,x=ordT p l:=⟨_,rfl⟩;rw [<-hx] at HORD HAT;clear hx;unfold thV at HORD;by_cases hx0:x<0
   ·have hx1:¬(0:Int)<=x:=by omega
    rw [decide_eq_true hx0] at HAT
    go_wp2
    go_region_held3 (fun W=>W.cell? ⟨b,off+k*4,none⟩=some (.int .i64 l.o)/\W.cell? ⟨b,off+k*4+1,none⟩=some (.int .i64 l.k)/\W.cell? ⟨b,off+k*4+2,none⟩=some (.int .i64 l.c)/\W.cell? ⟨b,off+k*4+3,none⟩=some (.bool l.f)/\W.cell? ⟨b,off+j*4,none⟩=some (.int .i64 p.o)/\W.cell? ⟨b,off+j*4+1,none⟩=some (.int .i64 p.k)/\W.cell? ⟨b,off+j*4+2,none⟩=some (.int .i64 p.c)/\W.cell? ⟨b,off+j*4+3,none⟩=some (.bool p.f)) (first | go_keep | (refine ⟨?_,?_,?_,?_,?_,?_,?_,?_⟩ <;> (rw [hbc.cell (by assumption)];assumption))) (first | (go_at_call 161;refine (HORD.out _).mono ?_;rintro e w2 ⟨rfl,hbc⟩))
    go_wp2
    exact⟨⟨k+1,by omega,by omega,by go_num,ZaE HNO.out HAT.out,hb.drew.trans (hbc.mono hb.size)⟩,by simp [intOf];omega⟩
   ·have hx1:(0:Int)<=x:=by omega
    rw [decide_eq_false hx0] at HAT;have hf:ascB ordT ls=false:=ZaH hlt HAT.out;have HF:=hide hf;clear hf
    go_wp2
    go_region_held3 (fun W=>W.cell? ⟨b,off+k*4,none⟩=some (.int .i64 l.o)/\W.cell? ⟨b,off+k*4+1,none⟩=some (.int .i64 l.k)/\W.cell? ⟨b,off+k*4+2,none⟩=some (.int .i64 l.c)/\W.cell? ⟨b,off+k*4+3,none⟩=some (.bool l.f)/\W.cell? ⟨b,off+j*4,none⟩=some (.int .i64 p.o)/\W.cell? ⟨b,off+j*4+1,none⟩=some (.int .i64 p.k)/\W.cell? ⟨b,off+j*4+2,none⟩=some (.int .i64 p.c)/\W.cell? ⟨b,off+j*4+3,none⟩=some (.bool p.f)) (first | go_keep | (refine ⟨?_,?_,?_,?_,?_,?_,?_,?_⟩ <;> (rw [hbc.cell (by assumption)];assumption))) (first | (go_at_call 161;refine (HORD.out _).mono ?_;rintro e w2 ⟨rfl,hbc⟩))
    go_wp2
    go_ret
    exact⟨Zag HF.out,hb.drew.trans (hbc.mono hb.size)⟩
  ·have hall:ascB ordT ls=true:=Zbl fun i hi=>HNO.out i (by omega)
   have HA:=hide hall;clear hall
   go_wp2
   go_ret
   exact⟨Zag HA.out,hb⟩
def ZcX (n:Int)(ls:List Lk):Bool:=decide (ls.length<=12)&&ZbO (Za6 n) ls&&ascB ordL ls
theorem Zkd (n:Int)(v:Value)(ls:List Lk)(w:World)(hls:ls.length<=1048576)(hv:Zbf w v ls w.heap.size):
  Calls Tryz.prog 126 #[.int .i64 n,v] w fun e w'=>e=.returned (.bool (ZcX n ls))/\Below w.heap.size w w':=by
 obtain⟨a,cap,rfl⟩:=hv.shape;have HV:=hide hv;clear hv;by_cases h12:ls.length<=12
 case neg=>
  have hno:ZcX n ls=false:=by unfold ZcX;rw [decide_eq_false h12];rfl
  rw [hno];have h12':(12:Int)<(ls.length:Int):=by omega
  clear hno
  go_enter Tryz.func126,Tryz.ntmps126
  go_wp2
  go_ret
  exact⟨rfl,Below.refl _ _⟩
 have h12':¬(12:Int)<(ls.length:Int):=by omega
 have hB:ZcX n ls=(ZbO (Za6 n) ls&&ascB ordL ls):=by unfold ZcX;rw [decide_eq_true h12];rfl
 have HB:=hide hB;clear hB
 go_enter Tryz.func126,Tryz.ntmps126
 go_wp2
 go_loopw [12] (fun i wr=>∃ k:Nat,k<=ls.length/\i=.int .i64 k/\(∀ j,j<k->okAt (Za6 n) ls j=true)/\Below w.heap.size w wr) (fun i _=>ls.length-(intOf i).toNat)
 case atStart=>exact ⟨0,by omega,rfl,by omega,Below.refl _ _⟩
 case round=>
  obtain⟨k,hk,rfl,hno,hb⟩:=hrel;have HNO:=hide hno;clear hno;by_cases hlt:k<ls.length
  ·obtain ⟨l,hl⟩:∃ l,ls[k]? = some l:=⟨ls[k],List.getElem?_eq_getElem hlt⟩
   obtain⟨b,off,cap',hve,hbb,c0,c1,c2,c3⟩:=HV.out.cells k l hl;cases hve
   rw [<-hb.cell (p:=⟨b,off+k*4,none⟩) hbb] at c0;rw [<-hb.cell (p:=⟨b,off+k*4+1,none⟩) hbb] at c1;rw [<-hb.cell (p:=⟨b,off+k*4+2,none⟩) hbb] at c2;rw [<-hb.cell (p:=⟨b,off+k*4+3,none⟩) hbb] at c3;have HAT:=hide (Zb2 (ok:=Za6 n) hl);have HOK:=hide (Zj4 n l);clear hl;obtain⟨q,hq⟩:∃ q,q=Za6 n l:=⟨_,rfl⟩;rw [<-hq] at HAT HOK;unfold lkV at HOK;clear hq;have hzr:=hb.size
   go_wp2_with fail
   refine (HOK.out _).mono ?_
   rintro e w2 ⟨rfl,hbc⟩;have B2:Below w.heap.size w w2:=(hb.alloc hb.size _).trans (hbc.mono (by simp;omega))
   cases q
   ·have hf:ZcX n ls=false:=by rw [HB.out];unfold ZbO;rw [ZaH hlt HAT.out];rfl
    have HF:=hide hf;clear hf
    go_wp2
    go_ret
    exact⟨Zag HF.out,B2⟩
   ·go_wp2
    exact⟨⟨k+1,by omega,by go_num,ZaE HNO.out HAT.out,B2⟩,by simp [intOf];omega⟩
  ·have hall:ZbO (Za6 n) ls=true:=Zbl fun i hi=>HNO.out i (by omega)
   have hF:ZcX n ls=ascB ordL ls:=by rw [HB.out,hall];rfl
   have HF:=hide hF;clear hF hall;have HVR:=hide (HV.out.then hb)
   go_wp2_with fail
   refine (Zoq _ ls _ hls HVR.out).mono ?_
   rintro e w2 ⟨rfl,hbc⟩
   go_wp2
   go_ret
   exact⟨Zag HF.out,hb.trans (hbc.mono hb.size)⟩
def Ze1 (n:Int)(t:Th):Bool:=inB t.k 1 9&&inB t.o 1 n&&inB t.c 1 1000
def Zck (n:Int)(ls:List Th):Bool:=decide (ls.length<=4)&&ZbO (Ze1 n) ls&&ascB ordT ls
theorem Zjv (n:Int)(v:Value)(ls:List Th)(w:World)(hls:ls.length<=1048576)(hv:ZaP w v ls w.heap.size):
  Calls Tryz.prog 127 #[.int .i64 n,v] w fun e w'=>e=.returned (.bool (Zck n ls))/\Below w.heap.size w w':=by
 obtain⟨a,cap,rfl⟩:=hv.shape;have HV:=hide hv;clear hv;by_cases h12:ls.length<=4
 case neg=>
  have hno:Zck n ls=false:=by unfold Zck;rw [decide_eq_false h12];rfl
  rw [hno];have h12':(4:Int)<(ls.length:Int):=by omega
  clear hno
  go_enter Tryz.func127,Tryz.ntmps127
  go_wp2
  go_ret
  exact⟨rfl,Below.refl _ _⟩
 have h12':¬(4:Int)<(ls.length:Int):=by omega
 have hB:Zck n ls=(ZbO (Ze1 n) ls&&ascB ordT ls):=by unfold Zck;rw [decide_eq_true h12];rfl
 have HB:=hide hB;clear hB
 go_enter Tryz.func127,Tryz.ntmps127
 go_wp2
 go_loopw [12] (fun i wr=>∃ k:Nat,k<=ls.length/\i=.int .i64 k/\(∀ j,j<k->okAt (Ze1 n) ls j=true)/\Below w.heap.size w wr) (fun i _=>ls.length-(intOf i).toNat)
 case atStart=>exact ⟨0,by omega,rfl,by omega,Below.refl _ _⟩
 case round=>
  obtain⟨k,hk,rfl,hno,hb⟩:=hrel;have HNO:=hide hno;clear hno;by_cases hlt:k<ls.length
  ·obtain ⟨l,hl⟩:∃ l,ls[k]? = some l:=⟨ls[k],List.getElem?_eq_getElem hlt⟩
   obtain⟨b,off,cap',hve,hbb,c0,c1,c2,c3⟩:=HV.out.cells k l hl;cases hve
   rw [<-hb.cell (p:=⟨b,off+k*4,none⟩) hbb] at c0;rw [<-hb.cell (p:=⟨b,off+k*4+1,none⟩) hbb] at c1;rw [<-hb.cell (p:=⟨b,off+k*4+2,none⟩) hbb] at c2;rw [<-hb.cell (p:=⟨b,off+k*4+3,none⟩) hbb] at c3;have HAT:=hide (Zb2 (ok:=Ze1 n) hl);obtain⟨q1,hq1⟩:∃ q,q=inB l.k 1 9:=⟨_,rfl⟩;obtain⟨q2,hq2⟩:∃ q,q=inB l.o 1 n:=⟨_,rfl⟩;obtain⟨q3,hq3⟩:∃ q,q=inB l.c 1 1000:=⟨_,rfl⟩;have hok:Ze1 n l=(q1&&q2&&q3):=by unfold Ze1;rw [hq1,hq2,hq3]
   have H1:=hide (Za1 l.k 1 9);have H2:=hide (Za1 l.o 1 n);have H3:=hide (Za1 l.c 1 1000);rw [<-hq1] at H1;rw [<-hq2] at H2;rw [<-hq3] at H3;rw [hok] at HAT;clear hl hq1 hq2 hq3 hok;have hzr:=hb.size;have B2:Below w.heap.size w (wr.alloc (.cells #[.int .i64 l.o,.int .i64 l.k,.int .i64 l.c,.bool l.f] 123)):=hb.alloc hb.size _;cases q1
   ·have hf:Zck n ls=false:=by rw [HB.out];unfold ZbO;rw [ZaH hlt HAT.out];rfl
    have HF:=hide hf;clear hf
    go_wp2_with fail
    refine (H1.out _).mono ?_
    rintro e w2 ⟨rfl,rfl⟩
    go_wp2
    go_ret
    exact⟨Zag HF.out,B2⟩
   cases q2
   ·have hf:Zck n ls=false:=by rw [HB.out];unfold ZbO;rw [ZaH hlt HAT.out];rfl
    have HF:=hide hf;clear hf
    go_wp2_with fail
    refine (H1.out _).mono ?_
    rintro e w2 ⟨rfl,rfl⟩
    go_wp2_with fail
    refine (H2.out _).mono ?_
    rintro e w2 ⟨rfl,rfl⟩
    go_wp2
    go_ret
    exact⟨Zag HF.out,B2⟩
   cases q3
   ·have hf:Zck n ls=false:=by rw [HB.out];unfold ZbO;rw [ZaH hlt HAT.out];rfl
    have HF:=hide hf;clear hf
    go_wp2_with fail
    refine (H1.out _).mono ?_
    rintro e w2 ⟨rfl,rfl⟩
    go_wp2_with fail
    refine (H2.out _).mono ?_
    rintro e w2 ⟨rfl,rfl⟩
    go_wp2_with fail
    refine (H3.out _).mono ?_
    rintro e w2 ⟨rfl,rfl⟩
    go_wp2
    go_ret
    exact⟨Zag HF.out,B2⟩
   ·go_wp2_with fail
    refine (H1.out _).mono ?_
    rintro e w2 ⟨rfl,rfl⟩
    go_wp2_with fail
    refine (H2.out _).mono ?_
    rintro e w2 ⟨rfl,rfl⟩
    go_wp2_with fail
    refine (H3.out _).mono ?_
    rintro e w2 ⟨rfl,rfl⟩
    go_wp2
    exact⟨⟨k+1,by omega,by go_num,ZaE HNO.out HAT.out,B2⟩,by simp [intOf];omega⟩
  ·have hall:ZbO (Ze1 n) ls=true:=Zbl fun i hi=>HNO.out i (by omega)
   have hF:Zck n ls=ascB ordT ls:=by rw [HB.out,hall];rfl
   have HF:=hide hF;clear hF hall;have HVR:=hide (HV.out.then hb)
   go_wp2_with fail
   refine (Zor _ ls _ hls HVR.out).mono ?_
   rintro e w2 ⟨rfl,hbc⟩
   go_wp2
   go_ret
   exact⟨Zag HF.out,hb.trans (hbc.mono hb.size)⟩
def Zbq (x:NetD):Bool:=inB x.n 1 6&&ZcX x.n x.ls&&Zck x.n x.ts
theorem ZlJ (v:Value)(x:NetD)(w:World)(hl:x.ls.length<=1048576)(ht:x.ts.length<=1048576)(hv:Zhy w v x w.heap.size):
  Calls Tryz.prog 89 #[v] w fun e w'=>e=.returned (.bool (Zbq x))/\Below w.heap.size w w':=by
 obtain⟨n,ls,ts⟩:=x;obtain⟨v1,v2,rfl,h1,h2⟩:=hv;simp only [] at h1 h2 hl ht |-
 obtain⟨a1,c1,rfl⟩:=h1.shape;obtain⟨a2,c2,rfl⟩:=h2.shape;obtain⟨q1,hq1⟩:∃ q,q=inB n 1 6:=⟨_,rfl⟩;obtain⟨q2,hq2⟩:∃ q,q=ZcX n ls:=⟨_,rfl⟩;obtain⟨q3,hq3⟩:∃ q,q=Zck n ts:=⟨_,rfl⟩;have hok:Zbq ⟨n,ls,ts⟩=(q1&&q2&&q3):=by unfold Zbq;rw [hq1,hq2,hq3]
 rw [hok];have HIN:=hide (Za1 n 1 6);rw [<-hq1] at HIN;have HL:=hide (fun W (h:Below w.heap.size w W)=>Zkd n _ ls W hl (h1.then h))
 have HT:=hide (fun W (h:Below w.heap.size w W)=>Zjv n _ ts W ht (h2.then h))
 rw [<-hq2] at HL;rw [<-hq3] at HT;clear hq1 hq2 hq3 hok h1 h2;have B0:Below w.heap.size w (w.alloc (.cells #[.int .i64 n,.slice a1 ls.length c1,.slice a2 ts.length c2] 38)):=(Below.refl _ _).alloc (Nat.le_refl _) _;have hnew:=heap_alloc_new w (.cells #[.int .i64 n,.slice a1 ls.length c1,.slice a2 ts.length c2] 38);have NEW:=hide hnew;clear hnew;cases q1
 ·go_enter Tryz.func89,Tryz.ntmps89
  go_wp2_with fail
  refine (HIN.out _).mono ?_
  rintro e w1 ⟨rfl,rfl⟩
  go_wp2
  go_ret
  exact⟨by simp,B0⟩
 cases q2
 ·go_enter Tryz.func89,Tryz.ntmps89
  go_wp2_with fail
  refine (HIN.out _).mono ?_
  rintro e w1 ⟨rfl,rfl⟩
  go_wp2_with fail
  refine (HL.out _ B0).mono ?_
  rintro e w1 ⟨rfl,b1⟩
  go_wp2
  go_ret
  exact⟨by simp,B0.trans (b1.mono B0.size)⟩
 ·go_enter Tryz.func89,Tryz.ntmps89
  go_wp2_with fail
  refine (HIN.out _).mono ?_
  rintro e w1 ⟨rfl,rfl⟩
  go_wp2_with fail
  refine (HL.out _ B0).mono ?_
  rintro e w1 ⟨rfl,b1⟩;have g1:w1.heap[w.heap.size]? = some (.cells #[.int .i64 n,.slice a1 ls.length c1,.slice a2 ts.length c2] 38):=by rw [b1.block _ (by simp)];exact NEW.out
  have B1:Below w.heap.size w w1:=B0.trans (b1.mono B0.size);have s0:=Zaa g1 0;have s2:=Zaa g1 2;simp at s0 s2
  clear g1 b1 B0
  go_wp2_with fail
  refine (HT.out _ B1).mono ?_
  rintro e w2 ⟨rfl,b2⟩
  go_wp2
  go_ret
  exact⟨by simp,B1.trans (b2.mono B1.size)⟩
def Za7:List Int->List (Int × Int)
 | a::b::l=>(a,b)::Za7 l
 | _=>[]
theorem ZdM:∀ l:List Int,(Za7 l).length=l.length / 2
 | []=>rfl
 | [_]=>by simp [Za7]
 | a::b::l=>by
  simp only [Za7,List.length_cons,ZdM l]
  omega
theorem ZfL:∀ (l:List Int)(i:Nat)(a b:Int),l[2*i]? = some a->l[2*i+1]? = some b->(Za7 l)[i]? = some (a,b)
 | [],_,_,_,h,_=>by simp at h
 | [_],0,_,_,_,h=>by simp at h
 | [_],i+1,_,_,h,_=>by simp at h
 | x::y::l,0,a,b,h1,h2=>by
  simp at h1 h2
  simp [Za7,h1,h2]
 | x::y::l,i+1,a,b,h1,h2=>by
  have e1:2*(i+1)=2*i+1+1:=by omega
  rw [e1] at h1 h2;simp only [List.getElem?_cons_succ] at h1 h2
  simp only [Za7,List.getElem?_cons_succ]
  exact ZfL l i a b h1 h2
theorem Zl6 (l:List Int)(i:Nat)(a b:Int)(h1:l[2*i]? = some a)(h2:l[2*i+1]? = some b):(Za7 l).take (i+1)=(Za7 l).take i++[(a,b)]:=by
 have h:=ZfL l i a b h1 h2;obtain⟨hi,e⟩:=List.getElem?_eq_some_iff.1 h;rw [List.take_succ_eq_append_getElem hi,e]
def ordH (p q:Int × Int):Int:=orN [cmpN p.1 q.1,cmpN p.2 q.2]
theorem Zfl (p q:Int × Int):ordH p q<0↔p.1<q.1\/(p.1=q.1/\p.2<q.2):=by
 unfold ordH cmpN;simp only [orN]
 rcases Int.lt_trichotomy p.1 q.1 with h | h | h
 ·simp [h]
 ·rcases Int.lt_trichotomy p.2 q.2 with h2 | h2 | h2
  ·simp [h,h2]
  ·simp [h,h2]
  ·have h3:¬p.2<q.2:=by omega
   simp [h,h2,h3]
 ·have h3:¬p.1<q.1:=by omega
  have h4:¬p.1=q.1:=by omega
  simp [h,h3,h4]
def hitP (ls:List Lk)(id:Int)(e:Int × Int):Bool := !(ZbS ls id e.1 e.2==0)
def Zc8 (ls:List Lk)(id:Int)(h:List Int):Bool:=(Za7 h).all (hitP ls id)&&(decide (h.length%2=0)&&ascB ordH (Za7 h))
theorem ZmS:∀ (l:List Int)(a b:Int),l.Pairwise (· < ·)->(∀ x∈l,a<=x/\x<=b)->(l.length:Int)<=max 0 (b-a+1)
 | [],_,_,_,_=>by simp;omega
 | x::l,a,b,hp,hx=>by
  rw [List.pairwise_cons] at hp;have h1:=hx x (by simp)
  have h2:=ZmS l (x+1) b hp.2 (fun y hy=>⟨by have:=hp.1 y hy;omega,(hx y (by simp [hy])).2⟩)
  simp only [List.length_cons]
  omega
theorem Ziz {l:List (Int × Int)}(h:ascB ordH l=true):∀ (d i:Nat) (p q:Int × Int),l[i]? = some p->l[i+d+1]? = some q->p.1<q.1\/(p.1=q.1/\p.2<q.2)
 | 0,i,p,q,hp,hq=>by
  obtain⟨hl,_⟩:=List.getElem?_eq_some_iff.1 hq;have h1:=List.all_eq_true.1 h (i+1) (List.mem_range.2 hl);rw [ZbV hp hq] at h1;exact (Zfl p q).1 (by simpa using h1)
 | d+1,i,p,q,hp,hq=>by
  obtain⟨hl,_⟩:=List.getElem?_eq_some_iff.1 hq;obtain⟨m,hm⟩:∃ m,l[i+d+1]? = some m:=⟨l[i+d+1]'(by omega),List.getElem?_eq_getElem (by omega)⟩
  have h1:=Ziz h d i p m hp hm;have h2:=List.all_eq_true.1 h (i+d+1+1) (List.mem_range.2 hl);rw [ZbV hm hq] at h2;have h3:=(Zfl m q).1 (by simpa using h2)
  omega
theorem ZiD {ls:List Lk}{f t r:Int}(h:ZbS ls f t r≠0):∃ l∈ls,Zcb f t r l=true:=by
 unfold ZbS at h;cases e:ls.find? (Zcb f t r) with
 | none=>rw [e] at h;simp at h
 | some l=>exact ⟨l,List.mem_of_find?_eq_some e,List.find?_some e⟩
theorem Zfe {n:Int}{ls:List Lk}(h:ZcX n ls=true):∀ l∈ls,Za6 n l=true:=by
 intro l hl;unfold ZcX at h;simp only [Bool.and_eq_true] at h
 obtain⟨i,hi,e⟩:=List.mem_iff_getElem.1 hl;have h1:=List.all_eq_true.1 h.1.2 i (List.mem_range.2 hi);rw [Zb2 (List.getElem?_eq_getElem hi),e] at h1;exact h1
theorem Zj1 {x:NetD}{id:Int}{h:List Int}(hn:Zbq x=true)(hh:Zc8 x.ls id h=true):h.length<=60:=by
 unfold Zc8 at hh;simp only [Bool.and_eq_true,decide_eq_true_eq] at hh
 obtain⟨h1,h2,h3⟩:=hh;have hn2:=hn;simp only [Zbq,Bool.and_eq_true] at hn2
 have hnn:1<=x.n/\x.n<=6:=by
  have:=hn2.1.1;simp only [inB,Bool.and_eq_true,decide_eq_true_eq] at this
  exact this
 have hlk:=Zfe hn2.1.2;have hrange:∀ e∈Za7 h,1<=e.1/\e.1<=6/\0<=e.2/\e.2<=2:=by
  intro e he;have hc:=List.all_eq_true.1 h1 e he;unfold hitP at hc;obtain⟨l,hl,hit⟩:=ZiD (by simpa using hc)
  have hok:=hlk l hl;simp only [Za6,inB,Bool.and_eq_true,decide_eq_true_eq] at hok
  simp only [Zcb,Bool.and_eq_true,Bool.or_eq_true,beq_iff_eq] at hit
  omega
 have hp:((Za7 h).map (fun e=>3*e.1+e.2)).Pairwise (· < ·):=by
  rw [List.pairwise_map,List.pairwise_iff_getElem];intro i j hi hj hij;have hc:=Ziz h3 (j-i-1) i _ _ (List.getElem?_eq_getElem hi) (by rw [show i+(j-i-1)+1=j by omega];exact List.getElem?_eq_getElem hj)
  have r1:=hrange _ (List.getElem_mem hi);have r2:=hrange _ (List.getElem_mem hj);omega
 have hl:=ZmS _ 3 20 hp (fun y hy=>by
  obtain⟨e,he,rfl⟩:=List.mem_map.1 hy;have:=hrange e he;omega)
 rw [List.length_map,ZdM] at hl;omega
def Zav (ls:List Lk)(id:Int):Nat->List Th
 | 0=>[]
 | k+1=>Zav ls id k++(if 0<ZbS ls id ((k / 3:Nat)+1) ((k%3:Nat):Int) then [⟨((k / 3:Nat):Int)+1,((k%3:Nat):Int),0,false⟩] else [])
theorem Zf3 (ls:List Lk)(id:Int):∀ k,(Zav ls id k).length<=k
 | 0=>Nat.le_refl _
 | k+1=>by
  have:=Zf3 ls id k;unfold Zav
  split <;> simp <;> omega
theorem ZkM {ls:List Lk}{id:Int}{v a:Nat}(ha:a<3):Zav ls id (3*v+a+1)=Zav ls id (3*v+a)++(if 0<ZbS ls id ((v:Int)+1) (a:Int) then [⟨(v:Int)+1,(a:Int),0,false⟩] else []):=by
 have e1:(3*v+a) / 3=v:=by omega
 have e2:(3*v+a)%3=a:=by omega
 show Zav ls id (3*v+a)++_=_
 rw [e1,e2]
theorem Zm9 {ls:List Lk}{id:Int}{v a:Nat}(ha:a<3)(h:0<ZbS ls id ((v:Int)+1) (a:Int)):Zav ls id (3*v+a+1)=Zav ls id (3*v+a)++[⟨(v:Int)+1,(a:Int),0,false⟩]:=by rw [ZkM ha,if_pos h]
theorem ZoE {ls:List Lk}{id:Int}{v a:Nat}(ha:a<3)(h:¬0<ZbS ls id ((v:Int)+1) (a:Int)):Zav ls id (3*v+a+1)=Zav ls id (3*v+a):=by rw [ZkM ha,if_neg h,List.append_nil]
theorem ZiO (ls:List Lk)(id:Int)(k:Nat):∀ d,∃ l,Zav ls id (k+d)=Zav ls id k++l
 | 0=>⟨[],by simp⟩
 | d+1=>by
  obtain⟨l,hl⟩:=ZiO ls id k d;exact⟨l++_,by rw [<-Nat.add_assoc,Zav,hl,List.append_assoc]⟩
def Zbe (e f:Th):Bool:=e.o==f.o&&(e.k==f.k&&(inB e.c 0 3&&(!e.f||decide (0<e.c))))
def ZbK:List Th->List Th->Bool
 | [],[]=>true
 | e::es,f::fs=>Zbe e f&&ZbK es fs
 | _,_=>false
theorem Zda:∀ (es fs:List Th),ZbK es fs=true↔es.length=fs.length/\∀ (i:Nat) (e f:Th),es[i]? = some e->fs[i]? = some f->Zbe e f=true
 | [],[]=>by simp [ZbK]
 | [],_::_=>by simp [ZbK]
 | _::_,[]=>by simp [ZbK]
 | e::es,f::fs=>by
  have ih:=Zda es fs;simp only [ZbK,Bool.and_eq_true,ih,List.length_cons,Nat.add_right_cancel_iff]
  constructor
  ·rintro ⟨h1,h2,h3⟩
   refine⟨h2,fun i e' f' he hf=>?_⟩
   cases i with
   | zero=>simp at he hf;subst he hf;exact h1
   | succ i=>simp at he hf;exact h3 i e' f' he hf
  ·rintro ⟨h2,h3⟩
   exact⟨h3 0 e f rfl rfl,h2,fun i e' f' he hf=>h3 (i+1) e' f' (by simpa using he) (by simpa using hf)⟩
theorem Zi7 {es fs:List Th}{i:Nat}{e f:Th}(he:es[i]? = some e)(hf:fs[i]? = some f)(h:Zbe e f=false):ZbK es fs=false:=by
 cases hc:ZbK es fs with
 | false=>rfl
 | true=>
  have:=((Zda es fs).1 hc).2 i e f he hf;rw [h] at this;exact absurd this (by decide)
theorem Zfg {es fs:List Th}(h:es.length≠fs.length):ZbK es fs=false:=by
 cases hc:ZbK es fs with
 | false=>rfl
 | true=>exact absurd ((Zda es fs).1 hc).1 h
theorem ZlT {es fs:List Th}(h:es.length=fs.length)(h2:∀ i,i<es.length->∀ e f,es[i]? = some e->fs[i]? = some f->Zbe e f=true):ZbK es fs=true:=
 (Zda es fs).2 ⟨h,fun i e f he hf=>h2 i (by have:=List.getElem?_eq_some_iff.1 he;exact this.1) e f he hf⟩
def Zbc (es:List Th):List Int:=es.flatMap (fun e=>if e.f then [e.o,e.k] else [])
theorem Zg8 {es:List Th}{k:Nat}{e:Th}(h:es[k]? = some e)(hf:e.f=true):Zbc (es.take (k+1))=Zbc (es.take k)++[e.o,e.k]:=by
 unfold Zbc;rw [List.take_add_one,h];simp [hf]
theorem ZiT {es:List Th}{k:Nat}{e:Th}(h:es[k]? = some e)(hf:e.f=false):Zbc (es.take (k+1))=Zbc (es.take k):=by
 unfold Zbc;rw [List.take_add_one,h];simp [hf]
theorem ZjQ {n:Int}{ls:List Lk}(h:∀ l∈ls,Za6 n l=true)(f t r:Int):0<=ZbS ls f t r:=by
 unfold ZbS;cases hf:ls.find? (Zcb f t r) with
 | none=>simp
 | some l=>
  have:=h l (List.mem_of_find?_eq_some hf);unfold Za6 inB at this;simp only [Bool.and_eq_true,decide_eq_true_eq] at this
  simp
  omega

theorem Zfr {bytes:Nat}(hbb:bytes<=100){P:Program}(w:World){ops:Array Oper}{rest:List Oper}{o:Oper}{a:Act}{Q:Exit->Act->World->Prop}(hgd:o.guard=none)(s x:Operand)(t:TypeId)
  (ho:o.op=.call { callee:=.builtin .append,args:=#[s,x],argTypes:=#[t,t] }) (base:Nat) (e:TypeId) (ht:P.underlying t=some (.slice e))
  (hinfo:(P.info? e).map (fun i=>(i.zero,i.size,i.bytes))=some (some (.int .i64 0),1,bytes))
  (v:Value) (l:List Int) (y1 y2:Int) (hs:a.eval s=v) (hown:w.ownsRow base e 1 v l.length (flat intE l))
  (ad:Addr) (c:Nat) (hx:a.eval x=.slice (some ad) 2 c) (hnews:∀ j u,([.int .i64 y1,.int .i64 y2]:List Value)[j]? = some u->w.cell? (ad.add j)=some u)
  (hl:l.length+2<=1000000000) (hbase:base<=w.heap.size)
  (h:∀ v' w' l',Hid (l'=l++[y1,y2])->w'.ownsRow base e 1 v' l'.length (flat intE l')->w.grownBy w' v.ownBlock->wpList P ops Q rest (a.put o.dst v') w'):wpList P ops Q (o::rest) a w:=by
 obtain⟨i0,hi,hz0,hz1,hz2⟩:=info_parts hinfo;refine wpList_append_own_at w hgd s x t ho base e i0 (.int .i64 0) 1 bytes ht hi hz0 hz1 hz2 rfl (by decide) v l.length (flat intE l) hs hown ad 2 c [.int .i64 y1,.int .i64 y2] hx rfl hnews (by simp [Value.oneCell']) (by unfold maxLen;omega) ?_ hbase ?_
 ·have:(l.length+2)*bytes<=1000000000*100:=Nat.mul_le_mul hl hbb
  omega
 ·intro v' w' h1 h2 _ _
  have e1:flat intE l++[.int .i64 y1,.int .i64 y2]=flat intE (l++[y1,y2]):=by rw [ZaK];simp [flat,intE]
  rw [e1] at h1;exact h v' w' (l++[y1,y2]) rfl (by simpa using h1) h2
def Zou (l:Lk):Value:=.agg #[.int .i64 l.a,.int .i64 l.b,.int .i64 l.c,.int .i64 l.r,.int .i64 l.b,.int .i64 l.a,.int .i64 l.c,.int .i64 l.r]
theorem ZkJ (l:Lk)(w:World):Calls Tryz.prog 114 #[lkV l] w fun e w'=>e=.returned (Zou l)/\Below w.heap.size w w':=by
 obtain⟨a,b,c,r⟩:=l;unfold lkV Zou
 go_enter Tryz.func114,Tryz.ntmps114
 go_wp2
 go_returns
 exact⟨rfl,Zbk _ _ _⟩
theorem Zji (w:World)(x0 x1 x2 x3 x4 x5 x6 x7:Value):(Instr.index 164 (.agg #[x0,x1,x2,x3,x4,x5,x6,x7]) (.int .i64 0)).run Tryz.prog w=.ok (.agg #[x0,x1,x2,x3]) w:=by
 rfl
theorem Zjj (w:World)(x0 x1 x2 x3 x4 x5 x6 x7:Value):(Instr.index 164 (.agg #[x0,x1,x2,x3,x4,x5,x6,x7]) (.int .i64 1)).run Tryz.prog w=.ok (.agg #[x4,x5,x6,x7]) w:=by
 rfl
theorem Zk7 (w:World)(a b c d a' b' c' d':Int):(binOp .eql 84 (.agg #[.int .i64 a,.int .i64 b,.int .i64 c,.int .i64 d]) (.agg #[.int .i64 a',.int .i64 b',.int .i64 c',.int .i64 d'])).run Tryz.prog w=.ok (.bool (decide (a=a'/\b=b'/\c=c'/\d=d'))) w:=by
 go_simp
 by_cases h1:a=a' <;> by_cases h2:b=b' <;> by_cases h3:c=c' <;> by_cases h4:d=d' <;> simp [h1,h2,h3,h4]
theorem Zk8 {f t r la lb lc lr:Int}(h:la=f/\lb=t/\lr=r)(W:World):(binOp .eql 84 (.agg #[.int .i64 la,.int .i64 lb,.int .i64 lc,.int .i64 lr]) (.agg #[.int .i64 f,.int .i64 t,.int .i64 lc,.int .i64 r])).run Tryz.prog W=.ok (.bool true) W:=by
 rw [Zk7,decide_eq_true ⟨h.1,h.2.1,rfl,h.2.2⟩]
theorem ZnW {f t r la lb lc lr:Int}(h:¬(la=f/\lb=t/\lr=r))(W:World):(binOp .eql 84 (.agg #[.int .i64 la,.int .i64 lb,.int .i64 lc,.int .i64 lr]) (.agg #[.int .i64 f,.int .i64 t,.int .i64 lc,.int .i64 r])).run Tryz.prog W=.ok (.bool false) W:=by
 rw [Zk7,decide_eq_false (fun g=>h ⟨g.1,g.2.1,g.2.2.2⟩)]
theorem ZiV (n:Value)(v tv:Value)(ls:List Lk)(f t r:Int)(w:World)(hls:ls.length<=1048576)(hv:Zbf w v ls w.heap.size):
  Calls Tryz.prog 93 #[.agg #[n,v,tv],.int .i64 f,.int .i64 t,.int .i64 r] w fun e w'=>e=.returned (.int .i64 (ZbS ls f t r))/\Below w.heap.size w w':=by
 obtain⟨a,cap,rfl⟩:∃ a cap,v=.slice a ls.length cap:=by obtain ⟨a,cap,h,_⟩:=hv;exact⟨a,cap,h⟩
 have HV:=hide hv;clear hv
 go_enter Tryz.func93,Tryz.ntmps93
 go_wp2
 go_loopw [17] (fun i wr=>∃ k:Nat,k<=ls.length/\i=.int .i64 k/\(∀ j,j<k->∀ l,ls[j]? = some l->Zcb f t r l=false)/\Below w.heap.size w wr) (fun i _=>ls.length-(intOf i).toNat)
 case atStart=>exact ⟨0,by omega,rfl,by omega,(Below.refl _ _).alloc (Nat.le_refl _) _⟩
 case round=>
  obtain⟨k,hk,rfl,hno,hb⟩:=hrel;have HNO:=hide hno;clear hno;by_cases hlt:k<ls.length
  ·obtain ⟨l,hl⟩:∃ l,ls[k]? = some l:=⟨ls[k],List.getElem?_eq_getElem hlt⟩
   obtain⟨b,off,cap',hve,hbb,c0,c1,c2,c3⟩:=HV.out.cells k l hl;cases hve
   rw [<-hb.cell (p:=⟨b,off+k*4,none⟩) hbb] at c0;rw [<-hb.cell (p:=⟨b,off+k*4+1,none⟩) hbb] at c1;rw [<-hb.cell (p:=⟨b,off+k*4+2,none⟩) hbb] at c2;rw [<-hb.cell (p:=⟨b,off+k*4+3,none⟩) hbb] at c3;have HL:=hide hl;have hbo:=ZkJ l;clear hl;obtain⟨la,lb,lc,lr⟩:=l;unfold Zou lkV at hbo;simp only [] at hbo
   have HBO:=hide hbo;clear hbo
   go_wp2_with fail
   refine (HBO.out _).mono ?_
   rintro e w1 ⟨rfl,b1⟩;have hp:w1.heap[wr.heap.size]? = some (.cells #[.int .i64 la,.int .i64 lb,.int .i64 lc,.int .i64 lr] 84):=by
    rw [b1.block _ (by simp;omega),Below.heap_alloc _ _ _ (by simp),heap_alloc_new]
   have hq:w1.heap[wr.heap.size+1]? = some (.cells #[.int .i64 f,.int .i64 t,.int .i64 lc,.int .i64 r] 84):=by
    rw [b1.block _ (by simp)]
    have:=heap_alloc_new (wr.alloc (.cells #[.int .i64 la,.int .i64 lb,.int .i64 lc,.int .i64 lr] 84)) (.cells #[.int .i64 f,.int .i64 t,.int .i64 lc,.int .i64 r] 84)
    simpa using this
   have hbr:=hb.size;have B1:Below w.heap.size w w1:=(hb.trans ((Zan _ _).mono hb.size)).trans (b1.mono (by simp;omega))
   have HP:=hide hp;have HQ:=hide hq;clear hp hq b1 c0 c1 c2 c3 hb;obtain⟨z,hz⟩:∃ z,z=wr.heap.size:=⟨_,rfl⟩;rw [<-hz] at HP HQ hbr |-;clear hz wr
   go_wp2
   go_loopw [29] (fun i wr=>∃ j:Nat,j<=2/\i=.int .i64 j/\(1<=j->¬(la=f/\lb=t/\lr=r))/\(2<=j->¬(lb=f/\la=t/\lr=r))/\Below w.heap.size w wr/\wr.heap[z]? = some (.cells #[.int .i64 la,.int .i64 lb,.int .i64 lc,.int .i64 lr] 84)/\wr.heap[z+1]? = some (.cells #[.int .i64 f,.int .i64 t,.int .i64 lc,.int .i64 r] 84)) (fun i _=>2-(intOf i).toNat)
   case atStart=>exact ⟨0,by omega,rfl,by omega,by omega,B1,HP.out,HQ.out⟩
   case round=>
    obtain⟨j,hj,rfl,hn1,hn2,hb,hp,hq⟩:=hrel;have HN1:=hide hn1;have HN2:=hide hn2;have p0:=Zaa hp 0;have p1:=Zaa hp 1;have p2:=Zaa hp 2;have p3:=Zaa hp 3;have q0:=Zaa hq 0;have q1:=Zaa hq 1;have q2:=Zaa hq 2;have q3:=Zaa hq 3;simp at p0 p1 p2 p3 q0 q1 q2 q3
    have hz1:=Zab hq;have hz0:=Zab hp;have HP:=hide hp;have HQ:=hide hq;clear hn1 hn2 hp hq;obtain rfl | rfl | rfl:j=0\/j=1\/j=2:=by omega
    ·have i0:=fun W=>Zji W (.int .i64 la) (.int .i64 lb) (.int .i64 lc) (.int .i64 lr) (.int .i64 lb) (.int .i64 la) (.int .i64 lc) (.int .i64 lr)
     by_cases h:la=f/\lb=t/\lr=r
     ·have e0:=Zk8 (lc:=lc) h
      have hh:Zcb f t r ⟨la,lb,lc,lr⟩=true:=by simp [Zcb,h.1,h.2.1,h.2.2]
      have HH:=hide hh;clear hh h
      go_wp2
      go_ret
      exact⟨ZdQ (ZhN HNO.out HL.out HH.out).symm,hb.alloc hb.size _⟩
     ·have e0:=ZnW (lc:=lc) h
      have HH:=hide h;clear h
      go_wp2
      go_roundw
      case rel=>exact ⟨1,by omega,by go_num,fun _=>HH.out,by omega,hb.alloc hb.size _,by rw [Below.heap_alloc _ _ _ hz0];exact HP.out,by rw [Below.heap_alloc _ _ _ hz1];exact HQ.out⟩
      case measure=>simp [intOf]
    ·have i0:=fun W=>Zjj W (.int .i64 la) (.int .i64 lb) (.int .i64 lc) (.int .i64 lr) (.int .i64 lb) (.int .i64 la) (.int .i64 lc) (.int .i64 lr)
     by_cases h:lb=f/\la=t/\lr=r
     ·have e0:=Zk8 (lc:=lc) h
      have hh:Zcb f t r ⟨la,lb,lc,lr⟩=true:=by simp [Zcb,h.1,h.2.1,h.2.2]
      have HH:=hide hh;clear hh h
      go_wp2
      go_ret
      exact⟨ZdQ (ZhN HNO.out HL.out HH.out).symm,hb.alloc hb.size _⟩
     ·have e0:=ZnW (lc:=lc) h
      have HH:=hide h;clear h
      go_wp2
      go_roundw
      case rel=>exact ⟨2,by omega,by go_num,fun _=>HN1.out (by omega),fun _=>HH.out,hb.alloc hb.size _,by rw [Below.heap_alloc _ _ _ hz0];exact HP.out,by rw [Below.heap_alloc _ _ _ hz1];exact HQ.out⟩
      case measure=>simp [intOf]
    ·have hh:Zcb f t r ⟨la,lb,lc,lr⟩=false:=by
      have m1:=HN1.out (by omega)
      have m2:=HN2.out (by omega)
      simp only [Zcb]
      grind
     have HH:=hide hh;clear hh
     go_wp2
     exact⟨⟨k+1,by omega,by go_num,ZfY HNO.out HL.out HH.out,hb⟩,by simp [intOf];omega⟩
  ·have hk':k=ls.length:=by omega
   have HK:=hide hk';clear hk'
   go_wp2
   go_ret
   exact⟨ZdQ (ZiE HNO.out HK.out).symm,hb⟩
theorem Zmf (v1 v2:Value)(xs ys:List Int)(w:World)(h1:Zeb w v1 xs w.heap.size)(h2:Zeb w v2 ys w.heap.size)(hn:xs.length<=1048576):
  Calls Tryz.prog 21 #[v1,v2] w fun e w'=>e=.returned (.bool (decide (xs=ys)))/\Below w.heap.size w w':=by
 obtain⟨a1,c1,rfl,k1⟩:=h1;obtain⟨a2,c2,rfl,k2⟩:=h2;by_cases hl:xs.length=ys.length
 ·have K1:=hide k1
  have K2:=hide k2;clear k1 k2
  go_enter Tryz.func21,Tryz.ntmps21
  go_wp2
  go_loopw [5] (fun i wr=>∃ k:Nat,k<=xs.length/\i=.int .i64 k/\(∀ j,j<k->xs.getD j 0=ys.getD j 0)/\Below w.heap.size w wr) (fun i _=>xs.length-(intOf i).toNat)
  case atStart=>exact ⟨0,by omega,rfl,by omega,Below.refl _ _⟩
  case round=>
   obtain⟨k,hk,rfl,hall,hnx⟩:=hrel;have HALL:=hide hall;clear hall;by_cases hlt:k<xs.length
   ·obtain ⟨b1,o1,ha1,hb1,d1⟩:∃ b1 o1,a1=some ⟨b1,o1,none⟩/\b1<w.heap.size/\wr.cell? ⟨b1,o1+k,none⟩=some (.int .i64 (xs.getD k 0)):=by
     rcases K1.out with h0 | ⟨b,off,ha,hb,hx⟩
     ·omega
     ·exact ⟨b,off,ha,hb,by rw [hnx.cell (p:=⟨b,off+k,none⟩) hb,hx k (by omega)];rfl⟩
    obtain⟨b2,o2,ha2,hb2,d2⟩:∃ b2 o2,a2=some ⟨b2,o2,none⟩/\b2<w.heap.size/\wr.cell? ⟨b2,o2+k,none⟩=some (.int .i64 (ys.getD k 0)):=by
     rcases K2.out with h0 | ⟨b,off,ha,hb,hx⟩
     ·omega
     ·exact ⟨b,off,ha,hb,by rw [hnx.cell (p:=⟨b,off+k,none⟩) hb,hx k (by omega)];rfl⟩
    subst ha1 ha2;have hki:(0:Int)<=(k:Int):=by omega
    have hkj:(k:Int)<(xs.length:Int):=by omega
    have hkl:(k:Int)<(ys.length:Int):=by omega
    obtain⟨x,hx⟩:∃ x,x=xs.getD k 0:=⟨_,rfl⟩;obtain⟨y,hy⟩:∃ y,y=ys.getD k 0:=⟨_,rfl⟩;rw [<-hx] at d1;rw [<-hy] at d2;have HX:=hide hx;have HY:=hide hy;clear hx hy;by_cases hxy:x=y
    ·subst hxy
     go_wp2
     go_quiet (fail)
     go_wp2
     go_roundw
     case rel=>exact ⟨k+1,by omega,by go_num,(fun j hj=>by
      by_cases e:j=k
      ·subst e;rw [<-HX.out, <-HY.out]
      ·exact HALL.out j (by omega)),ZbZ hnx _⟩
     case measure=>simp [intOf];omega
    ·have hd:(x != y)=true:=by simpa using hxy
     go_wp2
     go_quiet (fail)
     go_wp2
     go_ret
     exact⟨ZaA (Zff (k:=k) (by rw [<-HX.out, <-HY.out];exact hxy)),ZbZ hnx _⟩
   ·have hkn:k=xs.length:=by omega
    have KN:=hide hkn;clear hkn
    go_wp2
    go_ret
    exact⟨ZaV (Zem hl (by rw [<-KN.out];exact HALL.out)),hnx⟩
 ·clear k1 k2
  have hd:((xs.length:Int) != (ys.length:Int))=true:=by simp;omega
  go_enter Tryz.func21,Tryz.ntmps21
  go_wp2
  go_ret
  exact⟨ZaA (fun h=>hl (by rw [h])),Below.refl _ _⟩
theorem Zgv (v1 v2:Value)(xs ys:List Int)(w:World)(h1:Zeb w v1 xs w.heap.size)(h2:Zeb w v2 ys w.heap.size)(hn:xs.length<=1048576):
  Calls Tryz.prog 55 #[v1,v2] w fun e w'=>e=.returned (.bool (decide (xs=ys)))/\Below w.heap.size w w':=by
 obtain⟨a1,c1,rfl,k1⟩:=h1;obtain⟨a2,c2,rfl,k2⟩:=h2;by_cases hl:xs.length=ys.length
 ·have K1:=hide k1
  have K2:=hide k2;clear k1 k2
  go_enter Tryz.func55,Tryz.ntmps55
  go_wp2
  go_loopw [13] (fun i wr=>∃ k:Nat,k<=xs.length/\i=.int .i64 k/\(∀ j,j<k->xs.getD j 0=ys.getD j 0)/\Below w.heap.size w wr) (fun i _=>xs.length-(intOf i).toNat)
  case atStart=>exact ⟨0,by omega,rfl,by omega,Below.refl _ _⟩
  case round=>
   obtain⟨k,hk,rfl,hall,hnx⟩:=hrel;have HALL:=hide hall;clear hall;by_cases hlt:k<xs.length
   ·obtain ⟨b1,o1,ha1,hb1,d1⟩:∃ b1 o1,a1=some ⟨b1,o1,none⟩/\b1<w.heap.size/\wr.cell? ⟨b1,o1+k,none⟩=some (.int .i64 (xs.getD k 0)):=by
     rcases K1.out with h0 | ⟨b,off,ha,hb,hx⟩
     ·omega
     ·exact ⟨b,off,ha,hb,by rw [hnx.cell (p:=⟨b,off+k,none⟩) hb,hx k (by omega)];rfl⟩
    obtain⟨b2,o2,ha2,hb2,d2⟩:∃ b2 o2,a2=some ⟨b2,o2,none⟩/\b2<w.heap.size/\wr.cell? ⟨b2,o2+k,none⟩=some (.int .i64 (ys.getD k 0)):=by
     rcases K2.out with h0 | ⟨b,off,ha,hb,hx⟩
     ·omega
     ·exact ⟨b,off,ha,hb,by rw [hnx.cell (p:=⟨b,off+k,none⟩) hb,hx k (by omega)];rfl⟩
    subst ha1 ha2;have hki:(0:Int)<=(k:Int):=by omega
    have hkj:(k:Int)<(xs.length:Int):=by omega
    have hkl:(k:Int)<(ys.length:Int):=by omega
    obtain⟨x,hx⟩:∃ x,x=xs.getD k 0:=⟨_,rfl⟩;obtain⟨y,hy⟩:∃ y,y=ys.getD k 0:=⟨_,rfl⟩;rw [<-hx] at d1;rw [<-hy] at d2;have HX:=hide hx;have HY:=hide hy;clear hx hy;by_cases hxy:x=y
    ·subst hxy
     go_wp2
     go_quiet (fail)
     go_wp2
     go_roundw
     case rel=>exact ⟨k+1,by omega,by go_num,(fun j hj=>by
      by_cases e:j=k
      ·subst e;rw [<-HX.out, <-HY.out]
      ·exact HALL.out j (by omega)),ZbZ hnx _⟩
     case measure=>simp [intOf];omega
    ·have hd:(x != y)=true:=by simpa using hxy
     go_wp2
     go_quiet (fail)
     go_wp2
     go_ret
     exact⟨ZaA (Zff (k:=k) (by rw [<-HX.out, <-HY.out];exact hxy)),ZbZ hnx _⟩
   ·have hkn:k=xs.length:=by omega
    have KN:=hide hkn;clear hkn
    go_wp2
    go_ret
    exact⟨ZaV (Zem hl (by rw [<-KN.out];exact HALL.out)),hnx⟩
 ·clear k1 k2
  have hd:((xs.length:Int) != (ys.length:Int))=true:=by simp;omega
  go_enter Tryz.func55,Tryz.ntmps55
  go_wp2
  go_ret
  exact⟨ZaA (fun h=>hl (by rw [h])),Below.refl _ _⟩
theorem Zhc (v1 v2 v3 v4 v5:Value)(x:SelfD)(ps:List RP)(es:List Th)(w:World)(hE:es.length<=1048576)(hv:NodeIn w v1 v2 v3 v4 v5 x ps es w.heap.size):
  Calls Tryz.prog 56 #[Zd8 x v1 v2 v3 v4 v5] w fun e w'=>∃ u,e=.returned u/\w'.ownsRow w.heap.size 3 1 u (Zbc es).length (flat intE (Zbc es))/\Below w.heap.size w w':=by
 obtain⟨⟨a1,c1,rfl⟩,⟨a2,c2,rfl⟩,⟨a3,c3,rfl⟩,⟨a4,c4,rfl⟩,⟨a5,c5,rfl⟩⟩:=hv.shapes;have HV:=hide hv.ears;clear hv;have B0:Below w.heap.size w (w.alloc (.cells #[.int .i64 x.id,.int .i64 x.boot,.int .i64 x.net.n,.slice a1 x.net.ls.length c1,.slice a2 x.net.ts.length c2,.slice a3 x.heard.length c3,.slice a4 ps.length c4,.slice a5 es.length c5] 44)):=(Below.refl _ _).alloc (Nat.le_refl _) _
 go_enter Tryz.func56,Tryz.ntmps56
 go_wp2
 go_loopw [9,3] (fun i o wr=>∃ (k:Nat) (u:Value) (hs:List Int),k<=es.length/\i=.int .i64 (k:Int)/\o=u/\Hid (hs=Zbc (es.take k))/\hs.length<=2*k/\wr.ownsRow w.heap.size 3 1 u hs.length (flat intE hs)/\Below w.heap.size w wr) (fun i _ _=>es.length-(intOf i).toNat)
 case atStart=>exact ⟨0,_,[],by omega,rfl,rfl,hide (by simp [Zbc]),by simp,World.ownsRow_nil _ _ _ _,B0⟩
 case round=>
  obtain⟨k,u,hs,hk,rfl,rfl,HQ,hql,hown,hnx⟩:=hrel;obtain⟨xa,xc,rfl⟩:=Zac hown;have hsz:=hnx.size;clear B0;by_cases hlt:k<es.length
  ·obtain ⟨e,hp⟩:∃ e,es[k]? = some e:=⟨es[k],List.getElem?_eq_getElem hlt⟩
   obtain⟨bb,off,cp,hve,hbb,d0,d1,d2,d3⟩:=HV.out.cells k e hp;cases hve
   obtain⟨eo,ek,ec,ef⟩:=e;rw [<-hnx.cell (p:=⟨bb,off+k*4,none⟩) hbb] at d0;rw [<-hnx.cell (p:=⟨bb,off+k*4+1,none⟩) hbb] at d1;rw [<-hnx.cell (p:=⟨bb,off+k*4+2,none⟩) hbb] at d2;rw [<-hnx.cell (p:=⟨bb,off+k*4+3,none⟩) hbb] at d3;simp only [] at d0 d1 d2 d3
   have hki:(0:Int)<=(k:Int):=by omega
   have hkj:(k:Int)<(es.length:Int):=by omega
   have HP:=hide hp;cases ef with
   | false=>
     have HN:=hide (ZiT HP.out (show (⟨eo,ek,ec,false⟩:Th).f=false from rfl))
     have BA:Below wr.heap.size wr (wr.alloc (.cells #[.int .i64 eo,.int .i64 ek,.int .i64 ec,.bool false] 58)):=(Below.refl _ _).alloc (Nat.le_refl _) _;have N1:=hide (Zaf hown BA (Nat.le_refl _));have N2:=hide (hnx.trans (BA.mono hsz));have HL:=hide (show hs=Zbc (es.take (k+1)) by rw [HN.out, <-HQ.out])
     clear hp hown hnx BA HQ HN
     go_wp2
     go_roundw
     case rel=>exact ⟨k+1,_,hs,by omega,by go_num,rfl,HL,by omega,N1.out,N2.out⟩
     case measure=>simp [intOf];omega
   | true=>
     have HN:=hide (Zg8 HP.out (show (⟨eo,ek,ec,true⟩:Th).f=true from rfl))
     have BA:Below wr.heap.size wr (wr.alloc (.cells #[.int .i64 eo,.int .i64 ek,.int .i64 ec,.bool true] 58)):=(Below.refl _ _).alloc (Nat.le_refl _) _;have hs1:(wr.alloc (.cells #[.int .i64 eo,.int .i64 ek,.int .i64 ec,.bool true] 58)).heap.size=wr.heap.size+1:=by simp
     have HS1:=hide hs1;have B2:=hide (hnx.trans ((BA.trans (((Below.refl (wr.alloc (.cells #[.int .i64 eo,.int .i64 ek,.int .i64 ec,.bool true] 58)).heap.size (wr.alloc (.cells #[.int .i64 eo,.int .i64 ek,.int .i64 ec,.bool true] 58))).alloc (Nat.le_refl _) (.cells #[.int .i64 eo,.int .i64 ek] 3)).mono BA.size)).mono hsz));have OW:=hide ((hown.alloc (.cells #[.int .i64 eo,.int .i64 ek,.int .i64 ec,.bool true] 58)).alloc (.cells #[.int .i64 eo,.int .i64 ek] 3));have HOB:=hide (fun j (hj:(Value.slice xa hs.length xc).ownBlock=some j)=>(hown.lt j hj).1)
     clear hp hown hnx BA hs1
     go_wp2_with (first
      | (at_builtin;refine Zfr (by decide) _ rfl _ _ 26 rfl w.heap.size 3 Tryz.underlying26 Tryz.info3 (.slice xa hs.length xc) hs eo ek rfl OW.out ⟨wr.heap.size+1,0,none⟩ 2 rfl (fun j u hj=>by
        have h:=Zaz (w:=(wr.alloc (.cells #[.int .i64 eo,.int .i64 ek,.int .i64 ec,.bool true] 58))) (cs:=[.int .i64 eo,.int .i64 ek]) (t:=3) j u hj;rw [HS1.out] at h;exact h) (by omega) (by simp;omega) ?_))
     intro v' w6 l' hl' hown' hgrow;have N2:=hide (B2.out.grown hgrow (by have:=B2.out.size;omega) HOB.out)
     obtain⟨va,vc,rfl⟩:=Zac hown';have N1:=hide hown';have HL:=hide (show l'=Zbc (es.take (k+1)) by rw [hl'.out,HN.out, <-HQ.out])
     have hll:l'.length<=2*(k+1):=by rw [hl'.out];simp;omega
     clear hown' hgrow OW HOB B2 HS1 hl' HN
     go_wp2
     go_roundw
     case rel=>exact ⟨k+1,_,l',by omega,by go_num,rfl,HL,hll,N1.out,N2.out⟩
     case measure=>simp [intOf];omega
  ·have hkn:¬(k:Int)<(es.length:Int):=by omega
   have HE:=hide (show hs=Zbc es from by rw [HQ.out,List.take_of_length_le (by omega)])
   have HO:=hide hown;have HN:=hide hnx;clear hown hnx HQ
   go_wp2
   go_ret
   rw [<-HE.out];exact⟨_,rfl,HO.out,HN.out⟩
theorem Zm0 (e f:Th)(w:World):Calls Tryz.prog 54 #[thV e,thV f] w fun r w'=>r=.returned (.bool (Zbe e f))/\Below w.heap.size w w':=by
 obtain⟨eo,ek,ec,ef⟩:=e;obtain⟨fo,fk,fc,ff⟩:=f;have B2:Below w.heap.size w ((w.alloc (.cells #[.int .i64 eo,.int .i64 ek,.int .i64 ec,.bool ef] 58)).alloc (.cells #[.int .i64 fo,.int .i64 fk,.int .i64 fc,.bool ff] 58)):=Zan _ _;unfold thV;by_cases h1:eo=fo
 ·by_cases h2:ek=fk
  ·subst h1 h2
   obtain⟨q,hq⟩:∃ q,q=inB ec 0 3:=⟨_,rfl⟩;have HI:=hide (fun W=>Za1 ec 0 3 W)
   rw [<-hq] at HI;have HQ:=hide hq;clear hq;cases q with
   | false=>
    have HF:=hide (show Zbe ⟨eo,ek,ec,ef⟩ ⟨eo,ek,fc,ff⟩=false by unfold Zbe;rw [<-HQ.out];simp)
    go_enter Tryz.func54,Tryz.ntmps54
    go_wp2_with fail
    refine (HI.out _).mono ?_
    rintro r w' ⟨rfl,rfl⟩
    go_wp2
    go_ret
    exact⟨Zag HF.out,B2⟩
   | true=>
    by_cases h3:0<ec
    ·have hd:decide (0<ec)=true:=decide_eq_true h3
     cases ef with
     | false=>
      have HF:=hide (show Zbe ⟨eo,ek,ec,false⟩ ⟨eo,ek,fc,ff⟩=true by unfold Zbe;rw [<-HQ.out];simp)
      go_enter Tryz.func54,Tryz.ntmps54
      go_wp2_with fail
      refine (HI.out _).mono ?_
      rintro r w' ⟨rfl,rfl⟩
      go_wp2
      go_ret
      exact⟨Zag HF.out,B2⟩
     | true=>
      have HF:=hide (show Zbe ⟨eo,ek,ec,true⟩ ⟨eo,ek,fc,ff⟩=true by unfold Zbe;rw [<-HQ.out];simp [h3])
      go_enter Tryz.func54,Tryz.ntmps54
      go_wp2_with fail
      refine (HI.out _).mono ?_
      rintro r w' ⟨rfl,rfl⟩
      go_wp2
      go_ret
      exact⟨Zag HF.out,B2⟩
    ·have hd:decide (0<ec)=false:=decide_eq_false h3
     cases ef with
     | false=>
      have HF:=hide (show Zbe ⟨eo,ek,ec,false⟩ ⟨eo,ek,fc,ff⟩=true by unfold Zbe;rw [<-HQ.out];simp)
      go_enter Tryz.func54,Tryz.ntmps54
      go_wp2_with fail
      refine (HI.out _).mono ?_
      rintro r w' ⟨rfl,rfl⟩
      go_wp2
      go_ret
      exact⟨Zag HF.out,B2⟩
     | true=>
      have HF:=hide (show Zbe ⟨eo,ek,ec,true⟩ ⟨eo,ek,fc,ff⟩=false by unfold Zbe;simp [h3])
      go_enter Tryz.func54,Tryz.ntmps54
      go_wp2_with fail
      refine (HI.out _).mono ?_
      rintro r w' ⟨rfl,rfl⟩
      go_wp2
      go_ret
      exact⟨Zag HF.out,B2⟩
  ·subst h1
   have hd:(ek==fk)=false:=by simpa using h2
   have HF:=hide (show Zbe ⟨eo,ek,ec,ef⟩ ⟨eo,fk,fc,ff⟩=false by unfold Zbe;simp [h2])
   go_enter Tryz.func54,Tryz.ntmps54
   go_wp2
   go_ret
   exact⟨Zag HF.out,B2⟩
 ·have hd:(eo==fo)=false:=by simpa using h1
  have HF:=hide (show Zbe ⟨eo,ek,ec,ef⟩ ⟨fo,fk,fc,ff⟩=false by unfold Zbe;simp [h1])
  go_enter Tryz.func54,Tryz.ntmps54
  go_wp2
  go_ret
  exact⟨Zag HF.out,B2⟩

theorem ZpU (l:Th):∀ u∈thE l,u.oneCell'=true:=by
 intro u hu;simp only [thE,List.mem_cons,List.not_mem_nil,or_false] at hu
 rcases hu with rfl | rfl | rfl | rfl <;> rfl
def putT (ls:List Th)(l:Th):List Th:=ls.filter (fun x=>ZgE x l)++[l]++ls.filter (fun x=>ZgE l x)
end Go.Proofs.YtnndlmodjkplnaaGreatDoor
