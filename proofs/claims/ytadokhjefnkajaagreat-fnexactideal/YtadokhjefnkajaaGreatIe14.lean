/-
  StoreI BeyDag PutDag
-/
import Derived.Test.YtadokhjefnkajaaGreatIe13
import Derived.Test.YtadokhjefnkajaaGreatIe12
import Derived.Test.YtadokhjefnkajaaGreatIe11
import Derived.Test.YtadokhjefnkajaaGreatIe3
namespace Go.Proofs.YtadokhjefnkajaaGreat
open Go.RowKit
set_option linter.unusedSimpArgs false
set_option linter.unusedVariables false
set_option maxRecDepth 100000
set_option maxHeartbeats 8000000
def ordR (x y:RecD):Int:=cmpK (cmpN x.area y.area) (cmpN x.kind y.kind) (cmpN x.owner y.owner) (cmpN x.key y.key)
theorem ZfI (x y:RecD):decide (ordR x y<0)=Zam x y:=Zoa x y
def ZaI (xs:List RecD):Bool:=decide (xs.length<=150)&&ZbJ ZaX xs&&ascB ordR xs
theorem ZbV (v1 v2:Value)(x y:RecD)(w:World):Calls Tryz.prog 133 #[.agg (recC x v1),.agg (recC y v2)] w fun e w'=>e=.returned (.int .i64 (ordR x y))/\Below w.heap.size w w':=by
 have HK:=hide Zm3;unfold ordR;have HO:=hide (Zh1 x.area x.kind x.owner x.key y.area y.kind y.owner y.key);obtain⟨r,hr⟩:∃ r,r=cmpK (cmpN x.area y.area) (cmpN x.kind y.kind) (cmpN x.owner y.owner) (cmpN x.key y.key):=⟨_,rfl⟩;rw [<-hr] at HO |-;clear hr;unfold recC at *
 go_enter Tryz.func133,Tryz.ntmps133
 go_wp2
 obtain⟨w1,hw1⟩:∃ w1,w1=(w.alloc (.cells #[.int .i64 x.area,.int .i64 x.kind,.int .i64 x.owner,.int .i64 x.key,.int .i64 x.seq,v1,.int .i64 x.cost,.bool x.far] 39)).alloc (.cells #[.int .i64 y.area,.int .i64 y.kind,.int .i64 y.owner,.int .i64 y.key,.int .i64 y.seq,v2,.int .i64 y.cost,.bool y.far] 39):=⟨_,rfl⟩;have B1:Below w.heap.size w w1:=by rw [hw1];exact Zas _ _
 have p0:w1.heap[w.heap.size]? = some (.cells #[.int .i64 x.area,.int .i64 x.kind,.int .i64 x.owner,.int .i64 x.key,.int .i64 x.seq,v1,.int .i64 x.cost,.bool x.far] 39):=by rw [hw1,Below.heap_alloc _ _ _ (by simp),heap_alloc_new]
 have q0:w1.heap[w.heap.size+1]? = some (.cells #[.int .i64 y.area,.int .i64 y.kind,.int .i64 y.owner,.int .i64 y.key,.int .i64 y.seq,v2,.int .i64 y.cost,.bool y.far] 39):=by
  rw [hw1];have:=heap_alloc_new (w.alloc (.cells #[.int .i64 x.area,.int .i64 x.kind,.int .i64 x.owner,.int .i64 x.key,.int .i64 x.seq,v1,.int .i64 x.cost,.bool x.far] 39)) (.cells #[.int .i64 y.area,.int .i64 y.kind,.int .i64 y.owner,.int .i64 y.key,.int .i64 y.seq,v2,.int .i64 y.cost,.bool y.far] 39)
  simpa using this
 rw [<-hw1];clear hw1;have s0:=Zaa p0 0;have s1:=Zaa p0 1;have s2:=Zaa p0 2;have s3:=Zaa p0 3;have s4:=Zaa p0 4;have s5:=Zaa p0 5;have s6:=Zaa p0 6;have s7:=Zaa p0 7;simp at s0 s1 s2 s3 s4 s5 s6 s7
 have t0:=Zaa q0 0;have t1:=Zaa q0 1;have t2:=Zaa q0 2;have t3:=Zaa q0 3;have t4:=Zaa q0 4;have t5:=Zaa q0 5;have t6:=Zaa q0 6;have t7:=Zaa q0 7;simp at t0 t1 t2 t3 t4 t5 t6 t7
 have hz0:=Zab p0;have hz1:=Zab q0;clear p0 q0;have hz2:=B1.size
 go_region_held3 (fun W=>W.cell? ⟨w.heap.size,0,none⟩=some (.int .i64 x.area)/\W.cell? ⟨w.heap.size,1,none⟩=some (.int .i64 x.kind)/\W.cell? ⟨w.heap.size,2,none⟩=some (.int .i64 x.owner)/\W.cell? ⟨w.heap.size,3,none⟩=some (.int .i64 x.key)/\W.cell? ⟨w.heap.size,4,none⟩=some (.int .i64 x.seq)/\W.cell? ⟨w.heap.size,5,none⟩=some (v1)/\W.cell? ⟨w.heap.size,6,none⟩=some (.int .i64 x.cost)/\W.cell? ⟨w.heap.size,7,none⟩=some (.bool x.far)/\W.cell? ⟨w.heap.size+1,0,none⟩=some (.int .i64 y.area)/\W.cell? ⟨w.heap.size+1,1,none⟩=some (.int .i64 y.kind)/\W.cell? ⟨w.heap.size+1,2,none⟩=some (.int .i64 y.owner)/\W.cell? ⟨w.heap.size+1,3,none⟩=some (.int .i64 y.key)/\W.cell? ⟨w.heap.size+1,4,none⟩=some (.int .i64 y.seq)/\W.cell? ⟨w.heap.size+1,5,none⟩=some (v2)/\W.cell? ⟨w.heap.size+1,6,none⟩=some (.int .i64 y.cost)/\W.cell? ⟨w.heap.size+1,7,none⟩=some (.bool y.far)) (first | go_keep | (refine ⟨?_,?_,?_,?_,?_,?_,?_,?_,?_,?_,?_,?_,?_,?_,?_,?_⟩ <;> (rw [b4.cell (Nat.lt_of_lt_of_le (Nat.lt_of_lt_of_le (by assumption) b2.size) b3.size),b3.cell (Nat.lt_of_lt_of_le (by assumption) b2.size),b2.cell (by assumption)];assumption)) | (refine ⟨?_,?_,?_,?_,?_,?_,?_,?_,?_,?_,?_,?_,?_,?_,?_,?_⟩ <;> (rw [b3.cell (Nat.lt_of_lt_of_le (by assumption) b2.size),b2.cell (by assumption)];assumption)) | (refine ⟨?_,?_,?_,?_,?_,?_,?_,?_,?_,?_,?_,?_,?_,?_,?_,?_⟩ <;> (rw [b2.cell (by assumption)];assumption))) (first | (go_at_call 190;refine (HO.out _).mono ?_;rintro e w4 ⟨rfl,b4⟩) | (have hb2:=b2;refine (HK.out _ _ _ _ _ _ _ _ _).mono ?_;rintro e w3 ⟨rfl,b3⟩) | (refine (HK.out _ _ _ _ _ _ _ _ _).mono ?_;rintro e w2 ⟨rfl,b2⟩))
 have B2:Below w.heap.size w w2:=B1.drew.trans (b2.mono B1.size);have B3:Below w.heap.size w w3:=B2.trans (b3.mono B2.size);have B4:Below w.heap.size w w4:=B3.trans (b4.mono B3.size)
 go_wp2
 go_ret
 exact⟨rfl,B4⟩
theorem Zlk (v:Value)(ps:List RP)(w:World)(hls:ps.length<=1048576)(hv:Zbn w v ps w.heap.size):
  Calls Tryz.prog 195 #[v,.func (.func 133) #[] #[]] w fun e w'=>e=.returned (.bool (ascB ordR (fsts ps)))/\Below w.heap.size w w':=by
 obtain⟨a,cap,rfl⟩:=hv.shape;have HV:=hide hv;clear hv;have hfl:(fsts ps).length=ps.length:=by simp [fsts]
 have HFL:=hide hfl;clear hfl
 go_enter Tryz.func195,Tryz.ntmps195
 go_wp2
 go_loopw [5] (fun i wr=>∃ k:Nat,1<=k/\(k<=ps.length\/k=1)/\i=.int .i64 k/\(∀ j,j<k->Zb0 ordR (fsts ps) j=true)/\Below w.heap.size w wr) (fun i _=>ps.length+1-(intOf i).toNat)
 case atStart=>exact ⟨1,by omega,by omega,rfl,fun j hj=>by (obtain rfl:j=0:=by omega);rfl,Below.refl _ _⟩
 case round=>
  obtain⟨k,hk1,hk,rfl,hno,hb⟩:=hrel;have HNO:=hide hno;clear hno;by_cases hlt:k<ps.length
  ·obtain ⟨l,hl⟩:∃ l,ps[k]? = some l:=⟨ps[k],List.getElem?_eq_getElem hlt⟩
   obtain⟨j,hj⟩:∃ j,k=j+1:=⟨k-1,by omega⟩
   obtain⟨p,hp⟩:∃ p,ps[j]? = some p:=⟨ps[j],List.getElem?_eq_getElem (by omega)⟩
   obtain⟨b,off,cap',hve,hbb,c0,c1,c2,c3,c4,c5,c6,c7,_⟩:=HV.out.cells k l hl;cases hve
   obtain⟨b',off',cap2,hve2,hbb2,d0,d1,d2,d3,d4,d5,d6,d7,_⟩:=HV.out.cells j p hp;cases hve2
   rw [<-hb.cell (p:=⟨b,off+k*8,none⟩) hbb] at c0;rw [<-hb.cell (p:=⟨b,off+k*8+1,none⟩) hbb] at c1;rw [<-hb.cell (p:=⟨b,off+k*8+2,none⟩) hbb] at c2;rw [<-hb.cell (p:=⟨b,off+k*8+3,none⟩) hbb] at c3;rw [<-hb.cell (p:=⟨b,off+k*8+4,none⟩) hbb] at c4;rw [<-hb.cell (p:=⟨b,off+k*8+5,none⟩) hbb] at c5;rw [<-hb.cell (p:=⟨b,off+k*8+6,none⟩) hbb] at c6;rw [<-hb.cell (p:=⟨b,off+k*8+7,none⟩) hbb] at c7;rw [<-hb.cell (p:=⟨b,off+j*8,none⟩) hbb] at d0;rw [<-hb.cell (p:=⟨b,off+j*8+1,none⟩) hbb] at d1;rw [<-hb.cell (p:=⟨b,off+j*8+2,none⟩) hbb] at d2;rw [<-hb.cell (p:=⟨b,off+j*8+3,none⟩) hbb] at d3;rw [<-hb.cell (p:=⟨b,off+j*8+4,none⟩) hbb] at d4;rw [<-hb.cell (p:=⟨b,off+j*8+5,none⟩) hbb] at d5;rw [<-hb.cell (p:=⟨b,off+j*8+6,none⟩) hbb] at d6;rw [<-hb.cell (p:=⟨b,off+j*8+7,none⟩) hbb] at d7;have hat:Zb0 ordR (fsts ps) k=decide (ordR p.1 l.1<0):=by rw [hj];exact ZbW (Zbw hp) (by rw [<-hj];exact Zbw hl)
   have hzr:=hb.size;have hbr:b<wr.heap.size:=by omega
   have hki:(0:Int)<=(k:Int):=by omega
   have hkj:(k:Int)<(ps.length:Int):=by omega
   have hj1:(k:Int)-1=(j:Int):=by omega
   have hj2:(0:Int)<=(j:Int):=by omega
   have hj3:(j:Int)<(ps.length:Int):=by omega
   have hj5:IntKind.i64.wrap (j:Int)=(j:Int):=ZaK _ (by omega) (by omega)
   have HORD:=hide (ZbV p.2 l.2 p.1 l.1);have HAT:=hide hat;clear hl hp hat hj;obtain⟨x,hx⟩:∃ x,x=ordR p.1 l.1:=⟨_,rfl⟩;rw [<-hx] at HORD HAT;clear hx;unfold recC at HORD;by_cases hx0:x<0
   ·have hx1:¬(0:Int)<=x:=by omega
    rw [decide_eq_true hx0] at HAT
    go_wp2
    go_region_held3 (fun W=>W.cell? ⟨b,off+k*8,none⟩=some (.int .i64 l.1.area)/\W.cell? ⟨b,off+k*8+1,none⟩=some (.int .i64 l.1.kind)/\W.cell? ⟨b,off+k*8+2,none⟩=some (.int .i64 l.1.owner)/\W.cell? ⟨b,off+k*8+3,none⟩=some (.int .i64 l.1.key)/\W.cell? ⟨b,off+k*8+4,none⟩=some (.int .i64 l.1.seq)/\W.cell? ⟨b,off+k*8+5,none⟩=some (l.2)/\W.cell? ⟨b,off+k*8+6,none⟩=some (.int .i64 l.1.cost)/\W.cell? ⟨b,off+k*8+7,none⟩=some (.bool l.1.far)/\W.cell? ⟨b,off+j*8,none⟩=some (.int .i64 p.1.area)/\W.cell? ⟨b,off+j*8+1,none⟩=some (.int .i64 p.1.kind)/\W.cell? ⟨b,off+j*8+2,none⟩=some (.int .i64 p.1.owner)/\W.cell? ⟨b,off+j*8+3,none⟩=some (.int .i64 p.1.key)/\W.cell? ⟨b,off+j*8+4,none⟩=some (.int .i64 p.1.seq)/\W.cell? ⟨b,off+j*8+5,none⟩=some (p.2)/\W.cell? ⟨b,off+j*8+6,none⟩=some (.int .i64 p.1.cost)/\W.cell? ⟨b,off+j*8+7,none⟩=some (.bool p.1.far)) (first | go_keep | (refine ⟨?_,?_,?_,?_,?_,?_,?_,?_,?_,?_,?_,?_,?_,?_,?_,?_⟩ <;> (rw [hbc.cell (by assumption)];assumption))) (first | (go_at_call 133;refine (HORD.out _).mono ?_;rintro e w2 ⟨rfl,hbc⟩))
    go_wp2
    exact⟨⟨k+1,by omega,by omega,by go_num,ZaO HNO.out HAT.out,hb.drew.trans (hbc.mono hb.size)⟩,by simp [intOf];omega⟩
   ·have hx1:(0:Int)<=x:=by omega
    rw [decide_eq_false hx0] at HAT;have hf:ascB ordR (fsts ps)=false:=ZaT (by rw [HFL.out];exact hlt) HAT.out
    have HF:=hide hf;clear hf
    go_wp2
    go_region_held3 (fun W=>W.cell? ⟨b,off+k*8,none⟩=some (.int .i64 l.1.area)/\W.cell? ⟨b,off+k*8+1,none⟩=some (.int .i64 l.1.kind)/\W.cell? ⟨b,off+k*8+2,none⟩=some (.int .i64 l.1.owner)/\W.cell? ⟨b,off+k*8+3,none⟩=some (.int .i64 l.1.key)/\W.cell? ⟨b,off+k*8+4,none⟩=some (.int .i64 l.1.seq)/\W.cell? ⟨b,off+k*8+5,none⟩=some (l.2)/\W.cell? ⟨b,off+k*8+6,none⟩=some (.int .i64 l.1.cost)/\W.cell? ⟨b,off+k*8+7,none⟩=some (.bool l.1.far)/\W.cell? ⟨b,off+j*8,none⟩=some (.int .i64 p.1.area)/\W.cell? ⟨b,off+j*8+1,none⟩=some (.int .i64 p.1.kind)/\W.cell? ⟨b,off+j*8+2,none⟩=some (.int .i64 p.1.owner)/\W.cell? ⟨b,off+j*8+3,none⟩=some (.int .i64 p.1.key)/\W.cell? ⟨b,off+j*8+4,none⟩=some (.int .i64 p.1.seq)/\W.cell? ⟨b,off+j*8+5,none⟩=some (p.2)/\W.cell? ⟨b,off+j*8+6,none⟩=some (.int .i64 p.1.cost)/\W.cell? ⟨b,off+j*8+7,none⟩=some (.bool p.1.far)) (first | go_keep | (refine ⟨?_,?_,?_,?_,?_,?_,?_,?_,?_,?_,?_,?_,?_,?_,?_,?_⟩ <;> (rw [hbc.cell (by assumption)];assumption))) (first | (go_at_call 133;refine (HORD.out _).mono ?_;rintro e w2 ⟨rfl,hbc⟩))
    go_wp2
    go_ret
    exact⟨Zai HF.out,hb.drew.trans (hbc.mono hb.size)⟩
  ·have hall:ascB ordR (fsts ps)=true:=Za9 fun i hi=>HNO.out i (by have:=HFL.out;omega)
   have HA:=hide hall;clear hall
   go_wp2
   go_ret
   exact⟨Zai HA.out,hb⟩
theorem ZjS (v:Value)(ps:List RP)(w:World)(hls:ps.length<=1048576)(hv:Zbn w v ps w.heap.size):
  Calls Tryz.prog 139 #[v] w fun e w'=>e=.returned (.bool (ascB ordR (fsts ps)))/\Below w.heap.size w w':=by
 have H:=hide (Zlk v ps w hls hv);obtain⟨a,cap,rfl⟩:=hv.shape;clear hv
 go_enter Tryz.func139,Tryz.ntmps139
 go_wp2_with fail
 refine H.out.mono ?_
 rintro e w1 ⟨rfl,b1⟩
 go_wp2
 go_ret
 exact⟨rfl,b1⟩
theorem Zhj {xs:List RecD}(h:¬xs.length<=150):ZaI xs=false:=by unfold ZaI;rw [decide_eq_false h];rfl
theorem Zjb {xs:List RecD}{k:Nat}(hk:k<xs.length)(h:okAt ZaX xs k=false):ZaI xs=false:=by unfold ZaI ZbJ;rw [ZaT hk h];simp
theorem ZiU (v:Value)(ps:List RP)(w:World)(hn:tot ps<=1048576)(hv:Zbn w v ps w.heap.size):
  Calls Tryz.prog 59 #[v] w fun e w'=>e=.returned (.bool (ZaI (fsts ps)))/\Below w.heap.size w w':=by
 have hnl:=Zbh ps;obtain⟨a,cap,rfl⟩:=hv.shape;have HV:=hide hv;clear hv;have hfl:(fsts ps).length=ps.length:=by simp [fsts]
 by_cases hlong:(150:Int)<(ps.length:Int)
 ·have HF:=hide (Zhj (xs:=fsts ps) (by omega))
  clear hfl
  go_enter Tryz.func59,Tryz.ntmps59
  go_wp2
  go_ret
  exact⟨Zai HF.out,Below.refl _ _⟩
 have HFL:=hide hfl;clear hfl
 go_enter Tryz.func59,Tryz.ntmps59
 go_wp2
 go_loopw [10] (fun i wr=>∃ k:Nat,k<=ps.length/\i=.int .i64 k/\(∀ j,j<k->okAt ZaX (fsts ps) j=true)/\Below w.heap.size w wr) (fun i _=>ps.length-(intOf i).toNat)
 case atStart=>exact ⟨0,by omega,rfl,by omega,Below.refl _ _⟩
 case round=>
  obtain⟨k,hk,rfl,hall,hnx⟩:=hrel;have HALL:=hide hall;clear hall;have hsz:=hnx.size;by_cases hlt:k<ps.length
  ·obtain ⟨p,hp⟩:∃ p,ps[k]? = some p:=⟨ps[k],List.getElem?_eq_getElem hlt⟩
   obtain⟨b,off,cap',hve,hbb,c0,c1,c2,c3,c4,c5,c6,c7,hnr⟩:=HV.out.cells k p hp;cases hve
   rw [<-hnx.cell (p:=⟨b,off+k*8,none⟩) hbb] at c0;rw [<-hnx.cell (p:=⟨b,off+k*8+1,none⟩) hbb] at c1;rw [<-hnx.cell (p:=⟨b,off+k*8+2,none⟩) hbb] at c2;rw [<-hnx.cell (p:=⟨b,off+k*8+3,none⟩) hbb] at c3;rw [<-hnx.cell (p:=⟨b,off+k*8+4,none⟩) hbb] at c4;rw [<-hnx.cell (p:=⟨b,off+k*8+5,none⟩) hbb] at c5;rw [<-hnx.cell (p:=⟨b,off+k*8+6,none⟩) hbb] at c6;rw [<-hnx.cell (p:=⟨b,off+k*8+7,none⟩) hbb] at c7;have hnr2:=(ZaE.later hnr hnx (Nat.le_refl _)).more hnx.size;obtain⟨pa,pc,hpn⟩:=ZaC.shape hnr;have HOK:=fun o=>ZlB p.2 p.1 (wr.alloc o) (by have:=ZdN (List.mem_of_getElem? hp);omega) (ZaE.then hnr2 ((Below.refl _ _).alloc (Nat.le_refl _) o))
   unfold recC at HOK;rw [hpn] at c5 HOK;have HAT:=Zck (ok:=ZaX) (Zbw hp);obtain⟨q,hq⟩:∃ q,q=ZaX p.1:=⟨_,rfl⟩;rw [<-hq] at HOK HAT;have HOK2:=hide HOK;have HAT2:=hide HAT;clear hp hnr hnr2 hpn HOK HAT hq;have hki:(0:Int)<=(k:Int):=by omega
   have hkj:(k:Int)<(ps.length:Int):=by omega
   go_wp2_with fail
   refine (HOK2.out _).mono ?_
   rintro e w2 ⟨rfl,b2⟩;have B2:Below w.heap.size w w2:=(hnx.alloc hsz _).trans (b2.mono (by simp;omega))
   cases q
   ·have HF:=hide (Zjb (by rw [HFL.out];exact hlt) HAT2.out)
    go_wp2
    go_ret
    exact⟨Zai HF.out,B2⟩
   ·go_wp2
    go_roundw
    case rel=>exact ⟨k+1,by omega,by go_num,ZaO HALL.out HAT2.out,B2⟩
    case measure=>simp [intOf];omega
  ·have e1:ZbJ ZaX (fsts ps)=true:=Za9 fun i hi=>HALL.out i (by have:=HFL.out;omega)
   have e2:ZaI (fsts ps)=ascB ordR (fsts ps):=by
    unfold ZaI;rw [e1,decide_eq_true (by have:=HFL.out;omega)]
    rfl
   have HE:=hide e2;have HIO:=hide (ZjS (.slice a ps.length cap) ps wr (by omega) ((HV.out.later hnx (Nat.le_refl _)).more hsz))
   clear e1 e2
   go_wp2_with fail
   refine HIO.out.mono ?_
   rintro e w2 ⟨rfl,b2⟩
   go_wp2
   go_ret
   exact⟨Zai HE.out,hnx.trans (b2.mono hsz)⟩
def Zda:Array Oper:=#[{ dst:=some 72,op:=Op.move (Operand.tmp 0),type:=29,pos := "l07_route.go:75",after:=#[],guard:=none }, { dst:=some 73,op:=Op.move (Operand.tmp 11),type:=248,pos := "l07_route.go:75",after:=#[],guard:=none }, { dst:=some 74,op:=Op.move (Operand.tmp 18),type:=3,pos := "l07_route.go:75",after:=#[],guard:=none }, { dst:=some 75,op:=Op.indexAddr 248 (Operand.tmp 73) (Operand.tmp 74),type:=0,pos := "l07_route.go:75",after:=#[{ on:=1,ground:=Ground.data }, { on:=2,ground:=Ground.data }],guard:=none }, { dst:=some 76,op:=Op.load 188 (Operand.tmp 75),type:=188,pos := "l07_route.go:75",after:=#[{ on:=3,ground:=Ground.data }],guard:=none }, { dst:=some 77,op:=Op.move (Operand.tmp 1),type:=28,pos := "l07_route.go:75",after:=#[],guard:=none }, { dst:=some 78,op:=Op.move (Operand.tmp 18),type:=3,pos := "l07_route.go:75",after:=#[],guard:=none }, { dst:=some 79,op:=Op.indexAddr 28 (Operand.tmp 77) (Operand.tmp 78),type:=0,pos := "l07_route.go:75",after:=#[{ on:=5,ground:=Ground.data }, { on:=6,ground:=Ground.data }],guard:=none }, { dst:=some 80,op:=Op.load 3 (Operand.tmp 79),type:=3,pos := "l07_route.go:75",after:=#[{ on:=7,ground:=Ground.data }],guard:=none }, { dst:=some 81,op:=Op.move (Operand.tmp 3),type:=3,pos := "l07_route.go:75",after:=#[],guard:=none }, { dst:=some 82,op:=Op.move (Operand.tmp 13),type:=3,pos := "l07_route.go:75",after:=#[],guard:=none }, { dst:=some 83,op:=Op.load 194 (Operand.tmp 16),type:=194,pos := "l07_route.go:75",after:=#[],guard:=none }, { dst:=some 84,op:=Op.move (Operand.tmp 17),type:=4,pos := "l07_route.go:75",after:=#[],guard:=none }, { dst:=some 85,op:=Op.call { callee:=Callee.value (Operand.func 225),args:=#[Operand.tmp 72,Operand.tmp 76,Operand.tmp 80,Operand.tmp 81,Operand.tmp 82,Operand.tmp 83,Operand.tmp 84],argTypes:=#[29,188,3,3,3,194,4] },type:=228,pos := "l07_route.go:75",after:=#[{ on:=0,ground:=Ground.data }, { on:=4,ground:=Ground.data }, { on:=8,ground:=Ground.data }, { on:=9,ground:=Ground.data }, { on:=10,ground:=Ground.data }, { on:=11,ground:=Ground.data }, { on:=12,ground:=Ground.data }],guard:=none }, { dst:=some 71,op:=Op.move (Operand.tmp 85),type:=228,pos := "l07_route.go:75",after:=#[{ on:=13,ground:=Ground.data }],guard:=none }, { dst:=some 86,op:=Op.extract (Operand.tmp 71) 0,type:=194,pos := "l07_route.go:75",after:=#[{ on:=14,ground:=Ground.data }],guard:=none }, { dst:=some 87,op:=Op.extract (Operand.tmp 71) 1,type:=4,pos := "l07_route.go:75",after:=#[{ on:=14,ground:=Ground.data }, { on:=17,ground:=Ground.gcOnly Departure.lateStores }],guard:=none }, { dst:=none,op:=Op.store 194 (Operand.tmp 16) (Operand.tmp 86),type:=0,pos := "l07_route.go:75",after:=#[{ on:=15,ground:=Ground.data }, { on:=13,ground:=Ground.chain }, { on:=0,ground:=Ground.phase }, { on:=1,ground:=Ground.phase }, { on:=2,ground:=Ground.phase }, { on:=3,ground:=Ground.phase }, { on:=4,ground:=Ground.phase }, { on:=5,ground:=Ground.phase }, { on:=6,ground:=Ground.phase }, { on:=7,ground:=Ground.phase }, { on:=8,ground:=Ground.phase }, { on:=9,ground:=Ground.phase }, { on:=10,ground:=Ground.phase }, { on:=11,ground:=Ground.phase }, { on:=12,ground:=Ground.phase }, { on:=13,ground:=Ground.phase }, { on:=14,ground:=Ground.phase }, { on:=15,ground:=Ground.phase }, { on:=16,ground:=Ground.textOnly Departure.lateStores }],guard:=none }, { dst:=some 17,op:=Op.assign (Operand.tmp 87),type:=4,pos := "l07_route.go:75",after:=#[{ on:=16,ground:=Ground.data }, { on:=17,ground:=Ground.chain }, { on:=0,ground:=Ground.phase }, { on:=1,ground:=Ground.phase }, { on:=2,ground:=Ground.phase }, { on:=3,ground:=Ground.phase }, { on:=4,ground:=Ground.phase }, { on:=5,ground:=Ground.phase }, { on:=6,ground:=Ground.phase }, { on:=7,ground:=Ground.phase }, { on:=8,ground:=Ground.phase }, { on:=9,ground:=Ground.phase }, { on:=10,ground:=Ground.phase }, { on:=11,ground:=Ground.phase }, { on:=12,ground:=Ground.phase }, { on:=13,ground:=Ground.phase }, { on:=14,ground:=Ground.phase }, { on:=15,ground:=Ground.phase }, { on:=16,ground:=Ground.phase }, { on:=17,ground:=Ground.phase }],guard:=none }]
theorem Zhb (W:World)(z:Nat)(q:WayD)(u:Value)(b j:Nat)(h:b≠z):(Za8 W z q u).cell? ⟨b,j,none⟩=W.cell? ⟨b,j,none⟩:=by
 have e:(Za8 W z q u).heap[b]? = W.heap[b]? := by
  unfold Za8;rw [heap_setCell_other _ ⟨z,2,none⟩ _ _ h,heap_setCell_other _ ⟨z,1,none⟩ _ _ h,heap_setCell_other _ ⟨z,0,none⟩ _ _ h]
 simp only [World.cell?,e]
theorem Zmp (t2 t4 t5 t6 t7 t8 t9 t10 t12 t14 t15 t19 t20 t21 t22 t23 t24 t25 t26 t27 t28 t29 t30 t31 t32 t33 t34 t35 t36 t37 t38 t39 t40 t41 t42 t43 t44 t45 t46 t47 t48 t49 t50 t51 t52 t53 t54 t55 t56 t57 t58 t59 t60 t61 t62 t63 t64 t65 t66 t67 t68 t69 t70 t71 t72 t73 t74 t75 t76 t77 t78 t79 t80 t81 t82 t83 t84 t85 t86 t87 t88 t89 t90 t91 t92 t93:Value)(W0:World)(rv wv fv0:Value)(g n cap b off m acap z k:Nat)(area src to:Int)(x:WayD)(xa:Option Addr)(xl xc:Nat)(RR:World->WayD->Value->Value->Prop)(Q:Exit->Act->World->Prop)(ops:Array Oper)(hops:Hid (ops=Zda))(hpan:∀ c a1 a2 w,Q (.panic c) a1 w->Q (.panic c) a2 w)
  (hk0:(0:Int)<=(k:Int)) (hkn:(k:Int)<(n:Int)) (hkm:(k:Int)<(m:Int))
  (hS:(fun W=>W.cell? ⟨g,k,none⟩=some wv/\W.cell? ⟨b,off+k,none⟩=some (.int .i64 area)) W0)
  (d0:W0.cell? ⟨z,0,none⟩=some (.int .i64 x.to)) (d1:W0.cell? ⟨z,1,none⟩=some (.int .i64 x.cost)) (d2:W0.cell? ⟨z,2,none⟩=some (.slice xa xl xc))
  (hgz:g≠z) (hbz:b≠z)
  (HT:Hid (Calls Tryz.prog 225 #[rv,wv,.int .i64 area,.int .i64 src,.int .i64 to,.agg #[.int .i64 x.to,.int .i64 x.cost,.slice xa xl xc],fv0] W0 fun e w'=>∃ (q:WayD) (ua:Option Addr) (ul uc:Nat) (fv:Value),e=.returned (.tuple #[.agg #[.int .i64 q.to,.int .i64 q.cost,.slice ua ul uc],fv])/\RR w' q (.slice ua ul uc) fv))
  (hSR:∀ W q u fv,RR W q u fv->(fun W=>W.cell? ⟨g,k,none⟩=some wv/\W.cell? ⟨b,off+k,none⟩=some (.int .i64 area)) W)
  (hcell:∀ W q u fv,RR W q u fv->∃ y0 y1 y2,W.cell? ⟨z,0,none⟩=some y0/\W.cell? ⟨z,1,none⟩=some y1/\W.cell? ⟨z,2,none⟩=some y2)
  (hfz:∀ W q u fv,RR W q u fv->∀ j,W.frozen? ⟨z,j,none⟩=false)
  (hend:∀ (W:World) (q:WayD) ua ul uc fv,RR W q (.slice ua ul uc) fv->Q .normal { tmps:=#[rv,.slice (some ⟨b,off,none⟩) m acap,t2,.int .i64 src,t4,t5,t6,t7,t8,t9,t10,.slice (some ⟨g,0,none⟩) n cap,t12,.int .i64 to,t14,t15,.pointer (some ⟨z,0,none⟩),fv,.int .i64 (k:Int),t19,t20,t21,t22,t23,t24,t25,t26,t27,t28,t29,t30,t31,t32,t33,t34,t35,t36,t37,t38,t39,t40,t41,t42,t43,t44,t45,t46,t47,t48,t49,t50,t51,t52,t53,t54,t55,t56,t57,t58,t59,t60,t61,t62,t63,t64,t65,t66,t67,t68,t69,t70,.tuple #[.agg #[.int .i64 q.to,.int .i64 q.cost,.slice ua ul uc],fv],rv,.slice (some ⟨g,0,none⟩) n cap,.int .i64 (k:Int),.pointer (some ⟨g,k,none⟩),wv,.slice (some ⟨b,off,none⟩) m acap,.int .i64 (k:Int),.pointer (some ⟨b,off+k,none⟩),.int .i64 area,.int .i64 src,.int .i64 to,.agg #[.int .i64 x.to,.int .i64 x.cost,.slice xa xl xc],fv0,.tuple #[.agg #[.int .i64 q.to,.int .i64 q.cost,.slice ua ul uc],fv],.agg #[.int .i64 q.to,.int .i64 q.cost,.slice ua ul uc],fv,t88,t89,t90,t91,t92,t93],defers:=[] } (Za8 W z q (.slice ua ul uc))):
  wpAnyH Tryz.prog .any ops Q (fun W=>W.cell? ⟨g,k,none⟩=some wv/\W.cell? ⟨b,off+k,none⟩=some (.int .i64 area)) 19 (Array.replicate 19 false) { tmps:=#[rv,.slice (some ⟨b,off,none⟩) m acap,t2,.int .i64 src,t4,t5,t6,t7,t8,t9,t10,.slice (some ⟨g,0,none⟩) n cap,t12,.int .i64 to,t14,t15,.pointer (some ⟨z,0,none⟩),fv0,.int .i64 (k:Int),t19,t20,t21,t22,t23,t24,t25,t26,t27,t28,t29,t30,t31,t32,t33,t34,t35,t36,t37,t38,t39,t40,t41,t42,t43,t44,t45,t46,t47,t48,t49,t50,t51,t52,t53,t54,t55,t56,t57,t58,t59,t60,t61,t62,t63,t64,t65,t66,t67,t68,t69,t70,t71,t72,t73,t74,t75,t76,t77,t78,t79,t80,t81,t82,t83,t84,t85,t86,t87,t88,t89,t90,t91,t92,t93],defers:=[] } W0:=by
 have h13:∀ W (q:WayD) ua ul uc fv,RR W q (.slice ua ul uc) fv->wpAnyH Tryz.prog .any ops Q (fun W=>W.cell? ⟨g,k,none⟩=some wv/\W.cell? ⟨b,off+k,none⟩=some (.int .i64 area)) 5 #[true,true,true,true,true,true,true,true,true,true,true,true,true,true,false,false,false,false,false] { tmps:=#[rv,.slice (some ⟨b,off,none⟩) m acap,t2,.int .i64 src,t4,t5,t6,t7,t8,t9,t10,.slice (some ⟨g,0,none⟩) n cap,t12,.int .i64 to,t14,t15,.pointer (some ⟨z,0,none⟩),fv0,.int .i64 (k:Int),t19,t20,t21,t22,t23,t24,t25,t26,t27,t28,t29,t30,t31,t32,t33,t34,t35,t36,t37,t38,t39,t40,t41,t42,t43,t44,t45,t46,t47,t48,t49,t50,t51,t52,t53,t54,t55,t56,t57,t58,t59,t60,t61,t62,t63,t64,t65,t66,t67,t68,t69,t70,t71,rv,.slice (some ⟨g,0,none⟩) n cap,.int .i64 (k:Int),.pointer (some ⟨g,k,none⟩),wv,.slice (some ⟨b,off,none⟩) m acap,.int .i64 (k:Int),.pointer (some ⟨b,off+k,none⟩),.int .i64 area,.int .i64 src,.int .i64 to,.agg #[.int .i64 x.to,.int .i64 x.cost,.slice xa xl xc],fv0,.tuple #[.agg #[.int .i64 q.to,.int .i64 q.cost,.slice ua ul uc],fv],t86,t87,t88,t89,t90,t91,t92,t93],defers:=[] } W:=by
  intro W q ua ul uc fv hr;have hS:=hSR W _ _ _ hr;obtain⟨y0,y1,y2,f0,f1,f2⟩:=hcell W _ _ _ hr;have fz:=hfz W _ _ _ hr;refine ZaZ 14 (oi:=?_) (v:=?_) ?_ (by rw [hops.out];kernel_rfl) ?_ ?_ ?_ hS ?_
  rotate_left 2
  ·rw [hops.out];unfold Zda;simp only [getS];rfl
  ·rw [hops.out];kernel_rfl
  ·intro W hW;obtain⟨g1,g2⟩:=hW;go_simp <;> with_reducible rfl
  ·exact fun c _ w h=>hpan c _ _ w h
  try simp only [putS]
  refine ZaZ 15 (oi:=?_) (v:=?_) ?_ (by rw [hops.out];kernel_rfl) ?_ ?_ ?_ hS ?_
  rotate_left 2
  ·rw [hops.out];unfold Zda;simp only [getS];rfl
  ·rw [hops.out];kernel_rfl
  ·intro W hW;obtain⟨g1,g2⟩:=hW;go_simp <;> with_reducible rfl
  ·exact fun c _ w h=>hpan c _ _ w h
  try simp only [putS]
  refine ZaZ 16 (oi:=?_) (v:=?_) ?_ (by rw [hops.out];kernel_rfl) ?_ ?_ ?_ hS ?_
  rotate_left 2
  ·rw [hops.out];unfold Zda;simp only [getS];rfl
  ·rw [hops.out];kernel_rfl
  ·intro W hW;obtain⟨g1,g2⟩:=hW;go_simp <;> with_reducible rfl
  ·exact fun c _ w h=>hpan c _ _ w h
  try simp only [putS]
  refine wpAnyH_ready (rs:=[17]) (by rw [hops.out];kernel_rfl) (by simp) ?_
  refine AllReadyH.cons (o:=?_) ?_ (fun K hK=>?_) ?_
  rotate_left 1
  ·rw [hops.out];unfold Zda;simp only [getS];rfl
  ·rw [if_pos (by rfl)]
   go_simp
   have hS2:(fun W=>W.cell? ⟨g,k,none⟩=some wv/\W.cell? ⟨b,off+k,none⟩=some (.int .i64 area)) (Za8 W z q (.slice ua ul uc)):=by
    refine⟨?_,?_⟩
    ·show (Za8 W z q (.slice ua ul uc)).cell? _=_
     rw [Zhb W z q _ _ _ hgz];exact hS.1
    ·show (Za8 W z q (.slice ua ul uc)).cell? _=_
     rw [Zhb W z q _ _ _ hbz];exact hS.2
   refine hK.out _ _ hS2 (fun _=>?_)
   refine wpAnyH_ready (rs:=[18]) (by rw [hops.out];kernel_rfl) (by simp) ?_
   refine AllReadyH.cons (o:=?_) ?_ (fun K hK=>?_) ?_
   rotate_left 1
   ·rw [hops.out];unfold Zda;simp only [getS];rfl
   ·rw [if_pos (by rfl)]
    go_simp
    refine hK.out _ _ hS2 (fun _=>?_)
    refine wpAnyH_done (by rw [hops.out];kernel_rfl) ?_ _
    exact hend W q ua ul uc fv hr
   exact AllReadyH.nil
  exact AllReadyH.nil
 have h11:wpAnyH Tryz.prog .any ops Q (fun W=>W.cell? ⟨g,k,none⟩=some wv/\W.cell? ⟨b,off+k,none⟩=some (.int .i64 area)) 6 #[true,true,true,true,true,true,true,true,true,true,true,true,true,false,false,false,false,false,false] { tmps:=#[rv,.slice (some ⟨b,off,none⟩) m acap,t2,.int .i64 src,t4,t5,t6,t7,t8,t9,t10,.slice (some ⟨g,0,none⟩) n cap,t12,.int .i64 to,t14,t15,.pointer (some ⟨z,0,none⟩),fv0,.int .i64 (k:Int),t19,t20,t21,t22,t23,t24,t25,t26,t27,t28,t29,t30,t31,t32,t33,t34,t35,t36,t37,t38,t39,t40,t41,t42,t43,t44,t45,t46,t47,t48,t49,t50,t51,t52,t53,t54,t55,t56,t57,t58,t59,t60,t61,t62,t63,t64,t65,t66,t67,t68,t69,t70,t71,rv,.slice (some ⟨g,0,none⟩) n cap,.int .i64 (k:Int),.pointer (some ⟨g,k,none⟩),wv,.slice (some ⟨b,off,none⟩) m acap,.int .i64 (k:Int),.pointer (some ⟨b,off+k,none⟩),.int .i64 area,.int .i64 src,.int .i64 to,.agg #[.int .i64 x.to,.int .i64 x.cost,.slice xa xl xc],fv0,t85,t86,t87,t88,t89,t90,t91,t92,t93],defers:=[] } W0:=by
  refine wpAnyH_ready (rs:=[13]) (by rw [hops.out];kernel_rfl) (by simp) ?_
  refine AllReadyH.cons (o:=?_) ?_ (fun K hK=>?_) ?_
  rotate_left 1
  ·rw [hops.out];unfold Zda;simp only [getS];rfl
  ·rw [if_pos (by rfl)]
   go_simp
   refine HT.out.mono ?_
   rintro e w2 ⟨q,ua,ul,uc,fv,rfl,hr⟩;refine hK.out _ _ (hSR w2 _ _ _ hr) (fun _=>?_)
   exact h13 w2 q ua ul uc fv hr
  exact AllReadyH.nil
 show wpAnyH Tryz.prog .any ops Q (fun W=>W.cell? ⟨g,k,none⟩=some wv/\W.cell? ⟨b,off+k,none⟩=some (.int .i64 area)) 19 #[false,false,false,false,false,false,false,false,false,false,false,false,false,false,false,false,false,false,false] _ W0
 refine ZaZ 0 (oi:=?_) (v:=?_) ?_ (by rw [hops.out];kernel_rfl) ?_ ?_ ?_ hS ?_
 rotate_left 2
 ·rw [hops.out];unfold Zda;simp only [getS];rfl
 ·rw [hops.out];kernel_rfl
 ·intro W hW;obtain⟨g1,g2⟩:=hW;go_simp <;> with_reducible rfl
 ·exact fun c _ w h=>hpan c _ _ w h
 try simp only [putS]
 refine ZaZ 1 (oi:=?_) (v:=?_) ?_ (by rw [hops.out];kernel_rfl) ?_ ?_ ?_ hS ?_
 rotate_left 2
 ·rw [hops.out];unfold Zda;simp only [getS];rfl
 ·rw [hops.out];kernel_rfl
 ·intro W hW;obtain⟨g1,g2⟩:=hW;go_simp <;> with_reducible rfl
 ·exact fun c _ w h=>hpan c _ _ w h
 try simp only [putS]
 refine ZaZ 2 (oi:=?_) (v:=?_) ?_ (by rw [hops.out];kernel_rfl) ?_ ?_ ?_ hS ?_
 rotate_left 2
 ·rw [hops.out];unfold Zda;simp only [getS];rfl
 ·rw [hops.out];kernel_rfl
 ·intro W hW;obtain⟨g1,g2⟩:=hW;go_simp <;> with_reducible rfl
 ·exact fun c _ w h=>hpan c _ _ w h
 try simp only [putS]
 refine ZaZ 3 (oi:=?_) (v:=?_) ?_ (by rw [hops.out];kernel_rfl) ?_ ?_ ?_ hS ?_
 rotate_left 2
 ·rw [hops.out];unfold Zda;simp only [getS];rfl
 ·rw [hops.out];kernel_rfl
 ·intro W hW;obtain⟨g1,g2⟩:=hW;go_simp <;> with_reducible rfl
 ·exact fun c _ w h=>hpan c _ _ w h
 try simp only [putS]
 refine ZaZ 4 (oi:=?_) (v:=?_) ?_ (by rw [hops.out];kernel_rfl) ?_ ?_ ?_ hS ?_
 rotate_left 2
 ·rw [hops.out];unfold Zda;simp only [getS];rfl
 ·rw [hops.out];kernel_rfl
 ·intro W hW;obtain⟨g1,g2⟩:=hW;go_simp <;> with_reducible rfl
 ·exact fun c _ w h=>hpan c _ _ w h
 try simp only [putS]
 refine ZaZ 5 (oi:=?_) (v:=?_) ?_ (by rw [hops.out];kernel_rfl) ?_ ?_ ?_ hS ?_
 rotate_left 2
 ·rw [hops.out];unfold Zda;simp only [getS];rfl
 ·rw [hops.out];kernel_rfl
 ·intro W hW;obtain⟨g1,g2⟩:=hW;go_simp <;> with_reducible rfl
 ·exact fun c _ w h=>hpan c _ _ w h
 try simp only [putS]
 refine ZaZ 6 (oi:=?_) (v:=?_) ?_ (by rw [hops.out];kernel_rfl) ?_ ?_ ?_ hS ?_
 rotate_left 2
 ·rw [hops.out];unfold Zda;simp only [getS];rfl
 ·rw [hops.out];kernel_rfl
 ·intro W hW;obtain⟨g1,g2⟩:=hW;go_simp <;> with_reducible rfl
 ·exact fun c _ w h=>hpan c _ _ w h
 try simp only [putS]
 refine ZaZ 7 (oi:=?_) (v:=?_) ?_ (by rw [hops.out];kernel_rfl) ?_ ?_ ?_ hS ?_
 rotate_left 2
 ·rw [hops.out];unfold Zda;simp only [getS];rfl
 ·rw [hops.out];kernel_rfl
 ·intro W hW;obtain⟨g1,g2⟩:=hW;go_simp <;> with_reducible rfl
 ·exact fun c _ w h=>hpan c _ _ w h
 try simp only [putS]
 refine ZaZ 8 (oi:=?_) (v:=?_) ?_ (by rw [hops.out];kernel_rfl) ?_ ?_ ?_ hS ?_
 rotate_left 2
 ·rw [hops.out];unfold Zda;simp only [getS];rfl
 ·rw [hops.out];kernel_rfl
 ·intro W hW;obtain⟨g1,g2⟩:=hW;go_simp <;> with_reducible rfl
 ·exact fun c _ w h=>hpan c _ _ w h
 try simp only [putS]
 refine ZaZ 9 (oi:=?_) (v:=?_) ?_ (by rw [hops.out];kernel_rfl) ?_ ?_ ?_ hS ?_
 rotate_left 2
 ·rw [hops.out];unfold Zda;simp only [getS];rfl
 ·rw [hops.out];kernel_rfl
 ·intro W hW;obtain⟨g1,g2⟩:=hW;go_simp <;> with_reducible rfl
 ·exact fun c _ w h=>hpan c _ _ w h
 try simp only [putS]
 refine ZaZ 10 (oi:=?_) (v:=?_) ?_ (by rw [hops.out];kernel_rfl) ?_ ?_ ?_ hS ?_
 rotate_left 2
 ·rw [hops.out];unfold Zda;simp only [getS];rfl
 ·rw [hops.out];kernel_rfl
 ·intro W hW;obtain⟨g1,g2⟩:=hW;go_simp <;> with_reducible rfl
 ·exact fun c _ w h=>hpan c _ _ w h
 try simp only [putS]
 refine ZaZ 12 (oi:=?_) (v:=?_) ?_ (by rw [hops.out];kernel_rfl) ?_ ?_ ?_ hS ?_
 rotate_left 2
 ·rw [hops.out];unfold Zda;simp only [getS];rfl
 ·rw [hops.out];kernel_rfl
 ·intro W hW;obtain⟨g1,g2⟩:=hW;go_simp <;> with_reducible rfl
 ·exact fun c _ w h=>hpan c _ _ w h
 try simp only [putS]
 refine wpAnyH_ready (rs:=[11]) (by rw [hops.out];kernel_rfl) (by simp) ?_
 refine AllReadyH.cons (o:=?_) ?_ (fun K hK=>?_) ?_
 rotate_left 1
 ·rw [hops.out];unfold Zda;simp only [getS];rfl
 ·rw [if_pos (by rfl)]
  go_simp
  refine hK.out _ _ hS (fun _=>?_)
  exact h11
 exact AllReadyH.nil
def Zfi:Array Oper:=#[{ dst:=some 14,op:=Op.move (Operand.tmp 0),type:=188,pos := "l07_route.go:51",after:=#[],guard:=none }, { dst:=some 15,op:=Op.move (Operand.tmp 5),type:=3,pos := "l07_route.go:51",after:=#[],guard:=none }, { dst:=some 16,op:=Op.move (Operand.tmp 0),type:=188,pos := "l07_route.go:51",after:=#[],guard:=none }, { dst:=some 17,op:=Op.move (Operand.tmp 5),type:=3,pos := "l07_route.go:51",after:=#[],guard:=none }, { dst:=some 18,op:=Op.indexAddr 188 (Operand.tmp 16) (Operand.tmp 17),type:=0,pos := "l07_route.go:51",after:=#[{ on:=2,ground:=Ground.data }, { on:=3,ground:=Ground.data }],guard:=none }, { dst:=some 19,op:=Op.load 194 (Operand.tmp 18),type:=194,pos := "l07_route.go:51",after:=#[{ on:=4,ground:=Ground.data }],guard:=none }, { dst:=some 20,op:=Op.load 194 (Operand.tmp 3),type:=194,pos := "l07_route.go:51",after:=#[],guard:=none }, { dst:=some 21,op:=Op.call { callee:=Callee.value (Operand.func 246),args:=#[Operand.tmp 19,Operand.tmp 20],argTypes:=#[194,194] },type:=194,pos := "l07_route.go:51",after:=#[{ on:=5,ground:=Ground.data }, { on:=6,ground:=Ground.data }],guard:=none }, { dst:=some 22,op:=Op.indexAddr 188 (Operand.tmp 14) (Operand.tmp 15),type:=0,pos := "l07_route.go:51",after:=#[{ on:=0,ground:=Ground.data }, { on:=1,ground:=Ground.data }, { on:=0,ground:=Ground.phase }, { on:=1,ground:=Ground.phase }, { on:=2,ground:=Ground.phase }, { on:=3,ground:=Ground.phase }, { on:=4,ground:=Ground.phase }, { on:=5,ground:=Ground.phase }, { on:=6,ground:=Ground.phase }, { on:=7,ground:=Ground.phase }],guard:=none }, { dst:=none,op:=Op.store 194 (Operand.tmp 22) (Operand.tmp 21),type:=0,pos := "l07_route.go:51",after:=#[{ on:=8,ground:=Ground.data }, { on:=7,ground:=Ground.data }, { on:=7,ground:=Ground.chain }, { on:=0,ground:=Ground.phase }, { on:=1,ground:=Ground.phase }, { on:=2,ground:=Ground.phase }, { on:=3,ground:=Ground.phase }, { on:=4,ground:=Ground.phase }, { on:=5,ground:=Ground.phase }, { on:=6,ground:=Ground.phase }, { on:=7,ground:=Ground.phase }],guard:=none }]
theorem ZoX (t1 t2 t4 t6 t7 t8 t9 t10 t11 t12 t13 t14 t15 t16 t17 t18 t19 t20 t21 t22 t23 t24 t25 t26 t27 t28:Value)(W0:World)(g n cap i zb:Nat)(x y q:WayD)(xa ya:Option Addr)(xl xc yl yc:Nat)(RR:World->Value->Prop)(Q:Exit->Act->World->Prop)(ops:Array Oper)(hops:Hid (ops=Zfi))(hpan:∀ c a1 a2 w,Q (.panic c) a1 w->Q (.panic c) a2 w)
  (hi0:(0:Int)<=(i:Int)) (hi:(i:Int)<(n:Int))
  (c0:W0.cell? ⟨g,i*3,none⟩=some (.int .i64 x.to)) (c1:W0.cell? ⟨g,i*3+1,none⟩=some (.int .i64 x.cost)) (c2:W0.cell? ⟨g,i*3+2,none⟩=some (.slice xa xl xc))
  (d0:W0.cell? ⟨zb,0,none⟩=some (.int .i64 y.to)) (d1:W0.cell? ⟨zb,1,none⟩=some (.int .i64 y.cost)) (d2:W0.cell? ⟨zb,2,none⟩=some (.slice ya yl yc))
  (HT:Hid (Calls Tryz.prog 246 #[.agg #[.int .i64 x.to,.int .i64 x.cost,.slice xa xl xc],.agg #[.int .i64 y.to,.int .i64 y.cost,.slice ya yl yc]] W0 fun e w'=>∃ ua ul uc,e=.returned (.agg #[.int .i64 q.to,.int .i64 q.cost,.slice ua ul uc])/\RR w' (.slice ua ul uc)))
  (hcell:∀ W u,RR W u->∃ y0 y1 y2,W.cell? ⟨g,i*3,none⟩=some y0/\W.cell? ⟨g,i*3+1,none⟩=some y1/\W.cell? ⟨g,i*3+2,none⟩=some y2)
  (hfz:∀ W u,RR W u->∀ j,W.frozen? ⟨g,j,none⟩=false)
  (hend:∀ (W:World) ua ul uc,RR W (.slice ua ul uc)->Q .normal { tmps:=#[.slice (some ⟨g,0,none⟩) n cap,t1,t2,.pointer (some ⟨zb,0,none⟩),t4,.int .i64 (i:Int),t6,t7,t8,t9,t10,t11,t12,t13,.slice (some ⟨g,0,none⟩) n cap,.int .i64 (i:Int),.slice (some ⟨g,0,none⟩) n cap,.int .i64 (i:Int),.pointer (some ⟨g,i*3,none⟩),.agg #[.int .i64 x.to,.int .i64 x.cost,.slice xa xl xc],.agg #[.int .i64 y.to,.int .i64 y.cost,.slice ya yl yc],.agg #[.int .i64 q.to,.int .i64 q.cost,.slice ua ul uc],.pointer (some ⟨g,i*3,none⟩),t23,t24,t25,t26,t27,t28],defers:=[] } (putW W g (i*3) (q,.slice ua ul uc))):
  wpAnyH Tryz.prog .any ops Q (fun _=>True) 10 (Array.replicate 10 false) { tmps:=#[.slice (some ⟨g,0,none⟩) n cap,t1,t2,.pointer (some ⟨zb,0,none⟩),t4,.int .i64 (i:Int),t6,t7,t8,t9,t10,t11,t12,t13,t14,t15,t16,t17,t18,t19,t20,t21,t22,t23,t24,t25,t26,t27,t28],defers:=[] } W0:=by
 have h7:∀ W ua ul uc,RR W (.slice ua ul uc)->wpAnyH Tryz.prog .any ops Q (fun _=>True) 2 #[true,true,true,true,true,true,true,true,false,false] { tmps:=#[.slice (some ⟨g,0,none⟩) n cap,t1,t2,.pointer (some ⟨zb,0,none⟩),t4,.int .i64 (i:Int),t6,t7,t8,t9,t10,t11,t12,t13,.slice (some ⟨g,0,none⟩) n cap,.int .i64 (i:Int),.slice (some ⟨g,0,none⟩) n cap,.int .i64 (i:Int),.pointer (some ⟨g,i*3,none⟩),.agg #[.int .i64 x.to,.int .i64 x.cost,.slice xa xl xc],.agg #[.int .i64 y.to,.int .i64 y.cost,.slice ya yl yc],.agg #[.int .i64 q.to,.int .i64 q.cost,.slice ua ul uc],t22,t23,t24,t25,t26,t27,t28],defers:=[] } W:=by
  intro W ua ul uc hr;obtain⟨y0,y1,y2,f0,f1,f2⟩:=hcell W _ hr;have fz:=hfz W _ hr;refine ZaP 8 ?_ ?_ ?_ (by rw [hops.out];kernel_rfl) ?_ ?_ trivial ?_
  rotate_left 2
  ·rw [hops.out];unfold Zfi;simp only [getS];rfl
  ·intro W _;go_simp <;> with_reducible rfl
  ·exact fun c _ w h=>hpan c _ _ w h
  try simp only [putS]
  refine wpAnyH_ready (rs:=[9]) (by rw [hops.out];kernel_rfl) (by simp) ?_
  refine AllReadyH.cons (o:=?_) ?_ (fun K hK=>?_) ?_
  rotate_left 1
  ·rw [hops.out];unfold Zfi;simp only [getS];rfl
  ·rw [if_pos (by rfl)]
   go_simp
   refine hK.out _ _ trivial (fun _=>?_)
   refine wpAnyH_done (by rw [hops.out];kernel_rfl) ?_ _
   exact hend W ua ul uc hr
  exact AllReadyH.nil
 have h56:wpAnyH Tryz.prog .any ops Q (fun _=>True) 3 #[true,true,true,true,true,true,true,false,false,false] { tmps:=#[.slice (some ⟨g,0,none⟩) n cap,t1,t2,.pointer (some ⟨zb,0,none⟩),t4,.int .i64 (i:Int),t6,t7,t8,t9,t10,t11,t12,t13,.slice (some ⟨g,0,none⟩) n cap,.int .i64 (i:Int),.slice (some ⟨g,0,none⟩) n cap,.int .i64 (i:Int),.pointer (some ⟨g,i*3,none⟩),.agg #[.int .i64 x.to,.int .i64 x.cost,.slice xa xl xc],.agg #[.int .i64 y.to,.int .i64 y.cost,.slice ya yl yc],t21,t22,t23,t24,t25,t26,t27,t28],defers:=[] } W0:=by
  refine wpAnyH_ready (rs:=[7]) (by rw [hops.out];kernel_rfl) (by simp) ?_
  refine AllReadyH.cons (o:=?_) ?_ (fun K hK=>?_) ?_
  rotate_left 1
  ·rw [hops.out];unfold Zfi;simp only [getS];rfl
  ·rw [if_pos (by rfl)]
   go_simp
   refine HT.out.mono ?_
   rintro e w2 ⟨ua,ul,uc,rfl,hr⟩;refine hK.out _ _ trivial (fun _=>?_)
   exact h7 w2 ua ul uc hr
  exact AllReadyH.nil
 have h5:wpAnyH Tryz.prog .any ops Q (fun _=>True) 4 #[true,true,true,true,true,true,false,false,false,false] { tmps:=#[.slice (some ⟨g,0,none⟩) n cap,t1,t2,.pointer (some ⟨zb,0,none⟩),t4,.int .i64 (i:Int),t6,t7,t8,t9,t10,t11,t12,t13,.slice (some ⟨g,0,none⟩) n cap,.int .i64 (i:Int),.slice (some ⟨g,0,none⟩) n cap,.int .i64 (i:Int),.pointer (some ⟨g,i*3,none⟩),.agg #[.int .i64 x.to,.int .i64 x.cost,.slice xa xl xc],t20,t21,t22,t23,t24,t25,t26,t27,t28],defers:=[] } W0:=by
  refine wpAnyH_ready (rs:=[6]) (by rw [hops.out];kernel_rfl) (by simp) ?_
  refine AllReadyH.cons (o:=?_) ?_ (fun K hK=>?_) ?_
  rotate_left 1
  ·rw [hops.out];unfold Zfi;simp only [getS];rfl
  ·rw [if_pos (by rfl)]
   go_simp
   refine hK.out _ _ trivial (fun _=>?_)
   exact h56
  exact AllReadyH.nil
 have h6:wpAnyH Tryz.prog .any ops Q (fun _=>True) 4 #[true,true,true,true,true,false,true,false,false,false] { tmps:=#[.slice (some ⟨g,0,none⟩) n cap,t1,t2,.pointer (some ⟨zb,0,none⟩),t4,.int .i64 (i:Int),t6,t7,t8,t9,t10,t11,t12,t13,.slice (some ⟨g,0,none⟩) n cap,.int .i64 (i:Int),.slice (some ⟨g,0,none⟩) n cap,.int .i64 (i:Int),.pointer (some ⟨g,i*3,none⟩),t19,.agg #[.int .i64 y.to,.int .i64 y.cost,.slice ya yl yc],t21,t22,t23,t24,t25,t26,t27,t28],defers:=[] } W0:=by
  refine wpAnyH_ready (rs:=[5]) (by rw [hops.out];kernel_rfl) (by simp) ?_
  refine AllReadyH.cons (o:=?_) ?_ (fun K hK=>?_) ?_
  rotate_left 1
  ·rw [hops.out];unfold Zfi;simp only [getS];rfl
  ·rw [if_pos (by rfl)]
   go_simp
   refine hK.out _ _ trivial (fun _=>?_)
   exact h56
  exact AllReadyH.nil
 show wpAnyH Tryz.prog .any ops Q (fun _=>True) 10 #[false,false,false,false,false,false,false,false,false,false] _ W0
 refine ZaP 0 ?_ ?_ ?_ (by rw [hops.out];kernel_rfl) ?_ ?_ trivial ?_
 rotate_left 2
 ·rw [hops.out];unfold Zfi;simp only [getS];rfl
 ·intro W _;go_simp <;> with_reducible rfl
 ·exact fun c _ w h=>hpan c _ _ w h
 try simp only [putS]
 refine ZaP 1 ?_ ?_ ?_ (by rw [hops.out];kernel_rfl) ?_ ?_ trivial ?_
 rotate_left 2
 ·rw [hops.out];unfold Zfi;simp only [getS];rfl
 ·intro W _;go_simp <;> with_reducible rfl
 ·exact fun c _ w h=>hpan c _ _ w h
 try simp only [putS]
 refine ZaP 2 ?_ ?_ ?_ (by rw [hops.out];kernel_rfl) ?_ ?_ trivial ?_
 rotate_left 2
 ·rw [hops.out];unfold Zfi;simp only [getS];rfl
 ·intro W _;go_simp <;> with_reducible rfl
 ·exact fun c _ w h=>hpan c _ _ w h
 try simp only [putS]
 refine ZaP 3 ?_ ?_ ?_ (by rw [hops.out];kernel_rfl) ?_ ?_ trivial ?_
 rotate_left 2
 ·rw [hops.out];unfold Zfi;simp only [getS];rfl
 ·intro W _;go_simp <;> with_reducible rfl
 ·exact fun c _ w h=>hpan c _ _ w h
 try simp only [putS]
 refine ZaP 4 ?_ ?_ ?_ (by rw [hops.out];kernel_rfl) ?_ ?_ trivial ?_
 rotate_left 2
 ·rw [hops.out];unfold Zfi;simp only [getS];rfl
 ·intro W _;go_simp <;> with_reducible rfl
 ·exact fun c _ w h=>hpan c _ _ w h
 try simp only [putS]
 refine wpAnyH_ready (rs:=[5,6]) (by rw [hops.out];kernel_rfl) (by simp) ?_
 refine AllReadyH.cons (o:=?_) ?_ (fun K hK=>?_) ?_
 rotate_left 1
 ·rw [hops.out];unfold Zfi;simp only [getS];rfl
 ·rw [if_pos (by rfl)]
  go_simp
  refine hK.out _ _ trivial (fun _=>?_)
  exact h5
 refine AllReadyH.cons (o:=?_) ?_ (fun K hK=>?_) ?_
 rotate_left 1
 ·rw [hops.out];unfold Zfi;simp only [getS];rfl
 ·rw [if_pos (by rfl)]
  go_simp
  refine hK.out _ _ trivial (fun _=>?_)
  exact h6
 exact AllReadyH.nil
end Go.Proofs.YtadokhjefnkajaaGreat
