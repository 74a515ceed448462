/-
  Parts.
-/
import Derived.Test.YtikloccefmofdaaGreatFi7
namespace Go.Proofs.YtikloccefmofdaaGreat
open Go.RowKit
set_option linter.unusedSimpArgs false
set_option linter.unusedVariables false
set_option maxRecDepth 100000
set_option maxHeartbeats 8000000
variable {k:Nat}
def ordR (x y:RecD):Int:=cmpK (cmpN x.area y.area) (cmpN x.kind y.kind) (cmpN x.owner y.owner) (cmpN x.key y.key)
theorem ZgM (x y:RecD):decide (ordR x y<0)=Zak x y:=Zp7 x y
def Zax (xs:List RecD):Bool:=decide (xs.length<=150)&&ZbM ZaW xs&&ascB ordR xs
theorem Zb5 (v1 v2:Value)(x y:RecD)(w:World):Calls Tryz.prog 78 #[.agg (recC x v1),.agg (recC y v2)] w fun e w'=>e=.returned (.int .i64 (ordR x y))/\Below w.heap.size w w':=by
 have HK:=hide Zkk;unfold ordR;have HO:=hide (Zjn x.area x.kind x.owner x.key y.area y.kind y.owner y.key);obtain⟨r,hr⟩:∃ r,r=cmpK (cmpN x.area y.area) (cmpN x.kind y.kind) (cmpN x.owner y.owner) (cmpN x.key y.key):=⟨_,rfl⟩;rw [<-hr] at HO |-;clear hr;unfold recC at *
 go_enter Tryz.func78,Tryz.ntmps78
 go_wp2;obtain⟨w1,hw1⟩:∃ w1,w1=(w.alloc (.cells #[.int .i64 x.area,.int .i64 x.kind,.int .i64 x.owner,.int .i64 x.key,.int .i64 x.seq,v1,.int .i64 x.cost,.bool x.far] 37)).alloc (.cells #[.int .i64 y.area,.int .i64 y.kind,.int .i64 y.owner,.int .i64 y.key,.int .i64 y.seq,v2,.int .i64 y.cost,.bool y.far] 37):=⟨_,rfl⟩;have B1:Below w.heap.size w w1:=by rw [hw1];exact ZaB _ _
 have p0:w1.heap[w.heap.size]? = some (.cells #[.int .i64 x.area,.int .i64 x.kind,.int .i64 x.owner,.int .i64 x.key,.int .i64 x.seq,v1,.int .i64 x.cost,.bool x.far] 37):=by rw [hw1,YAH _ _ _ (by simp),YAE]
 have q0:w1.heap[w.heap.size+1]? = some (.cells #[.int .i64 y.area,.int .i64 y.kind,.int .i64 y.owner,.int .i64 y.key,.int .i64 y.seq,v2,.int .i64 y.cost,.bool y.far] 37):=by
  rw [hw1];have:=YAE (w.alloc (.cells #[.int .i64 x.area,.int .i64 x.kind,.int .i64 x.owner,.int .i64 x.key,.int .i64 x.seq,v1,.int .i64 x.cost,.bool x.far] 37)) (.cells #[.int .i64 y.area,.int .i64 y.kind,.int .i64 y.owner,.int .i64 y.key,.int .i64 y.seq,v2,.int .i64 y.cost,.bool y.far] 37);simpa using this
 rw [<-hw1];clear hw1;have s0:=Zaa p0 0;have s1:=Zaa p0 1;have s2:=Zaa p0 2;have s3:=Zaa p0 3;have s4:=Zaa p0 4;have s5:=Zaa p0 5;have s6:=Zaa p0 6;have s7:=Zaa p0 7;simp at s0 s1 s2 s3 s4 s5 s6 s7;have t0:=Zaa q0 0;have t1:=Zaa q0 1;have t2:=Zaa q0 2;have t3:=Zaa q0 3;have t4:=Zaa q0 4;have t5:=Zaa q0 5;have t6:=Zaa q0 6;have t7:=Zaa q0 7;simp at t0 t1 t2 t3 t4 t5 t6 t7;have hz0:=Zab p0;have hz1:=Zab q0;clear p0 q0;have hz2:=B1.size
 go_region_held3 (fun W=>W.cell? ⟨w.heap.size,0,none⟩=some (.int .i64 x.area)/\W.cell? ⟨w.heap.size,1,none⟩=some (.int .i64 x.kind)/\W.cell? ⟨w.heap.size,2,none⟩=some (.int .i64 x.owner)/\W.cell? ⟨w.heap.size,3,none⟩=some (.int .i64 x.key)/\W.cell? ⟨w.heap.size,4,none⟩=some (.int .i64 x.seq)/\W.cell? ⟨w.heap.size,5,none⟩=some (v1)/\W.cell? ⟨w.heap.size,6,none⟩=some (.int .i64 x.cost)/\W.cell? ⟨w.heap.size,7,none⟩=some (.bool x.far)/\W.cell? ⟨w.heap.size+1,0,none⟩=some (.int .i64 y.area)/\W.cell? ⟨w.heap.size+1,1,none⟩=some (.int .i64 y.kind)/\W.cell? ⟨w.heap.size+1,2,none⟩=some (.int .i64 y.owner)/\W.cell? ⟨w.heap.size+1,3,none⟩=some (.int .i64 y.key)/\W.cell? ⟨w.heap.size+1,4,none⟩=some (.int .i64 y.seq)/\W.cell? ⟨w.heap.size+1,5,none⟩=some (v2)/\W.cell? ⟨w.heap.size+1,6,none⟩=some (.int .i64 y.cost)/\W.cell? ⟨w.heap.size+1,7,none⟩=some (.bool y.far)) (first | go_keep | (refine ⟨?_,?_,?_,?_,?_,?_,?_,?_,?_,?_,?_,?_,?_,?_,?_,?_⟩ <;> (rw [b4.cell (YAB (YAB (by assumption) b2.size) b3.size),b3.cell (YAB (by assumption) b2.size),b2.cell (by assumption)];assumption)) | (refine ⟨?_,?_,?_,?_,?_,?_,?_,?_,?_,?_,?_,?_,?_,?_,?_,?_⟩ <;> (rw [b3.cell (YAB (by assumption) b2.size),b2.cell (by assumption)];assumption)) | (refine ⟨?_,?_,?_,?_,?_,?_,?_,?_,?_,?_,?_,?_,?_,?_,?_,?_⟩ <;> (rw [b2.cell (by assumption)];assumption))) (first | (go_at_call 106;refine (HO.out _).mono ?_;rintro e w4 ⟨rfl,b4⟩) | (have hb2:=b2;refine (HK.out _ _ _ _ _ _ _ _ _).mono ?_;rintro e w3 ⟨rfl,b3⟩) | (refine (HK.out _ _ _ _ _ _ _ _ _).mono ?_;rintro e w2 ⟨rfl,b2⟩))
 have B2:Below w.heap.size w w2:=B1.drew.trans (b2.mono B1.size);have B3:Below w.heap.size w w3:=B2.trans (b3.mono B2.size);have B4:Below w.heap.size w w4:=B3.trans (b4.mono B3.size);go_wp2;go_ret;exact⟨rfl,B4⟩
theorem ZmV (v:Value)(ps:List RP)(w:World)(hls:ps.length<=1048576)(hv:Zbu w v ps w.heap.size):
  Calls Tryz.prog 161 #[v,.func (.func 78) #[] #[]] w fun e w'=>e=.returned (.bool (ascB ordR (fsts ps)))/\Below w.heap.size w w':=by
 obtain⟨a,cap,rfl⟩:=hv.shape;have HV:=hide hv;clear hv;have hfl:(fsts ps).length=ps.length:=by simp [fsts]
 have HFL:=hide hfl;clear hfl
 go_enter Tryz.func161,Tryz.ntmps161
 go_wp2
 go_loopw [5] (fun i wr=>∃ k:Nat,1<=k/\(k<=ps.length\/k=1)/\i=.int .i64 k/\(∀ j,j<k->Zce ordR (fsts ps) j=true)/\Below w.heap.size w wr) (fun i _=>ps.length+1-(intOf i).toNat)
 case atStart=>exact ⟨1,by omega,by omega,rfl,fun j hj=>by (obtain rfl:j=0:=by omega);rfl,YAC _ _⟩
 case round=>
  obtain⟨k,hk1,hk,rfl,hno,hb⟩:=hrel;have HNO:=hide hno;clear hno;by_cases hlt:k<ps.length
  ·obtain ⟨l,hl⟩:∃ l,ps[k]? = some l:=⟨ps[k],YAA hlt⟩;obtain⟨j,hj⟩:∃ j,k=j+1:=⟨k-1,by omega⟩;obtain⟨p,hp⟩:∃ p,ps[j]? = some p:=⟨ps[j],YAA (by omega)⟩;obtain⟨b,off,cap',hve,hbb,c0,c1,c2,c3,c4,c5,c6,c7,_⟩:=HV.out.cells k l hl;cases hve;obtain⟨b',off',cap2,hve2,hbb2,d0,d1,d2,d3,d4,d5,d6,d7,_⟩:=HV.out.cells j p hp;cases hve2;replace c0:=(hb.cell hbb).trans c0;replace c1:=(hb.cell hbb).trans c1;replace c2:=(hb.cell hbb).trans c2;replace c3:=(hb.cell hbb).trans c3;replace c4:=(hb.cell hbb).trans c4;replace c5:=(hb.cell hbb).trans c5;replace c6:=(hb.cell hbb).trans c6;replace c7:=(hb.cell hbb).trans c7;replace d0:=(hb.cell hbb).trans d0;replace d1:=(hb.cell hbb).trans d1;replace d2:=(hb.cell hbb).trans d2;replace d3:=(hb.cell hbb).trans d3;replace d4:=(hb.cell hbb).trans d4;replace d5:=(hb.cell hbb).trans d5;replace d6:=(hb.cell hbb).trans d6;replace d7:=(hb.cell hbb).trans d7;have hat:Zce ordR (fsts ps) k=decide (ordR p.1 l.1<0):=by rw [hj];exact ZbX (Zbf hp) (by rw [<-hj];exact Zbf hl)
   have hzr:=hb.size;have hbr:b<wr.heap.size:=by omega
   have hki:(0:Int)<=(k:Int):=by omega
   have hkj:(k:Int)<(ps.length:Int):=by omega
   have hj1:(k:Int)-1=(j:Int):=by omega
   have hj2:(0:Int)<=(j:Int):=by omega
   have hj3:(j:Int)<(ps.length:Int):=by omega
   have hj5:IntKind.i64.wrap (j:Int)=(j:Int):=ZaH _ (by omega) (by omega);have HORD:=hide (Zb5 p.2 l.2 p.1 l.1);have HAT:=hide hat;clear hl hp hat hj;obtain⟨x,hx⟩:∃ x,x=ordR p.1 l.1:=⟨_,rfl⟩;rw [<-hx] at HORD HAT;clear hx;unfold recC at HORD;by_cases hx0:x<0
   ·have hx1:¬(0:Int)<=x:=by omega
    rw [YAT hx0] at HAT;go_wp2
    go_region_held3 (fun W=>W.cell? ⟨b,off+k*8,none⟩=some (.int .i64 l.1.area)/\W.cell? ⟨b,off+k*8+1,none⟩=some (.int .i64 l.1.kind)/\W.cell? ⟨b,off+k*8+2,none⟩=some (.int .i64 l.1.owner)/\W.cell? ⟨b,off+k*8+3,none⟩=some (.int .i64 l.1.key)/\W.cell? ⟨b,off+k*8+4,none⟩=some (.int .i64 l.1.seq)/\W.cell? ⟨b,off+k*8+5,none⟩=some (l.2)/\W.cell? ⟨b,off+k*8+6,none⟩=some (.int .i64 l.1.cost)/\W.cell? ⟨b,off+k*8+7,none⟩=some (.bool l.1.far)/\W.cell? ⟨b,off+j*8,none⟩=some (.int .i64 p.1.area)/\W.cell? ⟨b,off+j*8+1,none⟩=some (.int .i64 p.1.kind)/\W.cell? ⟨b,off+j*8+2,none⟩=some (.int .i64 p.1.owner)/\W.cell? ⟨b,off+j*8+3,none⟩=some (.int .i64 p.1.key)/\W.cell? ⟨b,off+j*8+4,none⟩=some (.int .i64 p.1.seq)/\W.cell? ⟨b,off+j*8+5,none⟩=some (p.2)/\W.cell? ⟨b,off+j*8+6,none⟩=some (.int .i64 p.1.cost)/\W.cell? ⟨b,off+j*8+7,none⟩=some (.bool p.1.far)) (first | go_keep | (refine ⟨?_,?_,?_,?_,?_,?_,?_,?_,?_,?_,?_,?_,?_,?_,?_,?_⟩ <;> (rw [hbc.cell (by assumption)];assumption))) (first | (go_at_call 78;refine (HORD.out _).mono ?_;rintro e w2 ⟨rfl,hbc⟩))
    go_wp2;exact⟨⟨k+1,by omega,by omega,by go_num,ZaO HNO.out HAT.out,hb.drew.trans (hbc.mono hb.size)⟩,by simp [intOf];omega⟩
   ·have hx1:(0:Int)<=x:=by omega
    rw [YAe hx0] at HAT;have hf:ascB ordR (fsts ps)=false:=ZaQ (by rw [HFL.out];exact hlt) HAT.out;have HF:=hide hf;clear hf;go_wp2
    go_region_held3 (fun W=>W.cell? ⟨b,off+k*8,none⟩=some (.int .i64 l.1.area)/\W.cell? ⟨b,off+k*8+1,none⟩=some (.int .i64 l.1.kind)/\W.cell? ⟨b,off+k*8+2,none⟩=some (.int .i64 l.1.owner)/\W.cell? ⟨b,off+k*8+3,none⟩=some (.int .i64 l.1.key)/\W.cell? ⟨b,off+k*8+4,none⟩=some (.int .i64 l.1.seq)/\W.cell? ⟨b,off+k*8+5,none⟩=some (l.2)/\W.cell? ⟨b,off+k*8+6,none⟩=some (.int .i64 l.1.cost)/\W.cell? ⟨b,off+k*8+7,none⟩=some (.bool l.1.far)/\W.cell? ⟨b,off+j*8,none⟩=some (.int .i64 p.1.area)/\W.cell? ⟨b,off+j*8+1,none⟩=some (.int .i64 p.1.kind)/\W.cell? ⟨b,off+j*8+2,none⟩=some (.int .i64 p.1.owner)/\W.cell? ⟨b,off+j*8+3,none⟩=some (.int .i64 p.1.key)/\W.cell? ⟨b,off+j*8+4,none⟩=some (.int .i64 p.1.seq)/\W.cell? ⟨b,off+j*8+5,none⟩=some (p.2)/\W.cell? ⟨b,off+j*8+6,none⟩=some (.int .i64 p.1.cost)/\W.cell? ⟨b,off+j*8+7,none⟩=some (.bool p.1.far)) (first | go_keep | (refine ⟨?_,?_,?_,?_,?_,?_,?_,?_,?_,?_,?_,?_,?_,?_,?_,?_⟩ <;> (rw [hbc.cell (by assumption)];assumption))) (first | (go_at_call 78;refine (HORD.out _).mono ?_;rintro e w2 ⟨rfl,hbc⟩))
    go_wp2;go_ret;exact⟨Zah HF.out,hb.drew.trans (hbc.mono hb.size)⟩
  ·have hall:ascB ordR (fsts ps)=true:=Za4 fun i hi=>HNO.out i (by have:=HFL.out;omega);have HA:=hide hall;clear hall;go_wp2;go_ret;exact⟨Zah HA.out,hb⟩
theorem Zlj (v:Value)(ps:List RP)(w:World)(hls:ps.length<=1048576)(hv:Zbu w v ps w.heap.size):
  Calls Tryz.prog 138 #[v] w fun e w'=>e=.returned (.bool (ascB ordR (fsts ps)))/\Below w.heap.size w w':=by
 have H:=hide (ZmV v ps w hls hv);obtain⟨a,cap,rfl⟩:=hv.shape;clear hv
 go_enter Tryz.func138,Tryz.ntmps138
 go_wp2_with fail
 refine H.out.mono ?_;rintro e w1 ⟨rfl,b1⟩;go_wp2;go_ret;exact⟨rfl,b1⟩
theorem Zis {xs:List RecD}(h:¬xs.length<=150):Zax xs=false:=by unfold Zax;rw [YAe h];rfl
theorem ZkC {xs:List RecD}(hk:k<xs.length)(h:okAt ZaW xs k=false):Zax xs=false:=by unfold Zax ZbM;rw [ZaQ hk h];simp
theorem Zkj (v:Value)(ps:List RP)(w:World)(hn:tot ps<=1048576)(hv:Zbu w v ps w.heap.size):
  Calls Tryz.prog 111 #[v] w fun e w'=>e=.returned (.bool (Zax (fsts ps)))/\Below w.heap.size w w':=by
 have hnl:=Zbj ps;obtain⟨a,cap,rfl⟩:=hv.shape;have HV:=hide hv;clear hv;have hfl:(fsts ps).length=ps.length:=by simp [fsts]
 by_cases hlong:(150:Int)<(ps.length:Int)
 ·have HF:=hide (Zis (xs:=fsts ps) (by omega));clear hfl
  go_enter Tryz.func111,Tryz.ntmps111
  go_wp2;go_ret;exact⟨Zah HF.out,YAC _ _⟩
 have HFL:=hide hfl;clear hfl
 go_enter Tryz.func111,Tryz.ntmps111
 go_wp2
 go_loopw [10] (fun i wr=>∃ k:Nat,k<=ps.length/\i=.int .i64 k/\(∀ j,j<k->okAt ZaW (fsts ps) j=true)/\Below w.heap.size w wr) (fun i _=>ps.length-(intOf i).toNat)
 case atStart=>exact ⟨0,by omega,rfl,by omega,YAC _ _⟩
 case round=>
  obtain⟨k,hk,rfl,hall,hnx⟩:=hrel;have HALL:=hide hall;clear hall;have hsz:=hnx.size;by_cases hlt:k<ps.length
  ·obtain ⟨p,hp⟩:∃ p,ps[k]? = some p:=⟨ps[k],YAA hlt⟩;obtain⟨b,off,cap',hve,hbb,c0,c1,c2,c3,c4,c5,c6,c7,hnr⟩:=HV.out.cells k p hp;cases hve;replace c0:=(hnx.cell hbb).trans c0;replace c1:=(hnx.cell hbb).trans c1;replace c2:=(hnx.cell hbb).trans c2;replace c3:=(hnx.cell hbb).trans c3;replace c4:=(hnx.cell hbb).trans c4;replace c5:=(hnx.cell hbb).trans c5;replace c6:=(hnx.cell hbb).trans c6;replace c7:=(hnx.cell hbb).trans c7;have hnr2:=(Zav.later hnr hnx (YA _)).more hnx.size;obtain⟨pa,pc,hpn⟩:=Zat.shape hnr;have HOK:=fun o=>Zni p.2 p.1 (wr.alloc o) (by have:=Zem (YAG hp);omega) (Zav.then hnr2 ((YAC _ _).alloc (YA _) o));unfold recC at HOK;rw [hpn] at c5 HOK;have HAT:=Zck (ok:=ZaW) (Zbf hp);obtain⟨q,hq⟩:∃ q,q=ZaW p.1:=⟨_,rfl⟩;rw [<-hq] at HOK HAT;have HOK2:=hide HOK;have HAT2:=hide HAT;clear hp hnr hnr2 hpn HOK HAT hq;have hki:(0:Int)<=(k:Int):=by omega
   have hkj:(k:Int)<(ps.length:Int):=by omega
   go_wp2_with fail
   refine (HOK2.out _).mono ?_;rintro e w2 ⟨rfl,b2⟩;have B2:Below w.heap.size w w2:=(hnx.alloc hsz _).trans (b2.mono (by simp;omega));cases q
   ·have HF:=hide (ZkC (by rw [HFL.out];exact hlt) HAT2.out);go_wp2;go_ret;exact⟨Zah HF.out,B2⟩
   ·go_wp2;go_roundw
    case rel=>exact ⟨k+1,by omega,by go_num,ZaO HALL.out HAT2.out,B2⟩
    case measure=>simp [intOf];omega
  ·have e1:ZbM ZaW (fsts ps)=true:=Za4 fun i hi=>HALL.out i (by have:=HFL.out;omega);have e2:Zax (fsts ps)=ascB ordR (fsts ps):=by
    unfold Zax;rw [e1,YAT (by have:=HFL.out;omega)];rfl
   have HE:=hide e2;have HIO:=hide (Zlj (.slice a ps.length cap) ps wr (by omega) ((HV.out.later hnx (YA _)).more hsz));clear e1 e2
   go_wp2_with fail
   refine HIO.out.mono ?_;rintro e w2 ⟨rfl,b2⟩;go_wp2;go_ret;exact⟨Zah HE.out,hnx.trans (b2.mono hsz)⟩
def ZdE:Array Oper:=#[{ dst:=some 72,op:=Op.move (Operand.tmp 0),type:=31,pos := "l07_route.go:75",after:=#[],guard:=none }, { dst:=some 73,op:=Op.move (Operand.tmp 11),type:=137,pos := "l07_route.go:75",after:=#[],guard:=none }, { dst:=some 74,op:=Op.move (Operand.tmp 18),type:=3,pos := "l07_route.go:75",after:=#[],guard:=none }, { dst:=some 75,op:=Op.indexAddr 137 (Operand.tmp 73) (Operand.tmp 74),type:=0,pos := "l07_route.go:75",after:=#[{ on:=1,ground:=Ground.data }, { on:=2,ground:=Ground.data }],guard:=none }, { dst:=some 76,op:=Op.load 102 (Operand.tmp 75),type:=102,pos := "l07_route.go:75",after:=#[{ on:=3,ground:=Ground.data }],guard:=none }, { dst:=some 77,op:=Op.move (Operand.tmp 1),type:=40,pos := "l07_route.go:75",after:=#[],guard:=none }, { dst:=some 78,op:=Op.move (Operand.tmp 18),type:=3,pos := "l07_route.go:75",after:=#[],guard:=none }, { dst:=some 79,op:=Op.indexAddr 40 (Operand.tmp 77) (Operand.tmp 78),type:=0,pos := "l07_route.go:75",after:=#[{ on:=5,ground:=Ground.data }, { on:=6,ground:=Ground.data }],guard:=none }, { dst:=some 80,op:=Op.load 3 (Operand.tmp 79),type:=3,pos := "l07_route.go:75",after:=#[{ on:=7,ground:=Ground.data }],guard:=none }, { dst:=some 81,op:=Op.move (Operand.tmp 3),type:=3,pos := "l07_route.go:75",after:=#[],guard:=none }, { dst:=some 82,op:=Op.move (Operand.tmp 13),type:=3,pos := "l07_route.go:75",after:=#[],guard:=none }, { dst:=some 83,op:=Op.load 108 (Operand.tmp 16),type:=108,pos := "l07_route.go:75",after:=#[],guard:=none }, { dst:=some 84,op:=Op.move (Operand.tmp 17),type:=4,pos := "l07_route.go:75",after:=#[],guard:=none }, { dst:=some 85,op:=Op.call { callee:=Callee.value (Operand.func 121),args:=#[Operand.tmp 72,Operand.tmp 76,Operand.tmp 80,Operand.tmp 81,Operand.tmp 82,Operand.tmp 83,Operand.tmp 84],argTypes:=#[31,102,3,3,3,108,4] },type:=128,pos := "l07_route.go:75",after:=#[{ on:=0,ground:=Ground.data }, { on:=4,ground:=Ground.data }, { on:=8,ground:=Ground.data }, { on:=9,ground:=Ground.data }, { on:=10,ground:=Ground.data }, { on:=11,ground:=Ground.data }, { on:=12,ground:=Ground.data }],guard:=none }, { dst:=some 71,op:=Op.move (Operand.tmp 85),type:=128,pos := "l07_route.go:75",after:=#[{ on:=13,ground:=Ground.data }],guard:=none }, { dst:=some 86,op:=Op.extract (Operand.tmp 71) 0,type:=108,pos := "l07_route.go:75",after:=#[{ on:=14,ground:=Ground.data }],guard:=none }, { dst:=some 87,op:=Op.extract (Operand.tmp 71) 1,type:=4,pos := "l07_route.go:75",after:=#[{ on:=14,ground:=Ground.data }, { on:=17,ground:=Ground.gcOnly Departure.lateStores }],guard:=none }, { dst:=none,op:=Op.store 108 (Operand.tmp 16) (Operand.tmp 86),type:=0,pos := "l07_route.go:75",after:=#[{ on:=15,ground:=Ground.data }, { on:=13,ground:=Ground.chain }, { on:=0,ground:=Ground.phase }, { on:=1,ground:=Ground.phase }, { on:=2,ground:=Ground.phase }, { on:=3,ground:=Ground.phase }, { on:=4,ground:=Ground.phase }, { on:=5,ground:=Ground.phase }, { on:=6,ground:=Ground.phase }, { on:=7,ground:=Ground.phase }, { on:=8,ground:=Ground.phase }, { on:=9,ground:=Ground.phase }, { on:=10,ground:=Ground.phase }, { on:=11,ground:=Ground.phase }, { on:=12,ground:=Ground.phase }, { on:=13,ground:=Ground.phase }, { on:=14,ground:=Ground.phase }, { on:=15,ground:=Ground.phase }, { on:=16,ground:=Ground.textOnly Departure.lateStores }],guard:=none }, { dst:=some 17,op:=Op.assign (Operand.tmp 87),type:=4,pos := "l07_route.go:75",after:=#[{ on:=16,ground:=Ground.data }, { on:=17,ground:=Ground.chain }, { on:=0,ground:=Ground.phase }, { on:=1,ground:=Ground.phase }, { on:=2,ground:=Ground.phase }, { on:=3,ground:=Ground.phase }, { on:=4,ground:=Ground.phase }, { on:=5,ground:=Ground.phase }, { on:=6,ground:=Ground.phase }, { on:=7,ground:=Ground.phase }, { on:=8,ground:=Ground.phase }, { on:=9,ground:=Ground.phase }, { on:=10,ground:=Ground.phase }, { on:=11,ground:=Ground.phase }, { on:=12,ground:=Ground.phase }, { on:=13,ground:=Ground.phase }, { on:=14,ground:=Ground.phase }, { on:=15,ground:=Ground.phase }, { on:=16,ground:=Ground.phase }, { on:=17,ground:=Ground.phase }],guard:=none }]
theorem Zil (W:World)(z:Nat)(q:WayD)(u:Value)(b j:Nat)(h:b≠z):(Za8 W z q u).cell? ⟨b,j,none⟩=W.cell? ⟨b,j,none⟩:=by
 have e:(Za8 W z q u).heap[b]? = W.heap[b]? := by
  unfold Za8;rw [YAO _ ⟨z,2,none⟩ _ _ h,YAO _ ⟨z,1,none⟩ _ _ h,YAO _ ⟨z,0,none⟩ _ _ h]
 simp only [World.cell?,e]
theorem Zn7 (t2 t4 t5 t6 t7 t8 t9 t10 t12 t14 t15 t19 t20 t21 t22 t23 t24 t25 t26 t27 t28 t29 t30 t31 t32 t33 t34 t35 t36 t37 t38 t39 t40 t41 t42 t43 t44 t45 t46 t47 t48 t49 t50 t51 t52 t53 t54 t55 t56 t57 t58 t59 t60 t61 t62 t63 t64 t65 t66 t67 t68 t69 t70 t71 t72 t73 t74 t75 t76 t77 t78 t79 t80 t81 t82 t83 t84 t85 t86 t87 t88 t89 t90 t91 t92 t93:Value)(W0:World)(rv wv fv0:Value)(g n cap b off m acap z k:Nat)(area src to:Int)(x:WayD)(xa:Option Addr)(xl xc:Nat)(RR:World->WayD->Value->Value->Prop)(Q:Exit->Act->World->Prop)(ops:Array Oper)(hops:Hid (ops=ZdE))(hpan:∀ c a1 a2 w,Q (.panic c) a1 w->Q (.panic c) a2 w)
  (hk0:(0:Int)<=(k:Int)) (hkn:(k:Int)<(n:Int)) (hkm:(k:Int)<(m:Int))
  (hS:(fun W=>W.cell? ⟨g,k,none⟩=some wv/\W.cell? ⟨b,off+k,none⟩=some (.int .i64 area)) W0)
  (d0:W0.cell? ⟨z,0,none⟩=some (.int .i64 x.to)) (d1:W0.cell? ⟨z,1,none⟩=some (.int .i64 x.cost)) (d2:W0.cell? ⟨z,2,none⟩=some (.slice xa xl xc))
  (hgz:g≠z) (hbz:b≠z)
  (HT:Hid (Calls Tryz.prog 121 #[rv,wv,.int .i64 area,.int .i64 src,.int .i64 to,.agg #[.int .i64 x.to,.int .i64 x.cost,.slice xa xl xc],fv0] W0 fun e w'=>∃ (q:WayD) (ua:Option Addr) (ul uc:Nat) (fv:Value),e=.returned (.tuple #[.agg #[.int .i64 q.to,.int .i64 q.cost,.slice ua ul uc],fv])/\RR w' q (.slice ua ul uc) fv))
  (hSR:∀ W q u fv,RR W q u fv->(fun W=>W.cell? ⟨g,k,none⟩=some wv/\W.cell? ⟨b,off+k,none⟩=some (.int .i64 area)) W)
  (hcell:∀ W q u fv,RR W q u fv->∃ y0 y1 y2,W.cell? ⟨z,0,none⟩=some y0/\W.cell? ⟨z,1,none⟩=some y1/\W.cell? ⟨z,2,none⟩=some y2)
  (hfz:∀ W q u fv,RR W q u fv->∀ j,W.frozen? ⟨z,j,none⟩=false)
  (hend:∀ (W:World) (q:WayD) ua ul uc fv,RR W q (.slice ua ul uc) fv->Q .normal { tmps:=#[rv,.slice (some ⟨b,off,none⟩) m acap,t2,.int .i64 src,t4,t5,t6,t7,t8,t9,t10,.slice (some ⟨g,0,none⟩) n cap,t12,.int .i64 to,t14,t15,.pointer (some ⟨z,0,none⟩),fv,.int .i64 (k:Int),t19,t20,t21,t22,t23,t24,t25,t26,t27,t28,t29,t30,t31,t32,t33,t34,t35,t36,t37,t38,t39,t40,t41,t42,t43,t44,t45,t46,t47,t48,t49,t50,t51,t52,t53,t54,t55,t56,t57,t58,t59,t60,t61,t62,t63,t64,t65,t66,t67,t68,t69,t70,.tuple #[.agg #[.int .i64 q.to,.int .i64 q.cost,.slice ua ul uc],fv],rv,.slice (some ⟨g,0,none⟩) n cap,.int .i64 (k:Int),.pointer (some ⟨g,k,none⟩),wv,.slice (some ⟨b,off,none⟩) m acap,.int .i64 (k:Int),.pointer (some ⟨b,off+k,none⟩),.int .i64 area,.int .i64 src,.int .i64 to,.agg #[.int .i64 x.to,.int .i64 x.cost,.slice xa xl xc],fv0,.tuple #[.agg #[.int .i64 q.to,.int .i64 q.cost,.slice ua ul uc],fv],.agg #[.int .i64 q.to,.int .i64 q.cost,.slice ua ul uc],fv,t88,t89,t90,t91,t92,t93],defers:=[] } (Za8 W z q (.slice ua ul uc))):
  wpAnyH Tryz.prog .any ops Q (fun W=>W.cell? ⟨g,k,none⟩=some wv/\W.cell? ⟨b,off+k,none⟩=some (.int .i64 area)) 19 (Array.replicate 19 false) { tmps:=#[rv,.slice (some ⟨b,off,none⟩) m acap,t2,.int .i64 src,t4,t5,t6,t7,t8,t9,t10,.slice (some ⟨g,0,none⟩) n cap,t12,.int .i64 to,t14,t15,.pointer (some ⟨z,0,none⟩),fv0,.int .i64 (k:Int),t19,t20,t21,t22,t23,t24,t25,t26,t27,t28,t29,t30,t31,t32,t33,t34,t35,t36,t37,t38,t39,t40,t41,t42,t43,t44,t45,t46,t47,t48,t49,t50,t51,t52,t53,t54,t55,t56,t57,t58,t59,t60,t61,t62,t63,t64,t65,t66,t67,t68,t69,t70,t71,t72,t73,t74,t75,t76,t77,t78,t79,t80,t81,t82,t83,t84,t85,t86,t87,t88,t89,t90,t91,t92,t93],defers:=[] } W0:=by
 have h13:∀ W (q:WayD) ua ul uc fv,RR W q (.slice ua ul uc) fv->wpAnyH Tryz.prog .any ops Q (fun W=>W.cell? ⟨g,k,none⟩=some wv/\W.cell? ⟨b,off+k,none⟩=some (.int .i64 area)) 5 #[true,true,true,true,true,true,true,true,true,true,true,true,true,true,false,false,false,false,false] { tmps:=#[rv,.slice (some ⟨b,off,none⟩) m acap,t2,.int .i64 src,t4,t5,t6,t7,t8,t9,t10,.slice (some ⟨g,0,none⟩) n cap,t12,.int .i64 to,t14,t15,.pointer (some ⟨z,0,none⟩),fv0,.int .i64 (k:Int),t19,t20,t21,t22,t23,t24,t25,t26,t27,t28,t29,t30,t31,t32,t33,t34,t35,t36,t37,t38,t39,t40,t41,t42,t43,t44,t45,t46,t47,t48,t49,t50,t51,t52,t53,t54,t55,t56,t57,t58,t59,t60,t61,t62,t63,t64,t65,t66,t67,t68,t69,t70,t71,rv,.slice (some ⟨g,0,none⟩) n cap,.int .i64 (k:Int),.pointer (some ⟨g,k,none⟩),wv,.slice (some ⟨b,off,none⟩) m acap,.int .i64 (k:Int),.pointer (some ⟨b,off+k,none⟩),.int .i64 area,.int .i64 src,.int .i64 to,.agg #[.int .i64 x.to,.int .i64 x.cost,.slice xa xl xc],fv0,.tuple #[.agg #[.int .i64 q.to,.int .i64 q.cost,.slice ua ul uc],fv],t86,t87,t88,t89,t90,t91,t92,t93],defers:=[] } W:=by
  intro W q ua ul uc fv hr;have hS:=hSR W _ _ _ hr;obtain⟨y0,y1,y2,f0,f1,f2⟩:=hcell W _ _ _ hr;have fz:=hfz W _ _ _ hr;refine ZbW 14 (oi:=?_) (v:=?_) ?_ (by rw [hops.out];kernel_rfl) ?_ ?_ ?_ hS ?_
  rotate_left 2
  ·rw [hops.out];unfold ZdE;simp only [getS];rfl
  ·rw [hops.out];kernel_rfl
  ·intro W hW;obtain⟨g1,g2⟩:=hW;go_simp <;> with_reducible rfl
  ·exact fun c _ w h=>hpan c _ _ w h
  try simp only [putS]
  refine ZbW 15 (oi:=?_) (v:=?_) ?_ (by rw [hops.out];kernel_rfl) ?_ ?_ ?_ hS ?_
  rotate_left 2
  ·rw [hops.out];unfold ZdE;simp only [getS];rfl
  ·rw [hops.out];kernel_rfl
  ·intro W hW;obtain⟨g1,g2⟩:=hW;go_simp <;> with_reducible rfl
  ·exact fun c _ w h=>hpan c _ _ w h
  try simp only [putS]
  refine ZbW 16 (oi:=?_) (v:=?_) ?_ (by rw [hops.out];kernel_rfl) ?_ ?_ ?_ hS ?_
  rotate_left 2
  ·rw [hops.out];unfold ZdE;simp only [getS];rfl
  ·rw [hops.out];kernel_rfl
  ·intro W hW;obtain⟨g1,g2⟩:=hW;go_simp <;> with_reducible rfl
  ·exact fun c _ w h=>hpan c _ _ w h
  try simp only [putS]
  refine wpAnyH_ready (rs:=[17]) (by rw [hops.out];kernel_rfl) (by simp) ?_;refine AllReadyH.cons (o:=?_) ?_ (fun K hK=>?_) ?_
  rotate_left 1
  ·rw [hops.out];unfold ZdE;simp only [getS];rfl
  ·rw [if_pos (by rfl)];go_simp;have hS2:(fun W=>W.cell? ⟨g,k,none⟩=some wv/\W.cell? ⟨b,off+k,none⟩=some (.int .i64 area)) (Za8 W z q (.slice ua ul uc)):=by
    refine⟨?_,?_⟩
    ·show (Za8 W z q (.slice ua ul uc)).cell? _=_;rw [Zil W z q _ _ _ hgz];exact hS.1
    ·show (Za8 W z q (.slice ua ul uc)).cell? _=_;rw [Zil W z q _ _ _ hbz];exact hS.2
   refine hK.out _ _ hS2 (fun _=>?_);refine wpAnyH_ready (rs:=[18]) (by rw [hops.out];kernel_rfl) (by simp) ?_;refine AllReadyH.cons (o:=?_) ?_ (fun K hK=>?_) ?_
   rotate_left 1
   ·rw [hops.out];unfold ZdE;simp only [getS];rfl
   ·rw [if_pos (by rfl)];go_simp;refine hK.out _ _ hS2 (fun _=>?_);refine wpAnyH_done (by rw [hops.out];kernel_rfl) ?_ _;exact hend W q ua ul uc fv hr
   exact AllReadyH.nil
  exact AllReadyH.nil
 have h11:wpAnyH Tryz.prog .any ops Q (fun W=>W.cell? ⟨g,k,none⟩=some wv/\W.cell? ⟨b,off+k,none⟩=some (.int .i64 area)) 6 #[true,true,true,true,true,true,true,true,true,true,true,true,true,false,false,false,false,false,false] { tmps:=#[rv,.slice (some ⟨b,off,none⟩) m acap,t2,.int .i64 src,t4,t5,t6,t7,t8,t9,t10,.slice (some ⟨g,0,none⟩) n cap,t12,.int .i64 to,t14,t15,.pointer (some ⟨z,0,none⟩),fv0,.int .i64 (k:Int),t19,t20,t21,t22,t23,t24,t25,t26,t27,t28,t29,t30,t31,t32,t33,t34,t35,t36,t37,t38,t39,t40,t41,t42,t43,t44,t45,t46,t47,t48,t49,t50,t51,t52,t53,t54,t55,t56,t57,t58,t59,t60,t61,t62,t63,t64,t65,t66,t67,t68,t69,t70,t71,rv,.slice (some ⟨g,0,none⟩) n cap,.int .i64 (k:Int),.pointer (some ⟨g,k,none⟩),wv,.slice (some ⟨b,off,none⟩) m acap,.int .i64 (k:Int),.pointer (some ⟨b,off+k,none⟩),.int .i64 area,.int .i64 src,.int .i64 to,.agg #[.int .i64 x.to,.int .i64 x.cost,.slice xa xl xc],fv0,t85,t86,t87,t88,t89,t90,t91,t92,t93],defers:=[] } W0:=by
  refine wpAnyH_ready (rs:=[13]) (by rw [hops.out];kernel_rfl) (by simp) ?_;refine AllReadyH.cons (o:=?_) ?_ (fun K hK=>?_) ?_
  rotate_left 1
  ·rw [hops.out];unfold ZdE;simp only [getS];rfl
  ·rw [if_pos (by rfl)];go_simp;refine HT.out.mono ?_;rintro e w2 ⟨q,ua,ul,uc,fv,rfl,hr⟩;refine hK.out _ _ (hSR w2 _ _ _ hr) (fun _=>?_);exact h13 w2 q ua ul uc fv hr
  exact AllReadyH.nil
 show wpAnyH Tryz.prog .any ops Q (fun W=>W.cell? ⟨g,k,none⟩=some wv/\W.cell? ⟨b,off+k,none⟩=some (.int .i64 area)) 19 #[false,false,false,false,false,false,false,false,false,false,false,false,false,false,false,false,false,false,false] _ W0;refine ZbW 0 (oi:=?_) (v:=?_) ?_ (by rw [hops.out];kernel_rfl) ?_ ?_ ?_ hS ?_
 rotate_left 2
 ·rw [hops.out];unfold ZdE;simp only [getS];rfl
 ·rw [hops.out];kernel_rfl
 ·intro W hW;obtain⟨g1,g2⟩:=hW;go_simp <;> with_reducible rfl
 ·exact fun c _ w h=>hpan c _ _ w h
 try simp only [putS]
 refine ZbW 1 (oi:=?_) (v:=?_) ?_ (by rw [hops.out];kernel_rfl) ?_ ?_ ?_ hS ?_
 rotate_left 2
 ·rw [hops.out];unfold ZdE;simp only [getS];rfl
 ·rw [hops.out];kernel_rfl
 ·intro W hW;obtain⟨g1,g2⟩:=hW;go_simp <;> with_reducible rfl
 ·exact fun c _ w h=>hpan c _ _ w h
 try simp only [putS]
 refine ZbW 2 (oi:=?_) (v:=?_) ?_ (by rw [hops.out];kernel_rfl) ?_ ?_ ?_ hS ?_
 rotate_left 2
 ·rw [hops.out];unfold ZdE;simp only [getS];rfl
 ·rw [hops.out];kernel_rfl
 ·intro W hW;obtain⟨g1,g2⟩:=hW;go_simp <;> with_reducible rfl
 ·exact fun c _ w h=>hpan c _ _ w h
 try simp only [putS]
 refine ZbW 3 (oi:=?_) (v:=?_) ?_ (by rw [hops.out];kernel_rfl) ?_ ?_ ?_ hS ?_
 rotate_left 2
 ·rw [hops.out];unfold ZdE;simp only [getS];rfl
 ·rw [hops.out];kernel_rfl
 ·intro W hW;obtain⟨g1,g2⟩:=hW;go_simp <;> with_reducible rfl
 ·exact fun c _ w h=>hpan c _ _ w h
 try simp only [putS]
 refine ZbW 4 (oi:=?_) (v:=?_) ?_ (by rw [hops.out];kernel_rfl) ?_ ?_ ?_ hS ?_
 rotate_left 2
 ·rw [hops.out];unfold ZdE;simp only [getS];rfl
 ·rw [hops.out];kernel_rfl
 ·intro W hW;obtain⟨g1,g2⟩:=hW;go_simp <;> with_reducible rfl
 ·exact fun c _ w h=>hpan c _ _ w h
 try simp only [putS]
 refine ZbW 5 (oi:=?_) (v:=?_) ?_ (by rw [hops.out];kernel_rfl) ?_ ?_ ?_ hS ?_
 rotate_left 2
 ·rw [hops.out];unfold ZdE;simp only [getS];rfl
 ·rw [hops.out];kernel_rfl
 ·intro W hW;obtain⟨g1,g2⟩:=hW;go_simp <;> with_reducible rfl
 ·exact fun c _ w h=>hpan c _ _ w h
 try simp only [putS]
 refine ZbW 6 (oi:=?_) (v:=?_) ?_ (by rw [hops.out];kernel_rfl) ?_ ?_ ?_ hS ?_
 rotate_left 2
 ·rw [hops.out];unfold ZdE;simp only [getS];rfl
 ·rw [hops.out];kernel_rfl
 ·intro W hW;obtain⟨g1,g2⟩:=hW;go_simp <;> with_reducible rfl
 ·exact fun c _ w h=>hpan c _ _ w h
 try simp only [putS]
 refine ZbW 7 (oi:=?_) (v:=?_) ?_ (by rw [hops.out];kernel_rfl) ?_ ?_ ?_ hS ?_
 rotate_left 2
 ·rw [hops.out];unfold ZdE;simp only [getS];rfl
 ·rw [hops.out];kernel_rfl
 ·intro W hW;obtain⟨g1,g2⟩:=hW;go_simp <;> with_reducible rfl
 ·exact fun c _ w h=>hpan c _ _ w h
 try simp only [putS]
 refine ZbW 8 (oi:=?_) (v:=?_) ?_ (by rw [hops.out];kernel_rfl) ?_ ?_ ?_ hS ?_
 rotate_left 2
 ·rw [hops.out];unfold ZdE;simp only [getS];rfl
 ·rw [hops.out];kernel_rfl
 ·intro W hW;obtain⟨g1,g2⟩:=hW;go_simp <;> with_reducible rfl
 ·exact fun c _ w h=>hpan c _ _ w h
 try simp only [putS]
 refine ZbW 9 (oi:=?_) (v:=?_) ?_ (by rw [hops.out];kernel_rfl) ?_ ?_ ?_ hS ?_
 rotate_left 2
 ·rw [hops.out];unfold ZdE;simp only [getS];rfl
 ·rw [hops.out];kernel_rfl
 ·intro W hW;obtain⟨g1,g2⟩:=hW;go_simp <;> with_reducible rfl
 ·exact fun c _ w h=>hpan c _ _ w h
 try simp only [putS]
 refine ZbW 10 (oi:=?_) (v:=?_) ?_ (by rw [hops.out];kernel_rfl) ?_ ?_ ?_ hS ?_
 rotate_left 2
 ·rw [hops.out];unfold ZdE;simp only [getS];rfl
 ·rw [hops.out];kernel_rfl
 ·intro W hW;obtain⟨g1,g2⟩:=hW;go_simp <;> with_reducible rfl
 ·exact fun c _ w h=>hpan c _ _ w h
 try simp only [putS]
 refine ZbW 12 (oi:=?_) (v:=?_) ?_ (by rw [hops.out];kernel_rfl) ?_ ?_ ?_ hS ?_
 rotate_left 2
 ·rw [hops.out];unfold ZdE;simp only [getS];rfl
 ·rw [hops.out];kernel_rfl
 ·intro W hW;obtain⟨g1,g2⟩:=hW;go_simp <;> with_reducible rfl
 ·exact fun c _ w h=>hpan c _ _ w h
 try simp only [putS]
 refine wpAnyH_ready (rs:=[11]) (by rw [hops.out];kernel_rfl) (by simp) ?_;refine AllReadyH.cons (o:=?_) ?_ (fun K hK=>?_) ?_
 rotate_left 1
 ·rw [hops.out];unfold ZdE;simp only [getS];rfl
 ·rw [if_pos (by rfl)];go_simp;refine hK.out _ _ hS (fun _=>?_);exact h11
 exact AllReadyH.nil
theorem ZpX (v:Value)(ls:List Lk)(w:World)(hls:ls.length<=1048576)(hv:ZaK w v ls w.heap.size):
  Calls Tryz.prog 73 #[v,.func (.func 74) #[] #[]] w fun e w'=>e=.returned (.bool (ascB ordL ls))/\Below w.heap.size w w':=by
 obtain⟨a,cap,rfl⟩:=hv.shape;have HV:=hide hv;clear hv
 go_enter Tryz.func73,Tryz.ntmps73
 go_wp2
 go_loopw [5] (fun i wr=>∃ k:Nat,1<=k/\(k<=ls.length\/k=1)/\i=.int .i64 k/\(∀ j,j<k->Zce ordL ls j=true)/\Below w.heap.size w wr) (fun i _=>ls.length+1-(intOf i).toNat)
 case atStart=>exact ⟨1,by omega,by omega,rfl,fun j hj=>by (obtain rfl:j=0:=by omega);rfl,YAC _ _⟩
 case round=>
  obtain⟨k,hk1,hk,rfl,hno,hb⟩:=hrel;have HNO:=hide hno;clear hno;by_cases hlt:k<ls.length
  ·obtain ⟨l,hl⟩:∃ l,ls[k]? = some l:=⟨ls[k],YAA hlt⟩;obtain⟨j,hj⟩:∃ j,k=j+1:=⟨k-1,by omega⟩;obtain⟨p,hp⟩:∃ p,ls[j]? = some p:=⟨ls[j],YAA (by omega)⟩;obtain⟨b,off,cap',hve,hbb,c0,c1,c2,c3⟩:=HV.out.cells k l hl;cases hve;obtain⟨b',off',cap2,hve2,hbb2,d0,d1,d2,d3⟩:=HV.out.cells j p hp;cases hve2;replace c0:=(hb.cell hbb).trans c0;replace c1:=(hb.cell hbb).trans c1;replace c2:=(hb.cell hbb).trans c2;replace c3:=(hb.cell hbb).trans c3;replace d0:=(hb.cell hbb).trans d0;replace d1:=(hb.cell hbb).trans d1;replace d2:=(hb.cell hbb).trans d2;replace d3:=(hb.cell hbb).trans d3;have hat:Zce ordL ls k=decide (ordL p l<0):=by rw [hj];exact ZbX hp (by rw [<-hj];exact hl)
   have hzr:=hb.size;have hbr:b<wr.heap.size:=by omega
   have hki:(0:Int)<=(k:Int):=by omega
   have hkj:(k:Int)<(ls.length:Int):=by omega
   have hj1:(k:Int)-1=(j:Int):=by omega
   have hj2:(0:Int)<=(j:Int):=by omega
   have hj3:(j:Int)<(ls.length:Int):=by omega
   have hj5:IntKind.i64.wrap (j:Int)=(j:Int):=ZaH _ (by omega) (by omega);have HORD:=hide (ZqP p l);have HAT:=hide hat;have HJ:=hide hj;clear hl hp hat hj;obtain⟨x,hx⟩:∃ x,x=ordL p l:=⟨_,rfl⟩;rw [<-hx] at HORD HAT;clear hx;unfold lkV at HORD;by_cases hx0:x<0
   ·have hx1:¬(0:Int)<=x:=by omega
    rw [YAT hx0] at HAT;go_wp2
    go_region_held3 (fun W=>W.cell? ⟨b,off+k*4,none⟩=some (.int .i64 l.a)/\W.cell? ⟨b,off+k*4+1,none⟩=some (.int .i64 l.b)/\W.cell? ⟨b,off+k*4+2,none⟩=some (.int .i64 l.c)/\W.cell? ⟨b,off+k*4+3,none⟩=some (.int .i64 l.r)/\W.cell? ⟨b,off+j*4,none⟩=some (.int .i64 p.a)/\W.cell? ⟨b,off+j*4+1,none⟩=some (.int .i64 p.b)/\W.cell? ⟨b,off+j*4+2,none⟩=some (.int .i64 p.c)/\W.cell? ⟨b,off+j*4+3,none⟩=some (.int .i64 p.r)) (first | go_keep | (refine ⟨?_,?_,?_,?_,?_,?_,?_,?_⟩ <;> (rw [hbc.cell (by assumption)];assumption))) (first | (go_at_call 74;refine (HORD.out _).mono ?_;rintro e w2 ⟨rfl,hbc⟩))
    go_wp2;exact⟨⟨k+1,by omega,by omega,by go_num,ZaO HNO.out HAT.out,hb.drew.trans (hbc.mono hb.size)⟩,by simp [intOf];omega⟩
   ·have hx1:(0:Int)<=x:=by omega
    rw [YAe hx0] at HAT;have hf:ascB ordL ls=false:=ZaQ hlt HAT.out;have HF:=hide hf;clear hf;go_wp2
    go_region_held3 (fun W=>W.cell? ⟨b,off+k*4,none⟩=some (.int .i64 l.a)/\W.cell? ⟨b,off+k*4+1,none⟩=some (.int .i64 l.b)/\W.cell? ⟨b,off+k*4+2,none⟩=some (.int .i64 l.c)/\W.cell? ⟨b,off+k*4+3,none⟩=some (.int .i64 l.r)/\W.cell? ⟨b,off+j*4,none⟩=some (.int .i64 p.a)/\W.cell? ⟨b,off+j*4+1,none⟩=some (.int .i64 p.b)/\W.cell? ⟨b,off+j*4+2,none⟩=some (.int .i64 p.c)/\W.cell? ⟨b,off+j*4+3,none⟩=some (.int .i64 p.r)) (first | go_keep | (refine ⟨?_,?_,?_,?_,?_,?_,?_,?_⟩ <;> (rw [hbc.cell (by assumption)];assumption))) (first | (go_at_call 74;refine (HORD.out _).mono ?_;rintro e w2 ⟨rfl,hbc⟩))
    go_wp2;go_ret;exact⟨Zah HF.out,hb.drew.trans (hbc.mono hb.size)⟩
  ·have hall:ascB ordL ls=true:=Za4 fun i hi=>HNO.out i (by omega);have HA:=hide hall;clear hall;go_wp2;go_ret;exact⟨Zah HA.out,hb⟩
theorem ZpY (v:Value)(ls:List Th)(w:World)(hls:ls.length<=1048576)(hv:ZaS w v ls w.heap.size):
  Calls Tryz.prog 75 #[v,.func (.func 76) #[] #[]] w fun e w'=>e=.returned (.bool (ascB ordT ls))/\Below w.heap.size w w':=by
 obtain⟨a,cap,rfl⟩:=hv.shape;have HV:=hide hv;clear hv
 go_enter Tryz.func75,Tryz.ntmps75
 go_wp2
 go_loopw [5] (fun i wr=>∃ k:Nat,1<=k/\(k<=ls.length\/k=1)/\i=.int .i64 k/\(∀ j,j<k->Zce ordT ls j=true)/\Below w.heap.size w wr) (fun i _=>ls.length+1-(intOf i).toNat)
 case atStart=>exact ⟨1,by omega,by omega,rfl,fun j hj=>by (obtain rfl:j=0:=by omega);rfl,YAC _ _⟩
 case round=>
  obtain⟨k,hk1,hk,rfl,hno,hb⟩:=hrel;have HNO:=hide hno;clear hno;by_cases hlt:k<ls.length
  ·obtain ⟨l,hl⟩:∃ l,ls[k]? = some l:=⟨ls[k],YAA hlt⟩;obtain⟨j,hj⟩:∃ j,k=j+1:=⟨k-1,by omega⟩;obtain⟨p,hp⟩:∃ p,ls[j]? = some p:=⟨ls[j],YAA (by omega)⟩;obtain⟨b,off,cap',hve,hbb,c0,c1,c2,c3⟩:=HV.out.cells k l hl;cases hve;obtain⟨b',off',cap2,hve2,hbb2,d0,d1,d2,d3⟩:=HV.out.cells j p hp;cases hve2;replace c0:=(hb.cell hbb).trans c0;replace c1:=(hb.cell hbb).trans c1;replace c2:=(hb.cell hbb).trans c2;replace c3:=(hb.cell hbb).trans c3;replace d0:=(hb.cell hbb).trans d0;replace d1:=(hb.cell hbb).trans d1;replace d2:=(hb.cell hbb).trans d2;replace d3:=(hb.cell hbb).trans d3;have hat:Zce ordT ls k=decide (ordT p l<0):=by rw [hj];exact ZbX hp (by rw [<-hj];exact hl)
   have hzr:=hb.size;have hbr:b<wr.heap.size:=by omega
   have hki:(0:Int)<=(k:Int):=by omega
   have hkj:(k:Int)<(ls.length:Int):=by omega
   have hj1:(k:Int)-1=(j:Int):=by omega
   have hj2:(0:Int)<=(j:Int):=by omega
   have hj3:(j:Int)<(ls.length:Int):=by omega
   have hj5:IntKind.i64.wrap (j:Int)=(j:Int):=ZaH _ (by omega) (by omega);have HORD:=hide (ZqQ p l);have HAT:=hide hat;have HJ:=hide hj;clear hl hp hat hj;obtain⟨x,hx⟩:∃ x,x=ordT p l:=⟨_,rfl⟩;rw [<-hx] at HORD HAT;clear hx;unfold thV at HORD;by_cases hx0:x<0
   ·have hx1:¬(0:Int)<=x:=by omega
    rw [YAT hx0] at HAT;go_wp2
    go_region_held3 (fun W=>W.cell? ⟨b,off+k*4,none⟩=some (.int .i64 l.o)/\W.cell? ⟨b,off+k*4+1,none⟩=some (.int .i64 l.k)/\W.cell? ⟨b,off+k*4+2,none⟩=some (.int .i64 l.c)/\W.cell? ⟨b,off+k*4+3,none⟩=some (.bool l.f)/\W.cell? ⟨b,off+j*4,none⟩=some (.int .i64 p.o)/\W.cell? ⟨b,off+j*4+1,none⟩=some (.int .i64 p.k)/\W.cell? ⟨b,off+j*4+2,none⟩=some (.int .i64 p.c)/\W.cell? ⟨b,off+j*4+3,none⟩=some (.bool p.f)) (first | go_keep | (refine ⟨?_,?_,?_,?_,?_,?_,?_,?_⟩ <;> (rw [hbc.cell (by assumption)];assumption))) (first | (go_at_call 76;refine (HORD.out _).mono ?_;rintro e w2 ⟨rfl,hbc⟩))
    go_wp2;exact⟨⟨k+1,by omega,by omega,by go_num,ZaO HNO.out HAT.out,hb.drew.trans (hbc.mono hb.size)⟩,by simp [intOf];omega⟩
   ·have hx1:(0:Int)<=x:=by omega
    rw [YAe hx0] at HAT;have hf:ascB ordT ls=false:=ZaQ hlt HAT.out;have HF:=hide hf;clear hf;go_wp2
    go_region_held3 (fun W=>W.cell? ⟨b,off+k*4,none⟩=some (.int .i64 l.o)/\W.cell? ⟨b,off+k*4+1,none⟩=some (.int .i64 l.k)/\W.cell? ⟨b,off+k*4+2,none⟩=some (.int .i64 l.c)/\W.cell? ⟨b,off+k*4+3,none⟩=some (.bool l.f)/\W.cell? ⟨b,off+j*4,none⟩=some (.int .i64 p.o)/\W.cell? ⟨b,off+j*4+1,none⟩=some (.int .i64 p.k)/\W.cell? ⟨b,off+j*4+2,none⟩=some (.int .i64 p.c)/\W.cell? ⟨b,off+j*4+3,none⟩=some (.bool p.f)) (first | go_keep | (refine ⟨?_,?_,?_,?_,?_,?_,?_,?_⟩ <;> (rw [hbc.cell (by assumption)];assumption))) (first | (go_at_call 76;refine (HORD.out _).mono ?_;rintro e w2 ⟨rfl,hbc⟩))
    go_wp2;go_ret;exact⟨Zah HF.out,hb.drew.trans (hbc.mono hb.size)⟩
  ·have hall:ascB ordT ls=true:=Za4 fun i hi=>HNO.out i (by omega);have HA:=hide hall;clear hall;go_wp2;go_ret;exact⟨Zah HA.out,hb⟩
def ZeQ (x y:RecD):Bool:=Zej x y&&x.seq==y.seq
def ttAt (xs:List RecD)(y:RecD):Bool:=xs.any (fun x=>ZeQ x y)
def ttB (xs ys:List RecD):Bool:=ys.all (ttAt xs)
theorem ZnW {α:Type}{xs:List α}{f:α->Bool}{x:α}(h:xs[k]? = some x):(xs.take (k+1)).any f=((xs.take k).any f||f x):=by
 obtain⟨hk,e⟩:=YAD.1 h;rw [YAI hk,List.any_append,e];simp
theorem ZnV {α:Type}{xs:List α}{f:α->Bool}{x:α}(h:xs[k]? = some x):(xs.take (k+1)).all f=((xs.take k).all f&&f x):=by
 obtain⟨hk,e⟩:=YAD.1 h;rw [YAI hk,List.all_append,e];simp
theorem ZpU {α:Type}{xs:List α}{f:α->Bool}{x:α}(h:xs[k]? = some x)(hf:f x=false):xs.all f=false:=by
 cases e:xs.all f with
 | false=>rfl
 | true=>rw [List.all_eq_true.1 e x (YAG h)] at hf;cases hf
theorem ZpV {α:Type}{xs:List α}{f:α->Bool}{x:α}(h:xs[k]? = some x)(hf:f x=true):xs.any f=true:=List.any_eq_true.2 ⟨x,YAG h,hf⟩
theorem Znj (u1 u2:Value)(x y:RecD)(w:World)(h1:Zat w u1 x.near w.heap.size)(h2:Zat w u2 y.near w.heap.size)(hl:x.near.length<=1048576)(hm:y.near.length<=9223372036854775807):
  Calls Tryz.prog 35 #[.agg (recC x u1),.agg (recC y u2)] w fun e w'=>e=.returned (.bool (ZeQ x y))/\Below w.heap.size w w':=by
 obtain⟨p1,c1,rfl⟩:=h1.shape;obtain⟨p2,c2,rfl⟩:=h2.shape;have HSB:=hide (fun W (h:Below w.heap.size w W)=>Zjd (.agg (recC x (.slice p1 x.near.length c1))) (.agg (recC y (.slice p2 y.near.length c2))) x y W ⟨_,rfl,h1.then h⟩ ⟨_,rfl,h2.then h⟩ hl hm);obtain⟨q,hq⟩:∃ q,q=Zej x y:=⟨_,rfl⟩;rw [<-hq] at HSB;have hB:ZeQ x y=(q&&x.seq==y.seq):=by rw [hq];rfl
 rw [hB];clear hB hq hl hm h1 h2;obtain⟨a0,a1,a2,a3,a4,ns,a6,a7⟩:=x;obtain⟨b0,b1,b2,b3,b4,ms,b6,b7⟩:=y;unfold recC at HSB |-;simp only [] at HSB |-
 go_enter Tryz.func35,Tryz.ntmps35
 go_wp2_with fail
 refine (HSB.out _ (ZaB _ _)).mono ?_;rintro e w1 ⟨rfl,bb1⟩;have bw1:Below w.heap.size w w1:=(ZaB _ _).trans (bb1.mono (by simp;omega));have hw0:w1.heap[w.heap.size]? = some (.cells #[.int .i64 a0,.int .i64 a1,.int .i64 a2,.int .i64 a3,.int .i64 a4,.slice p1 ns.length c1,.int .i64 a6,.bool a7] 37):=by
  rw [bb1.block _ (by simp;omega),YAH _ _ _ (by simp),YAE]
 have hw1:w1.heap[w.heap.size+1]? = some (.cells #[.int .i64 b0,.int .i64 b1,.int .i64 b2,.int .i64 b3,.int .i64 b4,.slice p2 ms.length c2,.int .i64 b6,.bool b7] 37):=by
  rw [bb1.block _ (by simp)];have:=YAE (w.alloc (.cells #[.int .i64 a0,.int .i64 a1,.int .i64 a2,.int .i64 a3,.int .i64 a4,.slice p1 ns.length c1,.int .i64 a6,.bool a7] 37)) (.cells #[.int .i64 b0,.int .i64 b1,.int .i64 b2,.int .i64 b3,.int .i64 b4,.slice p2 ms.length c2,.int .i64 b6,.bool b7] 37);simpa using this
 have s4:=Zaa hw0 4;have t4:=Zaa hw1 4;simp at s4 t4;clear bb1 hw0 hw1;cases q
 ·go_wp2;go_ret;exact⟨by simp,bw1⟩
 go_wp2;go_ret;exact⟨by simp,bw1⟩
theorem Zod (u1 u2:Value)(x y:RecD)(p:Nat)(w:World)(h1:Zat w u1 x.near w.heap.size)(h2:Zat w u2 y.near w.heap.size)(hl:x.near.length<=1048576)(hm:y.near.length<=9223372036854775807)(hp:w.heap[p]? = some (.cells (recC y u2) 37)):
  Calls Tryz.prog 34 #[.agg (recC x u1),.pointer (some ⟨p,0,none⟩)] w fun e w'=>e=.returned (.bool (ZeQ x y))/\Below w.heap.size w w':=by
 obtain⟨p1,c1,rfl⟩:=h1.shape;obtain⟨p2,c2,rfl⟩:=h2.shape;have HSB:=hide (fun W (h:Below w.heap.size w W)=>Znj _ _ x y W (h1.then h) (h2.then h) hl hm);obtain⟨q,hq⟩:∃ q,q=ZeQ x y:=⟨_,rfl⟩;rw [<-hq] at HSB |-;clear hq hl hm h1 h2;have hpl:=Zab hp;have hpn:¬p=w.heap.size:=by omega
 obtain⟨a0,a1,a2,a3,a4,ns,a6,a7⟩:=x;obtain⟨b0,b1,b2,b3,b4,ms,b6,b7⟩:=y;unfold recC at HSB hp |-;simp only [] at HSB hp |-
 have c0:=Zaa hp 0;have c1:=Zaa hp 1;have c2:=Zaa hp 2;have c3:=Zaa hp 3;have c4:=Zaa hp 4;have c5:=Zaa hp 5;have c6:=Zaa hp 6;have c7:=Zaa hp 7;simp at c0 c1 c2 c3 c4 c5 c6 c7;clear hp
 go_enter Tryz.func34,Tryz.ntmps34
 go_wp2_with fail
 refine (HSB.out _ ((YAC _ _).alloc (YA _) _)).mono ?_;rintro e w1 ⟨rfl,bb1⟩;have bw1:Below w.heap.size w w1:=((YAC _ _).alloc (YA _) _).trans (bb1.mono (by simp));clear bb1 c0 c1 c2 c3 c4 c5 c6 c7;go_wp2;go_ret;exact⟨rfl,bw1⟩
theorem Znd (v:Value)(ps:List RP)(y:RecD)(u2:Value)(p:Nat)(w:World)(hn:tot ps<=1048576)(hv:Zbu w v ps w.heap.size)(h2:Zat w u2 y.near w.heap.size)(hm:y.near.length<=9223372036854775807)(hp:w.heap[p]? = some (.cells (recC y u2) 37)):
  Calls Tryz.prog 68 #[v,.func (.func 34) #[] #[.pointer (some ⟨p,0,none⟩)]] w fun e w'=>∃ z:Int,e=.returned (.int .i64 z)/\decide (0<=z)=ttAt (fsts ps) y/\Below w.heap.size w w':=by
 have hnl:=Zbj ps;obtain⟨a,cap,rfl⟩:=hv.shape;have HV:=hide hv;have H2:=hide h2;have HP:=hide hp;clear hv h2 hp;have hfl:(fsts ps).length=ps.length:=by simp [fsts]
 have HFL:=hide hfl;clear hfl;have HC:=hide (fun W (hb:Below w.heap.size w W) (t:RP) (ht:Zat W t.2 t.1.near W.heap.size) (hl:t.1.near.length<=1048576)=>Zod t.2 u2 t.1 y p W ht (H2.out.then hb) hl hm ((hb.block _ (Zab HP.out)).trans HP.out));unfold recC at HC;clear hm
 go_enter Tryz.func68,Tryz.ntmps68
 go_wp2
 go_loopw [8] (fun i wr=>∃ k:Nat,k<=ps.length/\i=.int .i64 k/\((fsts ps).take k).any (fun x=>ZeQ x y)=false/\Below w.heap.size w wr) (fun i _=>ps.length-(intOf i).toNat)
 case atStart=>exact ⟨0,by omega,rfl,by simp,YAC _ _⟩
 case round=>
  obtain⟨k,hk,rfl,hno,hnx⟩:=hrel;have HNO:=hide hno;clear hno;have hsz:=hnx.size;by_cases hlt:k<ps.length
  ·obtain ⟨l,hl⟩:∃ l,ps[k]? = some l:=⟨ps[k],YAA hlt⟩;obtain⟨b,off,cap',hve,hbb,c0,c1,c2,c3,c4,c5,c6,c7,hnr⟩:=HV.out.cells k l hl;cases hve;replace c0:=(hnx.cell hbb).trans c0;replace c1:=(hnx.cell hbb).trans c1;replace c2:=(hnx.cell hbb).trans c2;replace c3:=(hnx.cell hbb).trans c3;replace c4:=(hnx.cell hbb).trans c4;replace c5:=(hnx.cell hbb).trans c5;replace c6:=(hnx.cell hbb).trans c6;replace c7:=(hnx.cell hbb).trans c7;have hbr:b<wr.heap.size:=by omega
   have hki:(0:Int)<=(k:Int):=by omega
   have hkj:(k:Int)<(ps.length:Int):=by omega
   have HCK:=hide (HC.out wr hnx l (Zat.then hnr hnx) (by have:=Zem (YAG hl);omega));have HN:=hide (ZnW (f:=fun x=>ZeQ x y) (Zbf hl));have HY:=hide (ZpV (f:=fun x=>ZeQ x y) (Zbf hl));obtain⟨q,hq⟩:∃ q,q=ZeQ l.1 y:=⟨_,rfl⟩;rw [<-hq] at HCK HN HY;clear hq hl hnr
   go_wp2_with fail
   refine HCK.out.mono ?_;rintro e w1 ⟨rfl,bb1⟩;have bw1:Below w.heap.size w w1:=hnx.trans (bb1.mono hsz);clear bb1 c0 c1 c2 c3 c4 c5 c6 c7;cases q
   ·go_wp2;go_roundw
    case rel=>exact ⟨k+1,by omega,by go_num,by rw [HN.out,HNO.out];rfl,bw1⟩
    case measure=>simp [intOf];omega
   ·go_wp2;go_ret;exact⟨(k:Int),rfl,(YAT hki).trans (HY.out (by trivial)).symm,bw1⟩
  ·have HA:=hide (show ttAt (fsts ps) y=false by
    have h:=HNO.out;rw [show k=(fsts ps).length by rw [HFL.out];omega,YAh] at h;exact h)
   go_wp2;go_ret;exact⟨-1,rfl,by rw [HA.out];rfl,hnx⟩
theorem ZiU (v:Value)(ps:List RP)(y:RecD)(u2:Value)(p:Nat)(w:World)(hn:tot ps<=1048576)(hv:Zbu w v ps w.heap.size)(h2:Zat w u2 y.near w.heap.size)(hm:y.near.length<=9223372036854775807)(hp:w.heap[p]? = some (.cells (recC y u2) 37)):
  Calls Tryz.prog 33 #[v,.func (.func 34) #[] #[.pointer (some ⟨p,0,none⟩)]] w fun e w'=>e=.returned (.bool (ttAt (fsts ps) y))/\Below w.heap.size w w':=by
 have HI:=hide (Znd v ps y u2 p w hn hv h2 hm hp);obtain⟨a,cap,rfl⟩:=hv.shape;clear hn hv h2 hm hp
 go_enter Tryz.func33,Tryz.ntmps33
 go_wp2_with fail
 refine HI.out.mono ?_;rintro e w1 ⟨z,rfl,hz,bb1⟩;have HZ:=hide hz;clear hz;go_wp2;go_ret;exact⟨Zah HZ.out.symm,bb1⟩
theorem ZoO (v u:Value)(ps qs:List RP)(w:World)(hn:tot ps<=1048576)(hm:tot qs<=1048576)(hv:Zbu w v ps w.heap.size)(hu:Zbu w u qs w.heap.size):
  Calls Tryz.prog 10 #[v,u] w fun e w'=>e=.returned (.bool (ttB (fsts ps) (fsts qs)))/\Below w.heap.size w w':=by
 have hnl:=Zbj qs;obtain⟨a,cap,rfl⟩:=hv.shape;obtain⟨a2,cap2,rfl⟩:=hu.shape;have HV:=hide hv;have HU:=hide hu;clear hv hu;have hfl:(fsts qs).length=qs.length:=by simp [fsts]
 have HFL:=hide hfl;clear hfl;obtain⟨R,hR⟩:∃ R,R=ttB (fsts ps) (fsts qs):=⟨_,rfl⟩;rw [<-hR];have HR:=hide hR;clear hR
 go_enter Tryz.func10,Tryz.ntmps10
 go_wp2
 go_loopw [9] (fun i wr=>∃ k:Nat,k<=qs.length/\i=.int .i64 k/\((fsts qs).take k).all (ttAt (fsts ps))=true/\Below w.heap.size w wr) (fun i _=>qs.length-(intOf i).toNat)
 case atStart=>exact ⟨0,by omega,rfl,by simp,YAC _ _⟩
 case round=>
  obtain⟨k,hk,rfl,hall,hnx⟩:=hrel;have HALL:=hide hall;clear hall;have hsz:=hnx.size;by_cases hlt:k<qs.length
  ·obtain ⟨l,hl⟩:∃ l,qs[k]? = some l:=⟨qs[k],YAA hlt⟩;obtain⟨b,off,cap',hve,hbb,c0,c1,c2,c3,c4,c5,c6,c7,hnr⟩:=HU.out.cells k l hl;cases hve;replace c0:=(hnx.cell hbb).trans c0;replace c1:=(hnx.cell hbb).trans c1;replace c2:=(hnx.cell hbb).trans c2;replace c3:=(hnx.cell hbb).trans c3;replace c4:=(hnx.cell hbb).trans c4;replace c5:=(hnx.cell hbb).trans c5;replace c6:=(hnx.cell hbb).trans c6;replace c7:=(hnx.cell hbb).trans c7;have hbr:b<wr.heap.size:=by omega
   have hbn:¬b=wr.heap.size:=by omega
   have hki:(0:Int)<=(k:Int):=by omega
   have hkj:(k:Int)<(qs.length:Int):=by omega
   have HCT:=hide (fun W (hb:Below w.heap.size w W) (pp:Nat) (hp:W.heap[pp]? = some (.cells (recC l.1 l.2) 37))=>ZiU (.slice a ps.length cap) ps l.1 l.2 pp W hn (HV.out.then hb) (Zat.then hnr hb) (by have:=Zem (YAG hl);omega) hp);unfold recC at HCT;obtain⟨pa,pc,hpn⟩:=Zat.shape hnr;rw [hpn] at c5 HCT;have HN:=hide (ZnV (f:=ttAt (fsts ps)) (Zbf hl));have HY:=hide (ZpU (f:=ttAt (fsts ps)) (Zbf hl));obtain⟨q,hq⟩:∃ q,q=ttAt (fsts ps) l.1:=⟨_,rfl⟩;rw [<-hq] at HCT HN HY;clear hq hl hnr hpn;have hal:=YAE wr (.cells #[.int .i64 l.1.area,.int .i64 l.1.kind,.int .i64 l.1.owner,.int .i64 l.1.key,.int .i64 l.1.seq,.slice pa l.1.near.length pc,.int .i64 l.1.cost,.bool l.1.far] 37);have HAL:=hide hal;clear hal;have B1:Below w.heap.size w (wr.alloc (.cells #[.int .i64 l.1.area,.int .i64 l.1.kind,.int .i64 l.1.owner,.int .i64 l.1.key,.int .i64 l.1.seq,.slice pa l.1.near.length pc,.int .i64 l.1.cost,.bool l.1.far] 37)):=hnx.alloc hsz _;have HB1:=hide B1;clear B1
   go_wp2_with fail
   refine (HCT.out _ HB1.out _ HAL.out).mono ?_;rintro e w1 ⟨rfl,bb1⟩;have bw1:Below w.heap.size w w1:=HB1.out.trans (bb1.mono HB1.out.size);clear bb1 c0 c1 c2 c3 c4 c5 c6 c7;cases q
   ·have HF:=hide (HR.out.trans (HY.out (by trivial)));go_wp2;go_ret;exact⟨Zah HF.out,bw1⟩
   ·go_wp2;go_roundw
    case rel=>exact ⟨k+1,by omega,by go_num,by rw [HN.out,HALL.out];rfl,bw1⟩
    case measure=>simp [intOf];omega
  ·have HA:=hide (show R=true by
    have h:=HALL.out;rw [show k=(fsts qs).length by rw [HFL.out];omega,YAh] at h;exact HR.out.trans h)
   go_wp2;go_ret;exact⟨Zah HA.out,hnx⟩
theorem ZlK (l:Th):∀ u∈thE l,u.oneCell'=true:=by
 intro u hu;simp only [thE,YAb,List.not_mem_nil,or_false] at hu;rcases hu with rfl | rfl | rfl | rfl <;> rfl
def putT (ls:List Th)(l:Th):List Th:=ls.filter (fun x=>ZbH x l)++[l]++ls.filter (fun x=>ZbH l x)
theorem Zq1 (v:Value)(ls:List Th)(l:Th)(w:World)(hls:ls.length<=1000)(hv:ZaS w v ls w.heap.size):
  Calls Tryz.prog 41 #[v,thV l] w fun e w'=>∃ x,e=.returned x/\w'.ownsRow (w.heap.size+1) 65 4 x (putT ls l).length (flat thE (putT ls l))/\Below w.heap.size w w':=by
 obtain⟨a,cap,rfl⟩:=hv.shape;have HV:=hide hv;clear hv;obtain⟨la,lb,lc,lr⟩:=l;unfold thV;simp only []
 go_enter Tryz.func41,Tryz.ntmps41
 go_wp2
 go_loopw [5,6] (fun u i wr=>∃ k:Nat,k<=ls.length/\i=.int .i64 k/\wr.ownsRow (w.heap.size+1) 65 4 u ((ls.take k).filter (fun x=>ZbH x ⟨la,lb,lc,lr⟩)).length (flat thE ((ls.take k).filter (fun x=>ZbH x ⟨la,lb,lc,lr⟩)))/\Below w.heap.size w wr/\wr.heap[w.heap.size]? = some (.cells #[.int .i64 la,.int .i64 lb,.int .i64 lc,.bool lr] 65)) (fun _ i _=>ls.length-(intOf i).toNat)
 case atStart=>
  refine⟨0,by omega,rfl,?_,?_,?_⟩
  ·have h:=World.ownsRow_lit (base:=w.heap.size+1) (e:=65) (size:=4) (w.alloc (.cells #[.int .i64 la,.int .i64 lb,.int .i64 lc,.bool lr] 65)) #[] 0 (by simp) (by decide) rfl;simpa [flat] using h
  ·exact ((YAC _ _).alloc (YA _) _).alloc (by simp) _
  ·rw [YAH _ _ _ (by simp),YAE]
 case round=>
  obtain⟨k,hk,rfl,hown,hb,hx⟩:=hrel;have hfl:=ZgH (fun x=>ZbH x ⟨la,lb,lc,lr⟩) ls k;have hxl:=Zab hx;by_cases hlt:k<ls.length
  ·obtain ⟨x,hl⟩:∃ l,ls[k]? = some l:=⟨ls[k],YAA hlt⟩;obtain⟨b,off,cap',hve,hbb,c0,c1,c2,c3⟩:=HV.out.cells k x hl;cases hve;have d0:=c0;have d1:=c1;have d2:=c2;have d3:=c3;replace c0:=(hb.cell hbb).trans c0;replace c1:=(hb.cell hbb).trans c1;replace c2:=(hb.cell hbb).trans c2;replace c3:=(hb.cell hbb).trans c3;have g0:=Zaa hx 0;have g1:=Zaa hx 1;have g2:=Zaa hx 2;have g3:=Zaa hx 3;simp at g0 g1 g2 g3;have hzr:=hb.size;have hbr:b<wr.heap.size:=by omega
   have hki:(0:Int)<=(k:Int):=by omega
   have hkj:(k:Int)<(ls.length:Int):=by omega
   obtain⟨q,hq⟩:∃ q,q=ZbH x ⟨la,lb,lc,lr⟩:=⟨_,rfl⟩;have hah:=Zgk x ⟨la,lb,lc,lr⟩;rw [<-hq] at hah;unfold thV at hah;have HAH:=hide hah;have OW:=hide hown;have HX:=hide hx;have HL:=hide hl;have HQ:=hide hq;have D0:=hide d0;have D1:=hide d1;have D2:=hide d2;have D3:=hide d3;clear hah hown hx hl hq d0 d1 d2 d3;go_wp2
   go_region_held3 (fun W=>W.cell? ⟨b,off+k*4,none⟩=some (.int .i64 x.o)/\W.cell? ⟨b,off+k*4+1,none⟩=some (.int .i64 x.k)/\W.cell? ⟨b,off+k*4+2,none⟩=some (.int .i64 x.c)/\W.cell? ⟨b,off+k*4+3,none⟩=some (.bool x.f)/\W.cell? ⟨w.heap.size,0,none⟩=some (.int .i64 la)/\W.cell? ⟨w.heap.size,1,none⟩=some (.int .i64 lb)/\W.cell? ⟨w.heap.size,2,none⟩=some (.int .i64 lc)/\W.cell? ⟨w.heap.size,3,none⟩=some (.bool lr)) (first | go_keep | (refine ⟨?_,?_,?_,?_,?_,?_,?_,?_⟩ <;> (rw [hbc.cell (by assumption)];assumption))) (first | (go_at_call 56;refine (HAH.out _).mono ?_;rintro e w1 ⟨rfl,hbc⟩))
   have B1:Below w.heap.size w w1:=hb.drew.trans (hbc.mono hb.size);have hx1:w1.heap[w.heap.size]? = some (.cells #[.int .i64 la,.int .i64 lb,.int .i64 lc,.bool lr] 65):=by rw [hbc.block _ hxl];exact HX.out
   have hown1:=Zad OW.out.drew hbc (YA _);have c0:=D0.out;have c1:=D1.out;have c2:=D2.out;have c3:=D3.out;replace c0:=(B1.cell hbb).trans c0;replace c1:=(B1.cell hbb).trans c1;replace c2:=(B1.cell hbb).trans c2;replace c3:=(B1.cell hbb).trans c3;have hxl1:=Zab hx1;have HX1:=hide hx1;have OW1:=hide hown1;clear hx1 hown1 hbc;cases q
   ·have hs:=Zi0 (p:=fun x=>ZbH x ⟨la,lb,lc,lr⟩) HL.out HQ.out.symm;have HS:=hide hs;clear hs;go_wp2;go_roundw
    case rel=>exact ⟨k+1,by omega,by go_num,by rw [HS.out];exact OW1.out,B1,HX1.out⟩
    case measure=>simp [intOf];omega
   ·have hs:=ZgI (p:=fun x=>ZbH x ⟨la,lb,lc,lr⟩) HL.out HQ.out.symm;have HS:=hide hs;clear hs
    go_wp2_with (first
     | (at_builtin;refine Za6 Zju (by omega) ZlK (by omega) _ rfl _ _ 25 rfl (w.heap.size+1) 65 Tryz.underlying25 (thV th0) rfl Tryz.infoTh u5 _ x rfl (OW1.out.alloc _) ⟨w1.heap.size,0,none⟩ 1 rfl (Zan (cs:=thE x)) (by omega) (by simp;omega) ?_))
    intro v' w2 l' hl' hown' hgrow;have B2:Below w.heap.size w w2:=(B1.alloc B1.size _).grown hgrow (by simp;omega) (fun k hk=>by have:=(OW1.out.lt k hk).1;omega);have hx2:w2.heap[w.heap.size]? = some (.cells #[.int .i64 la,.int .i64 lb,.int .i64 lc,.bool lr] 65):=by rw [Zbx (OW1.out.alloc _) hgrow (by omega) (by simp;omega),YAH _ _ _ hxl1];exact HX1.out
    have HX2:=hide hx2;have OW2:=hide hown';clear hx2 hown' hgrow;go_wp2;go_roundw
    case rel=>exact ⟨k+1,by omega,by go_num,by rw [HS.out, <-hl'.out];exact OW2.out,B2,HX2.out⟩
    case measure=>simp [intOf];omega
  ·have hk':k=ls.length:=by omega
   rw [hk',YAh] at hown;have g0:=Zaa hx 0;have g1:=Zaa hx 1;have g2:=Zaa hx 2;have g3:=Zaa hx 3;simp at g0 g1 g2 g3;have hzr:=hb.size;have hfl2:(ls.filter (fun x=>ZbH x ⟨la,lb,lc,lr⟩)).length<=ls.length:=List.length_filter_le _ _;have OW:=hide hown;have HX:=hide hx;clear hown hx hk';obtain⟨wo,rfl⟩:∃ wo:World,wo=wr:=⟨_,rfl⟩
   go_wp2_with (first
    | (at_builtin;refine Za6 Zju (by omega) ZlK (by omega) _ rfl _ _ 25 rfl (w.heap.size+1) 65 Tryz.underlying25 (thV th0) rfl Tryz.infoTh u5 _ ⟨la,lb,lc,lr⟩ rfl (OW.out.alloc _) ⟨wo.heap.size,0,none⟩ 1 rfl (Zan (cs:=thE ⟨la,lb,lc,lr⟩)) (by omega) (by simp;omega) ?_))
   intro v' w2 l' hl' hown' hgrow;have B2:Below w.heap.size w w2:=(hb.alloc hb.size _).grown hgrow (by simp;omega) (fun k hk=>by have:=(OW.out.lt k hk).1;omega);have hx2:w2.heap[w.heap.size]? = some (.cells #[.int .i64 la,.int .i64 lb,.int .i64 lc,.bool lr] 65):=by rw [Zbx (OW.out.alloc _) hgrow (by omega) (by simp;omega),YAH _ _ _ hxl];exact HX.out
   have hll:l'.length<=ls.length+1:=by rw [hl'.out];simp;omega
   have HX2:=hide hx2;have OW2:=hide hown';clear hx2 hown' hgrow hlt;go_wp2
   go_loopw [5,7] (fun u i wr=>∃ k:Nat,k<=ls.length/\i=.int .i64 k/\wr.ownsRow (w.heap.size+1) 65 4 u (l'++(ls.take k).filter (fun x=>ZbH ⟨la,lb,lc,lr⟩ x)).length (flat thE (l'++(ls.take k).filter (fun x=>ZbH ⟨la,lb,lc,lr⟩ x)))/\Below w.heap.size w wr/\wr.heap[w.heap.size]? = some (.cells #[.int .i64 la,.int .i64 lb,.int .i64 lc,.bool lr] 65)) (fun _ i _=>ls.length-(intOf i).toNat)
   case atStart=>exact ⟨0,by omega,rfl,by simpa using OW2.out,B2,HX2.out⟩
   case round=>
    clear OW2 HX2 B2 OW HX hb g0 g1 g2 g3 hzr hxl;obtain⟨k,hk,rfl,hown,hb,hx⟩:=hrel;have hfl:=ZgH (fun x=>ZbH ⟨la,lb,lc,lr⟩ x) ls k;have hfl3:(l'++(ls.take k).filter (fun x=>ZbH ⟨la,lb,lc,lr⟩ x)).length<=2*ls.length+1:=by rw [YAN];omega
    have hxl:=Zab hx;by_cases hlt:k<ls.length
    ·obtain ⟨x,hl⟩:∃ l,ls[k]? = some l:=⟨ls[k],YAA hlt⟩;obtain⟨b,off,cap',hve,hbb,c0,c1,c2,c3⟩:=HV.out.cells k x hl;cases hve;have d0:=c0;have d1:=c1;have d2:=c2;have d3:=c3;replace c0:=(hb.cell hbb).trans c0;replace c1:=(hb.cell hbb).trans c1;replace c2:=(hb.cell hbb).trans c2;replace c3:=(hb.cell hbb).trans c3;have g0:=Zaa hx 0;have g1:=Zaa hx 1;have g2:=Zaa hx 2;have g3:=Zaa hx 3;simp at g0 g1 g2 g3;have hzr:=hb.size;have hbr:b<wr.heap.size:=by omega
     have hki:(0:Int)<=(k:Int):=by omega
     have hkj:(k:Int)<(ls.length:Int):=by omega
     obtain⟨q,hq⟩:∃ q,q=ZbH ⟨la,lb,lc,lr⟩ x:=⟨_,rfl⟩;have hah:=Zgk ⟨la,lb,lc,lr⟩ x;rw [<-hq] at hah;unfold thV at hah;have HAH:=hide hah;have OW:=hide hown;have HX:=hide hx;have HL:=hide hl;have HQ:=hide hq;have D0:=hide d0;have D1:=hide d1;have D2:=hide d2;have D3:=hide d3;clear hah hown hx hl hq d0 d1 d2 d3;go_wp2
     go_region_held3 (fun W=>W.cell? ⟨b,off+k*4,none⟩=some (.int .i64 x.o)/\W.cell? ⟨b,off+k*4+1,none⟩=some (.int .i64 x.k)/\W.cell? ⟨b,off+k*4+2,none⟩=some (.int .i64 x.c)/\W.cell? ⟨b,off+k*4+3,none⟩=some (.bool x.f)/\W.cell? ⟨w.heap.size,0,none⟩=some (.int .i64 la)/\W.cell? ⟨w.heap.size,1,none⟩=some (.int .i64 lb)/\W.cell? ⟨w.heap.size,2,none⟩=some (.int .i64 lc)/\W.cell? ⟨w.heap.size,3,none⟩=some (.bool lr)) (first | go_keep | (refine ⟨?_,?_,?_,?_,?_,?_,?_,?_⟩ <;> (rw [hbc.cell (by assumption)];assumption))) (first | (go_at_call 56;refine (HAH.out _).mono ?_;rintro e w1 ⟨rfl,hbc⟩))
     have B1:Below w.heap.size w w1:=hb.drew.trans (hbc.mono hb.size);have hx1:w1.heap[w.heap.size]? = some (.cells #[.int .i64 la,.int .i64 lb,.int .i64 lc,.bool lr] 65):=by rw [hbc.block _ hxl];exact HX.out
     have hown1:=Zad OW.out.drew hbc (YA _);have c0:=D0.out;have c1:=D1.out;have c2:=D2.out;have c3:=D3.out;replace c0:=(B1.cell hbb).trans c0;replace c1:=(B1.cell hbb).trans c1;replace c2:=(B1.cell hbb).trans c2;replace c3:=(B1.cell hbb).trans c3;have hxl1:=Zab hx1;have HX1:=hide hx1;have OW1:=hide hown1;clear hx1 hown1 hbc;cases q
     ·have hs:=Zi0 (p:=fun x=>ZbH ⟨la,lb,lc,lr⟩ x) HL.out HQ.out.symm;have HS:=hide hs;clear hs;go_wp2;go_roundw
      case rel=>exact ⟨k+1,by omega,by go_num,by rw [HS.out];exact OW1.out,B1,HX1.out⟩
      case measure=>simp [intOf];omega
     ·have hs:=ZgI (p:=fun x=>ZbH ⟨la,lb,lc,lr⟩ x) HL.out HQ.out.symm;have HS:=hide hs;clear hs
      go_wp2_with (first
       | (at_builtin;refine Za6 Zju (by omega) ZlK (by omega) _ rfl _ _ 25 rfl (w.heap.size+1) 65 Tryz.underlying25 (thV th0) rfl Tryz.infoTh u5 _ x rfl (OW1.out.alloc _) ⟨w1.heap.size,0,none⟩ 1 rfl (Zan (cs:=thE x)) (by omega) (by simp;omega) ?_))
      intro v' w2 l2 hl2 hown' hgrow;have B2:Below w.heap.size w w2:=(B1.alloc B1.size _).grown hgrow (by simp;omega) (fun k hk=>by have:=(OW1.out.lt k hk).1;omega);have hx2:w2.heap[w.heap.size]? = some (.cells #[.int .i64 la,.int .i64 lb,.int .i64 lc,.bool lr] 65):=by rw [Zbx (OW1.out.alloc _) hgrow (by omega) (by simp;omega),YAH _ _ _ hxl1];exact HX1.out
      have HX2:=hide hx2;have OW2:=hide hown';clear hx2 hown' hgrow;go_wp2;go_roundw
      case rel=>exact ⟨k+1,by omega,by go_num,by rw [HS.out];first | (rw [<-hl2.out];exact OW2.out) | (rw [<-YAY, <-hl2.out];exact OW2.out),B2,HX2.out⟩
      case measure=>simp [intOf];omega
    ·have hk':k=ls.length:=by omega
     rw [hk',YAh] at hown;have OW:=hide hown;clear hown hk';go_wp2;go_ret;exact⟨_,rfl,by unfold putT;rw [<-hl'.out];exact OW.out,hb⟩
end Go.Proofs.YtikloccefmofdaaGreat
