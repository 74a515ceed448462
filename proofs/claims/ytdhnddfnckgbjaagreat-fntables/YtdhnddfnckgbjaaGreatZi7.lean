/-
  Parts.
-/
import Derived.Test.YtdhnddfnckgbjaaGreatZi6
import Derived.Test.YtdhnddfnckgbjaaGreatZi5
namespace Go.Proofs.YtdhnddfnckgbjaaGreat
open Go.RowKit
set_option linter.unusedSimpArgs false
set_option linter.unusedVariables false
set_option maxRecDepth 100000
set_option maxHeartbeats 8000000
variable {xs:List RecD}{k:Nat}
theorem ZnD (v:Value)(ps:List RP)(hi:Nat)(r:RP)(w:World)(hv:RecsIn w hi v ps)(hhi:hi<=w.heap.size)(hn:tot ps<=1048576):
  Calls Tryz.prog 126 #[v,.agg (recC r.1 r.2)] w fun e w'=>e=.returned (.int .i64 (atZ (fsts ps) r.1))/\Below w.heap.size w w':=by
 have hnl:=ZcB ps;obtain⟨a1,c1,rfl⟩:=Zac hv.row;have HV:=hide hv;clear hv;have BX:=(YAB w.heap.size w).alloc (YA _) (.cells (recC r.1 r.2) 132);have hx:=YAE w (.cells (recC r.1 r.2) 132);obtain⟨wx,hwx⟩:∃ wx,wx=w.alloc (.cells (recC r.1 r.2) 132):=⟨_,rfl⟩;rw [<-hwx] at BX hx;unfold recC at *
 go_enter Tryz.func126,Tryz.ntmps126
 go_wp2;rw [<-hwx];have HX:=hide hx;clear hwx hx
 go_loopw [5] (fun i wr=>∃ (k:Nat),k<=ps.length/\i=.int .i64 k/\(∀ j,j<k->∀ y,(fsts ps)[j]? = some y->Zbc y r.1=false)/\Below wx.heap.size wx wr) (fun i _=>ps.length-(intOf i).toNat)
 case atStart=>exact ⟨0,by omega,rfl,by omega,YAB _ _⟩
 case round=>
  obtain⟨k,hk,rfl,hall,hnx⟩:=hrel;have HALL:=hide hall;clear hall;have hsz:=hnx.size;have hsx:=Zab HX.out;have BWR:Below w.heap.size w wr:=BX.trans (hnx.mono (by omega));by_cases hlt:k<ps.length
  ·obtain ⟨p,hp⟩:∃ p,ps[k]? = some p:=⟨ps[k],YAA hlt⟩;have hat:=HV.out.at;obtain⟨b,off,cap',hve,hbb,c0,c1,c2,c3,c4,c5,c6,c7,_⟩:=hat.cells k p hp;cases hve;replace c0:=(BWR.cell (YAC hbb hhi)).trans c0;replace c1:=(BWR.cell (YAC hbb hhi)).trans c1;replace c2:=(BWR.cell (YAC hbb hhi)).trans c2;replace c3:=(BWR.cell (YAC hbb hhi)).trans c3;replace c4:=(BWR.cell (YAC hbb hhi)).trans c4;replace c5:=(BWR.cell (YAC hbb hhi)).trans c5;replace c6:=(BWR.cell (YAC hbb hhi)).trans c6;replace c7:=(BWR.cell (YAC hbb hhi)).trans c7;have hxx:=(hnx.block _ hsx).trans HX.out;have d0:=Zaa hxx 0;have d1:=Zaa hxx 1;have d2:=Zaa hxx 2;have d3:=Zaa hxx 3;have d4:=Zaa hxx 4;have d5:=Zaa hxx 5;have d6:=Zaa hxx 6;have d7:=Zaa hxx 7;simp at d0 d1 d2 d3 d4 d5 d6 d7;have hb1:b<wr.heap.size:=by omega
   have hb2:w.heap.size<wr.heap.size:=by omega
   have hki:(0:Int)<=(k:Int):=by omega
   have hkj:(k:Int)<(ps.length:Int):=by omega
   have hq:=fun W=>ZiD p.2 r.2 p.1 r.1 W;unfold recC at hq;obtain⟨q,hqq⟩:∃ q,q=Zbc p.1 r.1:=⟨_,rfl⟩;rw [<-hqq] at hq;have HK:=hide hq;have HQQ:=hide hqq;have HPP:=hide (Zcf hp);clear hq hqq hp hat hxx;cases q
   ·go_wp2
    go_region_held3 (fun W=>W.cell? ⟨b,off+k*8,none⟩=some (.int .i64 p.1.area)/\W.cell? ⟨b,off+k*8+1,none⟩=some (.int .i64 p.1.kind)/\W.cell? ⟨b,off+k*8+2,none⟩=some (.int .i64 p.1.owner)/\W.cell? ⟨b,off+k*8+3,none⟩=some (.int .i64 p.1.key)/\W.cell? ⟨b,off+k*8+4,none⟩=some (.int .i64 p.1.seq)/\W.cell? ⟨b,off+k*8+5,none⟩=some (p.2)/\W.cell? ⟨b,off+k*8+6,none⟩=some (.int .i64 p.1.cost)/\W.cell? ⟨b,off+k*8+7,none⟩=some (.bool p.1.far)/\W.cell? ⟨w.heap.size,0,none⟩=some (.int .i64 r.1.area)/\W.cell? ⟨w.heap.size,1,none⟩=some (.int .i64 r.1.kind)/\W.cell? ⟨w.heap.size,2,none⟩=some (.int .i64 r.1.owner)/\W.cell? ⟨w.heap.size,3,none⟩=some (.int .i64 r.1.key)/\W.cell? ⟨w.heap.size,4,none⟩=some (.int .i64 r.1.seq)/\W.cell? ⟨w.heap.size,5,none⟩=some (r.2)/\W.cell? ⟨w.heap.size,6,none⟩=some (.int .i64 r.1.cost)/\W.cell? ⟨w.heap.size,7,none⟩=some (.bool r.1.far)) (first | go_keep | (refine ⟨?_,?_,?_,?_,?_,?_,?_,?_,?_,?_,?_,?_,?_,?_,?_,?_⟩ <;> (rw [hbc.cell (by assumption)];assumption))) (first | (go_at_call 128;refine (HK.out _).mono ?_;rintro e w1 ⟨rfl,hbc⟩))
    go_wp2;go_roundw
    case rel=>exact ⟨k+1,by omega,by go_num,(fun j hj y hy=>by
     by_cases e:j=k
     ·subst e;rw [HPP.out] at hy;cases hy;exact HQQ.out.symm
     ·exact HALL.out j (by omega) y hy),hnx.trans ((YAB _ _).drew.trans (hbc.mono hsz))⟩
    case measure=>simp [intOf];omega
   ·go_wp2
    go_region_held3 (fun W=>W.cell? ⟨b,off+k*8,none⟩=some (.int .i64 p.1.area)/\W.cell? ⟨b,off+k*8+1,none⟩=some (.int .i64 p.1.kind)/\W.cell? ⟨b,off+k*8+2,none⟩=some (.int .i64 p.1.owner)/\W.cell? ⟨b,off+k*8+3,none⟩=some (.int .i64 p.1.key)/\W.cell? ⟨b,off+k*8+4,none⟩=some (.int .i64 p.1.seq)/\W.cell? ⟨b,off+k*8+5,none⟩=some (p.2)/\W.cell? ⟨b,off+k*8+6,none⟩=some (.int .i64 p.1.cost)/\W.cell? ⟨b,off+k*8+7,none⟩=some (.bool p.1.far)/\W.cell? ⟨w.heap.size,0,none⟩=some (.int .i64 r.1.area)/\W.cell? ⟨w.heap.size,1,none⟩=some (.int .i64 r.1.kind)/\W.cell? ⟨w.heap.size,2,none⟩=some (.int .i64 r.1.owner)/\W.cell? ⟨w.heap.size,3,none⟩=some (.int .i64 r.1.key)/\W.cell? ⟨w.heap.size,4,none⟩=some (.int .i64 r.1.seq)/\W.cell? ⟨w.heap.size,5,none⟩=some (r.2)/\W.cell? ⟨w.heap.size,6,none⟩=some (.int .i64 r.1.cost)/\W.cell? ⟨w.heap.size,7,none⟩=some (.bool r.1.far)) (first | go_keep | (refine ⟨?_,?_,?_,?_,?_,?_,?_,?_,?_,?_,?_,?_,?_,?_,?_,?_⟩ <;> (rw [hbc.cell (by assumption)];assumption))) (first | (go_at_call 128;refine (HK.out _).mono ?_;rintro e w1 ⟨rfl,hbc⟩))
    go_wp2;go_ret;exact⟨Zj7 (by rw [Zli HPP.out HQQ.out.symm HALL.out]),BWR.trans ((YAB _ _).drew.trans (hbc.mono (show w.heap.size<=wr.heap.size by omega)))⟩
  ·have hkn:k=ps.length:=by omega
   have KN:=hide hkn;clear hkn;go_wp2;go_ret;exact⟨Zj7 (by rw [ZmM (by have h:=HALL.out;rw [KN.out] at h;simpa [fsts] using h)]),BWR⟩
theorem Zml (hk:k<xs.length)(h:Zdp ordR xs k=false):ZaN xs=false:=by unfold ZaN ascB;rw [Zbk hk h];simp
theorem ZcM (v:Value)(ps:List RP)(w:World)(hn:tot ps<=1048576)(hv:ZbT w v ps w.heap.size):
  Calls Tryz.prog 86 #[v] w fun e w'=>e=.returned (.bool (ZaN (fsts ps)))/\Below w.heap.size w w':=by
 have hnl:=ZcB ps;obtain⟨a,cap,rfl⟩:=hv.shape;have HV:=hide hv;clear hv;have hfl:(fsts ps).length=ps.length:=by simp [fsts]
 by_cases hlong:(150:Int)<(ps.length:Int)
 ·have HF:=hide (Zk1 (xs:=fsts ps) (by omega));clear hfl
  go_enter Tryz.func86,Tryz.ntmps86
  go_wp2;go_ret;exact⟨Zao HF.out,YAB _ _⟩
 have HFL:=hide hfl;clear hfl
 go_enter Tryz.func86,Tryz.ntmps86
 go_wp2
 go_loopw [3] (fun i wr=>∃ k:Nat,k<=ps.length/\i=.int .i64 k/\(∀ j,j<k->okAt Za7 (fsts ps) j=true)/\(∀ j,j<k->Zdp ordR (fsts ps) j=true)/\Below w.heap.size w wr) (fun i _=>ps.length-(intOf i).toNat)
 case atStart=>exact ⟨0,by omega,rfl,by omega,by omega,YAB _ _⟩
 case round=>
  obtain⟨k,hk,rfl,hall,hasc,hnx⟩:=hrel;have HALL:=hide hall;have HASC:=hide hasc;clear hall hasc;have hsz:=hnx.size;by_cases hlt:k<ps.length
  ·obtain ⟨l,hl⟩:∃ p,ps[k]? = some p:=⟨ps[k],YAA hlt⟩;obtain⟨b,off,cap',hve,hbb,c0,c1,c2,c3,c4,c5,c6,c7,hnr⟩:=HV.out.cells k l hl;cases hve;replace c0:=(hnx.cell hbb).trans c0;replace c1:=(hnx.cell hbb).trans c1;replace c2:=(hnx.cell hbb).trans c2;replace c3:=(hnx.cell hbb).trans c3;replace c4:=(hnx.cell hbb).trans c4;replace c5:=(hnx.cell hbb).trans c5;replace c6:=(hnx.cell hbb).trans c6;replace c7:=(hnx.cell hbb).trans c7;have HOK:=hide (fun W (hb:Below w.heap.size w W)=>ZkZ l.2 l.1 W (by have:=ZjA (YAF hl);omega) ((Zau.later hnr hb (YA _)).more hb.size));unfold recC at HOK;have HAT1:=hide (Zdd (ok:=Za7) (Zcf hl));obtain⟨qo,hqo⟩:∃ q,q=Za7 l.1:=⟨_,rfl⟩;rw [<-hqo] at HOK HAT1;have HL:=hide (Zcf hl);clear hqo hl hnr;have hbr:b<wr.heap.size:=by omega
   have hki:(0:Int)<=(k:Int):=by omega
   have hkj:(k:Int)<(ps.length:Int):=by omega
   have hnd:Below w.heap.size w wr.drew:=hnx.drew;cases qo
   ·have HF:=hide (Zmm (by rw [HFL.out];exact hlt) HAT1.out);go_wp2;refine Zah (S:=(fun W=>W.cell? ⟨b,off+k*8,none⟩=some (.int .i64 l.1.area)/\W.cell? ⟨b,off+k*8+1,none⟩=some (.int .i64 l.1.kind)/\W.cell? ⟨b,off+k*8+2,none⟩=some (.int .i64 l.1.owner)/\W.cell? ⟨b,off+k*8+3,none⟩=some (.int .i64 l.1.key)/\W.cell? ⟨b,off+k*8+4,none⟩=some (.int .i64 l.1.seq)/\W.cell? ⟨b,off+k*8+5,none⟩=some (l.2)/\W.cell? ⟨b,off+k*8+6,none⟩=some (.int .i64 l.1.cost)/\W.cell? ⟨b,off+k*8+7,none⟩=some (.bool l.1.far))) (by kernel_rfl) 23 rfl ⟨c0,c1,c2,c3,c4,c5,c6,c7⟩ (fun ops hops hHeld=>?_)
    iterate 4 (refine TK 23 ?_;try simp only [putS])
    refine TC 4 ?_;intro K hK;go_simp;refine (HOK.out _ hnd).mono ?_;rintro e w1 ⟨rfl,b1⟩;have hSn:_/\_:=(show ((fun W=>W.cell? ⟨b,off+k*8,none⟩=some (.int .i64 l.1.area)/\W.cell? ⟨b,off+k*8+1,none⟩=some (.int .i64 l.1.kind)/\W.cell? ⟨b,off+k*8+2,none⟩=some (.int .i64 l.1.owner)/\W.cell? ⟨b,off+k*8+3,none⟩=some (.int .i64 l.1.key)/\W.cell? ⟨b,off+k*8+4,none⟩=some (.int .i64 l.1.seq)/\W.cell? ⟨b,off+k*8+5,none⟩=some (l.2)/\W.cell? ⟨b,off+k*8+6,none⟩=some (.int .i64 l.1.cost)/\W.cell? ⟨b,off+k*8+7,none⟩=some (.bool l.1.far))) w1 from by
     obtain⟨m0,m1,m2,m3,m4,m5,m6,m7⟩:=hHeld;refine⟨?_,?_,?_,?_,?_,?_,?_,?_⟩ <;> (refine (b1.cell ?_).trans ?_ <;> assumption))
    refine hK.out _ _ hSn (fun hHeld=>?_);clear hK K hSn
    try simp only [putS]
    iterate 2 (refine TK 23 ?_;try simp only [putS])
    iterate 15 (refine TS 23 ?_;try simp only [putS])
    refine TK 23 ?_
    try simp only [putS]
    refine wpAnyH_done (by rw [hops.out];kernel_rfl) ?_ _;clear hops ops;go_wp2;go_ret;exact⟨Zao HF.out,hnd.trans (b1.mono hsz)⟩
   by_cases hk0:k=0
   ·have hk1:¬(0:Int)<(k:Int):=by omega
    have HAT2:=hide (show Zdp ordR (fsts ps) k=true by rw [hk0];rfl);clear hk0;go_wp2;refine Zah (S:=(fun W=>W.cell? ⟨b,off+k*8,none⟩=some (.int .i64 l.1.area)/\W.cell? ⟨b,off+k*8+1,none⟩=some (.int .i64 l.1.kind)/\W.cell? ⟨b,off+k*8+2,none⟩=some (.int .i64 l.1.owner)/\W.cell? ⟨b,off+k*8+3,none⟩=some (.int .i64 l.1.key)/\W.cell? ⟨b,off+k*8+4,none⟩=some (.int .i64 l.1.seq)/\W.cell? ⟨b,off+k*8+5,none⟩=some (l.2)/\W.cell? ⟨b,off+k*8+6,none⟩=some (.int .i64 l.1.cost)/\W.cell? ⟨b,off+k*8+7,none⟩=some (.bool l.1.far))) (by kernel_rfl) 23 rfl ⟨c0,c1,c2,c3,c4,c5,c6,c7⟩ (fun ops hops hHeld=>?_)
    iterate 4 (refine TK 23 ?_;try simp only [putS])
    refine TC 4 ?_;intro K hK;go_simp;refine (HOK.out _ hnd).mono ?_;rintro e w1 ⟨rfl,b1⟩;have hSn:_/\_:=(show ((fun W=>W.cell? ⟨b,off+k*8,none⟩=some (.int .i64 l.1.area)/\W.cell? ⟨b,off+k*8+1,none⟩=some (.int .i64 l.1.kind)/\W.cell? ⟨b,off+k*8+2,none⟩=some (.int .i64 l.1.owner)/\W.cell? ⟨b,off+k*8+3,none⟩=some (.int .i64 l.1.key)/\W.cell? ⟨b,off+k*8+4,none⟩=some (.int .i64 l.1.seq)/\W.cell? ⟨b,off+k*8+5,none⟩=some (l.2)/\W.cell? ⟨b,off+k*8+6,none⟩=some (.int .i64 l.1.cost)/\W.cell? ⟨b,off+k*8+7,none⟩=some (.bool l.1.far))) w1 from by
     obtain⟨m0,m1,m2,m3,m4,m5,m6,m7⟩:=hHeld;refine⟨?_,?_,?_,?_,?_,?_,?_,?_⟩ <;> (refine (b1.cell ?_).trans ?_ <;> assumption))
    refine hK.out _ _ hSn (fun hHeld=>?_);clear hK K hSn
    try simp only [putS]
    iterate 3 (refine TK 23 ?_;try simp only [putS])
    refine TK 23 (v:=.bool false) ?_ (hy:=by intro W hW;(try dsimp only at hW);go_simp <;> (first | with_reducible rfl | (simp;omega) | omega))
    try simp only [putS]
    refine TK 23 ?_
    try simp only [putS]
    iterate 11 (refine TS 23 ?_;try simp only [putS])
    iterate 2 (refine TK 23 ?_;try simp only [putS])
    refine wpAnyH_done (by rw [hops.out];kernel_rfl) ?_ _;clear hops ops;go_wp2;exact⟨⟨k+1,by omega,by go_num,ZaS HALL.out HAT1.out,ZaS HASC.out HAT2.out,hnd.trans (b1.mono hsz)⟩,by simp [intOf];omega⟩
   ·obtain ⟨j,hj⟩:∃ j,k=j+1:=⟨k-1,by omega⟩;obtain⟨p,hp⟩:∃ p,ps[j]? = some p:=⟨ps[j],YAA (by omega)⟩;obtain⟨b',off',cap2,hve2,hbb2,d0,d1,d2,d3,d4,d5,d6,d7,_⟩:=HV.out.cells j p hp;cases hve2;replace d0:=(hnx.cell hbb).trans d0;replace d1:=(hnx.cell hbb).trans d1;replace d2:=(hnx.cell hbb).trans d2;replace d3:=(hnx.cell hbb).trans d3;replace d4:=(hnx.cell hbb).trans d4;replace d5:=(hnx.cell hbb).trans d5;replace d6:=(hnx.cell hbb).trans d6;replace d7:=(hnx.cell hbb).trans d7;have hat2:Zdp ordR (fsts ps) k=decide (ordR p.1 l.1<0):=by rw [hj];exact Zc3 (Zcf hp) (by rw [<-hj];exact HL.out)
    rw [Zj2] at hat2;have hj1:(k:Int)-1=(j:Int):=by omega
    have hj2:(0:Int)<=(j:Int):=by omega
    have hj3:(j:Int)<(ps.length:Int):=by omega
    have hj4:(0:Int)<(k:Int):=by omega
    have hj5:IntKind.i64.wrap (j:Int)=(j:Int):=ZbF _ (by omega) (by omega);have HBF:=hide (fun W=>Zed p.2 l.2 p.1 l.1 W);unfold recC at HBF;obtain⟨qb,hqb⟩:∃ q,q=Zat p.1 l.1:=⟨_,rfl⟩;rw [<-hqb] at HBF hat2;have HAT2:=hide hat2;clear hqb hp hat2 hj hk0 hbb2;cases qb
    ·have HF:=hide (Zml (by rw [HFL.out];exact hlt) HAT2.out);go_wp2;refine Zah (S:=(fun W=>W.cell? ⟨b,off+k*8,none⟩=some (.int .i64 l.1.area)/\W.cell? ⟨b,off+k*8+1,none⟩=some (.int .i64 l.1.kind)/\W.cell? ⟨b,off+k*8+2,none⟩=some (.int .i64 l.1.owner)/\W.cell? ⟨b,off+k*8+3,none⟩=some (.int .i64 l.1.key)/\W.cell? ⟨b,off+k*8+4,none⟩=some (.int .i64 l.1.seq)/\W.cell? ⟨b,off+k*8+5,none⟩=some (l.2)/\W.cell? ⟨b,off+k*8+6,none⟩=some (.int .i64 l.1.cost)/\W.cell? ⟨b,off+k*8+7,none⟩=some (.bool l.1.far)/\W.cell? ⟨b,off+j*8,none⟩=some (.int .i64 p.1.area)/\W.cell? ⟨b,off+j*8+1,none⟩=some (.int .i64 p.1.kind)/\W.cell? ⟨b,off+j*8+2,none⟩=some (.int .i64 p.1.owner)/\W.cell? ⟨b,off+j*8+3,none⟩=some (.int .i64 p.1.key)/\W.cell? ⟨b,off+j*8+4,none⟩=some (.int .i64 p.1.seq)/\W.cell? ⟨b,off+j*8+5,none⟩=some (p.2)/\W.cell? ⟨b,off+j*8+6,none⟩=some (.int .i64 p.1.cost)/\W.cell? ⟨b,off+j*8+7,none⟩=some (.bool p.1.far))) (by kernel_rfl) 23 rfl ⟨c0,c1,c2,c3,c4,c5,c6,c7,d0,d1,d2,d3,d4,d5,d6,d7⟩ (fun ops hops hHeld=>?_)
     iterate 4 (refine TK 23 ?_;try simp only [putS])
     refine TC 4 ?_;intro K hK;go_simp;refine (HOK.out _ hnd).mono ?_;rintro e w1 ⟨rfl,b1⟩;have hSn:_/\_:=(show ((fun W=>W.cell? ⟨b,off+k*8,none⟩=some (.int .i64 l.1.area)/\W.cell? ⟨b,off+k*8+1,none⟩=some (.int .i64 l.1.kind)/\W.cell? ⟨b,off+k*8+2,none⟩=some (.int .i64 l.1.owner)/\W.cell? ⟨b,off+k*8+3,none⟩=some (.int .i64 l.1.key)/\W.cell? ⟨b,off+k*8+4,none⟩=some (.int .i64 l.1.seq)/\W.cell? ⟨b,off+k*8+5,none⟩=some (l.2)/\W.cell? ⟨b,off+k*8+6,none⟩=some (.int .i64 l.1.cost)/\W.cell? ⟨b,off+k*8+7,none⟩=some (.bool l.1.far)/\W.cell? ⟨b,off+j*8,none⟩=some (.int .i64 p.1.area)/\W.cell? ⟨b,off+j*8+1,none⟩=some (.int .i64 p.1.kind)/\W.cell? ⟨b,off+j*8+2,none⟩=some (.int .i64 p.1.owner)/\W.cell? ⟨b,off+j*8+3,none⟩=some (.int .i64 p.1.key)/\W.cell? ⟨b,off+j*8+4,none⟩=some (.int .i64 p.1.seq)/\W.cell? ⟨b,off+j*8+5,none⟩=some (p.2)/\W.cell? ⟨b,off+j*8+6,none⟩=some (.int .i64 p.1.cost)/\W.cell? ⟨b,off+j*8+7,none⟩=some (.bool p.1.far))) w1 from by
      obtain⟨m0,m1,m2,m3,m4,m5,m6,m7,n0,n1,n2,n3,n4,n5,n6,n7⟩:=hHeld;refine⟨?_,?_,?_,?_,?_,?_,?_,?_,?_,?_,?_,?_,?_,?_,?_,?_⟩ <;> (refine (b1.cell ?_).trans ?_ <;> assumption))
     refine hK.out _ _ hSn (fun hHeld=>?_);clear hK K hSn
     try simp only [putS]
     have hbr:b<w1.heap.size:=YAC hbr b1.size
     iterate 3 (refine TK 23 ?_;try simp only [putS])
     refine TK 23 (v:=.bool true) ?_ (hy:=by intro W hW;(try dsimp only at hW);go_simp <;> (first | with_reducible rfl | (simp;omega) | omega))
     try simp only [putS]
     iterate 10 (refine TK 23 ?_;try simp only [putS])
     refine TC 19 ?_;intro K hK;go_simp;refine (HBF.out _).mono ?_;rintro e w2 ⟨rfl,b2⟩;have hSn:_/\_:=(show ((fun W=>W.cell? ⟨b,off+k*8,none⟩=some (.int .i64 l.1.area)/\W.cell? ⟨b,off+k*8+1,none⟩=some (.int .i64 l.1.kind)/\W.cell? ⟨b,off+k*8+2,none⟩=some (.int .i64 l.1.owner)/\W.cell? ⟨b,off+k*8+3,none⟩=some (.int .i64 l.1.key)/\W.cell? ⟨b,off+k*8+4,none⟩=some (.int .i64 l.1.seq)/\W.cell? ⟨b,off+k*8+5,none⟩=some (l.2)/\W.cell? ⟨b,off+k*8+6,none⟩=some (.int .i64 l.1.cost)/\W.cell? ⟨b,off+k*8+7,none⟩=some (.bool l.1.far)/\W.cell? ⟨b,off+j*8,none⟩=some (.int .i64 p.1.area)/\W.cell? ⟨b,off+j*8+1,none⟩=some (.int .i64 p.1.kind)/\W.cell? ⟨b,off+j*8+2,none⟩=some (.int .i64 p.1.owner)/\W.cell? ⟨b,off+j*8+3,none⟩=some (.int .i64 p.1.key)/\W.cell? ⟨b,off+j*8+4,none⟩=some (.int .i64 p.1.seq)/\W.cell? ⟨b,off+j*8+5,none⟩=some (p.2)/\W.cell? ⟨b,off+j*8+6,none⟩=some (.int .i64 p.1.cost)/\W.cell? ⟨b,off+j*8+7,none⟩=some (.bool p.1.far))) w2 from by
      obtain⟨m0,m1,m2,m3,m4,m5,m6,m7,n0,n1,n2,n3,n4,n5,n6,n7⟩:=hHeld;refine⟨?_,?_,?_,?_,?_,?_,?_,?_,?_,?_,?_,?_,?_,?_,?_,?_⟩ <;> (refine (b2.cell ?_).trans ?_ <;> assumption))
     refine hK.out _ _ hSn (fun hHeld=>?_);clear hK K hSn
     try simp only [putS]
     iterate 3 (refine TK 23 ?_;try simp only [putS])
     refine wpAnyH_done (by rw [hops.out];kernel_rfl) ?_ _;clear hops ops;go_wp2;go_ret;exact⟨Zao HF.out,(hnd.trans (b1.mono hsz)).trans (b2.mono (by have:=b1.size;have:wr.drew.heap.size=wr.heap.size:=rfl;omega))⟩
    ·go_wp2;refine Zah (S:=(fun W=>W.cell? ⟨b,off+k*8,none⟩=some (.int .i64 l.1.area)/\W.cell? ⟨b,off+k*8+1,none⟩=some (.int .i64 l.1.kind)/\W.cell? ⟨b,off+k*8+2,none⟩=some (.int .i64 l.1.owner)/\W.cell? ⟨b,off+k*8+3,none⟩=some (.int .i64 l.1.key)/\W.cell? ⟨b,off+k*8+4,none⟩=some (.int .i64 l.1.seq)/\W.cell? ⟨b,off+k*8+5,none⟩=some (l.2)/\W.cell? ⟨b,off+k*8+6,none⟩=some (.int .i64 l.1.cost)/\W.cell? ⟨b,off+k*8+7,none⟩=some (.bool l.1.far)/\W.cell? ⟨b,off+j*8,none⟩=some (.int .i64 p.1.area)/\W.cell? ⟨b,off+j*8+1,none⟩=some (.int .i64 p.1.kind)/\W.cell? ⟨b,off+j*8+2,none⟩=some (.int .i64 p.1.owner)/\W.cell? ⟨b,off+j*8+3,none⟩=some (.int .i64 p.1.key)/\W.cell? ⟨b,off+j*8+4,none⟩=some (.int .i64 p.1.seq)/\W.cell? ⟨b,off+j*8+5,none⟩=some (p.2)/\W.cell? ⟨b,off+j*8+6,none⟩=some (.int .i64 p.1.cost)/\W.cell? ⟨b,off+j*8+7,none⟩=some (.bool p.1.far))) (by kernel_rfl) 23 rfl ⟨c0,c1,c2,c3,c4,c5,c6,c7,d0,d1,d2,d3,d4,d5,d6,d7⟩ (fun ops hops hHeld=>?_)
     iterate 4 (refine TK 23 ?_;try simp only [putS])
     refine TC 4 ?_;intro K hK;go_simp;refine (HOK.out _ hnd).mono ?_;rintro e w1 ⟨rfl,b1⟩;have hSn:_/\_:=(show ((fun W=>W.cell? ⟨b,off+k*8,none⟩=some (.int .i64 l.1.area)/\W.cell? ⟨b,off+k*8+1,none⟩=some (.int .i64 l.1.kind)/\W.cell? ⟨b,off+k*8+2,none⟩=some (.int .i64 l.1.owner)/\W.cell? ⟨b,off+k*8+3,none⟩=some (.int .i64 l.1.key)/\W.cell? ⟨b,off+k*8+4,none⟩=some (.int .i64 l.1.seq)/\W.cell? ⟨b,off+k*8+5,none⟩=some (l.2)/\W.cell? ⟨b,off+k*8+6,none⟩=some (.int .i64 l.1.cost)/\W.cell? ⟨b,off+k*8+7,none⟩=some (.bool l.1.far)/\W.cell? ⟨b,off+j*8,none⟩=some (.int .i64 p.1.area)/\W.cell? ⟨b,off+j*8+1,none⟩=some (.int .i64 p.1.kind)/\W.cell? ⟨b,off+j*8+2,none⟩=some (.int .i64 p.1.owner)/\W.cell? ⟨b,off+j*8+3,none⟩=some (.int .i64 p.1.key)/\W.cell? ⟨b,off+j*8+4,none⟩=some (.int .i64 p.1.seq)/\W.cell? ⟨b,off+j*8+5,none⟩=some (p.2)/\W.cell? ⟨b,off+j*8+6,none⟩=some (.int .i64 p.1.cost)/\W.cell? ⟨b,off+j*8+7,none⟩=some (.bool p.1.far))) w1 from by
      obtain⟨m0,m1,m2,m3,m4,m5,m6,m7,n0,n1,n2,n3,n4,n5,n6,n7⟩:=hHeld;refine⟨?_,?_,?_,?_,?_,?_,?_,?_,?_,?_,?_,?_,?_,?_,?_,?_⟩ <;> (refine (b1.cell ?_).trans ?_ <;> assumption))
     refine hK.out _ _ hSn (fun hHeld=>?_);clear hK K hSn
     try simp only [putS]
     have hbr:b<w1.heap.size:=YAC hbr b1.size
     iterate 3 (refine TK 23 ?_;try simp only [putS])
     refine TK 23 (v:=.bool true) ?_ (hy:=by intro W hW;(try dsimp only at hW);go_simp <;> (first | with_reducible rfl | (simp;omega) | omega))
     try simp only [putS]
     iterate 10 (refine TK 23 ?_;try simp only [putS])
     refine TC 19 ?_;intro K hK;go_simp;refine (HBF.out _).mono ?_;rintro e w2 ⟨rfl,b2⟩;have hSn:_/\_:=(show ((fun W=>W.cell? ⟨b,off+k*8,none⟩=some (.int .i64 l.1.area)/\W.cell? ⟨b,off+k*8+1,none⟩=some (.int .i64 l.1.kind)/\W.cell? ⟨b,off+k*8+2,none⟩=some (.int .i64 l.1.owner)/\W.cell? ⟨b,off+k*8+3,none⟩=some (.int .i64 l.1.key)/\W.cell? ⟨b,off+k*8+4,none⟩=some (.int .i64 l.1.seq)/\W.cell? ⟨b,off+k*8+5,none⟩=some (l.2)/\W.cell? ⟨b,off+k*8+6,none⟩=some (.int .i64 l.1.cost)/\W.cell? ⟨b,off+k*8+7,none⟩=some (.bool l.1.far)/\W.cell? ⟨b,off+j*8,none⟩=some (.int .i64 p.1.area)/\W.cell? ⟨b,off+j*8+1,none⟩=some (.int .i64 p.1.kind)/\W.cell? ⟨b,off+j*8+2,none⟩=some (.int .i64 p.1.owner)/\W.cell? ⟨b,off+j*8+3,none⟩=some (.int .i64 p.1.key)/\W.cell? ⟨b,off+j*8+4,none⟩=some (.int .i64 p.1.seq)/\W.cell? ⟨b,off+j*8+5,none⟩=some (p.2)/\W.cell? ⟨b,off+j*8+6,none⟩=some (.int .i64 p.1.cost)/\W.cell? ⟨b,off+j*8+7,none⟩=some (.bool p.1.far))) w2 from by
      obtain⟨m0,m1,m2,m3,m4,m5,m6,m7,n0,n1,n2,n3,n4,n5,n6,n7⟩:=hHeld;refine⟨?_,?_,?_,?_,?_,?_,?_,?_,?_,?_,?_,?_,?_,?_,?_,?_⟩ <;> (refine (b2.cell ?_).trans ?_ <;> assumption))
     refine hK.out _ _ hSn (fun hHeld=>?_);clear hK K hSn
     try simp only [putS]
     iterate 3 (refine TK 23 ?_;try simp only [putS])
     refine wpAnyH_done (by rw [hops.out];kernel_rfl) ?_ _;clear hops ops;go_wp2;exact⟨⟨k+1,by omega,by go_num,ZaS HALL.out HAT1.out,ZaS HASC.out HAT2.out,(hnd.trans (b1.mono hsz)).trans (b2.mono (by have:=b1.size;have:wr.drew.heap.size=wr.heap.size:=rfl;omega))⟩,by simp [intOf];omega⟩
  ·have e1:ZcE Za7 (fsts ps)=true:=Zbr fun i hi=>HALL.out i (by have:=HFL.out;omega);have e3:ascB ordR (fsts ps)=true:=Zbr fun i hi=>HASC.out i (by have:=HFL.out;omega);have e2:ZaN (fsts ps)=true:=by
    unfold ZaN;rw [e1,e3,YAi (by have:=HFL.out;omega)];rfl
   have HE:=hide e2;clear e1 e2 e3;go_wp2;go_ret;exact⟨Zao HE.out,hnx⟩

theorem Zcb {P:Program}{fn:Func}{p u:Tmp}{ty:TypeId}(h:fn.results=#[.cell p ty,.tmp u])(tmps:Array Value)(w:World)(g:Nat)(t:TypeId)(cs:Array Value)(fr:Nat × Nat)(d:TypeDesc)
  (hp:tmps.getD p undef=.pointer (some ⟨g,0,none⟩)) (hg:w.heap[g]? = some (.cells cs t fr))
  (hu:P.underlying ty=some d) (hd:(match d with | .struct _ | .array _ _=>true | _=>false)=true) (hi:(P.info? ty).map (·.size)=some cs.size):
  (results fn tmps).run P w=.ok (.tuple #[.agg cs,tmps.getD u undef]) w:=by
 have hp':tmps[p]?.getD undef=.pointer (some ⟨g,0,none⟩):=by simpa using hp
 rw [results_cell_tmp h];simp [hp',asAddr,run_loadVar_row w g t ty cs fr d hg hu hd hi]
def Zi3 (xs:List RecD)(r:RecD):RecD:=if atZ xs r<0 then Zb3 else xs.getD (atZ xs r).toNat Zb3
def Zkr (xs:List RecD)(r:RecD):Bool := !decide (atZ xs r<0)
theorem Zie {r:RecD}(h:atZ xs r = -1):Zi3 xs r=Zb3/\Zkr xs r=false:=by unfold Zi3 Zkr;rw [h];exact⟨rfl,rfl⟩
theorem ZlE {r y:RecD}(h:atZ xs r=(k:Int))(hy:xs[k]? = some y):Zi3 xs r=y/\Zkr xs r=true:=by
 unfold Zi3 Zkr;rw [h,if_neg (by omega)];exact⟨by simp [hy],by simp⟩
theorem Zku {ps:List RP}{y:RecD}(h:(fsts ps)[k]? = some y):∃ p,ps[k]? = some p/\p.1=y:=by
 simp [fsts] at h;obtain⟨v,hv⟩:=h;exact⟨(y,v),hv,rfl⟩
def togD (x y:WayD):WayD:=if ZbQ x y then x else if ZbQ y x then y else ⟨x.to,x.cost,addL x.hops y.hops⟩
theorem Zfo (a b:List Int):(addL a b).length<=6:=Zhh a b 6
theorem Zmt {x y:WayD}{n:Nat}(hx:x.hops.length<=n)(hy:y.hops.length<=n)(h6:6<=n):(togD x y).hops.length<=n:=by
 unfold togD
 split
 ·exact hx
 ·split
  ·exact hy
  ·exact YAG (Zfo _ _) h6
theorem cellW3 {W:World}{g b j:Nat}{x0 x1 x2:Value}(h:b≠g):(((W.setCell ⟨g,0,none⟩ x0).setCell ⟨g,1,none⟩ x1).setCell ⟨g,2,none⟩ x2).cell? ⟨b,j,none⟩=W.cell? ⟨b,j,none⟩:=by
 refine World.cell?_of_block ?_;show (((W.setCell ⟨g,0,none⟩ x0).setCell ⟨g,1,none⟩ x1).setCell ⟨g,2,none⟩ x2).heap[b]? = W.heap[b]?;rw [YAQ _ ⟨g,2,none⟩ b _ h,YAQ _ ⟨g,1,none⟩ b _ h,YAQ _ ⟨g,0,none⟩ b _ h]
theorem Zj8 (x y:WayD)(u1 u2:Value)(b1 b2:Nat)(w:World)(h1:w.ownsRow b1 3 1 u1 x.hops.length (flat intE x.hops))(h2:w.ownsRow b2 3 1 u2 y.hops.length (flat intE y.hops))(hx:x.hops.length<=1048576)(hy:y.hops.length<=1048576):
  Calls Tryz.prog 109 #[.agg (wayC x u1),.agg (wayC y u2)] w fun e w'=>∃ v',e=.returned (.agg (wayC (togD x y) v'))/\w'.ownsRow w.heap.size 3 1 v' (togD x y).hops.length (flat intE (togD x y).hops)/\Below w.heap.size w w':=by
 obtain⟨a1,c1,rfl⟩:=Zac h1;obtain⟨a2,c2,rfl⟩:=Zac h2;have HC1:=hide (fun W (hb:Below w.heap.size w W)=>ZfL x (.slice a1 x.hops.length c1) b1 W (Zad h1 hb (YA _)) hx);have HC2:=hide (fun W (hb:Below w.heap.size w W)=>ZfL y (.slice a2 y.hops.length c2) b2 W (Zad h2 hb (YA _)) hy);have HB1:=hide (fun W=>Zgc (.slice a1 x.hops.length c1) (.slice a2 y.hops.length c2) x y W);have HB2:=hide (fun W=>Zgc (.slice a2 y.hops.length c2) (.slice a1 x.hops.length c1) y x W);have HAD:=hide (fun W (hb:Below w.heap.size w W)=>Zbt (.slice a1 x.hops.length c1) (.slice a2 y.hops.length c2) x.hops y.hops W hx hy ((Zau.later (Zan h1) hb (YA _)).more hb.size) ((Zau.later (Zan h2) hb (YA _)).more hb.size));obtain⟨P,hP⟩:∃ P,P=ZbQ x y:=⟨_,rfl⟩;obtain⟨Q,hQ⟩:∃ Q,Q=ZbQ y x:=⟨_,rfl⟩;obtain⟨D,hD⟩:∃ D,D=togD x y:=⟨_,rfl⟩;rw [<-hP] at HB1;rw [<-hQ] at HB2;rw [<-hD];have HD:=hide hD;unfold togD at HD;rw [<-hP, <-hQ] at HD;have BW:=ZiT (w:=w) (.cells #[.int .i64 x.to,.int .i64 x.cost,.slice a1 x.hops.length c1] 144) (.cells #[.int .i64 y.to,.int .i64 y.cost,.slice a2 y.hops.length c2] 144) (.cells #[.int .i64 0,.int .i64 0,.slice none 0 0] 144);have q0:=ZlI w (.cells #[.int .i64 x.to,.int .i64 x.cost,.slice a1 x.hops.length c1] 144) (.cells #[.int .i64 y.to,.int .i64 y.cost,.slice a2 y.hops.length c2] 144) (.cells #[.int .i64 0,.int .i64 0,.slice none 0 0] 144);have q1:=ZlJ w (.cells #[.int .i64 x.to,.int .i64 x.cost,.slice a1 x.hops.length c1] 144) (.cells #[.int .i64 y.to,.int .i64 y.cost,.slice a2 y.hops.length c2] 144) (.cells #[.int .i64 0,.int .i64 0,.slice none 0 0] 144);have q2:=ZlK w (.cells #[.int .i64 x.to,.int .i64 x.cost,.slice a1 x.hops.length c1] 144) (.cells #[.int .i64 y.to,.int .i64 y.cost,.slice a2 y.hops.length c2] 144) (.cells #[.int .i64 0,.int .i64 0,.slice none 0 0] 144);obtain⟨w0,hw0⟩:∃ W,W=((w.alloc (.cells #[.int .i64 x.to,.int .i64 x.cost,.slice a1 x.hops.length c1] 144)).alloc (.cells #[.int .i64 y.to,.int .i64 y.cost,.slice a2 y.hops.length c2] 144)).alloc (.cells #[.int .i64 0,.int .i64 0,.slice none 0 0] 144):=⟨_,rfl⟩;rw [<-hw0] at BW q0 q1 q2;clear h1 h2 hP hQ hD;unfold wayC at *;have fin:∀ (X:WayD) (na:Option Addr) (nc lo:Nat) (W:World),W.heap[w.heap.size+1+1]? = some (.cells #[.int .i64 0,.int .i64 0,.slice none 0 0] 144)->W.ownsRow lo 3 1 (.slice na X.hops.length nc) X.hops.length (flat intE X.hops)->w.heap.size+1+1<lo->Below w.heap.size w W->(ZbJ W (w.heap.size+1+1) X (.slice na X.hops.length nc)).heap[w.heap.size+1+1]? = some (.cells (wayC X (.slice na X.hops.length nc)) 144)/\(ZbJ W (w.heap.size+1+1) X (.slice na X.hops.length nc)).ownsRow w.heap.size 3 1 (.slice na X.hops.length nc) X.hops.length (flat intE X.hops)/\Below w.heap.size w (ZbJ W (w.heap.size+1+1) X (.slice na X.hops.length nc)):=by
  intro X na nc lo W hz ho hlo hb;have G:=ZbH W (w.heap.size+1+1) X (.slice na X.hops.length nc);refine⟨Zid X _ hz,Zaf (Zai ho (fun k hk=>G.block k (ho.lt k hk).2 (fun e=>by have:=(ho.lt k hk).1;simp at e;omega))) (by omega),hb.grown G hb.size (fun k hk=>by simp at hk;omega)⟩
 have FIN:=hide fin;clear fin;have r0:=Zaa q0 0;have r1:=Zaa q0 1;have r2:=Zaa q0 2;have s0:=Zaa q1 0;have s1:=Zaa q1 1;have s2:=Zaa q1 2;simp at r0 r1 r2 s0 s1 s2;have z0:=Zab q0;have z1:=Zab q1;have z2:=Zab q2
 go_enter Tryz.func109,Tryz.ntmps109
 go_wp2_with fail
 rw [<-hw0];clear hw0;refine (HB1.out _).mono ?_;rintro e w1 ⟨rfl,e1⟩;have e1s:=e1.size;have B1:Below w.heap.size w w1:=BW.trans (e1.mono BW.size);have p0:=(e1.block _ z0).trans q0;have p1:=(e1.block _ z1).trans q1;have p2:=(e1.block _ z2).trans q2;clear r0 r1 r2 s0 s1 s2 q0 q1 q2 e1;have r0:=Zaa p0 0;have r1:=Zaa p0 1;have r2:=Zaa p0 2;have s0:=Zaa p1 0;have s1:=Zaa p1 1;have s2:=Zaa p1 2;simp at r0 r1 r2 s0 s1 s2;cases P
 ·go_wp2_with fail
  refine (HB2.out _).mono ?_;rintro e w2 ⟨rfl,e2⟩;have e2s:=e2.size;have B2:Below w.heap.size w w2:=B1.trans (e2.mono B1.size);have k0:=(e2.block _ (Zab p0)).trans p0;have k1:=(e2.block _ (Zab p1)).trans p1;have k2:=(e2.block _ (Zab p2)).trans p2;clear r0 r1 r2 s0 s1 s2 p0 p1 p2 e2;have r0:=Zaa k0 0;have r1:=Zaa k0 1;have r2:=Zaa k0 2;have s0:=Zaa k1 0;have s1:=Zaa k1 1;have s2:=Zaa k1 2;simp at r0 r1 r2 s0 s1 s2;cases Q
  ·have hDe:D=⟨x.to,x.cost,addL x.hops y.hops⟩:=HD.out;have zz0:w.heap.size<w2.heap.size:=by omega
   have zz1:w.heap.size+1<w2.heap.size:=by omega
   have B2D:Below w.heap.size w w2.drew:=B2.drew;have HAL:=hide (Zfo x.hops y.hops);have K2:=hide k2;clear k0 k1 k2;go_wp2
   go_region_held3 (fun W=>W.cell? ⟨w.heap.size,0,none⟩=some (.int .i64 x.to)/\W.cell? ⟨w.heap.size,1,none⟩=some (.int .i64 x.cost)/\W.cell? ⟨w.heap.size,2,none⟩=some (.slice a1 x.hops.length c1)/\W.cell? ⟨w.heap.size+1,2,none⟩=some (.slice a2 y.hops.length c2)) (first | (refine ⟨?_,?_,?_,?_⟩ <;> (rw [b3.cell (by assumption)];assumption)) | (refine ⟨?_,?_,?_,?_⟩ <;> (rw [cellW3 (by omega),b3.cell (by assumption)];assumption)) | go_keep) (first | (go_at_call 113;refine (HAD.out _ B2D).mono ?_;rintro e w3 ⟨v3,rfl,o3,b3⟩;obtain⟨na,nc,rfl⟩:=Zac o3;have k3:=(b3.block _ (show w.heap.size+1+1<w2.drew.heap.size from Zab K2.out)).trans K2.out;have t0:=Zaa k3 0;have t1:=Zaa k3 1;have t2:=Zaa k3 2;simp at t0 t1 t2;have ft:=Zae k3))
   have F:=FIN.out ⟨x.to,x.cost,addL x.hops y.hops⟩ na nc _ w3 k3 o3 (Zab K2.out) (B2D.trans (b3.mono B2D.size));subst hDe;clear k3 t0 t1 t2 ft;have FF:=hide F.1;have O5:=hide F.2.1;have B5:=hide F.2.2;clear F
   go_wp2_with fail
   (try simp only [Exit.inBlock,Exit.then])
   refine bodyPost_ret (results_cell_row rfl _ _ (w.heap.size+1+1) 144 (wayC _ _) (0,0) _ rfl FF.out Tryz.underlying144 rfl (by kernel_rfl)) rfl ?_;exact⟨_,rfl,O5.out,B5.out⟩
  ·have hDe:D=y:=HD.out;subst hDe
   go_wp2_with fail
   refine (HC2.out _ B2).mono ?_;rintro e w3 ⟨v3,rfl,o3,b3⟩;obtain⟨na,nc,rfl⟩:=Zac o3;have k3:=(b3.block _ (Zab k2)).trans k2;have t0:=Zaa k3 0;have t1:=Zaa k3 1;have t2:=Zaa k3 2;simp at t0 t1 t2;have ft:=Zae k3;have F:=FIN.out D na nc _ w3 k3 o3 (Zab k2) (B2.trans (b3.mono B2.size));clear k0 k1 k2 k3 o3 r0 r1 r2 s0 s1 s2;have FF:=hide F.1;have O5:=hide F.2.1;have B5:=hide F.2.2;clear F
   go_wp2_with fail
   (try simp only [Exit.inBlock,Exit.then])
   refine bodyPost_ret (results_cell_row rfl _ _ (w.heap.size+1+1) 144 (wayC _ _) (0,0) _ rfl FF.out Tryz.underlying144 rfl (by kernel_rfl)) rfl ?_;exact⟨_,rfl,O5.out,B5.out⟩
 ·have hDe:D=x:=HD.out;subst hDe
  go_wp2_with fail
  refine (HC1.out _ B1).mono ?_;rintro e w3 ⟨v3,rfl,o3,b3⟩;obtain⟨na,nc,rfl⟩:=Zac o3;have k3:=(b3.block _ (Zab p2)).trans p2;have t0:=Zaa k3 0;have t1:=Zaa k3 1;have t2:=Zaa k3 2;simp at t0 t1 t2;have ft:=Zae k3;have F:=FIN.out D na nc _ w3 k3 o3 (Zab p2) (B1.trans (b3.mono B1.size));clear p0 p1 p2 k3 o3 r0 r1 r2 s0 s1 s2;have FF:=hide F.1;have O5:=hide F.2.1;have B5:=hide F.2.2;clear F
  go_wp2_with fail
  (try simp only [Exit.inBlock,Exit.then])
  refine bodyPost_ret (results_cell_row rfl _ _ (w.heap.size+1+1) 144 (wayC _ _) (0,0) _ rfl FF.out Tryz.underlying144 rfl (by kernel_rfl)) rfl ?_;exact⟨_,rfl,O5.out,B5.out⟩
theorem Zjk (l:List Int)(v:Value)(base:Nat)(w:World)(ho:w.ownsRow base 3 1 v l.length (flat intE l))(hn:l.length<=1048576):
  Calls Tryz.prog 48 #[v] w fun e w'=>∃ v',e=.returned v'/\w'.ownsRow w.heap.size 3 1 v' l.length (flat intE l)/\Below w.heap.size w w':=by
 obtain⟨va,vc,rfl⟩:=Zac ho;have OW:=hide ho;clear ho
 go_enter Tryz.func48,Tryz.ntmps48
 go_wp2_with (first
  | (at_builtin;refine Zbw ZcS (by omega) Zcj (by omega) _ rfl _ _ 37 rfl w.heap.size 3 Tryz.underlying37 (.int .i64 0) rfl Tryz.info3 _ [] rfl (YAj _ _ _ _) base _ l rfl OW.out (by simp;omega) (by simp) ?_))
 intro v' w4 hown' hgrow;obtain⟨na,nc,rfl⟩:=Zac hown';simp only [Value.ownBlock] at hgrow;have hb4:=hide (show Below w.heap.size w w4 from (YAB w.heap.size w).grown hgrow (YA _) (fun k hk=>by simp at hk));have H1:=hide hown';clear hown' hgrow;go_wp2;go_ret;exact⟨_,rfl,by simpa using H1.out,hb4.out⟩
theorem ZaG {α:Type}{enc:α->List Value}{sz bytes:Nat}(hlen:∀ a,(enc a).length=sz)(hpos:0<sz)(hbb:bytes<=100){P:Program}(w:World){ops:Array Oper}{rest:List Oper}{o:Oper}{a:Act}{Q:Exit->Act->World->Prop}(hgd:o.guard=none)(s x:Operand)(t:TypeId)
  (ho:o.op=.call { callee:=.builtin .append,args:=#[s,x],argTypes:=#[t,t] }) (base:Nat) (e:TypeId) (ht:P.underlying t=some (.slice e)) (zv:Value) (hzv:zv.cells.size=sz)
  (hinfo:(P.info? e).map (fun i=>(i.zero,i.size,i.bytes))=some (some zv,sz,bytes))
  (v:Value) (l:List α) (y:α) (hone:∀ u∈enc y,u.oneCell'=true) (hs:a.eval s=v) (hown:w.ownsRow base e sz v l.length (flat enc l))
  (ad:Addr) (c:Nat) (hx:a.eval x=.slice (some ad) 1 c) (hnews:∀ j u,(enc y)[j]? = some u->w.cell? (ad.add j)=some u)
  (hl:l.length+1<=1000000000) (hbase:base<=w.heap.size)
  (h:∀ v' w',w'.ownsRow base e sz v' (l++[y]).length (flat enc (l++[y]))->w.grownBy w' v.ownBlock->(v'.ownBlock=v.ownBlock\/v'.ownBlock=some w.heap.size)->wpList P ops Q rest (a.put o.dst v') w'):wpList P ops Q (o::rest) a w:=by
 obtain⟨i0,hi,hz0,hz1,hz2⟩:=info_parts hinfo;refine wpList_append_own_at w hgd s x t ho base e i0 zv sz bytes ht hi hz0 hz1 hz2 hzv hpos v l.length (flat enc l) hs hown ad 1 c (enc y) hx (by rw [hlen];omega) hnews hone (by unfold maxLen;omega) ?_ hbase ?_
 ·have:(l.length+1)*bytes<=1000000000*100:=Nat.mul_le_mul hl hbb;omega
 ·intro v' w' h1 h2 _ h4;have e1:flat enc l++enc y=flat enc (l++[y]):=by rw [ZaQ];simp [flat]
  rw [e1] at h1;exact h v' w' (by simpa using h1) h2 h4

def Zfe (n:Int)(ls:List Lk):Bool:=decide (ls.length<=12)&&ZcE (Zbo n) ls&&ascB ordL ls
def ZdS (n:Int)(t:Th):Bool:=inB t.k 1 9&&inB t.o 1 n&&inB t.c 1 1000
def Zdh (n:Int)(ls:List Th):Bool:=decide (ls.length<=4)&&ZcE (ZdS n) ls&&ascB ordT ls
def ZaZ (x:NetD):Bool:=inB x.n 1 6&&Zfe x.n x.ls&&Zdh x.n x.ts
theorem Tryz.infoRoute :(Tryz.prog.info? 57).map (fun i=>(i.zero,i.size,i.bytes))=some (some (.agg (rtC ZbM (.slice none 0 0))),6,64):=by kernel_rfl
def ZaY (ps:List QP):List RtD:=ps.map (·.1)

end Go.Proofs.YtdhnddfnckgbjaaGreat
namespace Go.Proofs.YtdhnddfnckgbjaaGreat
open Go.RowKit
open Go.ChangeMaps (setBlock)

set_option linter.unusedSimpArgs false

def kV (t:Bool)(z:Int):Value:=.agg #[.bool t,.int .i64 z]

theorem ZlP (w:World)(t t':Bool)(z z':Int):(Op.equal 46 (kV t z) (kV t' z')).run Tryz.prog w=.ok (t==t'&&z==z') w:=by
 unfold kV;show (Op.equalIn 10000 46 _ _).run Tryz.prog w=_;go_simp;by_cases h1:t=t' <;> by_cases h2:z=z' <;> simp [h1,h2]

set_option maxRecDepth 100000 in
theorem Zev (w:World)(b:Bool)(t:Bool)(z:Int):(Instr.checkKey b 10000 46 (kV t z)).run Tryz.prog w=.ok () w:=by
 rfl

def Zbe (ks:List (Bool × Int))(t:Bool)(z:Int):Option Nat:=ks.findIdx? (fun k=>k.1==t&&k.2==z)

theorem ZjR (w:World)(t:Bool)(z:Int):∀ (es:List MapEntry) (ks:List (Bool × Int)) (i:Nat),es.map (·.key)=ks.map (fun k=>kV k.1 k.2) ->
  (Instr.findAsking 46 (kV t z) es i).run Tryz.prog w=.ok ((Zbe ks t z).bind (fun j=>es[j]?.map (fun e=>(i+j,e.val)))) w
 | [],[],i,_=>by simp [Instr.findAsking,Zbe]
 | [],k::ks,i,h=>by simp at h
 | e::es,[],i,h=>by simp at h
 | e::es,k::ks,i,h=>by
  simp only [List.map_cons,List.cons.injEq] at h;have ih:=ZjR w t z es ks (i+1) h.2;unfold Instr.findAsking;rw [Sem.run_bind,h.1,ZlP];unfold Zbe;rw [List.findIdx?_cons];have hc:(t==k.1&&z==k.2)=(k.1==t&&k.2==z):=by rw [Bool.eq_iff_iff];simp;constructor <;> rintro ⟨a,b⟩ <;> exact ⟨a.symm,b.symm⟩
  rw [hc];by_cases hk:(k.1==t&&k.2==z)=true
  ·rw [if_pos hk];simp [Result.andThen,hk]
  ·rw [if_neg hk];have hk':(k.1==t&&k.2==z)=false:=by simpa using hk
   simp only [Result.andThen,hk',Bool.false_eq_true,if_false];rw [ih];unfold Zbe;cases ks.findIdx? (fun k=>k.1==t&&k.2==z) with
   | none=>rfl
   | some j=>simp [Nat.add_assoc,Nat.add_comm 1 j]

theorem Zfv (w:World)(t:Bool)(z:Int)(es:List MapEntry)(ks:List (Bool × Int))(h:es.map (·.key)=ks.map (fun k=>kV k.1 k.2)):
  (Instr.findKey 46 (kV t z) es).run Tryz.prog w=.ok ((Zbe ks t z).bind (fun j=>es[j]?.map (fun e=>(j,e.val)))) w:=by
 rw [run_findKey_eq w (by kernel_rfl),ZjR w t z es ks 0 h];simp

theorem Zey (w:World)(m:Nat)(es:Array MapEntry)(clock:Nat)(ks:List (Bool × Int))(t:Bool)(z:Int)(hm:w.heap[m]? = some (.map es clock))(h:es.toList.map (·.key)=ks.map (fun k=>kV k.1 k.2)):
  (Instr.lookup 43 (.map (some m)) (kV t z) false).run Tryz.prog w=.ok (match (Zbe ks t z).bind (fun j=>es.toList[j]?.map (fun e=>(j,e.val))) with | some p=>p.2 | none=>.slice none 0 0) w:=by
 unfold Instr.lookup;have hz:(zeroValue 66).run Tryz.prog w=.ok (.slice none 0 0) w:=by kernel_rfl
 simp only [Sem.run_bind,run_underlying Tryz.underlying43,Result.andThen,MapKept.run_getObj_map hm,Sem.run_pure,Zev,Zfv w t z es.toList ks h];cases (Zbe ks t z).bind (fun j=>es.toList[j]?.map (fun e=>(j,e.val))) with
 | none=>simp [Result.andThen,hz]
 | some p=>simp [Result.andThen]

theorem Zjl (w:World)(m:Nat)(es:Array MapEntry)(clock:Nat)(ks:List (Bool × Int))(t:Bool)(z:Int)(v:Value)(hm:w.heap[m]? = some (.map es clock))(h:es.toList.map (·.key)=ks.map (fun k=>kV k.1 k.2))(hno:Zbe ks t z=none):
  (Instr.mapUpdate 43 (.map (some m)) (kV t z) v).run Tryz.prog w=.ok () (setBlock w m (.map (es.push ⟨kV t z,v,clock⟩) (clock+1))):=by
 unfold Instr.mapUpdate;simp only [Sem.run_bind,run_underlying Tryz.underlying43,Result.andThen,MapKept.run_getObj_map hm,Sem.run_pure,Zev,Zfv w t z es.toList ks h,hno,Option.bind_none];simp [setObj,Sem.run,hm,setBlock]
end Go.Proofs.YtdhnddfnckgbjaaGreat
namespace Go.Proofs.YtdhnddfnckgbjaaGreat
open Go.RowKit
set_option linter.unusedSimpArgs false
set_option linter.unusedVariables false
set_option maxRecDepth 100000
set_option maxHeartbeats 8000000
variable {t:Bool}{a z:Int}{D:List (List LnD)}{ps way:List Int}{l:List LnD}{i:Nat}{O:Option (List Int)}
def isLn (t:Bool)(z:Int)(x:LnD):Bool:=x.thing==t&&x.to==z
def idxZ (l:List LnD)(t:Bool)(z:Int):Int:=match l.findIdx? (isLn t z) with
 | some i=>(i:Int)
 | none => -1
theorem Zm2 {k:Nat}{x:LnD}(hk:l[k]? = some x)(hx:isLn t z x=true)(hno:∀ y∈l.take k,isLn t z y=false):idxZ l t z=(k:Int):=by
 have e:l.findIdx? (isLn t z)=some k:=by
  obtain⟨h1,e1⟩:=YAD.1 hk;rw [List.findIdx?_eq_some_iff_getElem];refine⟨h1,by rw [e1];exact hx,fun j hj=>?_⟩;have hm:l[j]∈l.take k:=by
   rw [List.mem_take_iff_getElem];exact⟨j,by omega,rfl⟩
  simpa using hno _ hm
 unfold idxZ;rw [e]
theorem ZlN (hno:∀ y∈l,isLn t z y=false):idxZ l t z = -1:=by
 have e:l.findIdx? (isLn t z)=none:=by
  rw [List.findIdx?_eq_none_iff];exact hno
 unfold idxZ;rw [e]
theorem Zb4 (l:List LnD)(t:Bool)(z:Int):idxZ l t z = -1\/∃ (k:Nat) (x:LnD),idxZ l t z=(k:Int)/\l[k]? = some x/\isLn t z x=true:=by
 unfold idxZ;cases h:l.findIdx? (isLn t z) with
 | none=>exact .inl rfl
 | some i=>
  rw [List.findIdx?_eq_some_iff_getElem] at h;obtain⟨h1,h2,_⟩:=h;exact .inr ⟨i,l[i],rfl,YAA h1,h2⟩
theorem ZnL {k:Nat}{x:LnD}(h:l[k]? = some x)(hno:∀ y∈l.take k,isLn t z y=false)(hx:isLn t z x=false):∀ y∈l.take (k+1),isLn t z y=false:=by
 obtain⟨hk,e⟩:=YAD.1 h;rw [YAJ hk,e];intro y hy;rcases YAH.1 hy with h1 | h1
 ·exact hno y h1
 ·have:y=x:=by simpa using h1
  subst this;exact hx
def hopsL (l:List LnD)(z:Int):List Int:=if idxZ l false z<0 then [] else (l.getD (idxZ l false z).toNat ZdW).hops
def Zi6 (D:List (List LnD))(a z:Int):List Int:=if 1<=a/\a<=(D.length:Int) then hopsL (D.getD (a-1).toNat []) z else []
def Znq (ps:List Int)(i:Nat):Int:=if i<ps.length then max (ps.getD i 0) 0 else 0
def ZmX (hs:List Int)(p:Int):Int:=hs.getD (p%(hs.length:Int)).toNat 0
def ZjC (D:List (List LnD))(z:Int)(ps:List Int):Nat->Int->List Int->Option (List Int)
 | 0,a,way=>if a=z then some way else none
 | n+1,a,way=>if a=z then some way else if Zi6 D a z=[] then none else ZjC D z ps n (ZmX (Zi6 D a z) (Znq ps (12-(n+1)))) (way++[ZmX (Zi6 D a z) (Znq ps (12-(n+1)))])
def walkO (D:List (List LnD))(a z:Int)(ps:List Int):Option (List Int):=ZjC D z ps 12 a [a]
structure AtW (D:List (List LnD)) (z:Int) (ps:List Int) (O:Option (List Int)) (i:Nat) (a:Int) (way:List Int):Prop where
 i12:i<=12
 len:way.length=i+1
 eq:ZjC D z ps (12-i) a way=O
theorem AtW.start (D:List (List LnD))(a z:Int)(ps:List Int):AtW D z ps (walkO D a z ps) 0 a [a]:=⟨by omega,rfl,rfl⟩
theorem AtW.there (h:AtW D z ps O i z way):O=some way:=by
 rw [<-h.eq];cases 12-i <;> simp [ZjC]
theorem AtW.over (h:AtW D z ps O 12 a way)(ha:a≠z):O=none:=by
 rw [<-h.eq];simp [ZjC,ha]
theorem AtW.off (h:AtW D z ps O i a way)(ha:a≠z)(hh:Zi6 D a z=[]):O=none:=by
 rw [<-h.eq];cases 12-i <;> simp [ZjC,ha,hh]
theorem AtW.step (h:AtW D z ps O i a way)(ha:a≠z)(hh:Zi6 D a z≠[])(hi:i≠12):
  AtW D z ps O (i+1) (ZmX (Zi6 D a z) (Znq ps i)) (way++[ZmX (Zi6 D a z) (Znq ps i)]):=by
 have h1:=h.i12;refine⟨by omega,by rw [YAM,h.len];rfl,?_⟩;rw [<-h.eq];obtain⟨n,hn⟩:∃ n,12-i=n+1:=⟨12-i-1,by omega⟩;have e1:12-(i+1)=n:=by omega
 have e2:12-(n+1)=i:=by omega
 rw [hn,e1,ZjC,if_neg ha,if_neg hh,e2]
def lenV:Value->Nat
 | .slice _ n _=>n
 | _=>0
abbrev Zl7 (W:World) (g:Nat) (x:LnD) (v:Value):World:=((W.setCell ⟨g,0,none⟩ (.bool x.thing)).setCell ⟨g,1,none⟩ (.int .i64 x.to)).setCell ⟨g,2,none⟩ v
theorem finL3 {W:World}{B0:Nat}{c0 c1 c2:Value}(x:LnD)(v:Value)(hr:W.heap[B0]? = some (.cells #[c0,c1,c2] 39)):
  (Zl7 W B0 x v).heap[B0]? = some (.cells (lnC x v) 39):=by
 have k1:=YAS _ _ 0 _ _ (.bool x.thing) hr;have k2:=YAS _ _ 1 _ _ (.int .i64 x.to) k1;have k3:=YAS _ _ 2 _ _ v k2;simp only [YAg,YAm,YAn] at k3;unfold Zl7 lnC;exact k3
theorem ZlH (W:World)(g:Nat)(x:LnD)(v:Value):W.grownBy (Zl7 W g x v) (some g):=
 Zaq (Zaq (Zaj W g _ _) (Zaj _ g _ _)) (Zaj _ g _ _)
theorem Zem (x:LnD)(v:Value)(base:Nat)(w:World)(ho:w.ownsRow base 3 1 v x.hops.length (flat intE x.hops))(hn:x.hops.length<=1048576):
  Calls Tryz.prog 29 #[.agg (lnC x v)] w fun e w'=>∃ v',e=.returned (.agg (lnC x v'))/\w'.ownsRow w.heap.size 3 1 v' x.hops.length (flat intE x.hops)/\Below w.heap.size w w':=by
 obtain⟨va,vc,rfl⟩:=Zac ho;have OW:=hide ho;clear ho
 go_enter Tryz.func29,Tryz.ntmps29
 unfold lnC
 go_wp2_with (first
  | (at_builtin;refine Zbw ZcS (by omega) Zcj (by omega) _ rfl _ _ 37 rfl (w.heap.size+2) 3 Tryz.underlying37 (.int .i64 0) rfl Tryz.info3 _ [] rfl ?own0 base _ x.hops rfl (((OW.out.alloc _).alloc _).alloc _) (by simp;omega) (by simp) ?_))
 case own0=>
  exact Zck _ _ _ (by simp) (by simp)
 intro v' w4 hown' hgrow;obtain⟨na,nc,rfl⟩:=Zac hown';simp only [Value.ownBlock] at hgrow;have hb4:Below w.heap.size w w4:=((((YAB w.heap.size w).alloc (by simp) _).alloc (by simp) _).alloc (by simp;omega) _).grown hgrow (by simp;omega) (fun k hk=>by simp at hk;omega);have q0:w4.heap[w.heap.size]? = some (.cells #[.bool x.thing,.int .i64 x.to,.slice va x.hops.length vc] 39):=by
  rw [hgrow.block w.heap.size (by simp;omega) (by simp;omega),YAI _ _ _ (by simp;omega),YAI _ _ _ (by simp),YAE]
 have q1:w4.heap[w.heap.size+1]? = some (.cells #[.bool false,.int .i64 0,.slice none 0 0] 39):=by
  rw [hgrow.block (w.heap.size+1) (by simp) (by simp),YAI _ _ _ (by simp)];have e:=YAE (w.alloc (.cells #[.bool x.thing,.int .i64 x.to,.slice va x.hops.length vc] 39)) (.cells #[.bool false,.int .i64 0,.slice none 0 0] 39);rw [show (w.alloc (.cells #[.bool x.thing,.int .i64 x.to,.slice va x.hops.length vc] 39)).heap.size=w.heap.size+1 by simp] at e;exact e
 have r2:=Zaa q0 2;have f0:=Zae q0;simp at r2;have q2:=YAS w4 w.heap.size 2 _ _ (.slice na x.hops.length nc) q0;simp only [YAg,YAm,YAn] at q2;have q3:(w4.setCell ⟨w.heap.size,2,none⟩ (.slice na x.hops.length nc)).heap[w.heap.size+1]? = some (.cells #[.bool false,.int .i64 0,.slice none 0 0] 39):=by
  rw [YAQ w4 ⟨w.heap.size,2,none⟩ _ _ (by show w.heap.size+1≠w.heap.size;omega)];exact q1
 have y0:=Zaa q2 0;have y1:=Zaa q2 1;have y2:=Zaa q2 2;simp at y0 y1 y2;have u0:=Zaa q3 0;have u1:=Zaa q3 1;have u2:=Zaa q3 2;simp at u0 u1 u2;have fu:=Zae q3;have F:=finL3 x (.slice na x.hops.length nc) q3;have hown2:=ZaH (j:=2) (u:=.slice na x.hops.length nc) hown' (show w.heap.size<w.heap.size+2 by omega);have G8:=ZlH (w4.setCell ⟨w.heap.size,2,none⟩ (.slice na x.hops.length nc)) (w.heap.size+1) x (.slice na x.hops.length nc);have hown3:=Zaf (b0:=w.heap.size) (hown2.kept G8 (by
  cases hv:(Value.slice na x.hops.length nc).ownBlock with
  | none=>exact .inl rfl
  | some g=>exact .inr (fun e=>by have:=(hown2.lt g hv).1;simp at e;omega))) (by omega)
 have hb5:Below w.heap.size w (Zl7 (w4.setCell ⟨w.heap.size,2,none⟩ (.slice na x.hops.length nc)) (w.heap.size+1) x (.slice na x.hops.length nc)):=(hb4.setCell (p:=⟨w.heap.size,2,none⟩) (YA _) _).grown G8 (by have:=Zab q3;omega) (fun k hk=>by simp at hk;omega);have FF:=hide F;have H3:=hide hown3;have H5:=hide hb5;clear F hown3 hb5 hown2 G8 hb4 hown' hgrow q0 q1 q2 q3 OW
 go_wp2_with fail
 (try simp only [Exit.inBlock,Exit.then])
 refine bodyPost_ret (results_cell_row rfl _ _ (w.heap.size+1) 39 (lnC _ _) (0,0) _ rfl FF.out Tryz.underlying39 rfl (by kernel_rfl)) rfl ?_;exact⟨_,rfl,H3.out,H5.out⟩
end Go.Proofs.YtdhnddfnckgbjaaGreat
