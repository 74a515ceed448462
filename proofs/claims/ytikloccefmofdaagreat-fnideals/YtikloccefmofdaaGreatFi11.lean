/-
  Parts.
-/
import Derived.Test.YtikloccefmofdaaGreatFi8
import Derived.Test.YtikloccefmofdaaGreatFi10
import Derived.Laws.CopyOwn
namespace Go.Proofs.YtikloccefmofdaaGreat
open Go.RowKit
set_option linter.unusedSimpArgs false
set_option linter.unusedVariables false
set_option maxRecDepth 100000
set_option maxHeartbeats 8000000
variable {xs:List Value}{base g n:Nat}{P:Program}{e:TypeId}{w:World}
theorem ZpD {xs:List RecD}{k:Nat}(hk:k<xs.length)(h:Zce ordR xs k=false):Zax xs=false:=by unfold Zax ascB;rw [ZaQ hk h];simp
theorem Zdn (v:Value)(ps:List RP)(w:World)(hn:tot ps<=1048576)(hv:Zbu w v ps w.heap.size):
  Calls Tryz.prog 11 #[v] w fun e w'=>e=.returned (.bool (Zax (fsts ps)))/\Below w.heap.size w w':=by
 have hnl:=Zbj ps;obtain⟨a,cap,rfl⟩:=hv.shape;have HV:=hide hv;clear hv;have hfl:(fsts ps).length=ps.length:=by simp [fsts]
 by_cases hlong:(150:Int)<(ps.length:Int)
 ·have HF:=hide (Zis (xs:=fsts ps) (by omega));clear hfl
  go_enter Tryz.func11,Tryz.ntmps11
  go_wp2;go_ret;exact⟨Zah HF.out,YAC _ _⟩
 have HFL:=hide hfl;clear hfl
 go_enter Tryz.func11,Tryz.ntmps11
 go_wp2
 go_loopw [3] (fun i wr=>∃ k:Nat,k<=ps.length/\i=.int .i64 k/\(∀ j,j<k->okAt ZaW (fsts ps) j=true)/\(∀ j,j<k->Zce ordR (fsts ps) j=true)/\Below w.heap.size w wr) (fun i _=>ps.length-(intOf i).toNat)
 case atStart=>exact ⟨0,by omega,rfl,by omega,by omega,YAC _ _⟩
 case round=>
  obtain⟨k,hk,rfl,hall,hasc,hnx⟩:=hrel;have HALL:=hide hall;have HASC:=hide hasc;clear hall hasc;have hsz:=hnx.size;by_cases hlt:k<ps.length
  ·obtain ⟨l,hl⟩:∃ p,ps[k]? = some p:=⟨ps[k],YAA hlt⟩;obtain⟨b,off,cap',hve,hbb,c0,c1,c2,c3,c4,c5,c6,c7,hnr⟩:=HV.out.cells k l hl;cases hve;replace c0:=(hnx.cell hbb).trans c0;replace c1:=(hnx.cell hbb).trans c1;replace c2:=(hnx.cell hbb).trans c2;replace c3:=(hnx.cell hbb).trans c3;replace c4:=(hnx.cell hbb).trans c4;replace c5:=(hnx.cell hbb).trans c5;replace c6:=(hnx.cell hbb).trans c6;replace c7:=(hnx.cell hbb).trans c7;have HOK:=hide (fun W (hb:Below w.heap.size w W)=>ZnK l.2 l.1 W (by have:=Zem (YAG hl);omega) ((Zav.later hnr hb (YA _)).more hb.size));unfold recC at HOK;have HAT1:=hide (Zck (ok:=ZaW) (Zbf hl));obtain⟨qo,hqo⟩:∃ q,q=ZaW l.1:=⟨_,rfl⟩;rw [<-hqo] at HOK HAT1;have HL:=hide (Zbf hl);clear hqo hl hnr;have hbr:b<wr.heap.size:=by omega
   have hki:(0:Int)<=(k:Int):=by omega
   have hkj:(k:Int)<(ps.length:Int):=by omega
   have hnd:Below w.heap.size w wr.drew:=hnx.drew;cases qo
   ·have HF:=hide (ZkC (by rw [HFL.out];exact hlt) HAT1.out);go_wp2;refine Zag (S:=(fun W=>W.cell? ⟨b,off+k*8,none⟩=some (.int .i64 l.1.area)/\W.cell? ⟨b,off+k*8+1,none⟩=some (.int .i64 l.1.kind)/\W.cell? ⟨b,off+k*8+2,none⟩=some (.int .i64 l.1.owner)/\W.cell? ⟨b,off+k*8+3,none⟩=some (.int .i64 l.1.key)/\W.cell? ⟨b,off+k*8+4,none⟩=some (.int .i64 l.1.seq)/\W.cell? ⟨b,off+k*8+5,none⟩=some (l.2)/\W.cell? ⟨b,off+k*8+6,none⟩=some (.int .i64 l.1.cost)/\W.cell? ⟨b,off+k*8+7,none⟩=some (.bool l.1.far))) (by kernel_rfl) 23 rfl ⟨c0,c1,c2,c3,c4,c5,c6,c7⟩ (fun ops hops hHeld=>?_)
    iterate 4 (refine TK 23 ?_;try simp only [putS])
    refine TC 4 ?_;intro K hK;go_simp;refine (HOK.out _ hnd).mono ?_;rintro e w1 ⟨rfl,b1⟩;have hSn:_/\_:=(show ((fun W=>W.cell? ⟨b,off+k*8,none⟩=some (.int .i64 l.1.area)/\W.cell? ⟨b,off+k*8+1,none⟩=some (.int .i64 l.1.kind)/\W.cell? ⟨b,off+k*8+2,none⟩=some (.int .i64 l.1.owner)/\W.cell? ⟨b,off+k*8+3,none⟩=some (.int .i64 l.1.key)/\W.cell? ⟨b,off+k*8+4,none⟩=some (.int .i64 l.1.seq)/\W.cell? ⟨b,off+k*8+5,none⟩=some (l.2)/\W.cell? ⟨b,off+k*8+6,none⟩=some (.int .i64 l.1.cost)/\W.cell? ⟨b,off+k*8+7,none⟩=some (.bool l.1.far))) w1 from by
     obtain⟨m0,m1,m2,m3,m4,m5,m6,m7⟩:=hHeld;refine⟨?_,?_,?_,?_,?_,?_,?_,?_⟩ <;> (refine (b1.cell ?_).trans ?_ <;> assumption))
    refine hK.out _ _ hSn (fun hHeld=>?_);clear hK K hSn
    try simp only [putS]
    iterate 2 (refine TK 23 ?_;try simp only [putS])
    iterate 15 (refine TS 23 ?_;try simp only [putS])
    refine TK 23 ?_
    try simp only [putS]
    refine wpAnyH_done (by rw [hops.out];kernel_rfl) ?_ _;clear hops ops;go_wp2;go_ret;exact⟨Zah HF.out,hnd.trans (b1.mono hsz)⟩
   by_cases hk0:k=0
   ·have hk1:¬(0:Int)<(k:Int):=by omega
    have HAT2:=hide (show Zce ordR (fsts ps) k=true by rw [hk0];rfl);clear hk0;go_wp2;refine Zag (S:=(fun W=>W.cell? ⟨b,off+k*8,none⟩=some (.int .i64 l.1.area)/\W.cell? ⟨b,off+k*8+1,none⟩=some (.int .i64 l.1.kind)/\W.cell? ⟨b,off+k*8+2,none⟩=some (.int .i64 l.1.owner)/\W.cell? ⟨b,off+k*8+3,none⟩=some (.int .i64 l.1.key)/\W.cell? ⟨b,off+k*8+4,none⟩=some (.int .i64 l.1.seq)/\W.cell? ⟨b,off+k*8+5,none⟩=some (l.2)/\W.cell? ⟨b,off+k*8+6,none⟩=some (.int .i64 l.1.cost)/\W.cell? ⟨b,off+k*8+7,none⟩=some (.bool l.1.far))) (by kernel_rfl) 23 rfl ⟨c0,c1,c2,c3,c4,c5,c6,c7⟩ (fun ops hops hHeld=>?_)
    iterate 4 (refine TK 23 ?_;try simp only [putS])
    refine TC 4 ?_;intro K hK;go_simp;refine (HOK.out _ hnd).mono ?_;rintro e w1 ⟨rfl,b1⟩;have hSn:_/\_:=(show ((fun W=>W.cell? ⟨b,off+k*8,none⟩=some (.int .i64 l.1.area)/\W.cell? ⟨b,off+k*8+1,none⟩=some (.int .i64 l.1.kind)/\W.cell? ⟨b,off+k*8+2,none⟩=some (.int .i64 l.1.owner)/\W.cell? ⟨b,off+k*8+3,none⟩=some (.int .i64 l.1.key)/\W.cell? ⟨b,off+k*8+4,none⟩=some (.int .i64 l.1.seq)/\W.cell? ⟨b,off+k*8+5,none⟩=some (l.2)/\W.cell? ⟨b,off+k*8+6,none⟩=some (.int .i64 l.1.cost)/\W.cell? ⟨b,off+k*8+7,none⟩=some (.bool l.1.far))) w1 from by
     obtain⟨m0,m1,m2,m3,m4,m5,m6,m7⟩:=hHeld;refine⟨?_,?_,?_,?_,?_,?_,?_,?_⟩ <;> (refine (b1.cell ?_).trans ?_ <;> assumption))
    refine hK.out _ _ hSn (fun hHeld=>?_);clear hK K hSn
    try simp only [putS]
    iterate 3 (refine TK 23 ?_;try simp only [putS])
    refine TK 23 (v:=.bool false) ?_ (hy:=by intro W hW;(try dsimp only at hW);go_simp <;> (first | with_reducible rfl | (simp;omega) | omega))
    try simp only [putS]
    refine TK 23 ?_
    try simp only [putS]
    iterate 11 (refine TS 23 ?_;try simp only [putS])
    iterate 2 (refine TK 23 ?_;try simp only [putS])
    refine wpAnyH_done (by rw [hops.out];kernel_rfl) ?_ _;clear hops ops;go_wp2;exact⟨⟨k+1,by omega,by go_num,ZaO HALL.out HAT1.out,ZaO HASC.out HAT2.out,hnd.trans (b1.mono hsz)⟩,by simp [intOf];omega⟩
   ·obtain ⟨j,hj⟩:∃ j,k=j+1:=⟨k-1,by omega⟩;obtain⟨p,hp⟩:∃ p,ps[j]? = some p:=⟨ps[j],YAA (by omega)⟩;obtain⟨b',off',cap2,hve2,hbb2,d0,d1,d2,d3,d4,d5,d6,d7,_⟩:=HV.out.cells j p hp;cases hve2;replace d0:=(hnx.cell hbb).trans d0;replace d1:=(hnx.cell hbb).trans d1;replace d2:=(hnx.cell hbb).trans d2;replace d3:=(hnx.cell hbb).trans d3;replace d4:=(hnx.cell hbb).trans d4;replace d5:=(hnx.cell hbb).trans d5;replace d6:=(hnx.cell hbb).trans d6;replace d7:=(hnx.cell hbb).trans d7;have hat2:Zce ordR (fsts ps) k=decide (ordR p.1 l.1<0):=by rw [hj];exact ZbX (Zbf hp) (by rw [<-hj];exact HL.out)
    rw [ZgM] at hat2;have hj1:(k:Int)-1=(j:Int):=by omega
    have hj2:(0:Int)<=(j:Int):=by omega
    have hj3:(j:Int)<(ps.length:Int):=by omega
    have hj4:(0:Int)<(k:Int):=by omega
    have hj5:IntKind.i64.wrap (j:Int)=(j:Int):=ZaH _ (by omega) (by omega);have HBF:=hide (fun W=>Zfg p.2 l.2 p.1 l.1 W);unfold recC at HBF;obtain⟨qb,hqb⟩:∃ q,q=Zak p.1 l.1:=⟨_,rfl⟩;rw [<-hqb] at HBF hat2;have HAT2:=hide hat2;clear hqb hp hat2 hj hk0 hbb2;cases qb
    ·have HF:=hide (ZpD (by rw [HFL.out];exact hlt) HAT2.out);go_wp2;refine Zag (S:=(fun W=>W.cell? ⟨b,off+k*8,none⟩=some (.int .i64 l.1.area)/\W.cell? ⟨b,off+k*8+1,none⟩=some (.int .i64 l.1.kind)/\W.cell? ⟨b,off+k*8+2,none⟩=some (.int .i64 l.1.owner)/\W.cell? ⟨b,off+k*8+3,none⟩=some (.int .i64 l.1.key)/\W.cell? ⟨b,off+k*8+4,none⟩=some (.int .i64 l.1.seq)/\W.cell? ⟨b,off+k*8+5,none⟩=some (l.2)/\W.cell? ⟨b,off+k*8+6,none⟩=some (.int .i64 l.1.cost)/\W.cell? ⟨b,off+k*8+7,none⟩=some (.bool l.1.far)/\W.cell? ⟨b,off+j*8,none⟩=some (.int .i64 p.1.area)/\W.cell? ⟨b,off+j*8+1,none⟩=some (.int .i64 p.1.kind)/\W.cell? ⟨b,off+j*8+2,none⟩=some (.int .i64 p.1.owner)/\W.cell? ⟨b,off+j*8+3,none⟩=some (.int .i64 p.1.key)/\W.cell? ⟨b,off+j*8+4,none⟩=some (.int .i64 p.1.seq)/\W.cell? ⟨b,off+j*8+5,none⟩=some (p.2)/\W.cell? ⟨b,off+j*8+6,none⟩=some (.int .i64 p.1.cost)/\W.cell? ⟨b,off+j*8+7,none⟩=some (.bool p.1.far))) (by kernel_rfl) 23 rfl ⟨c0,c1,c2,c3,c4,c5,c6,c7,d0,d1,d2,d3,d4,d5,d6,d7⟩ (fun ops hops hHeld=>?_)
     iterate 4 (refine TK 23 ?_;try simp only [putS])
     refine TC 4 ?_;intro K hK;go_simp;refine (HOK.out _ hnd).mono ?_;rintro e w1 ⟨rfl,b1⟩;have hSn:_/\_:=(show ((fun W=>W.cell? ⟨b,off+k*8,none⟩=some (.int .i64 l.1.area)/\W.cell? ⟨b,off+k*8+1,none⟩=some (.int .i64 l.1.kind)/\W.cell? ⟨b,off+k*8+2,none⟩=some (.int .i64 l.1.owner)/\W.cell? ⟨b,off+k*8+3,none⟩=some (.int .i64 l.1.key)/\W.cell? ⟨b,off+k*8+4,none⟩=some (.int .i64 l.1.seq)/\W.cell? ⟨b,off+k*8+5,none⟩=some (l.2)/\W.cell? ⟨b,off+k*8+6,none⟩=some (.int .i64 l.1.cost)/\W.cell? ⟨b,off+k*8+7,none⟩=some (.bool l.1.far)/\W.cell? ⟨b,off+j*8,none⟩=some (.int .i64 p.1.area)/\W.cell? ⟨b,off+j*8+1,none⟩=some (.int .i64 p.1.kind)/\W.cell? ⟨b,off+j*8+2,none⟩=some (.int .i64 p.1.owner)/\W.cell? ⟨b,off+j*8+3,none⟩=some (.int .i64 p.1.key)/\W.cell? ⟨b,off+j*8+4,none⟩=some (.int .i64 p.1.seq)/\W.cell? ⟨b,off+j*8+5,none⟩=some (p.2)/\W.cell? ⟨b,off+j*8+6,none⟩=some (.int .i64 p.1.cost)/\W.cell? ⟨b,off+j*8+7,none⟩=some (.bool p.1.far))) w1 from by
      obtain⟨m0,m1,m2,m3,m4,m5,m6,m7,n0,n1,n2,n3,n4,n5,n6,n7⟩:=hHeld;refine⟨?_,?_,?_,?_,?_,?_,?_,?_,?_,?_,?_,?_,?_,?_,?_,?_⟩ <;> (refine (b1.cell ?_).trans ?_ <;> assumption))
     refine hK.out _ _ hSn (fun hHeld=>?_);clear hK K hSn
     try simp only [putS]
     have hbr:b<w1.heap.size:=YAB hbr b1.size
     iterate 3 (refine TK 23 ?_;try simp only [putS])
     refine TK 23 (v:=.bool true) ?_ (hy:=by intro W hW;(try dsimp only at hW);go_simp <;> (first | with_reducible rfl | (simp;omega) | omega))
     try simp only [putS]
     iterate 10 (refine TK 23 ?_;try simp only [putS])
     refine TC 19 ?_;intro K hK;go_simp;refine (HBF.out _).mono ?_;rintro e w2 ⟨rfl,b2⟩;have hSn:_/\_:=(show ((fun W=>W.cell? ⟨b,off+k*8,none⟩=some (.int .i64 l.1.area)/\W.cell? ⟨b,off+k*8+1,none⟩=some (.int .i64 l.1.kind)/\W.cell? ⟨b,off+k*8+2,none⟩=some (.int .i64 l.1.owner)/\W.cell? ⟨b,off+k*8+3,none⟩=some (.int .i64 l.1.key)/\W.cell? ⟨b,off+k*8+4,none⟩=some (.int .i64 l.1.seq)/\W.cell? ⟨b,off+k*8+5,none⟩=some (l.2)/\W.cell? ⟨b,off+k*8+6,none⟩=some (.int .i64 l.1.cost)/\W.cell? ⟨b,off+k*8+7,none⟩=some (.bool l.1.far)/\W.cell? ⟨b,off+j*8,none⟩=some (.int .i64 p.1.area)/\W.cell? ⟨b,off+j*8+1,none⟩=some (.int .i64 p.1.kind)/\W.cell? ⟨b,off+j*8+2,none⟩=some (.int .i64 p.1.owner)/\W.cell? ⟨b,off+j*8+3,none⟩=some (.int .i64 p.1.key)/\W.cell? ⟨b,off+j*8+4,none⟩=some (.int .i64 p.1.seq)/\W.cell? ⟨b,off+j*8+5,none⟩=some (p.2)/\W.cell? ⟨b,off+j*8+6,none⟩=some (.int .i64 p.1.cost)/\W.cell? ⟨b,off+j*8+7,none⟩=some (.bool p.1.far))) w2 from by
      obtain⟨m0,m1,m2,m3,m4,m5,m6,m7,n0,n1,n2,n3,n4,n5,n6,n7⟩:=hHeld;refine⟨?_,?_,?_,?_,?_,?_,?_,?_,?_,?_,?_,?_,?_,?_,?_,?_⟩ <;> (refine (b2.cell ?_).trans ?_ <;> assumption))
     refine hK.out _ _ hSn (fun hHeld=>?_);clear hK K hSn
     try simp only [putS]
     iterate 3 (refine TK 23 ?_;try simp only [putS])
     refine wpAnyH_done (by rw [hops.out];kernel_rfl) ?_ _;clear hops ops;go_wp2;go_ret;exact⟨Zah HF.out,(hnd.trans (b1.mono hsz)).trans (b2.mono (by have:=b1.size;have:wr.drew.heap.size=wr.heap.size:=rfl;omega))⟩
    ·go_wp2;refine Zag (S:=(fun W=>W.cell? ⟨b,off+k*8,none⟩=some (.int .i64 l.1.area)/\W.cell? ⟨b,off+k*8+1,none⟩=some (.int .i64 l.1.kind)/\W.cell? ⟨b,off+k*8+2,none⟩=some (.int .i64 l.1.owner)/\W.cell? ⟨b,off+k*8+3,none⟩=some (.int .i64 l.1.key)/\W.cell? ⟨b,off+k*8+4,none⟩=some (.int .i64 l.1.seq)/\W.cell? ⟨b,off+k*8+5,none⟩=some (l.2)/\W.cell? ⟨b,off+k*8+6,none⟩=some (.int .i64 l.1.cost)/\W.cell? ⟨b,off+k*8+7,none⟩=some (.bool l.1.far)/\W.cell? ⟨b,off+j*8,none⟩=some (.int .i64 p.1.area)/\W.cell? ⟨b,off+j*8+1,none⟩=some (.int .i64 p.1.kind)/\W.cell? ⟨b,off+j*8+2,none⟩=some (.int .i64 p.1.owner)/\W.cell? ⟨b,off+j*8+3,none⟩=some (.int .i64 p.1.key)/\W.cell? ⟨b,off+j*8+4,none⟩=some (.int .i64 p.1.seq)/\W.cell? ⟨b,off+j*8+5,none⟩=some (p.2)/\W.cell? ⟨b,off+j*8+6,none⟩=some (.int .i64 p.1.cost)/\W.cell? ⟨b,off+j*8+7,none⟩=some (.bool p.1.far))) (by kernel_rfl) 23 rfl ⟨c0,c1,c2,c3,c4,c5,c6,c7,d0,d1,d2,d3,d4,d5,d6,d7⟩ (fun ops hops hHeld=>?_)
     iterate 4 (refine TK 23 ?_;try simp only [putS])
     refine TC 4 ?_;intro K hK;go_simp;refine (HOK.out _ hnd).mono ?_;rintro e w1 ⟨rfl,b1⟩;have hSn:_/\_:=(show ((fun W=>W.cell? ⟨b,off+k*8,none⟩=some (.int .i64 l.1.area)/\W.cell? ⟨b,off+k*8+1,none⟩=some (.int .i64 l.1.kind)/\W.cell? ⟨b,off+k*8+2,none⟩=some (.int .i64 l.1.owner)/\W.cell? ⟨b,off+k*8+3,none⟩=some (.int .i64 l.1.key)/\W.cell? ⟨b,off+k*8+4,none⟩=some (.int .i64 l.1.seq)/\W.cell? ⟨b,off+k*8+5,none⟩=some (l.2)/\W.cell? ⟨b,off+k*8+6,none⟩=some (.int .i64 l.1.cost)/\W.cell? ⟨b,off+k*8+7,none⟩=some (.bool l.1.far)/\W.cell? ⟨b,off+j*8,none⟩=some (.int .i64 p.1.area)/\W.cell? ⟨b,off+j*8+1,none⟩=some (.int .i64 p.1.kind)/\W.cell? ⟨b,off+j*8+2,none⟩=some (.int .i64 p.1.owner)/\W.cell? ⟨b,off+j*8+3,none⟩=some (.int .i64 p.1.key)/\W.cell? ⟨b,off+j*8+4,none⟩=some (.int .i64 p.1.seq)/\W.cell? ⟨b,off+j*8+5,none⟩=some (p.2)/\W.cell? ⟨b,off+j*8+6,none⟩=some (.int .i64 p.1.cost)/\W.cell? ⟨b,off+j*8+7,none⟩=some (.bool p.1.far))) w1 from by
      obtain⟨m0,m1,m2,m3,m4,m5,m6,m7,n0,n1,n2,n3,n4,n5,n6,n7⟩:=hHeld;refine⟨?_,?_,?_,?_,?_,?_,?_,?_,?_,?_,?_,?_,?_,?_,?_,?_⟩ <;> (refine (b1.cell ?_).trans ?_ <;> assumption))
     refine hK.out _ _ hSn (fun hHeld=>?_);clear hK K hSn
     try simp only [putS]
     have hbr:b<w1.heap.size:=YAB hbr b1.size
     iterate 3 (refine TK 23 ?_;try simp only [putS])
     refine TK 23 (v:=.bool true) ?_ (hy:=by intro W hW;(try dsimp only at hW);go_simp <;> (first | with_reducible rfl | (simp;omega) | omega))
     try simp only [putS]
     iterate 10 (refine TK 23 ?_;try simp only [putS])
     refine TC 19 ?_;intro K hK;go_simp;refine (HBF.out _).mono ?_;rintro e w2 ⟨rfl,b2⟩;have hSn:_/\_:=(show ((fun W=>W.cell? ⟨b,off+k*8,none⟩=some (.int .i64 l.1.area)/\W.cell? ⟨b,off+k*8+1,none⟩=some (.int .i64 l.1.kind)/\W.cell? ⟨b,off+k*8+2,none⟩=some (.int .i64 l.1.owner)/\W.cell? ⟨b,off+k*8+3,none⟩=some (.int .i64 l.1.key)/\W.cell? ⟨b,off+k*8+4,none⟩=some (.int .i64 l.1.seq)/\W.cell? ⟨b,off+k*8+5,none⟩=some (l.2)/\W.cell? ⟨b,off+k*8+6,none⟩=some (.int .i64 l.1.cost)/\W.cell? ⟨b,off+k*8+7,none⟩=some (.bool l.1.far)/\W.cell? ⟨b,off+j*8,none⟩=some (.int .i64 p.1.area)/\W.cell? ⟨b,off+j*8+1,none⟩=some (.int .i64 p.1.kind)/\W.cell? ⟨b,off+j*8+2,none⟩=some (.int .i64 p.1.owner)/\W.cell? ⟨b,off+j*8+3,none⟩=some (.int .i64 p.1.key)/\W.cell? ⟨b,off+j*8+4,none⟩=some (.int .i64 p.1.seq)/\W.cell? ⟨b,off+j*8+5,none⟩=some (p.2)/\W.cell? ⟨b,off+j*8+6,none⟩=some (.int .i64 p.1.cost)/\W.cell? ⟨b,off+j*8+7,none⟩=some (.bool p.1.far))) w2 from by
      obtain⟨m0,m1,m2,m3,m4,m5,m6,m7,n0,n1,n2,n3,n4,n5,n6,n7⟩:=hHeld;refine⟨?_,?_,?_,?_,?_,?_,?_,?_,?_,?_,?_,?_,?_,?_,?_,?_⟩ <;> (refine (b2.cell ?_).trans ?_ <;> assumption))
     refine hK.out _ _ hSn (fun hHeld=>?_);clear hK K hSn
     try simp only [putS]
     iterate 3 (refine TK 23 ?_;try simp only [putS])
     refine wpAnyH_done (by rw [hops.out];kernel_rfl) ?_ _;clear hops ops;go_wp2;exact⟨⟨k+1,by omega,by go_num,ZaO HALL.out HAT1.out,ZaO HASC.out HAT2.out,(hnd.trans (b1.mono hsz)).trans (b2.mono (by have:=b1.size;have:wr.drew.heap.size=wr.heap.size:=rfl;omega))⟩,by simp [intOf];omega⟩
  ·have e1:ZbM ZaW (fsts ps)=true:=Za4 fun i hi=>HALL.out i (by have:=HFL.out;omega);have e3:ascB ordR (fsts ps)=true:=Za4 fun i hi=>HASC.out i (by have:=HFL.out;omega);have e2:Zax (fsts ps)=true:=by
    unfold Zax;rw [e1,e3,YAT (by have:=HFL.out;omega)];rfl
   have HE:=hide e2;clear e1 e2 e3;go_wp2;go_ret;exact⟨Zah HE.out,hnx⟩
theorem ZaZ {α:Type}{enc:α->List Value}{sz bytes:Nat}(hlen:∀ a,(enc a).length=sz)(hpos:0<sz)(hbb:bytes<=100)(w:World){ops:Array Oper}{rest:List Oper}{o:Oper}{a:Act}{Q:Exit->Act->World->Prop}(hgd:o.guard=none)(s x:Operand)(t:TypeId)
  (ho:o.op=.call { callee:=.builtin .append,args:=#[s,x],argTypes:=#[t,t] }) (base:Nat) (e:TypeId) (ht:P.underlying t=some (.slice e)) (zv:Value) (hzv:zv.cells.size=sz)
  (hinfo:(P.info? e).map (fun i=>(i.zero,i.size,i.bytes))=some (some zv,sz,bytes))
  (v:Value) (l:List α) (y:α) (hone:∀ u∈enc y,u.oneCell'=true) (hs:a.eval s=v) (hown:w.ownsRow base e sz v l.length (flat enc l))
  (ad:Addr) (c:Nat) (hx:a.eval x=.slice (some ad) 1 c) (hnews:∀ j u,(enc y)[j]? = some u->w.cell? (ad.add j)=some u)
  (hl:l.length+1<=1000000000) (hbase:base<=w.heap.size)
  (h:∀ v' w',w'.ownsRow base e sz v' (l++[y]).length (flat enc (l++[y]))->w.grownBy w' v.ownBlock->(v'.ownBlock=v.ownBlock\/v'.ownBlock=some w.heap.size)->wpList P ops Q rest (a.put o.dst v') w'):wpList P ops Q (o::rest) a w:=by
 obtain⟨i0,hi,hz0,hz1,hz2⟩:=info_parts hinfo;refine wpList_append_own_at w hgd s x t ho base e i0 zv sz bytes ht hi hz0 hz1 hz2 hzv hpos v l.length (flat enc l) hs hown ad 1 c (enc y) hx (by rw [hlen];omega) hnews hone (by unfold maxLen;omega) ?_ hbase ?_
 ·have:(l.length+1)*bytes<=1000000000*100:=Nat.mul_le_mul hl hbb;omega
 ·intro v' w' h1 h2 _ h4;have e1:flat enc l++enc y=flat enc (l++[y]):=by rw [ZaC];simp [flat]
  rw [e1] at h1;exact h v' w' (by simpa using h1) h2 h4
theorem add8 (g o j:Nat):(⟨g,o,none⟩:Addr).add j=⟨g,o+j,none⟩:=by
 simp only [Addr.add]
 split <;> simp_all
def ZgV (w w':World)(row:Option Nat)(v:Value):Prop:=w.grownBy w' row/\∀ k,v.ownBlock=some k->row=some k\/w.heap.size<=k
theorem ZmT (w:World)(base:Nat)(t ty e:TypeId)(i:TypeInfo)(z:Value)(ht:P.underlying t=some (.slice e))(hi:P.info? e=some i)(hz:i.zero=some z)
  (v:Value) (n:Nat) (xs:List Value) (hown:w.ownsRow base e i.size v n xs) (a:Addr) (m c:Nat) (news:List Value) (hl:news.length=m*i.size) (hnews:∀ j u,news[j]? = some u->w.cell? (a.add j)=some u) (h1:∀ u∈news,u.oneCell'=true)
  (hm:0<m) (h63:n+m<=maxLen) (hbytes:(n+m)*i.bytes<=140737488355328) {v':Value} {w':World} (hr:(Builtin.append_ #[t,t] ty #[v,.slice (some a) m c]).run P w=.ok v' w'):∀ k,v'.ownBlock=some k->v.ownBlock=some k\/w.heap.size<=k:=by
 have hsmall:n+m<=9223372036854775807:=by simp only [maxLen] at h63;omega
 intro k hk;rcases hown.2 with ⟨rfl,rfl⟩ | ⟨g,cap,cur,rfl,hbg,hg,hnc,hcm,hcs,htake⟩
 ·have h2:=run_append_nil (P:=P) w t ty e i z ht hi hz a m c news hl hnews (by omega) (by omega) (by have hb:=hbytes;simp only [Nat.zero_add] at hb;omega);rw [h2] at hr;cases hr;simp [Value.ownBlock] at hk;exact .inr (by omega)
 ·by_cases hroom:n+m<=cap
  ·have hfit:n*i.size+news.length<=cur.size:=by rw [hl,hcs, <-Nat.add_mul];exact Nat.mul_le_mul_right _ hroom
   have h2:=run_append_room (P:=P) w t ty e i ht hi g n cap cur hg a m c news hl hnews h1 hroom hfit;rw [h2] at hr;cases hr;exact .inl hk
  ·have h2:=run_append_grow (P:=P) w t ty e i z ht hi hz ⟨g,0,none⟩ n cap xs hown.1 (hown.cells (g:=g) rfl) a m c news hl hnews (by omega) (by omega) (growslice_fits (by omega) hbytes);rw [h2] at hr;cases hr;simp [Value.ownBlock] at hk;exact .inr (by omega)
theorem ZoJ (base g cap n m i vb:Nat)(ps:List RP)(r:RP)(w:World)(hnp:n=ps.length)(hm:m=1)(hrow:w.ownsRow base 37 8 (.slice (some ⟨g,0,none⟩) n cap) n (flat encP ps))(hi:i<n)(hroom:n+m<=cap)
  (hvb:w.heap[vb]? = some (.cells (encP r).toArray 37 (0,0))) (hne:vb≠g) (hone:∀ p∈ps,∃ a k c,p.2=.slice a k c) (hr1:∀ u∈encP r,u.oneCell'=true):
  Calls Tryz.prog 79 #[.slice (some ⟨g,0,none⟩) n cap,.int .i64 (i:Int),.slice (some ⟨vb,0,none⟩) m 1] w fun e w'=>∃ v,e=.returned v/\w'.ownsRow base 37 8 v (n+m) (flat encP (ps.take i++[r]++ps.drop i))/\ZgV w w' (some g) v:=by
 have hnl:(flat encP ps).length=n*8:=hrow.1;have hui:=Tryz.underlying53;have hus:=Tryz.underlying31;obtain⟨i0,hi0,hz0,hzs,hzb⟩:=info_parts Tryz.infoRec;have hsz:(Tryz.prog.info? 37).map (·.size)=some 8:=by rw [hi0];simp [hzs]
 rcases hrow.2 with ⟨h0,_⟩ | ⟨g',cap',cur,hv,hbg,hg,hnc,hcm,hcs,htk⟩
 ·simp at h0
 simp at hv;obtain⟨rfl,rfl⟩:=hv;have hmx:maxLen=9223372036854775807\/maxLen<=9223372036854775807:=by unfold maxLen;omega
 have hc63:cap<=9223372036854775807:=by omega
 have hD:(flat encP (ps.drop i)).length=(n-i)*8:=by rw [ZaD Zay,YAi, <-hnp]
 have hclen:cur.toList.length=cap*8:=by simpa using hcs
 have hRl:(encP r).length=8:=Zay r;have hov:∀ lb cb,(callFunc 107 #[.slice (some ⟨vb,0,none⟩) m 1,.slice (some ⟨g,(i+m)*8,none⟩) lb cb]).run Tryz.prog w=.ok (.value (.bool false)) w:=fun lb cb=>by
  rw [run_callFunc_extern Tryz.func107 (by kernel_rfl) (by kernel_rfl) (by kernel_rfl) (e:=Extern.SlicesOverlaps.overlaps #[31,31] #[4]) (by kernel_rfl),
   Lib.run_overlaps_apart w 31 4 37 hus 8 (by intro w;simp [Go.sizeOf,typeInfo,hi0,hzs]) ⟨vb,0,none⟩ ⟨g,(i+m)*8,none⟩ m 1 lb cb hne 37 37 8 cur.size (by simp [World.shape?,hvb,hRl]) (by simp [World.shape?,hg]) (by omega) (Zae hvb 0) (Zae hvb 8)]
  rfl
 have hcell:∀ (W:World),W.heap=w.heap->∀ j u,(flat encP (ps.drop i))[j]? = some u->W.cell? ((⟨g,i*8,none⟩:Addr).add j)=some u:=fun W hW j u hj=>by
  rw [add8];simp only [World.cell?,hW,hg];rw [<-Zfx ps i (by omega), <-htk,List.getElem?_drop] at hj;have h2:i*8+j<n*8:=by
   have h3:=(YAD.1 hj).1;rw [YAV] at h3;omega
  rw [YAn h2] at hj;simpa using hj
 have hcp1:∀ (W:World),W.heap=w.heap->∀ ty dc sc,(Builtin.copy_ #[53,53] ty #[.slice (some ⟨g,(i+m)*8,none⟩) (n+m-(i+m)) dc,.slice (some ⟨g,i*8,none⟩) (n+m-i) sc]).run Tryz.prog W=.ok (goInt (Nat.min (n+m-i) (n+m-(i+m)))) (W.setRow g (cur.toList.take ((i+m)*8)++flat encP (ps.drop i)++cur.toList.drop ((i+m)*8+(flat encP (ps.drop i)).length)).toArray):=fun W hW ty dc sc=>
  ZaT W 53 53 ty 37 g ((i+m)*8) (n+m-(i+m)) dc ⟨g,i*8,none⟩ (n+m-i) sc 8 cur 37 (flat encP (ps.drop i)) hui hsz (by rw [hW];exact hg)
   (by rw [hD];congr 1;have:Nat.min (n+m-i) (n+m-(i+m))=n+m-(i+m):=Nat.min_eq_right (by omega);omega) (hcell W hW) (by rw [hD];omega) (Zdi _ (fun p hp=>hone p (List.mem_of_mem_drop hp)))
 obtain⟨c1,hc1⟩:∃ c1,c1=cur.toList.take ((i+m)*8)++flat encP (ps.drop i)++cur.toList.drop ((i+m)*8+(flat encP (ps.drop i)).length):=⟨_,rfl⟩;rw [<-hc1] at hcp1;have hc1l:c1.length=cap*8:=by rw [hc1];simp only [YAN,YAV,YAi,hclen,hD];omega
 have hcp2:∀ (W:World),W.heap=(w.setRow g c1.toArray).heap->∀ ty dc,(Builtin.copy_ #[53,31] ty #[.slice (some ⟨g,i*8,none⟩) (n+m-i) dc,.slice (some ⟨vb,0,none⟩) m 1]).run Tryz.prog W=.ok (goInt (Nat.min m (n+m-i))) (W.setRow g (c1.take (i*8)++encP r++c1.drop (i*8+(encP r).length)).toArray):=fun W hW ty dc=>by
  have h:=ZaT (P:=Tryz.prog) W 53 31 ty 37 g (i*8) (n+m-i) dc ⟨vb,0,none⟩ m 1 8 c1.toArray 37 (encP r) hui hsz (by rw [hW];exact setRow_heap w g cur _ 37 _ hg)
   (by rw [hRl];have:Nat.min m (n+m-i)=m:=YAQ (by omega);omega) (fun j u hj=>by
    rw [add8];simp only [World.cell?,hW];rw [setRow_other w g vb _ hne,hvb];simpa using hj) (by rw [hRl];simp only [List.size_toArray,hc1l];omega) hr1
  simpa using h
 have hfin:c1.take (i*8)++encP r++c1.drop (i*8+(encP r).length)=flat encP (ps.take i)++encP r++flat encP (ps.drop i)++cur.toList.drop (i*8+8+(n-i)*8):=by
  have h:=Zpw cur.toList (flat encP (ps.drop i)) (encP r) (i*8) ((n-i)*8) hD hRl (by omega);rw [show i*8+8=(i+m)*8 by omega, <-hc1] at h;rw [h];congr 3
  ·rw [<-Zd4 ps i (by omega), <-htk,List.take_take,YAQ (by omega)]
  ·omega
 have hdone:∀ W:World,W.heap=((w.setRow g c1.toArray).setRow g (c1.take (i*8)++encP r++c1.drop (i*8+(encP r).length)).toArray).heap->W.os=w.os->W.tape=w.tape->W.output=w.output->W.ownsRow base 37 8 (.slice (some ⟨g,0,none⟩) (n+m) cap) (n+m) (flat encP (ps.take i++[r]++ps.drop i))/\ZgV w W (some g) (.slice (some ⟨g,0,none⟩) (n+m) cap):=by
  intro W hW h1 h2 h3;have hAl:(flat encP (ps.take i)).length=i*8:=by rw [ZaD Zay,YAV,YAQ (by omega)]
  refine⟨⟨?_,.inr ⟨g,cap,(flat encP (ps.take i)++encP r++flat encP (ps.drop i)++cur.toList.drop (i*8+8+(n-i)*8)).toArray,rfl,hbg,?_,hroom,hcm,?_,?_⟩⟩,⟨⟨h1,h2,h3,?_,?_⟩,fun k hk=>.inl hk⟩⟩
  ·rw [ZaD Zay,Zhg ps r i (by omega)];omega
  ·rw [hW,hfin];exact setRow_heap _ g c1.toArray _ 37 _ (setRow_heap w g cur _ 37 _ hg)
  ·simp only [List.size_toArray,YAN,YAi,hclen,hD,hRl,hAl];omega
  ·rw [Zer];exact Zb0 (by rw [hAl,hRl,hD];omega)
  ·rw [hW];simp
  ·intro k _ hk;have hkg:k≠g:=fun e=>hk (by rw [e]);rw [hW,setRow_other _ g k _ hkg,setRow_other _ g k _ hkg]
 have hz1:¬((m:Int)=0):=by omega
 have hz2:¬((i:Int)=(n:Int)):=by omega
 have hw1:IntKind.i64.wrap ((i:Int)+(m:Int))=(i:Int)+(m:Int):=by rw [IntKind.wrap_i64];omega
 have hw2:IntKind.i64.wrap ((n:Int)+(m:Int))=(n:Int)+(m:Int):=by rw [IntKind.wrap_i64];omega
 have hb1:(0:Int)<=(i:Int)+(m:Int):=by omega
 have hin:i<=n:=by omega
 have htn:((i:Int)+(m:Int)).toNat=i+m:=by omega
 have htn2:((n:Int)+(m:Int)).toNat=n+m:=by omega
 have hb2:¬(cap=i+m):=by omega
 have hb3:(i:Int)<=(n:Int)+(m:Int):=by omega
 have hb4:¬(cap=i):=by omega
 have hb5:¬((cap:Int)<(n:Int)+(m:Int)):=by omega
 have HD:=hide hdone;have HC1:=hide (hcp1 w.drew rfl);have mixed:Tryz.prog.follows .mixedOrders=true:=by kernel_rfl
 have HC2:=hide (hcp2 (w.drew.setRow g c1.toArray) rfl);have HOV:=hide hov;clear hdone hcp1 hcp2 hfin hc1 hcell hD hclen hRl hnl hov hc1l htk hcs hg hrow hvb hone hr1 hmx hsz hi0 hz0 hzs hzb hm hnp
 go_enter Tryz.func79,Tryz.ntmps79
 go_wp2_with (simp only [HOV.out])
 go_region_law_o (refine step_copy_runI rfl _ _ 53 53 rfl (.slice (some ⟨g,(i+m)*8,none⟩) (n+m-(i+m)) (cap-(i+m))) (.slice (some ⟨g,i*8,none⟩) (n+m-i) (cap-i)) (by simp [Act.eval,Act.put]) (by simp [Act.eval,Act.put]) (HC1.out 3 (cap-(i+m)) (cap-i)) ?_)
 go_wp2_with (refine wpList_copy_runI _ rfl _ _ 53 31 rfl (.slice (some ⟨g,i*8,none⟩) (n+m-i) (cap-i)) (.slice (some ⟨vb,0,none⟩) m 1) rfl rfl (HC2.out 3 (cap-i)) ?_)
 go_ret;exact⟨_,rfl,HD.out _ (by rw [<-YAY];rfl) rfl rfl rfl⟩
theorem ZhO (base n m vb:Nat)(v:Value)(ps:List RP)(r:RP)(w:World)(hnp:n=ps.length)(hm:m=1)(hbase:base<=w.heap.size)(hn:n<=1048576)(hrow:w.ownsRow base 37 8 v n (flat encP ps))
  (hvb:w.heap[vb]? = some (.cells (encP r).toArray 37 (0,0))) (hr1:∀ u∈encP r,u.oneCell'=true):∃ v' w',(∀ ty,(Builtin.append_ #[53,31] ty #[v,.slice (some ⟨vb,0,none⟩) m 1]).run Tryz.prog w=.ok v' w')/\w'.ownsRow base 37 8 v' (n+m) (flat encP (ps.take n++[r]++ps.drop n))/\ZgV w w' v.ownBlock v':=by
 obtain⟨i0,hi0,hz0,hzs,hzb⟩:=info_parts Tryz.infoRec;obtain⟨a,c,hv⟩:=Zac hrow;obtain⟨v',w',h1,h2,h3,_⟩:=run_append_own (P:=Tryz.prog) w base 53 53 37 i0 _ 8 i0.bytes Tryz.underlying53 hi0 hz0 hzs rfl rfl (by omega) v n (flat encP ps) hrow ⟨vb,0,none⟩ m 1 (encP r) (by rw [Zay,hm]) (fun j u hj=>by
  rw [add8,Nat.zero_add,Zaa hvb];simpa using hj) hr1 (by unfold maxLen;omega) (by rw [hzb];omega) hbase
 refine⟨v',w',fun ty=>?_,?_,h3,?_⟩
 ·rw [hv,Zd1 w 53 31 ty 37 i0 Tryz.underlying53 Tryz.underlying31 hi0, <-hv];exact h1
 ·rw [Zer,hnp,YAh,List.drop_length];rw [hnp] at h2;simpa [flat] using h2
 ·refine ZmT (P:=Tryz.prog) w base 53 53 37 i0 _ Tryz.underlying53 hi0 hz0 v n (flat encP ps) (by rw [hzs];exact hrow) ⟨vb,0,none⟩ m 1 (encP r) (by rw [Zay,hm,hzs]) (fun j u hj=>by
   rw [add8,Nat.zero_add,Zaa hvb];simpa using hj) hr1 (by omega) (by unfold maxLen;omega) (by rw [hzb];omega) h1
theorem ZrW (base n m vb:Nat)(v:Value)(ps:List RP)(r:RP)(w:World)(hnp:n=ps.length)(hm:m=1)(hbase:base<=w.heap.size)(hn:n<=1048576)(hrow:w.ownsRow base 37 8 v n (flat encP ps))
  (hvb:w.heap[vb]? = some (.cells (encP r).toArray 37 (0,0))) (hr1:∀ u∈encP r,u.oneCell'=true):
  Calls Tryz.prog 79 #[v,.int .i64 (n:Int),.slice (some ⟨vb,0,none⟩) m 1] w fun e w'=>∃ v',e=.returned v'/\w'.ownsRow base 37 8 v' (n+m) (flat encP (ps.take n++[r]++ps.drop n))/\ZgV w w' v.ownBlock v':=by
 obtain⟨v',w',h1,h2,h3⟩:=ZhO base n m vb v ps r w hnp hm hbase hn hrow hvb hr1;obtain⟨va,vc,hve⟩:=Zac h2;subst hve;have HR:=hide h1;generalize ps.take n++[r]++ps.drop n=l at *;have H2:=hide h2;have H3:=hide h3;have hz1:¬((m:Int)=0):=by omega
 clear h1 h2 h3 hvb hr1 hm hnp;rcases hrow.2 with ⟨h0,hn0⟩ | ⟨g,cap,cur,hv,hbg,hg,hnc,hcm,hcs,htk⟩
 ·subst h0;clear hrow;subst hn0
  go_enter Tryz.func79,Tryz.ntmps79
  go_wp2_with (at_builtin;refine Lib.wpList_append_run _ rfl _ _ _ _ rfl _ _ rfl rfl _ _ (HR.out _) ?_)
  go_ret;exact⟨_,rfl,(by simpa using H2.out),by simpa using H3.out⟩
 ·subst hv;have hc63:cap<=9223372036854775807:=by unfold maxLen at hcm;omega
  clear hrow hg hcs htk
  go_enter Tryz.func79,Tryz.ntmps79
  go_wp2_with (at_builtin;refine Lib.wpList_append_run _ rfl _ _ _ _ rfl _ _ rfl rfl _ _ (HR.out _) ?_)
  all_goals (go_ret;exact⟨_,rfl,H2.out,H3.out⟩)
theorem Zqu (base g cap n m i vb:Nat)(ps:List RP)(r:RP)(w:World)(hnp:n=ps.length)(hm:m=1)(hbase:base<=w.heap.size)(hn:n<=1048576)(hrow:w.ownsRow base 37 8 (.slice (some ⟨g,0,none⟩) n cap) n (flat encP ps))(hi:i<n)(hroom:cap<n+m)
  (hvb:w.heap[vb]? = some (.cells (encP r).toArray 37 (0,0))) (hone:∀ p∈ps,∃ a k c,p.2=.slice a k c) (hr1:∀ u∈encP r,u.oneCell'=true):
  Calls Tryz.prog 79 #[.slice (some ⟨g,0,none⟩) n cap,.int .i64 (i:Int),.slice (some ⟨vb,0,none⟩) m 1] w fun e w'=>∃ v,e=.returned v/\w'.ownsRow base 37 8 v (n+m) (flat encP (ps.take i++[r]++ps.drop i))/\ZgV w w' (some g) v:=by
 have hnl:(flat encP ps).length=n*8:=hrow.1;have hui:=Tryz.underlying53;have hus:=Tryz.underlying31;obtain⟨i0,hi0,hz0,hzs,hzb⟩:=info_parts Tryz.infoRec;have hsz:(Tryz.prog.info? 37).map (·.size)=some 8:=by rw [hi0];simp [hzs]
 rcases hrow.2 with ⟨h0,_⟩ | ⟨g',cap',cur,hv,hbg,hg,hnc,hcm,hcs,htk⟩
 ·simp at h0
 simp at hv;obtain⟨rfl,rfl⟩:=hv;have hc63:cap<=9223372036854775807:=by unfold maxLen at hcm;omega
 have hgw:=Zab hg;have hvw:=Zab hvb;have hD:(flat encP (ps.drop i)).length=(n-i)*8:=by rw [ZaD Zay,YAi, <-hnp]
 have hAl:(flat encP (ps.take i)).length=i*8:=by rw [ZaD Zay,YAV,YAQ (by omega)]
 have hRl:(encP r).length=8:=Zay r;have hkk:(n:Int)+(m:Int)-(i:Int)=((n+m-i:Nat):Int):=by omega
 have hik:i+(n+m-i)=n+m:=by omega
 have hcellw:∀ (j:Nat) (u:Value),(flat encP ps)[j]? = some u->w.cell? ⟨g,j,none⟩=some u:=fun j u hj=>by
  have h2:j<n*8:=by rw [<-hnl];exact (YAD.1 hj).1
  rw [<-htk,YAn h2] at hj;rw [Zaa hg];simpa using hj
 have hold:(Builtin.firstCells i0.size i (.slice (some ⟨g,0,none⟩) i cap)).run Tryz.prog w.drew=.ok (flat encP (ps.take i)).toArray w.drew:=by
  rw [hzs];exact run_firstCells_some w.drew 8 i ⟨g,0,none⟩ i cap (flat encP (ps.take i)) hAl (fun j v hj=>by
   rw [add8,Nat.zero_add];refine hcellw j v ?_;rw [<-Zd4 ps i (by omega),List.getElem?_take] at hj
   split at hj
   ·exact hj
   ·cases hj)
 have hrz0:=Lib.run_append_grow_zeros (P:=Tryz.prog) w 53 3 53 37 i0 _ .i64 .i64 hui Tryz.underlying3 hi0 hz0 (some ⟨g,0,none⟩) i cap (flat encP (ps.take i)) hold (n+m-i) (by omega) (by rw [hzs];omega) (by omega) (by omega) (by rw [hzb];omega) (by rw [hzb,hik];exact growslice_fits hroom (by omega));rw [hik] at hrz0;have hGn:=grownCap_ge w (n+m) cap 37;have hGm:=grownCap_le_maxLen w (n+m) cap 37 (by unfold maxLen;omega);obtain⟨G,hG⟩:∃ G,G=grownCap w (n+m) cap 37:=⟨_,rfl⟩;rw [<-hG] at hrz0 hGn hGm;obtain⟨ROW,hROW⟩:∃ ROW:Array Value,ROW=(flat encP (ps.take i)).toArray++Builtin.zeroCells (Value.agg (recC Za9 (.slice none 0 0))).cells (n+m-i)++Builtin.zeroCells (Value.agg (recC Za9 (.slice none 0 0))).cells (G-(n+m)):=⟨_,rfl⟩;rw [<-hROW] at hrz0;have hRs:ROW.size=G*8:=by
  rw [hROW];simp only [Array.size_append,List.size_toArray,size_zeroCells,hAl,show (Value.agg (recC Za9 (.slice none 0 0))).cells.size=8 from rfl];omega
 have hRt:ROW.toList.take (i*8)=flat encP (ps.take i):=by
  rw [hROW];simp only [Array.toList_append,YAY];rw [<-hAl];exact List.take_left
 obtain⟨N,hN⟩:∃ N,N=w.heap.size:=⟨_,rfl⟩;obtain⟨W1,hW1⟩:∃ W1,W1=w.drew.alloc (.cells ROW 37):=⟨_,rfl⟩;rw [<-hW1, <-hN] at hrz0;have hrz:∀ ty,(Builtin.append_ #[53,3] ty #[.slice (some ⟨g,0,none⟩) i cap,.int .i64 ((n:Int)+(m:Int)-(i:Int))]).run Tryz.prog w=.ok (.slice (some ⟨N,0,none⟩) (n+m) G) W1:=fun ty=>by
  rw [hkk];exact hrz0
 have g1:W1.heap[N]? = some (.cells ROW 37 (0,0)):=by rw [hW1,hN];exact YAE w.drew _
 have b1:∀ k,k<N->W1.heap[k]? = w.heap[k]? := fun k hk=>by rw [hW1];exact YAH _ _ _ (by rw [hN] at hk;exact hk)
 have s1:W1.heap.size=N+1:=by rw [hW1,hN];simp
 have hcpA:∀ ty dc,(Builtin.copy_ #[53,31] ty #[.slice (some ⟨N,i*8,none⟩) (n+m-i) dc,.slice (some ⟨vb,0,none⟩) m 1]).run Tryz.prog W1=.ok (goInt (Nat.min m (n+m-i))) (W1.setRow N (ROW.toList.take (i*8)++encP r++ROW.toList.drop (i*8+(encP r).length)).toArray):=fun ty dc=>
  ZaT W1 53 31 ty 37 N (i*8) (n+m-i) dc ⟨vb,0,none⟩ m 1 8 ROW 37 (encP r) hui hsz g1
   (by rw [hRl];have:Nat.min m (n+m-i)=m:=YAQ (by omega);omega) (fun j u hj=>by
    rw [add8,Nat.zero_add];simp only [World.cell?];rw [b1 vb (by omega),hvb];simpa using hj) (by rw [hRl,hRs];omega) hr1
 obtain⟨c1,hc1⟩:∃ c1,c1=ROW.toList.take (i*8)++encP r++ROW.toList.drop (i*8+(encP r).length):=⟨_,rfl⟩;rw [<-hc1] at hcpA;have hc1l:c1.length=G*8:=by
  rw [hc1];simp only [YAN,YAV,YAi,Array.length_toList,hRs,hRl];omega
 have hc1t:c1.take ((i+m)*8)=flat encP (ps.take i)++encP r:=by
  rw [hc1,hRt];rw [List.take_append_of_le_length (by simp only [YAN,hAl,hRl];omega),YAL (by simp only [YAN,hAl,hRl];omega)]
 obtain⟨W2,hW2⟩:∃ W2,W2=W1.setRow N c1.toArray:=⟨_,rfl⟩;rw [<-hW2] at hcpA;have g2:W2.heap[N]? = some (.cells c1.toArray 37 (0,0)):=by rw [hW2];exact setRow_heap W1 N ROW _ 37 _ g1
 have b2:∀ k,k<N->W2.heap[k]? = w.heap[k]? := fun k hk=>by rw [hW2,setRow_other W1 N k _ (by omega)];exact b1 k hk
 have s2:W2.heap.size=N+1:=by rw [hW2];simpa using s1
 have hcpB0:=fun dc sc=>ZaT (P:=Tryz.prog) W2.drew 53 53 3 37 N ((i+m)*8) (n+m-(i+m)) dc ⟨g,i*8,none⟩ (n-i) sc 8 c1.toArray 37 (flat encP (ps.drop i)) hui hsz g2
   (by rw [hD];congr 1;have:Nat.min (n-i) (n+m-(i+m))=n-i:=YAQ (by omega);omega) (fun j u hj=>by
    rw [add8];have h2:=hcellw (i*8+j) u (by rw [<-Zfx ps i (by omega),List.getElem?_drop] at hj;exact hj);simp only [World.cell?] at h2 |-
    rw [show W2.drew.heap[g]? = w.heap[g]? from b2 g (by omega)];exact h2) (by rw [hD];simp only [List.size_toArray,hc1l];omega) (Zdi _ (fun p hp=>hone p (List.mem_of_mem_drop hp)))
 obtain⟨c2,hc2⟩:∃ c2,c2=c1.take ((i+m)*8)++flat encP (ps.drop i)++c1.drop ((i+m)*8+(flat encP (ps.drop i)).length):=⟨_,rfl⟩;simp only [<-hc2] at hcpB0;obtain⟨W3,hW3⟩:∃ W3,W3=W2.drew.setRow N c2.toArray:=⟨_,rfl⟩;rw [<-hW3] at hcpB0;have g3:W3.heap[N]? = some (.cells c2.toArray 37 (0,0)):=by rw [hW3];exact setRow_heap W2.drew N c1.toArray _ 37 _ g2
 have b3:∀ k,k<N->W3.heap[k]? = w.heap[k]? := fun k hk=>by rw [hW3,setRow_other W2.drew N k _ (by omega)];exact b2 k hk
 have s3:W3.heap.size=N+1:=by rw [hW3];simpa using s2
 have hfin:W3.ownsRow base 37 8 (.slice (some ⟨N,0,none⟩) (n+m) G) (n+m) (flat encP (ps.take i++[r]++ps.drop i))/\ZgV w W3 (some g) (.slice (some ⟨N,0,none⟩) (n+m) G):=by
  refine⟨⟨?_,.inr ⟨N,G,c2.toArray,rfl,by rw [hN];exact hbase,g3,hGn,hGm,?_,?_⟩⟩,⟨⟨?_,?_,?_,by omega,fun k hk _=>b3 k (by omega)⟩,fun k hk=>.inr (Nat.le_of_eq (by rw [<-hN];simpa [Value.ownBlock] using hk))⟩⟩
  ·rw [ZaD Zay,Zhg ps r i (by omega)];omega
  ·rw [hc2,hc1t];simp only [List.size_toArray,YAN,YAi,hc1l,hD,hRl,hAl];omega
  ·rw [Zer,hc2,hc1t];exact Zb0 (by rw [hAl,hRl,hD];omega)
  ·rw [hW3,hW2,hW1];rfl
  ·rw [hW3,hW2,hW1];rfl
  ·rw [hW3,hW2,hW1];rfl
 have hz1:¬((m:Int)=0):=by omega
 have hz2:¬((i:Int)=(n:Int)):=by omega
 have hz3:(cap:Int)<(n:Int)+(m:Int):=by omega
 have hw1:IntKind.i64.wrap ((i:Int)+(m:Int))=(i:Int)+(m:Int):=by rw [IntKind.wrap_i64];omega
 have hw2:IntKind.i64.wrap ((n:Int)+(m:Int))=(n:Int)+(m:Int):=by rw [IntKind.wrap_i64];omega
 have hw3:IntKind.i64.wrap ((n:Int)+(m:Int)-(i:Int))=(n:Int)+(m:Int)-(i:Int):=by rw [IntKind.wrap_i64];omega
 have hb1:(0:Int)<=(i:Int)+(m:Int):=by omega
 have hin:i<=n:=by omega
 have htn:((i:Int)+(m:Int)).toNat=i+m:=by omega
 have hb3:(i:Int)<=(n:Int):=by omega
 have hGi:¬(G=i):=by omega
 have hGim:¬(G=i+m):=by omega
 have hci:¬(cap=i):=by omega
 have hG63:G<=9223372036854775807:=by unfold maxLen at hGm;omega
 have HD:=hide hfin;have HA:=hide hrz;have HC1:=hide hcpA;have HC2:=hide hcpB0;have mixed:Tryz.prog.follows .mixedOrders=true:=by kernel_rfl
 clear hfin hrz hcpA hcpB0 hrz0 g1 g2 g3 b1 b2 b3 s1 s2 s3 hW1 hW2 hW3 hc1 hc2 hc1l hc1t hROW hRs hRt hold hcellw hkk hik hN hG hGm hD hAl hRl hnl htk hcs hg hrow hvb hone hr1 hsz hi0 hz0 hzs hzb hm hnp
 go_enter Tryz.func79,Tryz.ntmps79
 go_wp2_with (first
  | (at_builtin;refine Lib.wpList_append_run _ rfl _ _ _ _ rfl _ _ rfl rfl _ _ (HA.out _) ?_)
  | (refine wpList_copy_runI _ rfl _ _ 53 31 rfl (.slice (some ⟨N,i*8,none⟩) (n+m-i) (G-i)) (.slice (some ⟨vb,0,none⟩) m 1) rfl rfl (HC1.out 3 (G-i)) ?_))
 go_region_law_o (refine step_copy_runI rfl _ _ 53 53 rfl (.slice (some ⟨N,(i+m)*8,none⟩) (n+m-(i+m)) (G-(i+m))) (.slice (some ⟨g,i*8,none⟩) (n-i) (cap-i)) (by simp [Act.eval,Act.put]) (by simp [Act.eval,Act.put]) (HC2.out (G-(i+m)) (cap-i)) ?_)
 go_wp2;go_ret;exact⟨_,rfl,HD.out⟩
theorem ZhP (w:World)(dT sT ty elem:TypeId)(d a:Option Addr)(dLen dCap sLen sCap sz:Nat)(hu:P.underlying dT=some (.slice elem))(hs:(P.info? elem).map (·.size)=some sz)(hn:Nat.min sLen dLen=0):
  (Builtin.copy_ #[dT,sT] ty #[.slice d dLen dCap,.slice a sLen sCap]).run P w=.ok (goInt 0) w:=by
 cases hq:P.info? elem with
 | none=>simp [hq] at hs
 | some i=>
  have hl:∀ (x:Addr),(loadCells x 0).run P w=.ok #[] w:=fun x=>by simpa using run_loadCells_list (P:=P) w x [] (by simp)
  cases d <;> cases a <;> simp [Builtin.copy_,run_underlying hu,Builtin.lenOf,Builtin.firstCells,sizeOf,typeInfo,hq,hn,storeCells,hl]
theorem ZaA {ops:Array Oper}{rest:List Oper}{o:Oper}{a:Act}{Q:Exit->Act->World->Prop}(hgd:o.guard=none)(d s:Operand)(dT sT:TypeId)
  (ho:o.op=.call { callee:=.builtin .copy,args:=#[d,s],argTypes:=#[dT,sT] }) (elem:TypeId) (sz:Nat) (hsz0:0<sz) (hu:P.underlying dT=some (.slice elem)) (hsz:(P.info? elem).map (·.size)=some sz)
  (dp sp:Option Addr) (dLen dCap sLen sCap c:Nat) (hd:a.eval d=.slice dp dLen dCap) (hs:a.eval s=.slice sp sLen sCap) (hc:Nat.min sLen dLen=c)
  (g off:Nat) (cur:List Value) (t:TypeId) (hg:w.heap[g]? = some (.cells cur.toArray t (0,0))) (cs:List Value) (hn:cs.length=c*sz)
  (hpos:0<c->dp=some ⟨g,off,none⟩/\∃ ad,sp=some ad/\∀ j v,cs[j]? = some v->w.cell? (ad.add j)=some v)
  (hfit:off+cs.length<=cur.length) (h1:∀ v∈cs,v.oneCell'=true) (B:Nat) (w0:World) (hb:Below B w0 w) (hBg:B<=g)
  (h:∀ w',Hid (w'.heap[g]? = some (.cells (splice cur off cs).toArray t (0,0)))->Below B w0 w'->wpList P ops Q rest (a.put o.dst (goInt c)) w'):
  wpList P ops Q (o::rest) a w:=by
 by_cases h0:c=0
 ·subst h0;obtain rfl:cs=[]:=YAr (by simpa using hn);refine wpList_plain hgd fun K hK=>?_;have hr:=ZhP (P:=P) w dT sT o.type elem dp sp dLen dCap sLen sCap sz hu hsz hc;refine wp_copy_runI w d s dT sT ho _ _ hd hs hr (hK _ _ (h w (show _=_ by simpa [splice] using hg) hb))
 ·obtain ⟨rfl,ad,rfl,hsrc⟩:=hpos (by omega);refine wpList_plain hgd fun K hK=>?_;have hr:=ZaT (P:=P) w dT sT o.type elem g off dLen dCap ad sLen sCap sz cur.toArray t cs hu hsz hg (by rw [hc];exact hn) hsrc (by simpa using hfit) h1;rw [hc] at hr;refine wp_copy_runI w d s dT sT ho _ _ hd hs hr (hK _ _ (h _ (show _=_ by simpa [splice] using setRow_heap w g _ _ t _ hg) (below_setRow hb hBg _)))
theorem Tryz.sizeRecS :(Tryz.prog.info? 37).map (·.size)=some 8:=by kernel_rfl
theorem ZfD {sz:Nat}(h:w.ownsRow base e sz (.slice (some ⟨g,0,none⟩) n n) n xs):∃ Z:List Value,Hid (Z.length=n*sz)/\Hid (w.heap[g]? = some (.cells Z.toArray e (0,0))):=by
 rcases h.2 with ⟨h0,_⟩ | ⟨g',cap',cur,hv,hb,hh,hnc,hcm,hcs,htk⟩
 ·cases h0
 ·cases hv;exact⟨cur.toList,hide (by simpa using hcs),hide (by simpa using hh)⟩
theorem Zi1 {W:World}{z L i m k:Nat}{Z X1 Y X2:List Value}{R:List RP}(hf:X1++(Y++X2)=flat encP R)(hR:R.length=L)(hmx:L<=maxLen)(l1:X1.length=i*8)(l2:Y.length=m*8)(l3:X2.length=k*8)(lz:Z.length=L*8)(hL:L=i+m+k)
  (hg:W.heap[z]? = some (.cells (Go.splice (Go.splice (Go.splice Z 0 X1) (i*8) Y) (i*8+m*8) X2).toArray 37 (0,0))):W.ownsRow z 37 8 (.slice (some ⟨z,0,none⟩) L L) R.length (flat encP R):=by
 rw [Go.splice_splice_splice Z X1 Y X2 (i*8) (m*8) l1 l2 (by rw [lz,l3,hL];omega),hf] at hg;have hfl:=ZaD Zay R;rw [hR];refine⟨by rw [hfl,hR],.inr ⟨z,L,_,rfl,YA _,hg,YA _,hmx,?_,?_⟩⟩
 ·simp [hfl,hR]
 ·simp [<-hR, <-hfl]
theorem ZeF {a b:Option Addr}{c m d:Nat}(h:Value.slice a n c=Value.slice b m d):a=b:=by cases h;rfl
theorem ZiF (g o q:Nat):(⟨g,o,none⟩:Addr).add q=⟨g,o+q,none⟩:=by
 simp only [Addr.add]
 split <;> simp_all
theorem Zpd {cap size:Nat}(h:w.ownsRow base e size (.slice (some ⟨g,0,none⟩) n cap) n xs):g<w.heap.size:=(h.lt g rfl).2
theorem Ze6 {cap size:Nat}(h:w.ownsRow base e size (.slice (some ⟨g,0,none⟩) n cap) n xs)(q:Nat)(x:Value)(hq:xs[q]? = some x):w.cell? ⟨g,q,none⟩=some x:=by
 rcases h.2 with ⟨h0,_⟩ | ⟨g',cap',cur,hv,hb,hh,hnc,hcm,hcs,htk⟩
 ·cases h0
 ·cases hv;rw [<-htk] at hq;have hql:=(YAD.1 hq).1;rw [YAV] at hql;rw [YAn (by omega)] at hq;simp only [World.cell?,hh];simpa using hq
theorem Zm6 (ps:List RP)(i:Nat)(h:i<=ps.length):(flat encP ps).drop (i*8)=flat encP (ps.drop i):=by
 conv=>lhs;rw [<-YAc i ps,ZaC]
 rw [List.drop_append_of_le_length (by rw [ZaD Zay];simp;omega),List.drop_of_length_le (by rw [ZaD Zay];simp;omega),List.nil_append]
theorem ZlT (v u:Value)(ps rs:List RP)(i j:Nat)(w:World)(hv:w.ownsRow 0 37 8 v ps.length (flat encP ps))(hu:w.ownsRow 0 37 8 u rs.length (flat encP rs))(hi:i<=ps.length)(hj:j<=ps.length)(hl:ps.length<=1048576)(hr:rs.length<=1048576)(h1:∀ p∈ps,∀ x∈encP p,x.oneCell'=true)(h2:∀ p∈rs,∀ x∈encP p,x.oneCell'=true):
  Calls Tryz.prog 51 #[v,.int .i64 (i:Int),.int .i64 (j:Int),u] w fun e w'=>∃ x,e=.returned x/\w'.ownsRow w.heap.size 37 8 x (ps.take i++rs++ps.drop j).length (flat encP (ps.take i++rs++ps.drop j))/\Below w.heap.size w w':=by
 obtain⟨i0,hi0,hz0,hz1,hz2⟩:=info_parts Tryz.infoRec;have hflatps:(flat encP ps).length=ps.length*8:=ZaD Zay ps;obtain⟨X1,hX1⟩:∃ X,X=flat encP (ps.take i):=⟨_,rfl⟩;obtain⟨Y,hY⟩:∃ X,X=flat encP rs:=⟨_,rfl⟩;obtain⟨X2,hX2⟩:∃ X,X=flat encP (ps.drop j):=⟨_,rfl⟩;have lX1:X1.length=i*8:=by rw [hX1,ZaD Zay];simp;omega
 have lY:Y.length=rs.length*8:=by rw [hY,ZaD Zay]
 have lX2:X2.length=(ps.length-j)*8:=by rw [hX2,ZaD Zay];simp
 have oX1:∀ x∈X1,x.oneCell'=true:=by rw [hX1];intro x hx;obtain⟨p,hp,hxp⟩:=YAp.1 hx;exact h1 p (YAj hp) x hxp
 have oY:∀ x∈Y,x.oneCell'=true:=by rw [hY];intro x hx;obtain⟨p,hp,hxp⟩:=YAp.1 hx;exact h2 p hp x hxp
 have oX2:∀ x∈X2,x.oneCell'=true:=by rw [hX2];intro x hx;obtain⟨p,hp,hxp⟩:=YAp.1 hx;exact h1 p (List.mem_of_mem_drop hp) x hxp
 have hfin:X1++(Y++X2)=flat encP (ps.take i++rs++ps.drop j):=by rw [hX1,hY,hX2,YAY,ZaC,ZaC]
 have hlen:(ps.take i++rs++ps.drop j).length=i+rs.length+(ps.length-j):=by simp;omega
 -- the cells of the three runs,wherever the walk stands
 have srcA:∀ g c,v=.slice (some ⟨g,0,none⟩) ps.length c->∀ W,Below w.heap.size w W->∀ q x,X1[q]? = some x->W.cell? ((⟨g,0,none⟩:Addr).add q)=some x:=fun g c e W hb q x hq=>by
  subst e;have hql:q<i*8:=by rw [<-lX1];exact (YAD.1 hq).1
  have h0:(flat encP ps)[q]? = some x:=by
   rw [hX1, <-Zd4 ps i hi,YAn hql] at hq;exact hq
  have hc:=Ze6 hv q x h0;rw [ZiF,Nat.zero_add];rw [hb.cell (p:=⟨g,q,none⟩) (Zpd hv)];exact hc
 have srcB:∀ g c,v=.slice (some ⟨g,0,none⟩) ps.length c->∀ W,Below w.heap.size w W->∀ q x,X2[q]? = some x->W.cell? ((⟨g,j*8,none⟩:Addr).add q)=some x:=fun g c e W hb q x hq=>by
  subst e;have h0:(flat encP ps)[j*8+q]? = some x:=by
   rw [hX2, <-Zm6 ps j hj,List.getElem?_drop] at hq;exact hq
  have hc:=Ze6 hv (j*8+q) x h0;rw [ZiF];rw [hb.cell (p:=⟨g,j*8+q,none⟩) (Zpd hv)];exact hc
 have srcC:∀ g c,u=.slice (some ⟨g,0,none⟩) rs.length c->∀ W,Below w.heap.size w W->∀ q x,Y[q]? = some x->W.cell? ((⟨g,0,none⟩:Addr).add q)=some x:=fun g c e W hb q x hq=>by
  subst e;rw [hY] at hq;have hc:=Ze6 hu q x hq;rw [ZiF,Nat.zero_add];rw [hb.cell (p:=⟨g,q,none⟩) (Zpd hu)];exact hc
 have HY0:=hide (show 0<rs.length->∃ g c,u=.slice (some ⟨g,0,none⟩) rs.length c from fun h=>by obtain ⟨g,c,e,_⟩:=Ze7 hu h;exact⟨g,c,e⟩);have HA:=hide srcA;have HB:=hide srcB;have HC:=hide srcC;have HFIN:=hide hfin;have HLEN:=hide hlen;have LX1:=hide lX1;have LY:=hide lY;have LX2:=hide lX2;have OX1:=hide oX1;have OY:=hide oY;have OX2:=hide oX2;obtain⟨ua,uc,hue⟩:=Zac hu;subst hue;obtain⟨m,hm⟩:∃ m,m=rs.length:=⟨_,rfl⟩;obtain⟨n,hn⟩:∃ n,n=ps.length:=⟨_,rfl⟩;rcases hv.2 with ⟨hv0,hn0⟩ | ⟨g,cap,cur,hve,hgb,hgh,hnc,hcm,hcs,hct⟩
 ·subst hv0;have hps:ps=[]:=by
   cases ps with
   | nil=>rfl
   | cons a l=>simp at hn0
  have hi9:i=0:=by rw [hps] at hi;simpa using hi
  have hj9:j=0:=by rw [hps] at hj;simpa using hj
  subst hi9;subst hj9;have hps0:ps.length=0:=by rw [hps];rfl
  rw [hps0] at HLEN LX2;rw [<-hm] at HC HY0 HLEN LY hr |-;clear srcA srcB srcC hfin hlen lX1 lY lX2 oX1 oY oX2 hv hu h1 h2 hX1 hY hX2 hflatps HA HB hn n hn0 hi hj hl;have HM:=hide hm;clear hm;obtain⟨R,hR⟩:∃ R,R=ps.take 0++rs++ps.drop 0:=⟨_,rfl⟩;rw [<-hR] at HFIN HLEN |-;clear hR hps0 hps;have HLEN2:=hide (show R.length=m by have:=HLEN.out;omega);have LX22:=hide (show X2.length=0*8 by have:=LX2.out;omega);clear HLEN LX2
  rename Hid (R.length=m)=>HLEN
  rename Hid (X2.length=0*8)=>LX2
  go_enter Tryz.func51,Tryz.ntmps51
  go_wp2;refine Zag (S:=(fun (_:World)=>True)) (by kernel_rfl) 13 rfl trivial (fun ops hops hHeld=>?_)
  iterate 13 (refine TK 13 ?_;try simp only [putS])
  refine wpAnyH_done (by rw [hops.out];kernel_rfl) ?_ _;clear hops ops
  go_wp2_with (first
   | (at_make;refine wpList_make_full _ rfl _ _ 31 rfl w.heap.size 37 i0 (.agg (recC Za9 (.slice none 0 0))) 8 Tryz.underlying31 hi0 hz0 hz1 .i64 .i64 _ _ (m) rfl rfl ?_ ?_ ?_ ?_ ?_ ?_;(omega);(omega);(rw [hz2];omega);(unfold maxLen;omega);(exact YA _);intro w1 ho1 hgr1;obtain⟨Z,LZ,G1⟩:=ZfD ho1;have B1:Below w.heap.size w w1:=(YAC _ _).drew.grown hgr1 (by simp) (fun k hk=>by cases hk);clear ho1 hgr1)
   | (refine ZaA rfl (.tmp 33) (.tmp 34) 31 31 rfl 37 8 (by omega) Tryz.underlying31 Tryz.sizeRecS (some ⟨w.heap.size,0,none⟩) _ (m) (m) 0 _ 0 rfl rfl (YAQ (by omega)) w.heap.size 0 Z 37 G1.out X1 (LX1.out) (fun hc=>⟨rfl,(by exfalso;omega)⟩) (by rw [LX1.out,LZ.out];omega) OX1.out w.heap.size w B1 (YA _) ?_;intro w2 G2 B2)
   | (refine ZaA rfl (.tmp 39) (.tmp 40) 31 31 rfl 37 8 (by omega) Tryz.underlying31 Tryz.sizeRecS _ _ m m m _ m rfl rfl (YAQ (by omega)) w.heap.size (0*8) _ 37 G2.out Y (LY.out) (fun hc=>⟨(by first | rfl | (exfalso;omega)),(by obtain ⟨gu,cu,eu⟩:=HY0.out hc;have ea:=ZeF eu;exact⟨_,ea,HC.out gu cu eu _ B2⟩)⟩) (by rw [Go.length_splice _ _ _ (by rw [LX1.out,LZ.out];omega),LY.out,LZ.out];omega) OY.out w.heap.size w B2 (YA _) ?_;intro w3 G3 B3)
   | (refine ZaA rfl (.tmp 45) (.tmp 46) 31 31 rfl 37 8 (by omega) Tryz.underlying31 Tryz.sizeRecS _ _ 0 0 (0) _ (0) rfl rfl (YAQ (by omega)) w.heap.size (0*8+m*8) _ 37 G3.out X2 (LX2.out) (fun hc=>⟨(by first | exact congrArg (fun o=>some (Addr.mk w.heap.size o none)) (Nat.add_mul 0 m 8) | (exfalso;omega)),(by exfalso;omega)⟩) (by rw [Go.length_splice _ _ _ (by rw [Go.length_splice _ _ _ (by rw [LX1.out,LZ.out];omega),LY.out,LZ.out];omega),Go.length_splice _ _ _ (by rw [LX1.out,LZ.out];omega),LX2.out,LZ.out];omega) OX2.out w.heap.size w B3 (YA _) ?_;intro w4 G4 B4))
  go_ret;exact⟨_,rfl,Zi1 HFIN.out (by have h9:=HLEN.out;omega) (by unfold maxLen;omega) LX1.out LY.out LX2.out LZ.out (by omega) G4.out,B4⟩
 subst hve;rw [<-hn] at HA HB HLEN LX2 hi hj hnc hl |-;rw [<-hm] at HC HY0 HLEN LY hr |-;clear srcA srcB srcC hfin hlen lX1 lY lX2 oX1 oY oX2 hv hu h1 h2 hX1 hY hX2 hct hcs hflatps hgh;have HN:=hide hn;have HM:=hide hm;clear hn hm;have hI1:(0:Int)<=(i:Int):=by omega
 have hI3:i<=cap:=by omega
 have hJ1:(0:Int)<=(j:Int):=by omega
 have hcap2:(cap:Int)<=9223372036854775807:=by unfold maxLen at hcm;omega
 clear hcm hgb;obtain⟨L,hL⟩:∃ L,L=i+m+(n-j):=⟨_,rfl⟩;have HL:=hide hL;have hLi:i<=L:=by omega
 have hLm:i+m<=L:=by omega
 have hLs:L<=3145728:=by omega
 clear hL;obtain⟨R,hR⟩:∃ R,R=ps.take i++rs++ps.drop j:=⟨_,rfl⟩;rw [<-hR] at HFIN HLEN |-;clear hR;by_cases hjn:n=j
 ·have HLEN2:=hide (show R.length=i+m by have:=HLEN.out;omega);have LX22:=hide (show X2.length=0*8 by have:=LX2.out;rw [show n-j=0 by omega] at this;exact this);have hI9:i<=n:=hi;subst hjn;clear HLEN LX2 HL hLi hLm hLs L
  rename Hid (R.length=i+m)=>HLEN
  rename Hid (X2.length=0*8)=>LX2
  by_cases hm0:m=0
  ·subst hm0
   go_enter Tryz.func51,Tryz.ntmps51
   go_wp2;refine Zag (S:=(fun (_:World)=>True)) (by kernel_rfl) 13 rfl trivial (fun ops hops hHeld=>?_)
   iterate 13 (refine TK 13 ?_;try simp only [putS])
   refine wpAnyH_done (by rw [hops.out];kernel_rfl) ?_ _;clear hops ops
   go_wp2_with (first
    | (at_make;refine wpList_make_full _ rfl _ _ 31 rfl w.heap.size 37 i0 (.agg (recC Za9 (.slice none 0 0))) 8 Tryz.underlying31 hi0 hz0 hz1 .i64 .i64 _ _ (i) rfl rfl ?_ ?_ ?_ ?_ ?_ ?_;(omega);(omega);(rw [hz2];omega);(unfold maxLen;omega);(exact YA _);intro w1 ho1 hgr1;obtain⟨Z,LZ,G1⟩:=ZfD ho1;have B1:Below w.heap.size w w1:=(YAC _ _).drew.grown hgr1 (by simp) (fun k hk=>by cases hk);clear ho1 hgr1)
    | (refine ZaA rfl (.tmp 33) (.tmp 34) 31 31 rfl 37 8 (by omega) Tryz.underlying31 Tryz.sizeRecS (some ⟨w.heap.size,0,none⟩) _ (i) (i) i _ i rfl rfl (YAQ (by omega)) w.heap.size 0 Z 37 G1.out X1 (LX1.out) (fun hc=>⟨rfl,⟨_,rfl,HA.out g cap rfl _ B1⟩⟩) (by rw [LX1.out,LZ.out];omega) OX1.out w.heap.size w B1 (YA _) ?_;intro w2 G2 B2)
    | (refine ZaA rfl (.tmp 39) (.tmp 40) 31 31 rfl 37 8 (by omega) Tryz.underlying31 Tryz.sizeRecS _ _ 0 0 0 _ 0 rfl rfl (YAQ (by omega)) w.heap.size (i*8) _ 37 G2.out Y (LY.out) (fun hc=>⟨(by first | rfl | (exfalso;omega)),(by obtain ⟨gu,cu,eu⟩:=HY0.out hc;have ea:=ZeF eu;exact⟨_,ea,HC.out gu cu eu _ B2⟩)⟩) (by rw [Go.length_splice _ _ _ (by rw [LX1.out,LZ.out];omega),LY.out,LZ.out];omega) OY.out w.heap.size w B2 (YA _) ?_;intro w3 G3 B3)
    | (refine ZaA rfl (.tmp 45) (.tmp 46) 31 31 rfl 37 8 (by omega) Tryz.underlying31 Tryz.sizeRecS _ _ 0 0 (0) _ (0) rfl rfl (YAQ (by omega)) w.heap.size (i*8+0*8) _ 37 G3.out X2 (LX2.out) (fun hc=>⟨(by first | exact congrArg (fun o=>some (Addr.mk w.heap.size o none)) (Nat.add_mul i 0 8) | (exfalso;omega)),(by exfalso;omega)⟩) (by rw [Go.length_splice _ _ _ (by rw [Go.length_splice _ _ _ (by rw [LX1.out,LZ.out];omega),LY.out,LZ.out];omega),Go.length_splice _ _ _ (by rw [LX1.out,LZ.out];omega),LX2.out,LZ.out];omega) OX2.out w.heap.size w B3 (YA _) ?_;intro w4 G4 B4))
   go_ret;exact⟨_,rfl,Zi1 HFIN.out (by have h9:=HLEN.out;omega) (by unfold maxLen;omega) LX1.out LY.out LX2.out LZ.out (by omega) G4.out,B4⟩
  ·go_enter Tryz.func51,Tryz.ntmps51
   go_wp2;refine Zag (S:=(fun (_:World)=>True)) (by kernel_rfl) 13 rfl trivial (fun ops hops hHeld=>?_)
   iterate 13 (refine TK 13 ?_;try simp only [putS])
   refine wpAnyH_done (by rw [hops.out];kernel_rfl) ?_ _;clear hops ops
   go_wp2_with (first
    | (at_make;refine wpList_make_full _ rfl _ _ 31 rfl w.heap.size 37 i0 (.agg (recC Za9 (.slice none 0 0))) 8 Tryz.underlying31 hi0 hz0 hz1 .i64 .i64 _ _ (i+m) rfl rfl ?_ ?_ ?_ ?_ ?_ ?_;(omega);(omega);(rw [hz2];omega);(unfold maxLen;omega);(exact YA _);intro w1 ho1 hgr1;obtain⟨Z,LZ,G1⟩:=ZfD ho1;have B1:Below w.heap.size w w1:=(YAC _ _).drew.grown hgr1 (by simp) (fun k hk=>by cases hk);clear ho1 hgr1)
    | (refine ZaA rfl (.tmp 33) (.tmp 34) 31 31 rfl 37 8 (by omega) Tryz.underlying31 Tryz.sizeRecS (some ⟨w.heap.size,0,none⟩) _ (i+m) (i+m) i _ i rfl rfl (YAQ (by omega)) w.heap.size 0 Z 37 G1.out X1 (LX1.out) (fun hc=>⟨rfl,⟨_,rfl,HA.out g cap rfl _ B1⟩⟩) (by rw [LX1.out,LZ.out];omega) OX1.out w.heap.size w B1 (YA _) ?_;intro w2 G2 B2)
    | (refine ZaA rfl (.tmp 39) (.tmp 40) 31 31 rfl 37 8 (by omega) Tryz.underlying31 Tryz.sizeRecS _ _ m m m _ m rfl rfl (YAQ (by omega)) w.heap.size (i*8) _ 37 G2.out Y (LY.out) (fun hc=>⟨(by first | rfl | (exfalso;omega)),(by obtain ⟨gu,cu,eu⟩:=HY0.out hc;have ea:=ZeF eu;exact⟨_,ea,HC.out gu cu eu _ B2⟩)⟩) (by rw [Go.length_splice _ _ _ (by rw [LX1.out,LZ.out];omega),LY.out,LZ.out];omega) OY.out w.heap.size w B2 (YA _) ?_;intro w3 G3 B3)
    | (refine ZaA rfl (.tmp 45) (.tmp 46) 31 31 rfl 37 8 (by omega) Tryz.underlying31 Tryz.sizeRecS _ _ (i+m-(i+m)) (i+m-(i+m)) (0) _ (0) rfl rfl (YAQ (by omega)) w.heap.size (i*8+m*8) _ 37 G3.out X2 (LX2.out) (fun hc=>⟨(by first | exact congrArg (fun o=>some (Addr.mk w.heap.size o none)) (Nat.add_mul i m 8) | (exfalso;omega)),(by exfalso;omega)⟩) (by rw [Go.length_splice _ _ _ (by rw [Go.length_splice _ _ _ (by rw [LX1.out,LZ.out];omega),LY.out,LZ.out];omega),Go.length_splice _ _ _ (by rw [LX1.out,LZ.out];omega),LX2.out,LZ.out];omega) OX2.out w.heap.size w B3 (YA _) ?_;intro w4 G4 B4))
   go_ret;exact⟨_,rfl,Zi1 HFIN.out (by have h9:=HLEN.out;omega) (by unfold maxLen;omega) LX1.out LY.out LX2.out LZ.out (by omega) G4.out,B4⟩
 have hne1:¬L=i:=by have:=HL.out;omega
 have hne2:¬L=i+m:=by have:=HL.out;omega
 go_enter Tryz.func51,Tryz.ntmps51
 go_wp2;refine Zag (S:=(fun (_:World)=>True)) (by kernel_rfl) 13 rfl trivial (fun ops hops hHeld=>?_)
 iterate 13 (refine TK 13 ?_;try simp only [putS])
 refine wpAnyH_done (by rw [hops.out];kernel_rfl) ?_ _;clear hops ops
 go_wp2_with (first
  | (at_make;refine wpList_make_full _ rfl _ _ 31 rfl w.heap.size 37 i0 (.agg (recC Za9 (.slice none 0 0))) 8 Tryz.underlying31 hi0 hz0 hz1 .i64 .i64 _ _ (L) rfl rfl ?_ ?_ ?_ ?_ ?_ ?_;(have hh:=HL.out;omega);(have hh:=HL.out;omega);(rw [hz2];omega);(unfold maxLen;omega);(exact YA _);intro w1 ho1 hgr1;obtain⟨Z,LZ,G1⟩:=ZfD ho1;have B1:Below w.heap.size w w1:=(YAC _ _).drew.grown hgr1 (by simp) (fun k hk=>by cases hk);clear ho1 hgr1)
  | (refine ZaA rfl (.tmp 33) (.tmp 34) 31 31 rfl 37 8 (by omega) Tryz.underlying31 Tryz.sizeRecS (some ⟨w.heap.size,0,none⟩) _ (L) (L) i _ i rfl rfl (YAQ (by omega)) w.heap.size 0 Z 37 G1.out X1 (LX1.out) (fun hc=>⟨rfl,⟨_,rfl,HA.out g cap rfl _ B1⟩⟩) (by rw [LX1.out,LZ.out];omega) OX1.out w.heap.size w B1 (YA _) ?_;intro w2 G2 B2)
  | (refine ZaA rfl (.tmp 39) (.tmp 40) 31 31 rfl 37 8 (by omega) Tryz.underlying31 Tryz.sizeRecS _ _ (L-i) (L-i) m _ m rfl rfl (YAQ (by have hh:=HL.out;omega)) w.heap.size (i*8) _ 37 G2.out Y (LY.out) (fun hc=>⟨(by first | rfl | (exfalso;have hh:=HL.out;omega)),(by obtain ⟨gu,cu,eu⟩:=HY0.out hc;have ea:=ZeF eu;exact⟨_,ea,HC.out gu cu eu _ B2⟩)⟩) (by rw [Go.length_splice _ _ _ (by rw [LX1.out,LZ.out];omega),LY.out,LZ.out];have hh:=HL.out;omega) OY.out w.heap.size w B2 (YA _) ?_;intro w3 G3 B3)
  | (refine ZaA rfl (.tmp 45) (.tmp 46) 31 31 rfl 37 8 (by omega) Tryz.underlying31 Tryz.sizeRecS _ _ (L-(i+m)) (L-(i+m)) (n-j) _ (n-j) rfl rfl (YAQ (by have hh:=HL.out;omega)) w.heap.size (i*8+m*8) _ 37 G3.out X2 (LX2.out) (fun hc=>⟨(by first | exact congrArg (fun o=>some (Addr.mk w.heap.size o none)) (Nat.add_mul i m 8) | (exfalso;have hh:=HL.out;omega)),⟨_,rfl,HB.out g cap rfl _ B3⟩⟩) (by rw [Go.length_splice _ _ _ (by rw [Go.length_splice _ _ _ (by rw [LX1.out,LZ.out];omega),LY.out,LZ.out];have hh:=HL.out;omega),Go.length_splice _ _ _ (by rw [LX1.out,LZ.out];omega),LX2.out,LZ.out];have hh:=HL.out;omega) OX2.out w.heap.size w B3 (YA _) ?_;intro w4 G4 B4))
 go_ret;exact⟨_,rfl,Zi1 HFIN.out (by have hh:=HL.out;have h9:=HLEN.out;omega) (by unfold maxLen;omega) LX1.out LY.out LX2.out LZ.out (by have hh:=HL.out;omega) G4.out,B4⟩
theorem Zrb (cur D R:List Value)(a d:Nat)(hD:D.length=d)(hR:R.length=3)(hc:a+3+d<=cur.length):
  ((cur.take (a+3)++D++cur.drop (a+3+D.length)).take a++R++(cur.take (a+3)++D++cur.drop (a+3+D.length)).drop (a+R.length))=cur.take a++R++D++cur.drop (a+3+d):=by
 have e1:(cur.take (a+3)++D++cur.drop (a+3+D.length)).take a=cur.take a:=by
  rw [YAY,List.take_append_of_le_length (by simp;omega),List.take_take,YAQ (by omega)]
 have e2:(cur.take (a+3)++D++cur.drop (a+3+D.length)).drop (a+R.length)=D++cur.drop (a+3+d):=by
  rw [hR,YAY,List.drop_append_of_le_length (by simp;omega),List.drop_of_length_le (by simp;omega),List.nil_append,hD]
 rw [e1,e2,YAY,YAY,YAY]
theorem Zh3 (ps:List WP)(i:Nat)(h:i<=ps.length):(flat encW ps).take (i*3)=flat encW (ps.take i):=by
 conv=>lhs;rw [<-YAc i ps,ZaC]
 have e:(flat encW (ps.take i)).length=i*3:=by rw [ZaD Zbg,YAV,YAQ h]
 rw [<-e,List.take_left]
theorem Zh2 (ps:List WP)(i:Nat)(h:i<=ps.length):(flat encW ps).drop (i*3)=flat encW (ps.drop i):=by
 conv=>lhs;rw [<-YAc i ps,ZaC]
 have e:(flat encW (ps.take i)).length=i*3:=by rw [ZaD Zbg,YAV,YAQ h]
 rw [<-e,List.drop_left]
theorem Zoj (r:WP):flat encW [r]=encW r:=by simp [flat]
theorem Zha (ps:List WP)(r:WP)(i:Nat):flat encW (ps.take i++[r]++ps.drop i)=flat encW (ps.take i)++encW r++flat encW (ps.drop i):=by
 rw [ZaC,ZaC,Zoj]
theorem Zjb (ps:List WP)(r:WP)(i:Nat)(h:i<=ps.length):(ps.take i++[r]++ps.drop i).length=ps.length+1:=by
 simp;omega
theorem Zfw (ps:List WP)(h:∀ p∈ps,∃ a n c,p.2=.slice a n c):∀ u∈flat encW ps,u.oneCell'=true:=by
 intro u hu;simp only [flat,YAp] at hu;obtain⟨p,hp,hu⟩:=hu;obtain⟨a,n,c,e⟩:=h p hp;obtain⟨x,v⟩:=p;simp only at e;subst e;exact Zdh x a n c u hu
end Go.Proofs.YtikloccefmofdaaGreat
