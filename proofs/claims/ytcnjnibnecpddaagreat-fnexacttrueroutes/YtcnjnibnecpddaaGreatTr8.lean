/-
  Parts.
-/
import Derived.Test.YtcnjnibnecpddaaGreatTr6
import Derived.Test.YtcnjnibnecpddaaGreatTr7
import Derived.Laws.CopyOwn
namespace Go.Proofs.YtcnjnibnecpddaaGreat
open Go.RowKit
set_option linter.unusedSimpArgs false
set_option linter.unusedVariables false
set_option maxRecDepth 100000
set_option maxHeartbeats 8000000
variable {C:Array Value}{xs:List Value}{base g lo n z:Nat}{q:Nat->Nat}{wv:Nat->Value}{wd:Nat->WayD}{P:Program}{e:TypeId}{u:Value}{W W' w:World}
theorem ZpM {xs:List RecD}{k:Nat}(hk:k<xs.length)(h:Zcm ordR xs k=false):ZaA xs=false:=by unfold ZaA ascB;rw [ZaW hk h];simp
theorem Zdx (v:Value)(ps:List RP)(w:World)(hn:tot ps<=1048576)(hv:ZbG w v ps w.heap.size):
  Calls Tryz.prog 25 #[v] w fun e w'=>e=.returned (.bool (ZaA (fsts ps)))/\T_ w w':=by
 have hnl:=Zby ps;obtain⟨a,cap,rfl⟩:=hv.shape;have HV:=hide hv;clear hv;have hfl:(fsts ps).length=ps.length:=by simp [fsts]
 by_cases hlong:(150:Int)<(ps.length:Int)
 ·have HF:=hide (ZiC (xs:=fsts ps) (by omega));clear hfl
  go_enter Tryz.func25,Tryz.ntmps25
  go_wp2;go_ret;exact⟨Zai HF,YAC _ _⟩
 have HFL:=hide hfl;clear hfl
 go_enter Tryz.func25,Tryz.ntmps25
 go_wp2
 go_loopw [3] (fun i wr=>∃ k:Nat,k<=ps.length/\i=M k/\(∀ j,j<k->okAt Za2 (fsts ps) j=true)/\(∀ j,j<k->Zcm ordR (fsts ps) j=true)/\T_ w wr) (fun i _=>ps.length-(intOf i).toNat)
 case atStart=>exact ⟨0,by omega,rfl,by omega,by omega,YAC _ _⟩
 case round=>
  obtain⟨k,hk,rfl,hall,hasc,hnx⟩:=hrel;have HALL:=hide hall;have HASC:=hide hasc;clear hall hasc;have hsz:=hnx.size;by_cases hlt:k<ps.length
  ·obtain ⟨l,hl⟩:∃ p,ps[k]? = some p:=⟨ps[k],YAA hlt⟩;obtain⟨b,off,cap',hve,hbb,c0,c1,c2,c3,c4,c5,c6,c7,hnr⟩:=HV.out.cells k l hl;cases hve;replace c0:=(hnx.cell hbb).trans c0;replace c1:=(hnx.cell hbb).trans c1;replace c2:=(hnx.cell hbb).trans c2;replace c3:=(hnx.cell hbb).trans c3;replace c4:=(hnx.cell hbb).trans c4;replace c5:=(hnx.cell hbb).trans c5;replace c6:=(hnx.cell hbb).trans c6;replace c7:=(hnx.cell hbb).trans c7;have HOK:=hide (fun W (hb:T_ w W)=>ZnY l.2 l.1 W (by have:=ZhQ (YAH hl);omega) ((Zaw.later hnr hb (YA _)).more hb.size));unfold recC at HOK;have HAT1:=hide (ZcE (ok:=Za2) (Zbq hl));obtain⟨qo,hqo⟩:∃ q,q=Za2 l.1:=⟨_,rfl⟩;rw [<-hqo] at HOK HAT1;have HL:=hide (Zbq hl);clear hqo hl hnr;have hbr:b<wr.heap.size:=by omega
   have hki:(0:Int)<=(k:Int):=by omega
   have hkj:(k:Int)<(ps.length:Int):=by omega
   have hnd:T_ w wr.drew:=hnx.drew;cases qo
   ·have HF:=hide (ZkE (by rw [HFL.out];exact hlt) HAT1);go_wp2;refine Zah (S:=(fun W=>W.cell? (U b (off+k*8))=some (M l.1.area)/\W.cell? (U b (off+k*8+1))=some (M l.1.kind)/\W.cell? (U b (off+k*8+2))=some (M l.1.owner)/\W.cell? (U b (off+k*8+3))=some (M l.1.key)/\W.cell? (U b (off+k*8+4))=some (M l.1.seq)/\W.cell? (U b (off+k*8+5))=some (l.2)/\W.cell? (U b (off+k*8+6))=some (M l.1.cost)/\W.cell? (U b (off+k*8+7))=some (.bool l.1.far))) (by kernel_rfl) 23 rfl ⟨c0,c1,c2,c3,c4,c5,c6,c7⟩ (fun ops hops hHeld=>?_)
    iterate 4 (refine TK 23 ?_;try simp only [putS])
    refine TC 4 ?_;intro K hK;go_simp;refine (HOK _ hnd).mono ?_;rintro e w1 ⟨rfl,b1⟩;have hSn:_/\_:=(show ((fun W=>W.cell? (U b (off+k*8))=some (M l.1.area)/\W.cell? (U b (off+k*8+1))=some (M l.1.kind)/\W.cell? (U b (off+k*8+2))=some (M l.1.owner)/\W.cell? (U b (off+k*8+3))=some (M l.1.key)/\W.cell? (U b (off+k*8+4))=some (M l.1.seq)/\W.cell? (U b (off+k*8+5))=some (l.2)/\W.cell? (U b (off+k*8+6))=some (M l.1.cost)/\W.cell? (U b (off+k*8+7))=some (.bool l.1.far))) w1 from by
     obtain⟨m0,m1,m2,m3,m4,m5,m6,m7⟩:=hHeld;refine⟨?_,?_,?_,?_,?_,?_,?_,?_⟩ <;> (refine (b1.cell ?_).trans ?_ <;> assumption))
    refine hK _ _ hSn (fun hHeld=>?_);clear hK K hSn
    try simp only [putS]
    iterate 2 (refine TK 23 ?_;try simp only [putS])
    iterate 15 (refine TS 23 ?_;try simp only [putS])
    refine TK 23 ?_
    try simp only [putS]
    refine wpAnyH_done (by rw [hops.out];kernel_rfl) ?_ _;clear hops ops;go_wp2;go_ret;exact⟨Zai HF,hnd.trans (b1.mono hsz)⟩
   by_cases hk0:k=0
   ·have hk1:¬(0:Int)<(k:Int):=by omega
    have HAT2:=hide (show Zcm ordR (fsts ps) k=true by rw [hk0];rfl);clear hk0;go_wp2;refine Zah (S:=(fun W=>W.cell? (U b (off+k*8))=some (M l.1.area)/\W.cell? (U b (off+k*8+1))=some (M l.1.kind)/\W.cell? (U b (off+k*8+2))=some (M l.1.owner)/\W.cell? (U b (off+k*8+3))=some (M l.1.key)/\W.cell? (U b (off+k*8+4))=some (M l.1.seq)/\W.cell? (U b (off+k*8+5))=some (l.2)/\W.cell? (U b (off+k*8+6))=some (M l.1.cost)/\W.cell? (U b (off+k*8+7))=some (.bool l.1.far))) (by kernel_rfl) 23 rfl ⟨c0,c1,c2,c3,c4,c5,c6,c7⟩ (fun ops hops hHeld=>?_)
    iterate 4 (refine TK 23 ?_;try simp only [putS])
    refine TC 4 ?_;intro K hK;go_simp;refine (HOK _ hnd).mono ?_;rintro e w1 ⟨rfl,b1⟩;have hSn:_/\_:=(show ((fun W=>W.cell? (U b (off+k*8))=some (M l.1.area)/\W.cell? (U b (off+k*8+1))=some (M l.1.kind)/\W.cell? (U b (off+k*8+2))=some (M l.1.owner)/\W.cell? (U b (off+k*8+3))=some (M l.1.key)/\W.cell? (U b (off+k*8+4))=some (M l.1.seq)/\W.cell? (U b (off+k*8+5))=some (l.2)/\W.cell? (U b (off+k*8+6))=some (M l.1.cost)/\W.cell? (U b (off+k*8+7))=some (.bool l.1.far))) w1 from by
     obtain⟨m0,m1,m2,m3,m4,m5,m6,m7⟩:=hHeld;refine⟨?_,?_,?_,?_,?_,?_,?_,?_⟩ <;> (refine (b1.cell ?_).trans ?_ <;> assumption))
    refine hK _ _ hSn (fun hHeld=>?_);clear hK K hSn
    try simp only [putS]
    iterate 3 (refine TK 23 ?_;try simp only [putS])
    refine TK 23 (v:=.bool false) ?_ (hy:=by intro W hW;(try dsimp only at hW);go_simp <;> (first | with_reducible rfl | (simp;omega) | omega))
    try simp only [putS]
    refine TK 23 ?_
    try simp only [putS]
    iterate 11 (refine TS 23 ?_;try simp only [putS])
    iterate 2 (refine TK 23 ?_;try simp only [putS])
    refine wpAnyH_done (by rw [hops.out];kernel_rfl) ?_ _;clear hops ops;go_wp2;exact⟨⟨k+1,by omega,by go_num,ZaT HALL HAT1,ZaT HASC HAT2,hnd.trans (b1.mono hsz)⟩,by simp [intOf];omega⟩
   ·obtain ⟨j,hj⟩:∃ j,k=j+1:=⟨k-1,by omega⟩;obtain⟨p,hp⟩:∃ p,ps[j]? = some p:=⟨ps[j],YAA (by omega)⟩;obtain⟨b',off',cap2,hve2,hbb2,d0,d1,d2,d3,d4,d5,d6,d7,_⟩:=HV.out.cells j p hp;cases hve2;replace d0:=(hnx.cell hbb).trans d0;replace d1:=(hnx.cell hbb).trans d1;replace d2:=(hnx.cell hbb).trans d2;replace d3:=(hnx.cell hbb).trans d3;replace d4:=(hnx.cell hbb).trans d4;replace d5:=(hnx.cell hbb).trans d5;replace d6:=(hnx.cell hbb).trans d6;replace d7:=(hnx.cell hbb).trans d7;have hat2:Zcm ordR (fsts ps) k=decide (ordR p.1 l.1<0):=by rw [hj];exact Zb9 (Zbq hp) (by rw [<-hj];exact HL)
    rw [ZgK] at hat2;have hj1:(k:Int)-1=(j:Int):=by omega
    have hj2:(0:Int)<=(j:Int):=by omega
    have hj3:(j:Int)<(ps.length:Int):=by omega
    have hj4:(0:Int)<(k:Int):=by omega
    have hj5:IntKind.i64.wrap (j:Int)=(j:Int):=ZaN _ (by omega) (by omega);have HBF:=hide (fun W=>Zfp p.2 l.2 p.1 l.1 W);unfold recC at HBF;obtain⟨qb,hqb⟩:∃ q,q=Zam p.1 l.1:=⟨_,rfl⟩;rw [<-hqb] at HBF hat2;have HAT2:=hide hat2;clear hqb hp hat2 hj hk0 hbb2;cases qb
    ·have HF:=hide (ZpM (by rw [HFL.out];exact hlt) HAT2);go_wp2;refine Zah (S:=(fun W=>W.cell? (U b (off+k*8))=some (M l.1.area)/\W.cell? (U b (off+k*8+1))=some (M l.1.kind)/\W.cell? (U b (off+k*8+2))=some (M l.1.owner)/\W.cell? (U b (off+k*8+3))=some (M l.1.key)/\W.cell? (U b (off+k*8+4))=some (M l.1.seq)/\W.cell? (U b (off+k*8+5))=some (l.2)/\W.cell? (U b (off+k*8+6))=some (M l.1.cost)/\W.cell? (U b (off+k*8+7))=some (.bool l.1.far)/\W.cell? (U b (off+j*8))=some (M p.1.area)/\W.cell? (U b (off+j*8+1))=some (M p.1.kind)/\W.cell? (U b (off+j*8+2))=some (M p.1.owner)/\W.cell? (U b (off+j*8+3))=some (M p.1.key)/\W.cell? (U b (off+j*8+4))=some (M p.1.seq)/\W.cell? (U b (off+j*8+5))=some (p.2)/\W.cell? (U b (off+j*8+6))=some (M p.1.cost)/\W.cell? (U b (off+j*8+7))=some (.bool p.1.far))) (by kernel_rfl) 23 rfl ⟨c0,c1,c2,c3,c4,c5,c6,c7,d0,d1,d2,d3,d4,d5,d6,d7⟩ (fun ops hops hHeld=>?_)
     iterate 4 (refine TK 23 ?_;try simp only [putS])
     refine TC 4 ?_;intro K hK;go_simp;refine (HOK _ hnd).mono ?_;rintro e w1 ⟨rfl,b1⟩;have hSn:_/\_:=(show ((fun W=>W.cell? (U b (off+k*8))=some (M l.1.area)/\W.cell? (U b (off+k*8+1))=some (M l.1.kind)/\W.cell? (U b (off+k*8+2))=some (M l.1.owner)/\W.cell? (U b (off+k*8+3))=some (M l.1.key)/\W.cell? (U b (off+k*8+4))=some (M l.1.seq)/\W.cell? (U b (off+k*8+5))=some (l.2)/\W.cell? (U b (off+k*8+6))=some (M l.1.cost)/\W.cell? (U b (off+k*8+7))=some (.bool l.1.far)/\W.cell? (U b (off+j*8))=some (M p.1.area)/\W.cell? (U b (off+j*8+1))=some (M p.1.kind)/\W.cell? (U b (off+j*8+2))=some (M p.1.owner)/\W.cell? (U b (off+j*8+3))=some (M p.1.key)/\W.cell? (U b (off+j*8+4))=some (M p.1.seq)/\W.cell? (U b (off+j*8+5))=some (p.2)/\W.cell? (U b (off+j*8+6))=some (M p.1.cost)/\W.cell? (U b (off+j*8+7))=some (.bool p.1.far))) w1 from by
      obtain⟨m0,m1,m2,m3,m4,m5,m6,m7,n0,n1,n2,n3,n4,n5,n6,n7⟩:=hHeld;refine⟨?_,?_,?_,?_,?_,?_,?_,?_,?_,?_,?_,?_,?_,?_,?_,?_⟩ <;> (refine (b1.cell ?_).trans ?_ <;> assumption))
     refine hK _ _ hSn (fun hHeld=>?_);clear hK K hSn
     try simp only [putS]
     have hbr:b<w1.heap.size:=YAB hbr b1.size
     iterate 3 (refine TK 23 ?_;try simp only [putS])
     refine TK 23 (v:=.bool true) ?_ (hy:=by intro W hW;(try dsimp only at hW);go_simp <;> (first | with_reducible rfl | (simp;omega) | omega))
     try simp only [putS]
     iterate 10 (refine TK 23 ?_;try simp only [putS])
     refine TC 19 ?_;intro K hK;go_simp;refine (HBF _).mono ?_;rintro e w2 ⟨rfl,b2⟩;have hSn:_/\_:=(show ((fun W=>W.cell? (U b (off+k*8))=some (M l.1.area)/\W.cell? (U b (off+k*8+1))=some (M l.1.kind)/\W.cell? (U b (off+k*8+2))=some (M l.1.owner)/\W.cell? (U b (off+k*8+3))=some (M l.1.key)/\W.cell? (U b (off+k*8+4))=some (M l.1.seq)/\W.cell? (U b (off+k*8+5))=some (l.2)/\W.cell? (U b (off+k*8+6))=some (M l.1.cost)/\W.cell? (U b (off+k*8+7))=some (.bool l.1.far)/\W.cell? (U b (off+j*8))=some (M p.1.area)/\W.cell? (U b (off+j*8+1))=some (M p.1.kind)/\W.cell? (U b (off+j*8+2))=some (M p.1.owner)/\W.cell? (U b (off+j*8+3))=some (M p.1.key)/\W.cell? (U b (off+j*8+4))=some (M p.1.seq)/\W.cell? (U b (off+j*8+5))=some (p.2)/\W.cell? (U b (off+j*8+6))=some (M p.1.cost)/\W.cell? (U b (off+j*8+7))=some (.bool p.1.far))) w2 from by
      obtain⟨m0,m1,m2,m3,m4,m5,m6,m7,n0,n1,n2,n3,n4,n5,n6,n7⟩:=hHeld;refine⟨?_,?_,?_,?_,?_,?_,?_,?_,?_,?_,?_,?_,?_,?_,?_,?_⟩ <;> (refine (b2.cell ?_).trans ?_ <;> assumption))
     refine hK _ _ hSn (fun hHeld=>?_);clear hK K hSn
     try simp only [putS]
     iterate 3 (refine TK 23 ?_;try simp only [putS])
     refine wpAnyH_done (by rw [hops.out];kernel_rfl) ?_ _;clear hops ops;go_wp2;go_ret;exact⟨Zai HF,(hnd.trans (b1.mono hsz)).trans (b2.mono (by have:=b1.size;have:wr.drew.heap.size=wr.heap.size:=rfl;omega))⟩
    ·go_wp2;refine Zah (S:=(fun W=>W.cell? (U b (off+k*8))=some (M l.1.area)/\W.cell? (U b (off+k*8+1))=some (M l.1.kind)/\W.cell? (U b (off+k*8+2))=some (M l.1.owner)/\W.cell? (U b (off+k*8+3))=some (M l.1.key)/\W.cell? (U b (off+k*8+4))=some (M l.1.seq)/\W.cell? (U b (off+k*8+5))=some (l.2)/\W.cell? (U b (off+k*8+6))=some (M l.1.cost)/\W.cell? (U b (off+k*8+7))=some (.bool l.1.far)/\W.cell? (U b (off+j*8))=some (M p.1.area)/\W.cell? (U b (off+j*8+1))=some (M p.1.kind)/\W.cell? (U b (off+j*8+2))=some (M p.1.owner)/\W.cell? (U b (off+j*8+3))=some (M p.1.key)/\W.cell? (U b (off+j*8+4))=some (M p.1.seq)/\W.cell? (U b (off+j*8+5))=some (p.2)/\W.cell? (U b (off+j*8+6))=some (M p.1.cost)/\W.cell? (U b (off+j*8+7))=some (.bool p.1.far))) (by kernel_rfl) 23 rfl ⟨c0,c1,c2,c3,c4,c5,c6,c7,d0,d1,d2,d3,d4,d5,d6,d7⟩ (fun ops hops hHeld=>?_)
     iterate 4 (refine TK 23 ?_;try simp only [putS])
     refine TC 4 ?_;intro K hK;go_simp;refine (HOK _ hnd).mono ?_;rintro e w1 ⟨rfl,b1⟩;have hSn:_/\_:=(show ((fun W=>W.cell? (U b (off+k*8))=some (M l.1.area)/\W.cell? (U b (off+k*8+1))=some (M l.1.kind)/\W.cell? (U b (off+k*8+2))=some (M l.1.owner)/\W.cell? (U b (off+k*8+3))=some (M l.1.key)/\W.cell? (U b (off+k*8+4))=some (M l.1.seq)/\W.cell? (U b (off+k*8+5))=some (l.2)/\W.cell? (U b (off+k*8+6))=some (M l.1.cost)/\W.cell? (U b (off+k*8+7))=some (.bool l.1.far)/\W.cell? (U b (off+j*8))=some (M p.1.area)/\W.cell? (U b (off+j*8+1))=some (M p.1.kind)/\W.cell? (U b (off+j*8+2))=some (M p.1.owner)/\W.cell? (U b (off+j*8+3))=some (M p.1.key)/\W.cell? (U b (off+j*8+4))=some (M p.1.seq)/\W.cell? (U b (off+j*8+5))=some (p.2)/\W.cell? (U b (off+j*8+6))=some (M p.1.cost)/\W.cell? (U b (off+j*8+7))=some (.bool p.1.far))) w1 from by
      obtain⟨m0,m1,m2,m3,m4,m5,m6,m7,n0,n1,n2,n3,n4,n5,n6,n7⟩:=hHeld;refine⟨?_,?_,?_,?_,?_,?_,?_,?_,?_,?_,?_,?_,?_,?_,?_,?_⟩ <;> (refine (b1.cell ?_).trans ?_ <;> assumption))
     refine hK _ _ hSn (fun hHeld=>?_);clear hK K hSn
     try simp only [putS]
     have hbr:b<w1.heap.size:=YAB hbr b1.size
     iterate 3 (refine TK 23 ?_;try simp only [putS])
     refine TK 23 (v:=.bool true) ?_ (hy:=by intro W hW;(try dsimp only at hW);go_simp <;> (first | with_reducible rfl | (simp;omega) | omega))
     try simp only [putS]
     iterate 10 (refine TK 23 ?_;try simp only [putS])
     refine TC 19 ?_;intro K hK;go_simp;refine (HBF _).mono ?_;rintro e w2 ⟨rfl,b2⟩;have hSn:_/\_:=(show ((fun W=>W.cell? (U b (off+k*8))=some (M l.1.area)/\W.cell? (U b (off+k*8+1))=some (M l.1.kind)/\W.cell? (U b (off+k*8+2))=some (M l.1.owner)/\W.cell? (U b (off+k*8+3))=some (M l.1.key)/\W.cell? (U b (off+k*8+4))=some (M l.1.seq)/\W.cell? (U b (off+k*8+5))=some (l.2)/\W.cell? (U b (off+k*8+6))=some (M l.1.cost)/\W.cell? (U b (off+k*8+7))=some (.bool l.1.far)/\W.cell? (U b (off+j*8))=some (M p.1.area)/\W.cell? (U b (off+j*8+1))=some (M p.1.kind)/\W.cell? (U b (off+j*8+2))=some (M p.1.owner)/\W.cell? (U b (off+j*8+3))=some (M p.1.key)/\W.cell? (U b (off+j*8+4))=some (M p.1.seq)/\W.cell? (U b (off+j*8+5))=some (p.2)/\W.cell? (U b (off+j*8+6))=some (M p.1.cost)/\W.cell? (U b (off+j*8+7))=some (.bool p.1.far))) w2 from by
      obtain⟨m0,m1,m2,m3,m4,m5,m6,m7,n0,n1,n2,n3,n4,n5,n6,n7⟩:=hHeld;refine⟨?_,?_,?_,?_,?_,?_,?_,?_,?_,?_,?_,?_,?_,?_,?_,?_⟩ <;> (refine (b2.cell ?_).trans ?_ <;> assumption))
     refine hK _ _ hSn (fun hHeld=>?_);clear hK K hSn
     try simp only [putS]
     iterate 3 (refine TK 23 ?_;try simp only [putS])
     refine wpAnyH_done (by rw [hops.out];kernel_rfl) ?_ _;clear hops ops;go_wp2;exact⟨⟨k+1,by omega,by go_num,ZaT HALL HAT1,ZaT HASC HAT2,(hnd.trans (b1.mono hsz)).trans (b2.mono (by have:=b1.size;have:wr.drew.heap.size=wr.heap.size:=rfl;omega))⟩,by simp [intOf];omega⟩
  ·have e1:ZbV Za2 (fsts ps)=true:=Zbi fun i hi=>HALL i (by have:=HFL.out;omega);have e3:ascB ordR (fsts ps)=true:=Zbi fun i hi=>HASC i (by have:=HFL.out;omega);have e2:ZaA (fsts ps)=true:=by
    unfold ZaA;rw [e1,e3,YAc (by have:=HFL.out;omega)];rfl
   have HE:=hide e2;clear e1 e2 e3;go_wp2;go_ret;exact⟨Zai HE,hnx⟩
def ltAt (xs:List RecD)(r:RecD)(t:Nat):Prop:=∃ x,xs[t]? = some x/\ordR x r<0
theorem Zdc {xs:List RecD}{r x:RecD}{t:Nat}(h:xs[t]? = some x):ltAt xs r t↔ordR x r<0:=by
 constructor
 ·rintro ⟨y,hy,hl⟩;rw [h] at hy;cases hy;exact hl
 ·exact fun hl=>⟨x,h,hl⟩
theorem Ziy (v:Value)(ps:List RP)(hi:Nat)(r:RP)(w:World)(hv:RecsIn w hi v ps)(hhi:hi<=w.heap.size)(hn:tot ps<=1048576)(hr:ZaH w 0 hi r)(hmono:∀ s t,s<=t->t<ps.length->ltAt (fsts ps) r.1 t->ltAt (fsts ps) r.1 s):
  Calls Tryz.prog 190 #[v,.agg (recC r.1 r.2),.func (.func 132) #[] #[]] w fun e w'=>∃ (i:Nat) (f:Bool),e=.returned (.tuple #[M (i:Int),.bool f])/\i<=ps.length/\(∀ t,t<i->ltAt (fsts ps) r.1 t)/\(∀ t,i<=t->t<ps.length->¬ltAt (fsts ps) r.1 t)/\(f=true↔∃ x,(fsts ps)[i]? = some x/\ordR x r.1=0)/\T_ w w':=by
 have hnl:=Zby ps;obtain⟨a1,c1,rfl⟩:=Zac hv.row;obtain⟨ra,rc,hrn⟩:=Zac hr.1;have HRN:=hide hrn;have HV:=hide hv;have HM:=hide hmono;unfold recC;rw [hrn];clear hv hr hrn hmono;have BX:T_ w (w.alloc (.cells #[M r.1.area,M r.1.kind,M r.1.owner,M r.1.key,M r.1.seq,.slice ra r.1.near.length rc,M r.1.cost,.bool r.1.far] 39)):=(YAC _ _).alloc (YA _) _;have hx:=YAE w (.cells #[M r.1.area,M r.1.kind,M r.1.owner,M r.1.key,M r.1.seq,.slice ra r.1.near.length rc,M r.1.cost,.bool r.1.far] 39);obtain⟨w0,hw0⟩:∃ w0,w0=w.alloc (.cells #[M r.1.area,M r.1.kind,M r.1.owner,M r.1.key,M r.1.seq,.slice ra r.1.near.length rc,M r.1.cost,.bool r.1.far] 39):=⟨_,rfl⟩;rw [<-hw0] at BX hx;have hs0:=Zab hx;have HX:=hide hx;clear hx
 go_enter Tryz.func190,Tryz.ntmps190
 go_wp2;rw [<-hw0];clear hw0
 go_loopw [9,10] (fun i j wr=>∃ (m n:Nat),m<=n/\n<=ps.length/\i=M m/\j=M n/\Hid (∀ t,t<m->ltAt (fsts ps) r.1 t)/\Hid (∀ t,n<=t->t<ps.length->¬ltAt (fsts ps) r.1 t)/\T_ w0 wr) (fun i j _=>(intOf j).toNat-(intOf i).toNat)
 case atStart=>exact ⟨0,ps.length,by omega,by omega,rfl,rfl,hide (by omega),hide (by omega),YAC _ _⟩
 case round=>
  obtain⟨m,n,hmn,hnp,rfl,rfl,HLO,HHI,hnx⟩:=hrel;have hsz:=hnx.size;have BWR:T_ w wr:=BX.trans (hnx.mono (by omega));by_cases hlt:m<n
  ·have hmi:(m:Int)<(n:Int):=by omega
   have hw1:IntKind.i64.wrap ((m:Int)+(n:Int))=(m:Int)+(n:Int):=ZaN _ (by omega) (by omega);go_wp2;obtain⟨k,hk⟩:∃ k:Nat,k=(m+n) / 2:=⟨_,rfl⟩;have hke:((m:Int)+(n:Int)) / 2=(k:Int):=by omega
   rw [hke];have hkm:m<=k:=by omega
   have hkn:k<n:=by omega
   have hki:(0:Int)<=(k:Int):=by omega
   have hkj:(k:Int)<(ps.length:Int):=by omega
   clear hk hke hw1;obtain⟨p,hp⟩:∃ p,ps[k]? = some p:=⟨ps[k],YAA (by omega)⟩;obtain⟨b,off,cap',hve,hbb,c0,c1,c2,c3,c4,c5,c6,c7,hnr⟩:=HV.out.at.cells k p hp;cases hve;obtain⟨pa,pc,hpn⟩:=ZaG.shape hnr;rw [hpn] at c5;replace c0:=(BWR.cell (YAB hbb hhi)).trans c0;replace c1:=(BWR.cell (YAB hbb hhi)).trans c1;replace c2:=(BWR.cell (YAB hbb hhi)).trans c2;replace c3:=(BWR.cell (YAB hbb hhi)).trans c3;replace c4:=(BWR.cell (YAB hbb hhi)).trans c4;replace c5:=(BWR.cell (YAB hbb hhi)).trans c5;replace c6:=(BWR.cell (YAB hbb hhi)).trans c6;replace c7:=(BWR.cell (YAB hbb hhi)).trans c7;have hxx:=(hnx.block _ (Zab HX)).trans HX;have d0:=Zaa hxx 0;have d1:=Zaa hxx 1;have d2:=Zaa hxx 2;have d3:=Zaa hxx 3;have d4:=Zaa hxx 4;have d5:=Zaa hxx 5;have d6:=Zaa hxx 6;have d7:=Zaa hxx 7;simp at d0 d1 d2 d3 d4 d5 d6 d7;have hb1:b<wr.heap.size:=by omega
   have hb2:w.heap.size<wr.heap.size:=by omega
   have hq:=fun W=>Zb8 p.2 r.2 p.1 r.1 W;unfold recC at hq;rw [hpn,HRN.out] at hq;obtain⟨x,hx⟩:∃ x,x=ordR p.1 r.1:=⟨_,rfl⟩;rw [<-hx] at hq;have HK:=hide hq;have HXV:=hide hx;have HPP:=hide (Zbq hp);clear hq hx hp hxx hnr hpn;by_cases hx0:x<0
   ·have HLO2:=hide (show ∀ t,t<k+1->ltAt (fsts ps) r.1 t from fun t ht=>HM t k (by omega) (by omega) ((Zdc HPP).2 (by rw [<-HXV.out];exact hx0)))
    go_region_held3 (fun W=>W.cell? (U b (off+k*8))=some (M p.1.area)/\W.cell? (U b (off+k*8+1))=some (M p.1.kind)/\W.cell? (U b (off+k*8+2))=some (M p.1.owner)/\W.cell? (U b (off+k*8+3))=some (M p.1.key)/\W.cell? (U b (off+k*8+4))=some (M p.1.seq)/\W.cell? (U b (off+k*8+5))=some (.slice pa p.1.near.length pc)/\W.cell? (U b (off+k*8+6))=some (M p.1.cost)/\W.cell? (U b (off+k*8+7))=some (.bool p.1.far)/\W.cell? (U w.heap.size 0)=some (M r.1.area)/\W.cell? (U w.heap.size 1)=some (M r.1.kind)/\W.cell? (U w.heap.size 2)=some (M r.1.owner)/\W.cell? (U w.heap.size 3)=some (M r.1.key)/\W.cell? (U w.heap.size 4)=some (M r.1.seq)/\W.cell? (U w.heap.size 5)=some (.slice ra r.1.near.length rc)/\W.cell? (U w.heap.size 6)=some (M r.1.cost)/\W.cell? (U w.heap.size 7)=some (.bool r.1.far)) (first | go_keep | (refine ⟨?_,?_,?_,?_,?_,?_,?_,?_,?_,?_,?_,?_,?_,?_,?_,?_⟩ <;> (rw [hbc.cell (by assumption)];assumption))) (first | (go_at_call 132;refine (HK _).mono ?_;rintro e w1 ⟨rfl,hbc⟩))
    go_wp2;go_roundw
    case rel=>exact ⟨k+1,n,by omega,by omega,by go_num,rfl,HLO2,HHI,hnx.trans ((YAC _ _).drew.trans (hbc.mono hsz))⟩
    case measure=>exact MS_
   ·have HHI2:=hide (show ∀ t,k<=t->t<ps.length->¬ltAt (fsts ps) r.1 t from fun t h1 h2 h3=>hx0 (by rw [HXV.out];exact (Zdc HPP).1 (HM k t h1 h2 h3)))
    go_region_held3 (fun W=>W.cell? (U b (off+k*8))=some (M p.1.area)/\W.cell? (U b (off+k*8+1))=some (M p.1.kind)/\W.cell? (U b (off+k*8+2))=some (M p.1.owner)/\W.cell? (U b (off+k*8+3))=some (M p.1.key)/\W.cell? (U b (off+k*8+4))=some (M p.1.seq)/\W.cell? (U b (off+k*8+5))=some (.slice pa p.1.near.length pc)/\W.cell? (U b (off+k*8+6))=some (M p.1.cost)/\W.cell? (U b (off+k*8+7))=some (.bool p.1.far)/\W.cell? (U w.heap.size 0)=some (M r.1.area)/\W.cell? (U w.heap.size 1)=some (M r.1.kind)/\W.cell? (U w.heap.size 2)=some (M r.1.owner)/\W.cell? (U w.heap.size 3)=some (M r.1.key)/\W.cell? (U w.heap.size 4)=some (M r.1.seq)/\W.cell? (U w.heap.size 5)=some (.slice ra r.1.near.length rc)/\W.cell? (U w.heap.size 6)=some (M r.1.cost)/\W.cell? (U w.heap.size 7)=some (.bool r.1.far)) (first | go_keep | (refine ⟨?_,?_,?_,?_,?_,?_,?_,?_,?_,?_,?_,?_,?_,?_,?_,?_⟩ <;> (rw [hbc.cell (by assumption)];assumption))) (first | (go_at_call 132;refine (HK _).mono ?_;rintro e w1 ⟨rfl,hbc⟩))
    go_wp2;go_roundw
    case rel=>exact ⟨m,k,by omega,by omega,rfl,rfl,HLO,HHI2,hnx.trans ((YAC _ _).drew.trans (hbc.mono hsz))⟩
    case measure=>exact MS_
  ·have hmn2:m=n:=by omega
   subst hmn2;by_cases hend:m<ps.length
   ·have hmi:(0:Int)<=(m:Int):=by omega
    have hmj:(m:Int)<(ps.length:Int):=by omega
    obtain⟨p,hp⟩:∃ p,ps[m]? = some p:=⟨ps[m],YAA (by omega)⟩;obtain⟨b,off,cap',hve,hbb,c0,c1,c2,c3,c4,c5,c6,c7,hnr⟩:=HV.out.at.cells m p hp;cases hve;obtain⟨pa,pc,hpn⟩:=ZaG.shape hnr;rw [hpn] at c5;replace c0:=(BWR.cell (YAB hbb hhi)).trans c0;replace c1:=(BWR.cell (YAB hbb hhi)).trans c1;replace c2:=(BWR.cell (YAB hbb hhi)).trans c2;replace c3:=(BWR.cell (YAB hbb hhi)).trans c3;replace c4:=(BWR.cell (YAB hbb hhi)).trans c4;replace c5:=(BWR.cell (YAB hbb hhi)).trans c5;replace c6:=(BWR.cell (YAB hbb hhi)).trans c6;replace c7:=(BWR.cell (YAB hbb hhi)).trans c7;have hxx:=(hnx.block _ (Zab HX)).trans HX;have d0:=Zaa hxx 0;have d1:=Zaa hxx 1;have d2:=Zaa hxx 2;have d3:=Zaa hxx 3;have d4:=Zaa hxx 4;have d5:=Zaa hxx 5;have d6:=Zaa hxx 6;have d7:=Zaa hxx 7;simp at d0 d1 d2 d3 d4 d5 d6 d7;have hb1:b<wr.heap.size:=by omega
    have hb2:w.heap.size<wr.heap.size:=by omega
    have hq:=fun W=>Zb8 p.2 r.2 p.1 r.1 W;unfold recC at hq;rw [hpn,HRN.out] at hq;obtain⟨x,hx⟩:∃ x,x=ordR p.1 r.1:=⟨_,rfl⟩;rw [<-hx] at hq;have HK:=hide hq;have HXV:=hide hx;have HPP:=hide (Zbq hp);clear hq hx hp hxx hnr hpn;have hfin:(x==0)=true↔∃ y,(fsts ps)[m]? = some y/\ordR y r.1=0:=by
     rw [HPP.out];constructor
     ·intro h;exact⟨p.1,rfl,by rw [<-HXV.out];simpa using h⟩
     ·rintro ⟨y,hy,he⟩;cases hy;rw [HXV.out];simpa using he
    have HFIN:=hide hfin;clear hfin;go_wp2
    go_region_held3 (fun W=>W.cell? (U b (off+m*8))=some (M p.1.area)/\W.cell? (U b (off+m*8+1))=some (M p.1.kind)/\W.cell? (U b (off+m*8+2))=some (M p.1.owner)/\W.cell? (U b (off+m*8+3))=some (M p.1.key)/\W.cell? (U b (off+m*8+4))=some (M p.1.seq)/\W.cell? (U b (off+m*8+5))=some (.slice pa p.1.near.length pc)/\W.cell? (U b (off+m*8+6))=some (M p.1.cost)/\W.cell? (U b (off+m*8+7))=some (.bool p.1.far)/\W.cell? (U w.heap.size 0)=some (M r.1.area)/\W.cell? (U w.heap.size 1)=some (M r.1.kind)/\W.cell? (U w.heap.size 2)=some (M r.1.owner)/\W.cell? (U w.heap.size 3)=some (M r.1.key)/\W.cell? (U w.heap.size 4)=some (M r.1.seq)/\W.cell? (U w.heap.size 5)=some (.slice ra r.1.near.length rc)/\W.cell? (U w.heap.size 6)=some (M r.1.cost)/\W.cell? (U w.heap.size 7)=some (.bool r.1.far)) (first | go_keep | (refine ⟨?_,?_,?_,?_,?_,?_,?_,?_,?_,?_,?_,?_,?_,?_,?_,?_⟩ <;> (rw [hbc.cell (by assumption)];assumption))) (first | (go_at_call 132;refine (HK _).mono ?_;rintro e w1 ⟨rfl,hbc⟩))
    go_wp2
    go_returns
    exact⟨m,x==0,rfl,by omega,HLO,HHI,HFIN,BWR.trans ((YAC _ _).drew.trans (hbc.mono (show w.heap.size<=wr.heap.size by omega)))⟩
   ·have hme:¬(m:Int)<(ps.length:Int):=by omega
    have HNO:=hide (show (false=true↔∃ y,(fsts ps)[m]? = some y/\ordR y r.1=0) from ⟨(fun h=>by cases h),(fun ⟨y,hy,_⟩=>by rw [List.getElem?_eq_none (by simp [fsts];omega)] at hy;cases hy)⟩);go_wp2
    go_quiet (fail)
    go_wp2
    go_returns
    exact⟨m,false,rfl,by omega,HLO,HHI,HNO,BWR.trans ⟨rfl,rfl,rfl,YA _,fun _ _=>rfl⟩⟩
theorem Zfg (l:List Int)(v:Value)(base:Nat)(w:World)(ho:w.ownsRow base 3 1 v l.length (flat intE l))(hn:l.length<=1048576):
  Calls Tryz.prog 266 #[v] w fun e w'=>∃ v',e=.returned v'/\w'.ownsRow w.heap.size 3 1 v' l.length (flat intE l)/\T_ w w':=by
 obtain⟨va,vc,rfl⟩:=Zac ho;have OW:=hide ho;clear ho
 go_enter Tryz.func266,Tryz.ntmps266
 go_wp2_with (first
  | (at_builtin;refine Zcv ZdI (by omega) ZcM (by omega) _ rfl _ _ 28 rfl w.heap.size 3 Tryz.underlying28 (M 0) rfl Tryz.info3 _ [] rfl (YAX _ _ _ _) base _ l rfl OW (by simp;omega) (by simp) ?_))
 intro v' w4 hown' hgrow;obtain⟨na,nc,rfl⟩:=Zac hown';simp only [Value.ownBlock] at hgrow;have hb4:=hide (show T_ w w4 from (YAC w.heap.size w).grown hgrow (YA _) (fun k hk=>by simp at hk));have H1:=hide hown';clear hown' hgrow;go_wp2;go_ret;exact⟨_,rfl,by simpa using H1.out,hb4.out⟩
theorem Zgf (x:WayD)(v:Value)(base:Nat)(w:World)(ho:w.ownsRow base 3 1 v x.hops.length (flat intE x.hops))(hn:x.hops.length<=1048576):
  Calls Tryz.prog 241 #[.agg (wayC x v)] w fun e w'=>∃ v',e=.returned (.agg (wayC x v'))/\w'.ownsRow w.heap.size 3 1 v' x.hops.length (flat intE x.hops)/\T_ w w':=by
 obtain⟨va,vc,rfl⟩:=Zac ho;have HC:=hide (fun W (hb:T_ w W)=>Zfg x.hops (.slice va x.hops.length vc) base W (Zad ho hb (YA _)) hn);clear ho
 go_enter Tryz.func241,Tryz.ntmps241
 unfold wayC
 go_wp2_with fail
 have hb0:T_ w ((w.alloc (.cells #[M x.to,M x.cost,.slice va x.hops.length vc] 193)).alloc (.cells #[M 0,M 0,.slice none 0 0] 193)):=((YAC w.heap.size w).alloc (by simp) _).alloc (by simp) _;have q0:((w.alloc (.cells #[M x.to,M x.cost,.slice va x.hops.length vc] 193)).alloc (.cells #[M 0,M 0,.slice none 0 0] 193)).heap[w.heap.size]? = some (.cells #[M x.to,M x.cost,.slice va x.hops.length vc] 193):=by
  rw [YAL _ _ _ (by simp),YAE]
 have q1:((w.alloc (.cells #[M x.to,M x.cost,.slice va x.hops.length vc] 193)).alloc (.cells #[M 0,M 0,.slice none 0 0] 193)).heap[w.heap.size+1]? = some (.cells #[M 0,M 0,.slice none 0 0] 193):=by
  have e:=YAE (w.alloc (.cells #[M x.to,M x.cost,.slice va x.hops.length vc] 193)) (.cells #[M 0,M 0,.slice none 0 0] 193);rw [show (w.alloc (.cells #[M x.to,M x.cost,.slice va x.hops.length vc] 193)).heap.size=w.heap.size+1 by simp] at e;exact e
 generalize ((w.alloc (.cells #[M x.to,M x.cost,.slice va x.hops.length vc] 193)).alloc (.cells #[M 0,M 0,.slice none 0 0] 193))=w3 at *;refine (HC _ hb0).mono ?_;rintro e w4 ⟨v',rfl,hown',hb4'⟩;obtain⟨na,nc,rfl⟩:=Zac hown';have hs1:=Zab q1;have hb4:T_ w w4:=hb0.trans (hb4'.mono (by omega));have q0:=(hb4'.block _ (by omega)).trans q0;have q1:=(hb4'.block _ hs1).trans q1;have r2:=Zaa q0 2;have f0:=Zae q0;simp at r2;have q2:=YAd w4 w.heap.size 2 _ _ (.slice na x.hops.length nc) q0;simp only [YAq,YAp,YAu] at q2;have q3:(w4.setCell (U w.heap.size 2) (.slice na x.hops.length nc)).heap[w.heap.size+1]? = some (.cells #[M 0,M 0,.slice none 0 0] 193):=by
  rw [YAU w4 (U w.heap.size 2) _ _ (by show w.heap.size+1≠w.heap.size;omega)];exact q1
 have y0:=Zaa q2 0;have y1:=Zaa q2 1;have y2:=Zaa q2 2;simp at y0 y1 y2;have u0:=Zaa q3 0;have u1:=Zaa q3 1;have u2:=Zaa q3 2;simp at u0 u1 u2;have fu:=Zae q3;have F:=ZdA x (.slice na x.hops.length nc) q3;have hown2:=Zbk (j:=2) (u:=.slice na x.hops.length nc) hown' (show w.heap.size<w3.heap.size by omega);have G8:=Za7 (w4.setCell (U w.heap.size 2) (.slice na x.hops.length nc)) (w.heap.size+1) x (.slice na x.hops.length nc);have hown3:=Zaf (b0:=w.heap.size) (hown2.kept G8 (by
  cases hv:(Value.slice na x.hops.length nc).ownBlock with
  | none=>exact .inl rfl
  | some g=>exact .inr (fun e=>by have:=(hown2.lt g hv).1;simp at e;omega))) (by omega)
 have hb5:T_ w (Zbb (w4.setCell (U w.heap.size 2) (.slice na x.hops.length nc)) (w.heap.size+1) x (.slice na x.hops.length nc)):=(hb4.setCell (p:=(U w.heap.size 2)) (YA _) _).grown G8 (by have:=Zab q3;omega) (fun k hk=>by simp at hk;omega);have FF:=hide F;have H3:=hide hown3;have H5:=hide hb5;clear F hown3 hb5 hown2 G8 hb4 hown' hb4' q0 q1 q2 q3 hb0 HC
 go_wp2_with fail
 (try simp only [Exit.inBlock,Exit.then])
 refine bodyPost_ret (results_cell_row rfl _ _ (w.heap.size+1) 193 (wayC _ _) (0,0) _ rfl FF Tryz.underlying193 rfl (by kernel_rfl)) rfl ?_;exact⟨_,rfl,H3,H5⟩
theorem ZeF (v:Value)(ps:List WP)(lo hi:Nat)(z:Int)(w:World)(hv:WaysOwn w lo hi v ps)(hhi:hi<=w.heap.size)(hn:totW ps<=1048576):
  Calls Tryz.prog 207 #[v,M z] w fun e w'=>∃ u,e=.returned (.tuple #[.agg (wayC (Zbl (Zag ps) z) u),.bool (Zbe (Zag ps) z)])/\w'.ownsRow w.heap.size 3 1 u (Zbl (Zag ps) z).hops.length (flat intE (Zbl (Zag ps) z).hops)/\T_ w w':=by
 have hnl:=ZeR ps;obtain⟨D,hD⟩:∃ D,D=Zbl (Zag ps) z:=⟨_,rfl⟩;obtain⟨F,hF⟩:∃ F,F=Zbe (Zag ps) z:=⟨_,rfl⟩;rw [<-hD, <-hF];have HD:=hide hD;have HF:=hide hF;clear hD hF;obtain⟨a1,c1,rfl⟩:=Zac hv.row;have HV:=hide hv;clear hv;have BX:T_ w (w.alloc (.cells #[M 0,M 0,.slice none 0 0] 193)):=(YAC _ _).alloc (YA _) _;have hq:=YAE w (.cells #[M 0,M 0,.slice none 0 0] 193);obtain⟨w0,hw0⟩:∃ W,W=w.alloc (.cells #[M 0,M 0,.slice none 0 0] 193):=⟨_,rfl⟩;rw [<-hw0] at BX hq;have hs0:=Zab hq;have HQ:=hide hq;clear hq;unfold wayC
 go_enter Tryz.func207,Tryz.ntmps207
 go_wp2;rw [<-hw0];clear hw0
 go_loopw [10] (fun i wr=>∃ k:Nat,k<=ps.length/\i=M k/\Hid (∀ q∈ps.take k,q.1.to≠z)/\T_ w0 wr) (fun i _=>ps.length-(intOf i).toNat)
 case atStart=>exact ⟨0,by omega,rfl,hide (by simp),YAC _ _⟩
 case round=>
  obtain⟨k,hk,rfl,HNO,hnx⟩:=hrel;have hsz:=hnx.size;have BWR:T_ w wr:=BX.trans (hnx.mono (by omega));have hz1:=(hnx.block _ hs0).trans HQ;by_cases hlt:k<ps.length
  ·obtain ⟨p,hp⟩:∃ p,ps[k]? = some p:=⟨ps[k],YAA hlt⟩;obtain⟨b,off,cp,hve,hbb,c0,c1,c2,_⟩:=HV.out.at.cells k p hp;cases hve;have hbw:b<w.heap.size:=by omega
   have hno:=HV.out.nears p (YAH hp);obtain⟨pa,pc,hpn⟩:=Zac hno.1;have HCP:=hide (fun W (hb:T_ w W)=>Zgf p.1 p.2 lo W (Zad hno.1 hb (YA _)) (by have:=ZmY (YAH hp);omega));unfold wayC at HCP;rw [hpn] at c2 HCP;replace c0:=(BWR.cell hbw).trans c0;replace c1:=(BWR.cell hbw).trans c1;replace c2:=(BWR.cell hbw).trans c2;have hki:(0:Int)<=(k:Int):=by omega
   have hkj:(k:Int)<(ps.length:Int):=by omega
   by_cases hzz:p.1.to=z
   ·have hh:=ZkR hp HNO hzz;have hDe:D=p.1:=HD.out.trans hh.1;have hFe:F=true:=HF.out.trans hh.2;subst hDe hFe;subst hzz;clear hp hno hpn hh
    go_wp2_with fail
    refine (HCP _ (BWR.alloc (by omega) _)).mono ?_;rintro e w2 ⟨v1,rfl,hn2',b2'⟩;obtain⟨na,nc,rfl⟩:=Zac hn2';have hn2:=Zaf (b0:=wr.heap.size) hn2' (by simp);have b2:T_ wr w2:=((YAC _ _).alloc (YA _) _).trans (b2'.mono (by simp));clear hn2' b2';have b2s:=b2.size;have hz2:=(b2.block _ (Zab hz1)).trans hz1;have u0:=Zaa hz2 0;have u1:=Zaa hz2 1;have u2:=Zaa hz2 2;simp at u0 u1 u2;have fu:=Zae hz2;have FF:=hide (ZdA p.1 (.slice na p.1.hops.length nc) hz2);have G8:=Za7 w2 w.heap.size p.1 (.slice na p.1.hops.length nc);have O3:=hide (Zaf (b0:=w.heap.size) (hn2.kept G8 (by
     cases hv:(Value.slice na p.1.hops.length nc).ownBlock with
     | none=>exact .inl rfl
     | some g=>exact .inr (fun e=>by have:=(hn2.lt g hv).1;simp at e;omega))) (by omega))
    have B2:T_ w w2:=BWR.trans (b2.mono (by omega));have BF:=hide (B2.grown G8 B2.size (fun k hk=>by simp at hk;omega));clear hz2 hn2 b2 G8 hz1
    go_wp2_with fail
    (try simp only [Exit.inBlock,Exit.then])
    refine bodyPost_ret (Zaz rfl _ _ w.heap.size 193 (wayC p.1 (.slice na p.1.hops.length nc)) (0,0) _ rfl FF Tryz.underlying193 rfl (by kernel_rfl)) rfl ?_;exact⟨_,rfl,O3,BF⟩
   ·have HN:=hide (ZmU hp HNO hzz);have hd:(p.1.to==z)=false:=by simpa using hzz
    clear hp hno hpn hz1;go_wp2;go_roundw
    case rel=>exact ⟨k+1,by omega,by go_num,HN,hnx.alloc (by omega) _⟩
    case measure=>exact MS_
  ·have hh:=ZiF (ps:=ps) (z:=z) (by have h:=HNO.out;rw [YAP (by omega)] at h;exact h);have hDe:D=Zbo:=HD.out.trans hh.1;have hFe:F=false:=HF.out.trans hh.2;subst hDe hFe;have u0:=Zaa hz1 0;have u1:=Zaa hz1 1;have u2:=Zaa hz1 2;simp at u0 u1 u2;have fu:=Zae hz1;have FF:=hide (ZdA Zbo (.slice none 0 0) hz1);have G8:=hide (Za7 wr w.heap.size Zbo (.slice none 0 0));clear hz1 hh
   go_wp2_with fail
   (try simp only [Exit.inBlock,Exit.then])
   refine bodyPost_ret (Zaz rfl _ _ w.heap.size 193 (wayC Zbo (.slice none 0 0)) (0,0) _ rfl FF Tryz.underlying193 rfl (by kernel_rfl)) rfl ?_;exact⟨.slice none 0 0,rfl,YAX _ _ _ _,BWR.grown G8 BWR.size (fun k hk=>by simp at hk;omega)⟩
def Zco (n:Int)(ls:List Lk):Bool:=decide (ls.length<=12)&&ZbV (Za0 n) ls&&ascB ordL ls
theorem Zlz (n:Int)(v:Value)(ls:List Lk)(w:World)(hls:ls.length<=1048576)(hv:ZaV w v ls w.heap.size):
  Calls Tryz.prog 142 #[M n,v] w fun e w'=>e=.returned (.bool (Zco n ls))/\T_ w w':=by
 obtain⟨a,cap,rfl⟩:=hv.shape;have HV:=hide hv;clear hv;by_cases h12:ls.length<=12
 case neg=>
  have hno:Zco n ls=false:=by unfold Zco;rw [YAZ h12];rfl
  rw [hno];have h12':(12:Int)<(ls.length:Int):=by omega
  clear hno
  go_enter Tryz.func142,Tryz.ntmps142
  go_wp2;go_ret;exact⟨rfl,YAC _ _⟩
 have h12':¬(12:Int)<(ls.length:Int):=by omega
 have hB:Zco n ls=(ZbV (Za0 n) ls&&ascB ordL ls):=by unfold Zco;rw [YAc h12];rfl
 have HB:=hide hB;clear hB
 go_enter Tryz.func142,Tryz.ntmps142
 go_wp2
 go_loopw [12] (fun i wr=>∃ k:Nat,k<=ls.length/\i=M k/\(∀ j,j<k->okAt (Za0 n) ls j=true)/\T_ w wr) (fun i _=>ls.length-(intOf i).toNat)
 case atStart=>exact ⟨0,by omega,rfl,by omega,YAC _ _⟩
 case round=>
  obtain⟨k,hk,rfl,hno,hb⟩:=hrel;have HNO:=hide hno;clear hno;by_cases hlt:k<ls.length
  ·obtain ⟨l,hl⟩:∃ l,ls[k]? = some l:=⟨ls[k],YAA hlt⟩;obtain⟨b,off,cap',hve,hbb,c0,c1,c2,c3⟩:=HV.out.cells k l hl;cases hve;replace c0:=(hb.cell hbb).trans c0;replace c1:=(hb.cell hbb).trans c1;replace c2:=(hb.cell hbb).trans c2;replace c3:=(hb.cell hbb).trans c3;have HAT:=hide (ZcE (ok:=Za0 n) hl);have HOK:=hide (Zlp n l);clear hl;obtain⟨q,hq⟩:∃ q,q=Za0 n l:=⟨_,rfl⟩;rw [<-hq] at HAT HOK;unfold lkV at HOK;clear hq;have hzr:=hb.size
   go_wp2_with fail
   refine (HOK _).mono ?_;rintro e w2 ⟨rfl,hbc⟩;have B2:T_ w w2:=(hb.alloc hb.size _).trans (hbc.mono (by simp;omega));cases q
   ·have hf:Zco n ls=false:=by rw [HB.out];unfold ZbV;rw [ZaW hlt HAT.out];rfl
    have HF:=hide hf;clear hf;go_wp2;go_ret;exact⟨Zai HF,B2⟩
   ·go_wp2;exact⟨⟨k+1,by omega,by go_num,ZaT HNO HAT,B2⟩,by simp [intOf];omega⟩
  ·have hall:ZbV (Za0 n) ls=true:=Zbi fun i hi=>HNO i (by omega);have hF:Zco n ls=ascB ordL ls:=by rw [HB.out,hall];rfl
   have HF:=hide hF;clear hF hall;have HVR:=hide (HV.out.then hb)
   go_wp2_with fail
   refine (Zqa _ ls _ hls HVR).mono ?_;rintro e w2 ⟨rfl,hbc⟩;go_wp2;go_ret;exact⟨Zai HF,hb.trans (hbc.mono hb.size)⟩
def Zd5 (n:Int)(t:Th):Bool:=inB t.k 1 9&&inB t.o 1 n&&inB t.c 1 1000
def ZbH (n:Int)(ls:List Th):Bool:=decide (ls.length<=4)&&ZbV (Zd5 n) ls&&ascB ordT ls
theorem ZkM (n:Int)(v:Value)(ls:List Th)(w:World)(hls:ls.length<=1048576)(hv:ZaU w v ls w.heap.size):
  Calls Tryz.prog 143 #[M n,v] w fun e w'=>e=.returned (.bool (ZbH n ls))/\T_ w w':=by
 obtain⟨a,cap,rfl⟩:=hv.shape;have HV:=hide hv;clear hv;by_cases h12:ls.length<=4
 case neg=>
  have hno:ZbH n ls=false:=by unfold ZbH;rw [YAZ h12];rfl
  rw [hno];have h12':(4:Int)<(ls.length:Int):=by omega
  clear hno
  go_enter Tryz.func143,Tryz.ntmps143
  go_wp2;go_ret;exact⟨rfl,YAC _ _⟩
 have h12':¬(4:Int)<(ls.length:Int):=by omega
 have hB:ZbH n ls=(ZbV (Zd5 n) ls&&ascB ordT ls):=by unfold ZbH;rw [YAc h12];rfl
 have HB:=hide hB;clear hB
 go_enter Tryz.func143,Tryz.ntmps143
 go_wp2
 go_loopw [12] (fun i wr=>∃ k:Nat,k<=ls.length/\i=M k/\(∀ j,j<k->okAt (Zd5 n) ls j=true)/\T_ w wr) (fun i _=>ls.length-(intOf i).toNat)
 case atStart=>exact ⟨0,by omega,rfl,by omega,YAC _ _⟩
 case round=>
  obtain⟨k,hk,rfl,hno,hb⟩:=hrel;have HNO:=hide hno;clear hno;by_cases hlt:k<ls.length
  ·obtain ⟨l,hl⟩:∃ l,ls[k]? = some l:=⟨ls[k],YAA hlt⟩;obtain⟨b,off,cap',hve,hbb,c0,c1,c2,c3⟩:=HV.out.cells k l hl;cases hve;replace c0:=(hb.cell hbb).trans c0;replace c1:=(hb.cell hbb).trans c1;replace c2:=(hb.cell hbb).trans c2;replace c3:=(hb.cell hbb).trans c3;have HAT:=hide (ZcE (ok:=Zd5 n) hl);obtain⟨q1,hq1⟩:∃ q,q=inB l.k 1 9:=⟨_,rfl⟩;obtain⟨q2,hq2⟩:∃ q,q=inB l.o 1 n:=⟨_,rfl⟩;obtain⟨q3,hq3⟩:∃ q,q=inB l.c 1 1000:=⟨_,rfl⟩;have hok:Zd5 n l=(q1&&q2&&q3):=by unfold Zd5;rw [hq1,hq2,hq3]
   have H1:=hide (Zba l.k 1 9);have H2:=hide (Zba l.o 1 n);have H3:=hide (Zba l.c 1 1000);rw [<-hq1] at H1;rw [<-hq2] at H2;rw [<-hq3] at H3;rw [hok] at HAT;clear hl hq1 hq2 hq3 hok;have hzr:=hb.size;have B2:T_ w (wr.alloc (.cells #[M l.o,M l.k,M l.c,.bool l.f] 119)):=hb.alloc hb.size _;cases q1
   ·have hf:ZbH n ls=false:=by rw [HB.out];unfold ZbV;rw [ZaW hlt HAT.out];rfl
    have HF:=hide hf;clear hf
    go_wp2_with fail
    refine (H1 _).mono ?_;rintro e w2 ⟨rfl,rfl⟩;go_wp2;go_ret;exact⟨Zai HF,B2⟩
   cases q2
   ·have hf:ZbH n ls=false:=by rw [HB.out];unfold ZbV;rw [ZaW hlt HAT.out];rfl
    have HF:=hide hf;clear hf
    go_wp2_with fail
    refine (H1 _).mono ?_;rintro e w2 ⟨rfl,rfl⟩
    go_wp2_with fail
    refine (H2 _).mono ?_;rintro e w2 ⟨rfl,rfl⟩;go_wp2;go_ret;exact⟨Zai HF,B2⟩
   cases q3
   ·have hf:ZbH n ls=false:=by rw [HB.out];unfold ZbV;rw [ZaW hlt HAT.out];rfl
    have HF:=hide hf;clear hf
    go_wp2_with fail
    refine (H1 _).mono ?_;rintro e w2 ⟨rfl,rfl⟩
    go_wp2_with fail
    refine (H2 _).mono ?_;rintro e w2 ⟨rfl,rfl⟩
    go_wp2_with fail
    refine (H3 _).mono ?_;rintro e w2 ⟨rfl,rfl⟩;go_wp2;go_ret;exact⟨Zai HF,B2⟩
   ·go_wp2_with fail
    refine (H1 _).mono ?_;rintro e w2 ⟨rfl,rfl⟩
    go_wp2_with fail
    refine (H2 _).mono ?_;rintro e w2 ⟨rfl,rfl⟩
    go_wp2_with fail
    refine (H3 _).mono ?_;rintro e w2 ⟨rfl,rfl⟩;go_wp2;exact⟨⟨k+1,by omega,by go_num,ZaT HNO HAT,B2⟩,by simp [intOf];omega⟩
  ·have hall:ZbV (Zd5 n) ls=true:=Zbi fun i hi=>HNO i (by omega);have hF:ZbH n ls=ascB ordT ls:=by rw [HB.out,hall];rfl
   have HF:=hide hF;clear hF hall;have HVR:=hide (HV.out.then hb)
   go_wp2_with fail
   refine (Zqb _ ls _ hls HVR).mono ?_;rintro e w2 ⟨rfl,hbc⟩;go_wp2;go_ret;exact⟨Zai HF,hb.trans (hbc.mono hb.size)⟩
def Zbh (x:NetD):Bool:=inB x.n 1 6&&Zco x.n x.ls&&ZbH x.n x.ts
theorem Zil (v:Value)(x:NetD)(w:World)(hl:x.ls.length<=1048576)(ht:x.ts.length<=1048576)(hv:Zgz w v x w.heap.size):
  Calls Tryz.prog 69 #[v] w fun e w'=>e=.returned (.bool (Zbh x))/\T_ w w':=by
 obtain⟨n,ls,ts⟩:=x;obtain⟨v1,v2,rfl,h1,h2⟩:=hv;simp only [] at h1 h2 hl ht |-
 obtain⟨a1,c1,rfl⟩:=h1.shape;obtain⟨a2,c2,rfl⟩:=h2.shape;obtain⟨q1,hq1⟩:∃ q,q=inB n 1 6:=⟨_,rfl⟩;obtain⟨q2,hq2⟩:∃ q,q=Zco n ls:=⟨_,rfl⟩;obtain⟨q3,hq3⟩:∃ q,q=ZbH n ts:=⟨_,rfl⟩;have hok:Zbh ⟨n,ls,ts⟩=(q1&&q2&&q3):=by unfold Zbh;rw [hq1,hq2,hq3]
 rw [hok];have HIN:=hide (Zba n 1 6);rw [<-hq1] at HIN;have HL:=hide (fun W (h:T_ w W)=>Zlz n _ ls W hl (h1.then h));have HT:=hide (fun W (h:T_ w W)=>ZkM n _ ts W ht (h2.then h));rw [<-hq2] at HL;rw [<-hq3] at HT;clear hq1 hq2 hq3 hok h1 h2;have B0:T_ w (w.alloc (.cells #[M n,.slice a1 ls.length c1,.slice a2 ts.length c2] 27)):=(YAC _ _).alloc (YA _) _;have hnew:=YAE w (.cells #[M n,.slice a1 ls.length c1,.slice a2 ts.length c2] 27);have NEW:=hide hnew;clear hnew;cases q1
 ·go_enter Tryz.func69,Tryz.ntmps69
  go_wp2_with fail
  refine (HIN _).mono ?_;rintro e w1 ⟨rfl,rfl⟩;go_wp2;go_ret;exact⟨by simp,B0⟩
 cases q2
 ·go_enter Tryz.func69,Tryz.ntmps69
  go_wp2_with fail
  refine (HIN _).mono ?_;rintro e w1 ⟨rfl,rfl⟩
  go_wp2_with fail
  refine (HL _ B0).mono ?_;rintro e w1 ⟨rfl,b1⟩;go_wp2;go_ret;exact⟨by simp,B0.trans (b1.mono B0.size)⟩
 ·go_enter Tryz.func69,Tryz.ntmps69
  go_wp2_with fail
  refine (HIN _).mono ?_;rintro e w1 ⟨rfl,rfl⟩
  go_wp2_with fail
  refine (HL _ B0).mono ?_;rintro e w1 ⟨rfl,b1⟩;have g1:w1.heap[w.heap.size]? = some (.cells #[M n,.slice a1 ls.length c1,.slice a2 ts.length c2] 27):=by rw [b1.block _ (by simp)];exact NEW
  have B1:T_ w w1:=B0.trans (b1.mono B0.size);have s0:=Zaa g1 0;have s2:=Zaa g1 2;simp at s0 s2;clear g1 b1 B0
  go_wp2_with fail
  refine (HT _ B1).mono ?_;rintro e w2 ⟨rfl,b2⟩;go_wp2;go_ret;exact⟨by simp,B1.trans (b2.mono B1.size)⟩
def ZbW (ls:List Lk)(f:Int):List Int:=([0,1,2]:List Int).filter fun u=>decide (0<(ZgA ls f u).length)
def ZiV (ls:List Lk)(f:Int):Bool:=decide (1<(ZbW ls f).length)&&((ZbW ls f).head? == some 0)
theorem Zm5 (z:Int)(zs:List Int):Lib.compact (z::zs)≠[]:=by
 intro h;unfold Lib.compact Lib.compactUpTo at h;rw [List.map_eq_nil_iff,List.filter_eq_nil_iff] at h;exact h 0 (by simp) (Lib.keeps_lt_one _ 0 (by omega))
theorem ZmC (ls:List Lk)(f r:Int):decide (0<(ZgA ls f r).length)=decide (0<(gath ls f r ls.length).length):=by
 unfold ZgA;apply decide_eq_decide.2;have h1:=Lib.compact_length_le ((gath ls f r ls.length).mergeSort fun x y=>decide (x<=y));rw [List.length_mergeSort] at h1;constructor
 ·omega
 ·intro h;have hm:0<((gath ls f r ls.length).mergeSort fun x y=>decide (x<=y)).length:=by rw [List.length_mergeSort];exact h
  generalize ((gath ls f r ls.length).mergeSort fun x y=>decide (x<=y))=zs at hm;cases zs with
  | nil=>simp at hm
  | cons z zs=>
   cases hc:Lib.compact (z::zs) with
   | nil=>exact absurd hc (Zm5 z zs)
   | cons=>simp
theorem ZiM (ls:List Lk)(v:Int):ZbW ls v=ZbE (fun u=>decide (0<(ZgA ls v u).length)) 0 3:=by
 simp only [ZbW,ZbE,List.filter_cons,List.filter_nil,List.nil_append]
 repeat' split
 all_goals simp_all
theorem ZeD (n:Value)(v tv:Value)(ls:List Lk)(f:Int)(w:World)(hls:ls.length<=1048576)(hv:ZaV w v ls w.heap.size):
  Calls Tryz.prog 88 #[.agg #[n,v,tv],M f] w fun e w'=>∃ x,e=.returned x/\w'.ownsRow w.heap.size 3 1 x (ZbW ls f).length (Za5 (ZbW ls f))/\T_ w w':=by
 have HV:=hide hv;clear hv;rw [ZiM]
 go_enter Tryz.func88,Tryz.ntmps88
 go_wp2
 go_loopw [5,8] (fun x i wr=>∃ k:Nat,k<=3/\i=M (0+(k:Int))/\T_ w wr/\wr.heap[w.heap.size]? = some (.cells #[n,v,tv] 27)/\wr.ownsRow (w.heap.size+1) 3 1 x (ZbE (fun u=>decide (0<(ZgA ls f u).length)) 0 k).length (Za5 (ZbE (fun u=>decide (0<(ZgA ls f u).length)) 0 k))) (fun _ i _=>4-(intOf i).toNat)
 case atStart=>
  refine⟨0,by omega,rfl,Zap _ _,?_,?_⟩
  ·rw [YAL _ _ _ (show w.heap.size<(w.alloc (.cells #[n,v,tv] 27)).heap.size by simp),YAE]
  ·have h0:=YAe (base:=w.heap.size+1) (w.alloc (.cells #[n,v,tv] 27)) (#[]:Array Value) 0 (by simp) (by decide) (e:=3) (size:=1) rfl;simpa [ZbE,Za5] using h0
 case round=>
  obtain⟨k,hk,rfl,hb,hx,hown⟩:=hrel;have c0:wr.cell? (U w.heap.size 0)=some n:=by rw [Zaa hx];rfl
  have c1:wr.cell? (U w.heap.size 1)=some v:=by rw [Zaa hx];rfl
  have c2:wr.cell? (U w.heap.size 2)=some tv:=by rw [Zaa hx];rfl
  have hxl:=Zab hx;have HX:=hide hx;have OW:=hide hown;clear hx hown;by_cases hlt:k<3
  ·go_wp2_with fail
   refine (ZoR n v tv ls f _ wr hls (HV.out.then hb)).mono ?_;rintro e w1 ⟨x1,rfl,hox,b1⟩;obtain⟨a1,cp1,rfl⟩:=Zcq hox;clear hox;have hown1:=Zad OW b1 (YA _);have hx1:w1.heap[w.heap.size]? = some (.cells #[n,v,tv] 27):=by rw [b1.block _ hxl];exact HX
   have hb1:T_ w w1:=hb.trans (b1.mono hb.size);have hz1:=b1.size;have hpl:=ZeL (fun u=>decide (0<(ZgA ls f u).length)) 0 k;have HX1:=hide hx1;obtain⟨l2,hl20⟩:∃ l2,l2=ZbE (fun u=>decide (0<(ZgA ls f u).length)) 0 (k+1):=⟨_,rfl⟩;have HL20:=hide hl20;have hps:Hid (l2=ZbE (fun u=>decide (0<(ZgA ls f u).length)) 0 k++(if decide (0<(ZgA ls f (0+(k:Int))).length) then [0+(k:Int)] else [])):=hl20;clear hl20;clear b1 hx1 c0 c1 c2 OW HX;generalize ZbE (fun u=>decide (0<(ZgA ls f u).length)) 0 k=l at hown1 hpl hps;rw [Int.zero_add] at *;rw [ZmC] at hps;generalize (gath ls f (k:Int) ls.length).length=c at hps |-;by_cases hc:0<(c:Int)
   ·have hc':0<c:=by omega
    have hl2:l2=l++[(k:Int)]:=by rw [hps.out];simp [hc']
    clear hc';have HL2:=hide hl2;clear hl2 hps
    go_wp2_with (first
     | (at_builtin;refine Zbt _ rfl _ _ 28 rfl (w.heap.size+1) 3 Tryz.underlying28 Tryz.info3 u5 l (k:Int) rfl (hown1.alloc _) (U w1.heap.size 0) 1 rfl ?_ (by omega) (by simp;omega) ?_))
    ·rw [add_zero',World.cell?_alloc_at _ _ _ _ rfl];rfl
    intro v' w4 l' hl' hown' hgrow;have hb4:T_ w w4:=(hb1.alloc (by omega) _).grown hgrow (by simp;omega) (fun k hk=>by have:=(hown1.lt k hk).1;omega);have hx4:w4.heap[w.heap.size]? = some (.cells #[n,v,tv] 27):=by
     rw [hgrow.block _ (by simp;omega) (fun h=>by have:=(hown1.lt _ h.symm).1;omega),YAL _ _ _ (by omega)];exact HX1
    have e:l'=l2:=by rw [hl'.out,HL2.out]
    subst e;have OW2:=hide hown';have HX4:=hide hx4;clear hgrow hown' hx4 hown1;go_wp2;go_roundw
    case rel=>exact ⟨k+1,by omega,by go_num,hb4,HX4,by rw [<-HL20.out];exact OW2⟩
    case measure=>exact MS_
   ·have hc':¬0<c:=by omega
    have hl2:l2=l:=by rw [hps.out];simp [hc']
    clear hc';subst hl2;have OW2:=hide hown1;clear hown1 hps;go_wp2;go_roundw
    case rel=>exact ⟨k+1,by omega,by go_num,hb1,HX1,by rw [<-HL20.out];exact OW2⟩
    case measure=>exact MS_
  ·have hk':k=3:=by omega
   subst hk';go_wp2;go_ret;exact⟨_,rfl,ZfS OW (by omega),hb⟩
theorem Zg8 (n:Value)(v tv:Value)(ls:List Lk)(f:Int)(w:World)(hls:ls.length<=1048576)(hv:ZaV w v ls w.heap.size):
  Calls Tryz.prog 89 #[.agg #[n,v,tv],M f] w fun e w'=>e=.returned (.bool (ZiV ls f))/\T_ w w':=by
 have HV:=hide hv;clear hv
 go_enter Tryz.func89,Tryz.ntmps89
 go_wp2_with fail
 refine (ZeD n v tv ls f _ hls (HV.out.then ((YAC _ _).alloc (YA _) _))).mono ?_;rintro e w1 ⟨x,rfl,hox,b1⟩;have hb1:T_ w w1:=((YAC w.heap.size w).alloc (YA _) _).trans (b1.mono (by simp));obtain⟨zs,hzs⟩:∃ zs,zs=ZbW ls f:=⟨_,rfl⟩;have hB:ZiV ls f=(decide (1<zs.length)&&(zs.head? == some 0)):=by rw [hzs];rfl
 have HB:=hide hB;rw [<-hzs] at hox;clear hB hzs b1;by_cases h1:1<zs.length
 ·obtain ⟨g,cap,rfl,hg,hl⟩:=ZdM hox (by omega);obtain⟨z,zr,rfl⟩:∃ z zr,zs=z::zr:=by
   cases zs with
   | nil=>simp at h1
   | cons z zr=>exact ⟨z,zr,rfl⟩
  have c0:w1.cell? (U g 0)=some (M z):=by rw [hox.cellAt 0 (by omega)];rfl
  have hb:(decide (1<(z::zr).length)&&((z::zr).head? == some 0))=(z==0):=by
   rw [YAc h1];simp
  have HB2:Hid (ZiV ls f=(z==0)):=HB.out.trans hb;generalize (z::zr).length=m at hox h1 hl |-;have h1':(1:Int)<(m:Int):=by omega
  have h0':(0:Int)<(m:Int):=by omega
  clear hox hb HB;go_wp2;go_ret;exact⟨by rw [HB2.out];rfl,hb1⟩
 ·obtain ⟨a,cap,rfl⟩:=Zcq hox;have hb:(decide (1<zs.length)&&(zs.head? == some 0))=false:=by rw [YAZ h1];rfl
  have HB2:Hid (ZiV ls f=false):=HB.out.trans hb;have h1':¬(1:Int)<(zs.length:Int):=by omega
  clear hox hb HB;go_wp2;go_ret;exact⟨by rw [HB2.out];rfl,hb1⟩
theorem add8 (g o j:Nat):((U g o):Addr).add j=(U g (o+j)):=by
 simp only [Addr.add]
 split <;> simp_all
def ZgP (w w':World)(row:Option Nat)(v:Value):Prop:=w.grownBy w' row/\∀ k,v.ownBlock=some k->row=some k\/w.heap.size<=k
theorem Zm1 (w:World)(base:Nat)(t ty e:TypeId)(i:TypeInfo)(z:Value)(ht:P.underlying t=some (.slice e))(hi:P.info? e=some i)(hz:i.zero=some z)
  (v:Value) (n:Nat) (xs:List Value) (hown:w.ownsRow base e i.size v n xs) (a:Addr) (m c:Nat) (news:List Value) (hl:news.length=m*i.size) (hnews:∀ j u,news[j]? = some u->w.cell? (a.add j)=some u) (h1:∀ u∈news,u.oneCell'=true)
  (hm:0<m) (h63:n+m<=maxLen) (hbytes:(n+m)*i.bytes<=140737488355328) {v':Value} {w':World} (hr:(Builtin.append_ #[t,t] ty #[v,.slice (some a) m c]).run P w=.ok v' w'):∀ k,v'.ownBlock=some k->v.ownBlock=some k\/w.heap.size<=k:=by
 have hsmall:n+m<=9223372036854775807:=by simp only [maxLen] at h63;omega
 intro k hk;rcases hown.2 with ⟨rfl,rfl⟩ | ⟨g,cap,cur,rfl,hbg,hg,hnc,hcm,hcs,htake⟩
 ·have h2:=run_append_nil (P:=P) w t ty e i z ht hi hz a m c news hl hnews (by omega) (by omega) (by have hb:=hbytes;simp only [Nat.zero_add] at hb;omega);rw [h2] at hr;cases hr;simp [Value.ownBlock] at hk;exact .inr (by omega)
 ·by_cases hroom:n+m<=cap
  ·have hfit:n*i.size+news.length<=cur.size:=by rw [hl,hcs, <-Nat.add_mul];exact Nat.mul_le_mul_right _ hroom
   have h2:=run_append_room (P:=P) w t ty e i ht hi g n cap cur hg a m c news hl hnews h1 hroom hfit;rw [h2] at hr;cases hr;exact .inl hk
  ·have h2:=run_append_grow (P:=P) w t ty e i z ht hi hz (U g 0) n cap xs hown.1 (hown.cells (g:=g) rfl) a m c news hl hnews (by omega) (by omega) (growslice_fits (by omega) hbytes);rw [h2] at hr;cases hr;simp [Value.ownBlock] at hk;exact .inr (by omega)
theorem ZoW (base g cap n m i vb:Nat)(ps:List RP)(r:RP)(w:World)(hnp:n=ps.length)(hm:m=1) (hrow:w.ownsRow base 39 8 (.slice (some (U g 0)) n cap) n (flat encP ps)) (hi:i<n) (hroom:n+m<=cap)
  (hvb:w.heap[vb]? = some (.cells (encP r).toArray 39 (0,0))) (hne:vb≠g) (hone:∀ p∈ps,∃ a k c,p.2=.slice a k c) (hr1:∀ u∈encP r,u.oneCell'=true):
  Calls Tryz.prog 191 #[.slice (some (U g 0)) n cap,M (i:Int),.slice (some (U vb 0)) m 1] w fun e w'=>∃ v,e=.returned v/\w'.ownsRow base 39 8 v (n+m) (flat encP (ps.take i++[r]++ps.drop i))/\ZgP w w' (some g) v:=by
 have hnl:(flat encP ps).length=n*8:=hrow.1;have hui:=Tryz.underlying96;have hus:=Tryz.underlying29;obtain⟨i0,hi0,hz0,hzs,hzb⟩:=info_parts Tryz.infoRec;have hsz:(Tryz.prog.info? 39).map (·.size)=some 8:=by rw [hi0];simp [hzs]
 rcases hrow.2 with ⟨h0,_⟩ | ⟨g',cap',cur,hv,hbg,hg,hnc,hcm,hcs,htk⟩
 ·simp at h0
 simp at hv;obtain⟨rfl,rfl⟩:=hv;have hmx:maxLen=9223372036854775807\/maxLen<=9223372036854775807:=by unfold maxLen;omega
 have hc63:cap<=9223372036854775807:=by omega
 have hD:(flat encP (ps.drop i)).length=(n-i)*8:=by rw [ZaD Zax,YAj, <-hnp]
 have hclen:cur.toList.length=cap*8:=by simpa using hcs
 have hRl:(encP r).length=8:=Zax r;have hov:∀ lb cb,(callFunc 230 #[.slice (some (U vb 0)) m 1,.slice (some (U g ((i+m)*8))) lb cb]).run Tryz.prog w=.ok (.value (.bool false)) w:=fun lb cb=>by
  rw [run_callFunc_extern Tryz.func230 (by kernel_rfl) (by kernel_rfl) (by kernel_rfl) (e:=Extern.SlicesOverlaps.overlaps #[29,29] #[4]) (by kernel_rfl),
   Lib.run_overlaps_apart w 29 4 39 hus 8 (by intro w;simp [Go.sizeOf,typeInfo,hi0,hzs]) (U vb 0) (U g ((i+m)*8)) m 1 lb cb hne 39 39 8 cur.size (by simp [World.shape?,hvb,hRl]) (by simp [World.shape?,hg]) (by omega) (Zae hvb 0) (Zae hvb 8)]
  rfl
 have hcell:∀ (W:World),W.heap=w.heap->∀ j u,(flat encP (ps.drop i))[j]? = some u->W.cell? (((U g (i*8)):Addr).add j)=some u:=fun W hW j u hj=>by
  rw [add8];simp only [World.cell?,hW,hg];rw [<-ZfH ps i (by omega), <-htk,List.getElem?_drop] at hj;have h2:i*8+j<n*8:=by
   have h3:=(YAD.1 hj).1;rw [YAS] at h3;omega
  rw [YAo h2] at hj;simpa using hj
 have hcp1:∀ (W:World),W.heap=w.heap->∀ ty dc sc,(Builtin.copy_ #[96,96] ty #[.slice (some (U g ((i+m)*8))) (n+m-(i+m)) dc,.slice (some (U g (i*8))) (n+m-i) sc]).run Tryz.prog W=.ok (goInt (Nat.min (n+m-i) (n+m-(i+m)))) (W.setRow g (cur.toList.take ((i+m)*8)++flat encP (ps.drop i)++cur.toList.drop ((i+m)*8+(flat encP (ps.drop i)).length)).toArray):=fun W hW ty dc sc=>
  ZaY W 96 96 ty 39 g ((i+m)*8) (n+m-(i+m)) dc (U g (i*8)) (n+m-i) sc 8 cur 39 (flat encP (ps.drop i)) hui hsz (by rw [hW];exact hg)
   (by rw [hD];congr 1;have:Nat.min (n+m-i) (n+m-(i+m))=n+m-(i+m):=Nat.min_eq_right (by omega);omega) (hcell W hW) (by rw [hD];omega) (Zds _ (fun p hp=>hone p (List.mem_of_mem_drop hp)))
 obtain⟨c1,hc1⟩:∃ c1,c1=cur.toList.take ((i+m)*8)++flat encP (ps.drop i)++cur.toList.drop ((i+m)*8+(flat encP (ps.drop i)).length):=⟨_,rfl⟩;rw [<-hc1] at hcp1;have hc1l:c1.length=cap*8:=by rw [hc1];simp only [YAO,YAS,YAj,hclen,hD];omega
 have hcp2:∀ (W:World),W.heap=(w.setRow g c1.toArray).heap->∀ ty dc,(Builtin.copy_ #[96,29] ty #[.slice (some (U g (i*8))) (n+m-i) dc,.slice (some (U vb 0)) m 1]).run Tryz.prog W=.ok (goInt (Nat.min m (n+m-i))) (W.setRow g (c1.take (i*8)++encP r++c1.drop (i*8+(encP r).length)).toArray):=fun W hW ty dc=>by
  have h:=ZaY (P:=Tryz.prog) W 96 29 ty 39 g (i*8) (n+m-i) dc (U vb 0) m 1 8 c1.toArray 39 (encP r) hui hsz (by rw [hW];exact setRow_heap w g cur _ 39 _ hg)
   (by rw [hRl];have:Nat.min m (n+m-i)=m:=YAR (by omega);omega) (fun j u hj=>by
    rw [add8];simp only [World.cell?,hW];rw [setRow_other w g vb _ hne,hvb];simpa using hj) (by rw [hRl];simp only [List.size_toArray,hc1l];omega) hr1
  simpa using h
 have hfin:c1.take (i*8)++encP r++c1.drop (i*8+(encP r).length)=flat encP (ps.take i)++encP r++flat encP (ps.drop i)++cur.toList.drop (i*8+8+(n-i)*8):=by
  have h:=ZpF cur.toList (flat encP (ps.drop i)) (encP r) (i*8) ((n-i)*8) hD hRl (by omega);rw [show i*8+8=(i+m)*8 by omega, <-hc1] at h;rw [h];congr 3
  ·rw [<-Zee ps i (by omega), <-htk,List.take_take,YAR (by omega)]
  ·omega
 have hdone:∀ W:World,W.heap=((w.setRow g c1.toArray).setRow g (c1.take (i*8)++encP r++c1.drop (i*8+(encP r).length)).toArray).heap->W.os=w.os->W.tape=w.tape->W.output=w.output->W.ownsRow base 39 8 (.slice (some (U g 0)) (n+m) cap) (n+m) (flat encP (ps.take i++[r]++ps.drop i))/\ZgP w W (some g) (.slice (some (U g 0)) (n+m) cap):=by
  intro W hW h1 h2 h3;have hAl:(flat encP (ps.take i)).length=i*8:=by rw [ZaD Zax,YAS,YAR (by omega)]
  refine⟨⟨?_,.inr ⟨g,cap,(flat encP (ps.take i)++encP r++flat encP (ps.drop i)++cur.toList.drop (i*8+8+(n-i)*8)).toArray,rfl,hbg,?_,hroom,hcm,?_,?_⟩⟩,⟨⟨h1,h2,h3,?_,?_⟩,fun k hk=>.inl hk⟩⟩
  ·rw [ZaD Zax,Zg9 ps r i (by omega)];omega
  ·rw [hW,hfin];exact setRow_heap _ g c1.toArray _ 39 _ (setRow_heap w g cur _ 39 _ hg)
  ·simp only [List.size_toArray,YAO,YAj,hclen,hD,hRl,hAl];omega
  ·rw [ZeA];exact Zb6 (by rw [hAl,hRl,hD];omega)
  ·rw [hW];simp
  ·intro k _ hk;have hkg:k≠g:=fun e=>hk (by rw [e]);rw [hW,setRow_other _ g k _ hkg,setRow_other _ g k _ hkg]
 have hz1:¬((m:Int)=0):=by omega
 have hz2:¬((i:Int)=(n:Int)):=by omega
 have hw1:IntKind.i64.wrap ((i:Int)+(m:Int))=(i:Int)+(m:Int):=by rw [IntKind.wrap_i64];omega
 have hw2:IntKind.i64.wrap ((n:Int)+(m:Int))=(n:Int)+(m:Int):=by rw [IntKind.wrap_i64];omega
 have hb1:(0:Int)<=(i:Int)+(m:Int):=by omega
 have hin:i<=n:=by omega
 have htn:((i:Int)+(m:Int)).toNat=i+m:=by omega
 have htn2:((n:Int)+(m:Int)).toNat=n+m:=by omega
 have hb2:¬(cap=i+m):=by omega
 have hb3:(i:Int)<=(n:Int)+(m:Int):=by omega
 have hb4:¬(cap=i):=by omega
 have hb5:¬((cap:Int)<(n:Int)+(m:Int)):=by omega
 have HD:=hide hdone;have HC1:=hide (hcp1 w.drew rfl);have mixed:Tryz.prog.follows .mixedOrders=true:=by kernel_rfl
 have HC2:=hide (hcp2 (w.drew.setRow g c1.toArray) rfl);have HOV:=hide hov;clear hdone hcp1 hcp2 hfin hc1 hcell hD hclen hRl hnl hov hc1l htk hcs hg hrow hvb hone hr1 hmx hsz hi0 hz0 hzs hzb hm hnp
 go_enter Tryz.func191,Tryz.ntmps191
 go_wp2_with (simp only [HOV.out])
 go_region_law_o (refine step_copy_runI rfl _ _ 96 96 rfl (.slice (some (U g ((i+m)*8))) (n+m-(i+m)) (cap-(i+m))) (.slice (some (U g (i*8))) (n+m-i) (cap-i)) (by simp [Act.eval,Act.put]) (by simp [Act.eval,Act.put]) (HC1 3 (cap-(i+m)) (cap-i)) ?_)
 go_wp2_with (refine wpList_copy_runI _ rfl _ _ 96 29 rfl (.slice (some (U g (i*8))) (n+m-i) (cap-i)) (.slice (some (U vb 0)) m 1) rfl rfl (HC2 3 (cap-i)) ?_)
 go_ret;exact⟨_,rfl,HD _ (by rw [<-YAW];rfl) rfl rfl rfl⟩
theorem Zh2 (base n m vb:Nat)(v:Value)(ps:List RP)(r:RP)(w:World)(hnp:n=ps.length)(hm:m=1)(hbase:base<=w.heap.size)(hn:n<=1048576)(hrow:w.ownsRow base 39 8 v n (flat encP ps))
  (hvb:w.heap[vb]? = some (.cells (encP r).toArray 39 (0,0))) (hr1:∀ u∈encP r,u.oneCell'=true):∃ v' w',(∀ ty,(Builtin.append_ #[96,29] ty #[v,.slice (some (U vb 0)) m 1]).run Tryz.prog w=.ok v' w')/\w'.ownsRow base 39 8 v' (n+m) (flat encP (ps.take n++[r]++ps.drop n))/\ZgP w w' v.ownBlock v':=by
 obtain⟨i0,hi0,hz0,hzs,hzb⟩:=info_parts Tryz.infoRec;obtain⟨a,c,hv⟩:=Zac hrow;obtain⟨v',w',h1,h2,h3,_⟩:=run_append_own (P:=Tryz.prog) w base 96 96 39 i0 _ 8 i0.bytes Tryz.underlying96 hi0 hz0 hzs rfl rfl (by omega) v n (flat encP ps) hrow (U vb 0) m 1 (encP r) (by rw [Zax,hm]) (fun j u hj=>by
  rw [add8,Nat.zero_add,Zaa hvb];simpa using hj) hr1 (by unfold maxLen;omega) (by rw [hzb];omega) hbase
 refine⟨v',w',fun ty=>?_,?_,h3,?_⟩
 ·rw [hv,Zd9 w 96 29 ty 39 i0 Tryz.underlying96 Tryz.underlying29 hi0, <-hv];exact h1
 ·rw [ZeA,hnp,YAf,List.drop_length];rw [hnp] at h2;simpa [flat] using h2
 ·refine Zm1 (P:=Tryz.prog) w base 96 96 39 i0 _ Tryz.underlying96 hi0 hz0 v n (flat encP ps) (by rw [hzs];exact hrow) (U vb 0) m 1 (encP r) (by rw [Zax,hm,hzs]) (fun j u hj=>by
   rw [add8,Nat.zero_add,Zaa hvb];simpa using hj) hr1 (by omega) (by unfold maxLen;omega) (by rw [hzb];omega) h1
theorem Zr4 (base n m vb:Nat)(v:Value)(ps:List RP)(r:RP)(w:World)(hnp:n=ps.length)(hm:m=1)(hbase:base<=w.heap.size)(hn:n<=1048576)(hrow:w.ownsRow base 39 8 v n (flat encP ps))
  (hvb:w.heap[vb]? = some (.cells (encP r).toArray 39 (0,0))) (hr1:∀ u∈encP r,u.oneCell'=true):
  Calls Tryz.prog 191 #[v,M (n:Int),.slice (some (U vb 0)) m 1] w fun e w'=>∃ v',e=.returned v'/\w'.ownsRow base 39 8 v' (n+m) (flat encP (ps.take n++[r]++ps.drop n))/\ZgP w w' v.ownBlock v':=by
 obtain⟨v',w',h1,h2,h3⟩:=Zh2 base n m vb v ps r w hnp hm hbase hn hrow hvb hr1;obtain⟨va,vc,hve⟩:=Zac h2;subst hve;have HR:=hide h1;generalize ps.take n++[r]++ps.drop n=l at *;have H2:=hide h2;have H3:=hide h3;have hz1:¬((m:Int)=0):=by omega
 clear h1 h2 h3 hvb hr1 hm hnp;rcases hrow.2 with ⟨h0,hn0⟩ | ⟨g,cap,cur,hv,hbg,hg,hnc,hcm,hcs,htk⟩
 ·subst h0;clear hrow;subst hn0
  go_enter Tryz.func191,Tryz.ntmps191
  go_wp2_with (at_builtin;refine Lib.wpList_append_run _ rfl _ _ _ _ rfl _ _ rfl rfl _ _ (HR _) ?_)
  go_ret;exact⟨_,rfl,(by simpa using H2.out),by simpa using H3.out⟩
 ·subst hv;have hc63:cap<=9223372036854775807:=by unfold maxLen at hcm;omega
  clear hrow hg hcs htk
  go_enter Tryz.func191,Tryz.ntmps191
  go_wp2_with (at_builtin;refine Lib.wpList_append_run _ rfl _ _ _ _ rfl _ _ rfl rfl _ _ (HR _) ?_)
  all_goals (go_ret;exact⟨_,rfl,H2,H3⟩)
theorem ZqF (base g cap n m i vb:Nat)(ps:List RP)(r:RP)(w:World)(hnp:n=ps.length)(hm:m=1)(hbase:base<=w.heap.size)(hn:n<=1048576) (hrow:w.ownsRow base 39 8 (.slice (some (U g 0)) n cap) n (flat encP ps)) (hi:i<n) (hroom:cap<n+m)
  (hvb:w.heap[vb]? = some (.cells (encP r).toArray 39 (0,0))) (hone:∀ p∈ps,∃ a k c,p.2=.slice a k c) (hr1:∀ u∈encP r,u.oneCell'=true):
  Calls Tryz.prog 191 #[.slice (some (U g 0)) n cap,M (i:Int),.slice (some (U vb 0)) m 1] w fun e w'=>∃ v,e=.returned v/\w'.ownsRow base 39 8 v (n+m) (flat encP (ps.take i++[r]++ps.drop i))/\ZgP w w' (some g) v:=by
 have hnl:(flat encP ps).length=n*8:=hrow.1;have hui:=Tryz.underlying96;have hus:=Tryz.underlying29;obtain⟨i0,hi0,hz0,hzs,hzb⟩:=info_parts Tryz.infoRec;have hsz:(Tryz.prog.info? 39).map (·.size)=some 8:=by rw [hi0];simp [hzs]
 rcases hrow.2 with ⟨h0,_⟩ | ⟨g',cap',cur,hv,hbg,hg,hnc,hcm,hcs,htk⟩
 ·simp at h0
 simp at hv;obtain⟨rfl,rfl⟩:=hv;have hc63:cap<=9223372036854775807:=by unfold maxLen at hcm;omega
 have hgw:=Zab hg;have hvw:=Zab hvb;have hD:(flat encP (ps.drop i)).length=(n-i)*8:=by rw [ZaD Zax,YAj, <-hnp]
 have hAl:(flat encP (ps.take i)).length=i*8:=by rw [ZaD Zax,YAS,YAR (by omega)]
 have hRl:(encP r).length=8:=Zax r;have hkk:(n:Int)+(m:Int)-(i:Int)=((n+m-i:Nat):Int):=by omega
 have hik:i+(n+m-i)=n+m:=by omega
 have hcellw:∀ (j:Nat) (u:Value),(flat encP ps)[j]? = some u->w.cell? (U g j)=some u:=fun j u hj=>by
  have h2:j<n*8:=by rw [<-hnl];exact (YAD.1 hj).1
  rw [<-htk,YAo h2] at hj;rw [Zaa hg];simpa using hj
 have hold:(Builtin.firstCells i0.size i (.slice (some (U g 0)) i cap)).run Tryz.prog w.drew=.ok (flat encP (ps.take i)).toArray w.drew:=by
  rw [hzs];exact run_firstCells_some w.drew 8 i (U g 0) i cap (flat encP (ps.take i)) hAl (fun j v hj=>by
   rw [add8,Nat.zero_add];refine hcellw j v ?_;rw [<-Zee ps i (by omega),List.getElem?_take] at hj
   split at hj
   ·exact hj
   ·cases hj)
 have hrz0:=Lib.run_append_grow_zeros (P:=Tryz.prog) w 96 3 96 39 i0 _ .i64 .i64 hui Tryz.underlying3 hi0 hz0 (some (U g 0)) i cap (flat encP (ps.take i)) hold (n+m-i) (by omega) (by rw [hzs];omega) (by omega) (by omega) (by rw [hzb];omega) (by rw [hzb,hik];exact growslice_fits hroom (by omega));rw [hik] at hrz0;have hGn:=grownCap_ge w (n+m) cap 39;have hGm:=grownCap_le_maxLen w (n+m) cap 39 (by unfold maxLen;omega);obtain⟨G,hG⟩:∃ G,G=grownCap w (n+m) cap 39:=⟨_,rfl⟩;rw [<-hG] at hrz0 hGn hGm;obtain⟨ROW,hROW⟩:∃ ROW:Array Value,ROW=(flat encP (ps.take i)).toArray++Builtin.zeroCells (Value.agg (recC Zbf (.slice none 0 0))).cells (n+m-i)++Builtin.zeroCells (Value.agg (recC Zbf (.slice none 0 0))).cells (G-(n+m)):=⟨_,rfl⟩;rw [<-hROW] at hrz0;have hRs:ROW.size=G*8:=by
  rw [hROW];simp only [Array.size_append,List.size_toArray,size_zeroCells,hAl,show (Value.agg (recC Zbf (.slice none 0 0))).cells.size=8 from rfl];omega
 have hRt:ROW.toList.take (i*8)=flat encP (ps.take i):=by
  rw [hROW];simp only [Array.toList_append,YAW];rw [<-hAl];exact List.take_left
 obtain⟨N,hN⟩:∃ N,N=w.heap.size:=⟨_,rfl⟩;obtain⟨W1,hW1⟩:∃ W1,W1=w.drew.alloc (.cells ROW 39):=⟨_,rfl⟩;rw [<-hW1, <-hN] at hrz0;have hrz:∀ ty,(Builtin.append_ #[96,3] ty #[.slice (some (U g 0)) i cap,M ((n:Int)+(m:Int)-(i:Int))]).run Tryz.prog w=.ok (.slice (some (U N 0)) (n+m) G) W1:=fun ty=>by
  rw [hkk];exact hrz0
 have g1:W1.heap[N]? = some (.cells ROW 39 (0,0)):=by rw [hW1,hN];exact YAE w.drew _
 have b1:∀ k,k<N->W1.heap[k]? = w.heap[k]? := fun k hk=>by rw [hW1];exact YAL _ _ _ (by rw [hN] at hk;exact hk)
 have s1:W1.heap.size=N+1:=by rw [hW1,hN];simp
 have hcpA:∀ ty dc,(Builtin.copy_ #[96,29] ty #[.slice (some (U N (i*8))) (n+m-i) dc,.slice (some (U vb 0)) m 1]).run Tryz.prog W1=.ok (goInt (Nat.min m (n+m-i))) (W1.setRow N (ROW.toList.take (i*8)++encP r++ROW.toList.drop (i*8+(encP r).length)).toArray):=fun ty dc=>
  ZaY W1 96 29 ty 39 N (i*8) (n+m-i) dc (U vb 0) m 1 8 ROW 39 (encP r) hui hsz g1
   (by rw [hRl];have:Nat.min m (n+m-i)=m:=YAR (by omega);omega) (fun j u hj=>by
    rw [add8,Nat.zero_add];simp only [World.cell?];rw [b1 vb (by omega),hvb];simpa using hj) (by rw [hRl,hRs];omega) hr1
 obtain⟨c1,hc1⟩:∃ c1,c1=ROW.toList.take (i*8)++encP r++ROW.toList.drop (i*8+(encP r).length):=⟨_,rfl⟩;rw [<-hc1] at hcpA;have hc1l:c1.length=G*8:=by
  rw [hc1];simp only [YAO,YAS,YAj,Array.length_toList,hRs,hRl];omega
 have hc1t:c1.take ((i+m)*8)=flat encP (ps.take i)++encP r:=by
  rw [hc1,hRt];rw [List.take_append_of_le_length (by simp only [YAO,hAl,hRl];omega),YAP (by simp only [YAO,hAl,hRl];omega)]
 obtain⟨W2,hW2⟩:∃ W2,W2=W1.setRow N c1.toArray:=⟨_,rfl⟩;rw [<-hW2] at hcpA;have g2:W2.heap[N]? = some (.cells c1.toArray 39 (0,0)):=by rw [hW2];exact setRow_heap W1 N ROW _ 39 _ g1
 have b2:∀ k,k<N->W2.heap[k]? = w.heap[k]? := fun k hk=>by rw [hW2,setRow_other W1 N k _ (by omega)];exact b1 k hk
 have s2:W2.heap.size=N+1:=by rw [hW2];simpa using s1
 have hcpB0:=fun dc sc=>ZaY (P:=Tryz.prog) W2.drew 96 96 3 39 N ((i+m)*8) (n+m-(i+m)) dc (U g (i*8)) (n-i) sc 8 c1.toArray 39 (flat encP (ps.drop i)) hui hsz g2
   (by rw [hD];congr 1;have:Nat.min (n-i) (n+m-(i+m))=n-i:=YAR (by omega);omega) (fun j u hj=>by
    rw [add8];have h2:=hcellw (i*8+j) u (by rw [<-ZfH ps i (by omega),List.getElem?_drop] at hj;exact hj);simp only [World.cell?] at h2 |-
    rw [show W2.drew.heap[g]? = w.heap[g]? from b2 g (by omega)];exact h2) (by rw [hD];simp only [List.size_toArray,hc1l];omega) (Zds _ (fun p hp=>hone p (List.mem_of_mem_drop hp)))
 obtain⟨c2,hc2⟩:∃ c2,c2=c1.take ((i+m)*8)++flat encP (ps.drop i)++c1.drop ((i+m)*8+(flat encP (ps.drop i)).length):=⟨_,rfl⟩;simp only [<-hc2] at hcpB0;obtain⟨W3,hW3⟩:∃ W3,W3=W2.drew.setRow N c2.toArray:=⟨_,rfl⟩;rw [<-hW3] at hcpB0;have g3:W3.heap[N]? = some (.cells c2.toArray 39 (0,0)):=by rw [hW3];exact setRow_heap W2.drew N c1.toArray _ 39 _ g2
 have b3:∀ k,k<N->W3.heap[k]? = w.heap[k]? := fun k hk=>by rw [hW3,setRow_other W2.drew N k _ (by omega)];exact b2 k hk
 have s3:W3.heap.size=N+1:=by rw [hW3];simpa using s2
 have hfin:W3.ownsRow base 39 8 (.slice (some (U N 0)) (n+m) G) (n+m) (flat encP (ps.take i++[r]++ps.drop i))/\ZgP w W3 (some g) (.slice (some (U N 0)) (n+m) G):=by
  refine⟨⟨?_,.inr ⟨N,G,c2.toArray,rfl,by rw [hN];exact hbase,g3,hGn,hGm,?_,?_⟩⟩,⟨⟨?_,?_,?_,by omega,fun k hk _=>b3 k (by omega)⟩,fun k hk=>.inr (Nat.le_of_eq (by rw [<-hN];simpa [Value.ownBlock] using hk))⟩⟩
  ·rw [ZaD Zax,Zg9 ps r i (by omega)];omega
  ·rw [hc2,hc1t];simp only [List.size_toArray,YAO,YAj,hc1l,hD,hRl,hAl];omega
  ·rw [ZeA,hc2,hc1t];exact Zb6 (by rw [hAl,hRl,hD];omega)
  ·rw [hW3,hW2,hW1];rfl
  ·rw [hW3,hW2,hW1];rfl
  ·rw [hW3,hW2,hW1];rfl
 have hz1:¬((m:Int)=0):=by omega
 have hz2:¬((i:Int)=(n:Int)):=by omega
 have hz3:(cap:Int)<(n:Int)+(m:Int):=by omega
 have hw1:IntKind.i64.wrap ((i:Int)+(m:Int))=(i:Int)+(m:Int):=by rw [IntKind.wrap_i64];omega
 have hw2:IntKind.i64.wrap ((n:Int)+(m:Int))=(n:Int)+(m:Int):=by rw [IntKind.wrap_i64];omega
 have hw3:IntKind.i64.wrap ((n:Int)+(m:Int)-(i:Int))=(n:Int)+(m:Int)-(i:Int):=by rw [IntKind.wrap_i64];omega
 have hb1:(0:Int)<=(i:Int)+(m:Int):=by omega
 have hin:i<=n:=by omega
 have htn:((i:Int)+(m:Int)).toNat=i+m:=by omega
 have hb3:(i:Int)<=(n:Int):=by omega
 have hGi:¬(G=i):=by omega
 have hGim:¬(G=i+m):=by omega
 have hci:¬(cap=i):=by omega
 have hG63:G<=9223372036854775807:=by unfold maxLen at hGm;omega
 have HD:=hide hfin;have HA:=hide hrz;have HC1:=hide hcpA;have HC2:=hide hcpB0;have mixed:Tryz.prog.follows .mixedOrders=true:=by kernel_rfl
 clear hfin hrz hcpA hcpB0 hrz0 g1 g2 g3 b1 b2 b3 s1 s2 s3 hW1 hW2 hW3 hc1 hc2 hc1l hc1t hROW hRs hRt hold hcellw hkk hik hN hG hGm hD hAl hRl hnl htk hcs hg hrow hvb hone hr1 hsz hi0 hz0 hzs hzb hm hnp
 go_enter Tryz.func191,Tryz.ntmps191
 go_wp2_with (first
  | (at_builtin;refine Lib.wpList_append_run _ rfl _ _ _ _ rfl _ _ rfl rfl _ _ (HA _) ?_)
  | (refine wpList_copy_runI _ rfl _ _ 96 29 rfl (.slice (some (U N (i*8))) (n+m-i) (G-i)) (.slice (some (U vb 0)) m 1) rfl rfl (HC1 3 (G-i)) ?_))
 go_region_law_o (refine step_copy_runI rfl _ _ 96 96 rfl (.slice (some (U N ((i+m)*8))) (n+m-(i+m)) (G-(i+m))) (.slice (some (U g (i*8))) (n-i) (cap-i)) (by simp [Act.eval,Act.put]) (by simp [Act.eval,Act.put]) (HC2 (G-(i+m)) (cap-i)) ?_)
 go_wp2;go_ret;exact⟨_,rfl,HD⟩
theorem Zh3 (w:World)(dT sT ty elem:TypeId)(d a:Option Addr)(dLen dCap sLen sCap sz:Nat)(hu:P.underlying dT=some (.slice elem))(hs:(P.info? elem).map (·.size)=some sz)(hn:Nat.min sLen dLen=0):
  (Builtin.copy_ #[dT,sT] ty #[.slice d dLen dCap,.slice a sLen sCap]).run P w=.ok (goInt 0) w:=by
 cases hq:P.info? elem with
 | none=>simp [hq] at hs
 | some i=>
  have hl:∀ (x:Addr),(loadCells x 0).run P w=.ok #[] w:=fun x=>by simpa using run_loadCells_list (P:=P) w x [] (by simp)
  cases d <;> cases a <;> simp [Builtin.copy_,run_underlying hu,Builtin.lenOf,Builtin.firstCells,sizeOf,typeInfo,hq,hn,storeCells,hl]
theorem ZaB {ops:Array Oper}{rest:List Oper}{o:Oper}{a:Act}{Q:Exit->Act->World->Prop}(hgd:o.guard=none)(d s:Operand)(dT sT:TypeId)
  (ho:o.op=.call { callee:=.builtin .copy,args:=#[d,s],argTypes:=#[dT,sT] }) (elem:TypeId) (sz:Nat) (hsz0:0<sz) (hu:P.underlying dT=some (.slice elem)) (hsz:(P.info? elem).map (·.size)=some sz)
  (dp sp:Option Addr) (dLen dCap sLen sCap c:Nat) (hd:a.eval d=.slice dp dLen dCap) (hs:a.eval s=.slice sp sLen sCap) (hc:Nat.min sLen dLen=c)
  (g off:Nat) (cur:List Value) (t:TypeId) (hg:w.heap[g]? = some (.cells cur.toArray t (0,0))) (cs:List Value) (hn:cs.length=c*sz)
  (hpos:0<c->dp=some (U g off)/\∃ ad,sp=some ad/\∀ j v,cs[j]? = some v->w.cell? (ad.add j)=some v)
  (hfit:off+cs.length<=cur.length) (h1:∀ v∈cs,v.oneCell'=true) (B:Nat) (w0:World) (hb:Below B w0 w) (hBg:B<=g)
  (h:∀ w',Hid (w'.heap[g]? = some (.cells (splice cur off cs).toArray t (0,0)))->Below B w0 w'->wpList P ops Q rest (a.put o.dst (goInt c)) w'):
  wpList P ops Q (o::rest) a w:=by
 by_cases h0:c=0
 ·subst h0;obtain rfl:cs=[]:=YAt (by simpa using hn);refine wpList_plain hgd fun K hK=>?_;have hr:=Zh3 (P:=P) w dT sT o.type elem dp sp dLen dCap sLen sCap sz hu hsz hc;refine wp_copy_runI w d s dT sT ho _ _ hd hs hr (hK _ _ (h w (show _=_ by simpa [splice] using hg) hb))
 ·obtain ⟨rfl,ad,rfl,hsrc⟩:=hpos (by omega);refine wpList_plain hgd fun K hK=>?_;have hr:=ZaY (P:=P) w dT sT o.type elem g off dLen dCap ad sLen sCap sz cur.toArray t cs hu hsz hg (by rw [hc];exact hn) hsrc (by simpa using hfit) h1;rw [hc] at hr;refine wp_copy_runI w d s dT sT ho _ _ hd hs hr (hK _ _ (h _ (show _=_ by simpa [splice] using setRow_heap w g _ _ t _ hg) (below_setRow hb hBg _)))
theorem Tryz.sizeRecS :(Tryz.prog.info? 39).map (·.size)=some 8:=by kernel_rfl
theorem ZfK {sz:Nat} (h:w.ownsRow base e sz (.slice (some (U g 0)) n n) n xs):∃ Z:List Value,Hid (Z.length=n*sz)/\Hid (w.heap[g]? = some (.cells Z.toArray e (0,0))):=by
 rcases h.2 with ⟨h0,_⟩ | ⟨g',cap',cur,hv,hb,hh,hnc,hcm,hcs,htk⟩
 ·cases h0
 ·cases hv;exact⟨cur.toList,hide (by simpa using hcs),hide (by simpa using hh)⟩
theorem Zi6 {L i m k:Nat}{Z X1 Y X2:List Value}{R:List RP}(hf:X1++(Y++X2)=flat encP R)(hR:R.length=L)(hmx:L<=maxLen)(l1:X1.length=i*8)(l2:Y.length=m*8)(l3:X2.length=k*8)(lz:Z.length=L*8)(hL:L=i+m+k)
  (hg:W.heap[z]? = some (.cells (Go.splice (Go.splice (Go.splice Z 0 X1) (i*8) Y) (i*8+m*8) X2).toArray 39 (0,0))):W.ownsRow z 39 8 (.slice (some (U z 0)) L L) R.length (flat encP R):=by
 rw [Go.splice_splice_splice Z X1 Y X2 (i*8) (m*8) l1 l2 (by rw [lz,l3,hL];omega),hf] at hg;have hfl:=ZaD Zax R;rw [hR];refine⟨by rw [hfl,hR],.inr ⟨z,L,_,rfl,YA _,hg,YA _,hmx,?_,?_⟩⟩
 ·simp [hfl,hR]
 ·simp [<-hR, <-hfl]
theorem ZeP {a b:Option Addr}{c m d:Nat}(h:Value.slice a n c=Value.slice b m d):a=b:=by cases h;rfl
theorem ZiL (g o q:Nat):((U g o):Addr).add q=(U g (o+q)):=by
 simp only [Addr.add]
 split <;> simp_all
theorem Zpo {cap size:Nat} (h:w.ownsRow base e size (.slice (some (U g 0)) n cap) n xs):g<w.heap.size:=(h.lt g rfl).2
theorem Zfh {cap size:Nat} (h:w.ownsRow base e size (.slice (some (U g 0)) n cap) n xs) (q:Nat) (x:Value) (hq:xs[q]? = some x):w.cell? (U g q)=some x:=by
 rcases h.2 with ⟨h0,_⟩ | ⟨g',cap',cur,hv,hb,hh,hnc,hcm,hcs,htk⟩
 ·cases h0
 ·cases hv;rw [<-htk] at hq;have hql:=(YAD.1 hq).1;rw [YAS] at hql;rw [YAo (by omega)] at hq;simp only [World.cell?,hh];simpa using hq
theorem Znc (ps:List RP)(i:Nat)(h:i<=ps.length):(flat encP ps).drop (i*8)=flat encP (ps.drop i):=by
 conv=>lhs;rw [<-YAa i ps,ZaF]
 rw [List.drop_append_of_le_length (by rw [ZaD Zax];simp;omega),List.drop_of_length_le (by rw [ZaD Zax];simp;omega),List.nil_append]
theorem Zl6 (v u:Value)(ps rs:List RP)(i j:Nat)(w:World)(hv:w.ownsRow 0 39 8 v ps.length (flat encP ps))(hu:w.ownsRow 0 39 8 u rs.length (flat encP rs))(hi:i<=ps.length)(hj:j<=ps.length)(hl:ps.length<=1048576)(hr:rs.length<=1048576)(h1:∀ p∈ps,∀ x∈encP p,x.oneCell'=true)(h2:∀ p∈rs,∀ x∈encP p,x.oneCell'=true):
  Calls Tryz.prog 158 #[v,M (i:Int),M (j:Int),u] w fun e w'=>∃ x,e=.returned x/\w'.ownsRow w.heap.size 39 8 x (ps.take i++rs++ps.drop j).length (flat encP (ps.take i++rs++ps.drop j))/\T_ w w':=by
 obtain⟨i0,hi0,hz0,hz1,hz2⟩:=info_parts Tryz.infoRec;have hflatps:(flat encP ps).length=ps.length*8:=ZaD Zax ps;obtain⟨X1,hX1⟩:∃ X,X=flat encP (ps.take i):=⟨_,rfl⟩;obtain⟨Y,hY⟩:∃ X,X=flat encP rs:=⟨_,rfl⟩;obtain⟨X2,hX2⟩:∃ X,X=flat encP (ps.drop j):=⟨_,rfl⟩;have lX1:X1.length=i*8:=by rw [hX1,ZaD Zax];simp;omega
 have lY:Y.length=rs.length*8:=by rw [hY,ZaD Zax]
 have lX2:X2.length=(ps.length-j)*8:=by rw [hX2,ZaD Zax];simp
 have oX1:∀ x∈X1,x.oneCell'=true:=by rw [hX1];intro x hx;obtain⟨p,hp,hxp⟩:=YAs.1 hx;exact h1 p (YAl hp) x hxp
 have oY:∀ x∈Y,x.oneCell'=true:=by rw [hY];intro x hx;obtain⟨p,hp,hxp⟩:=YAs.1 hx;exact h2 p hp x hxp
 have oX2:∀ x∈X2,x.oneCell'=true:=by rw [hX2];intro x hx;obtain⟨p,hp,hxp⟩:=YAs.1 hx;exact h1 p (List.mem_of_mem_drop hp) x hxp
 have hfin:X1++(Y++X2)=flat encP (ps.take i++rs++ps.drop j):=by rw [hX1,hY,hX2,YAW,ZaF,ZaF]
 have hlen:(ps.take i++rs++ps.drop j).length=i+rs.length+(ps.length-j):=by simp;omega
 -- the cells of the three runs,wherever the walk stands
 have srcA:∀ g c,v=.slice (some (U g 0)) ps.length c->∀ W,T_ w W->∀ q x,X1[q]? = some x->W.cell? (((U g 0):Addr).add q)=some x:=fun g c e W hb q x hq=>by
  subst e;have hql:q<i*8:=by rw [<-lX1];exact (YAD.1 hq).1
  have h0:(flat encP ps)[q]? = some x:=by
   rw [hX1, <-Zee ps i hi,YAo hql] at hq;exact hq
  have hc:=Zfh hv q x h0;rw [ZiL,Nat.zero_add];rw [hb.cell (p:=(U g q)) (Zpo hv)];exact hc
 have srcB:∀ g c,v=.slice (some (U g 0)) ps.length c->∀ W,T_ w W->∀ q x,X2[q]? = some x->W.cell? (((U g (j*8)):Addr).add q)=some x:=fun g c e W hb q x hq=>by
  subst e;have h0:(flat encP ps)[j*8+q]? = some x:=by
   rw [hX2, <-Znc ps j hj,List.getElem?_drop] at hq;exact hq
  have hc:=Zfh hv (j*8+q) x h0;rw [ZiL];rw [hb.cell (p:=(U g (j*8+q))) (Zpo hv)];exact hc
 have srcC:∀ g c,u=.slice (some (U g 0)) rs.length c->∀ W,T_ w W->∀ q x,Y[q]? = some x->W.cell? (((U g 0):Addr).add q)=some x:=fun g c e W hb q x hq=>by
  subst e;rw [hY] at hq;have hc:=Zfh hu q x hq;rw [ZiL,Nat.zero_add];rw [hb.cell (p:=(U g q)) (Zpo hu)];exact hc
 have HY0:=hide (show 0<rs.length->∃ g c,u=.slice (some (U g 0)) rs.length c from fun h=>by obtain ⟨g,c,e,_⟩:=Zce hu h;exact⟨g,c,e⟩);have HA:=hide srcA;have HB:=hide srcB;have HC:=hide srcC;have HFIN:=hide hfin;have HLEN:=hide hlen;have LX1:=hide lX1;have LY:=hide lY;have LX2:=hide lX2;have OX1:=hide oX1;have OY:=hide oY;have OX2:=hide oX2;obtain⟨ua,uc,hue⟩:=Zac hu;subst hue;obtain⟨m,hm⟩:∃ m,m=rs.length:=⟨_,rfl⟩;obtain⟨n,hn⟩:∃ n,n=ps.length:=⟨_,rfl⟩;rcases hv.2 with ⟨hv0,hn0⟩ | ⟨g,cap,cur,hve,hgb,hgh,hnc,hcm,hcs,hct⟩
 ·subst hv0;have hps:ps=[]:=by
   cases ps with
   | nil=>rfl
   | cons a l=>simp at hn0
  have hi9:i=0:=by rw [hps] at hi;simpa using hi
  have hj9:j=0:=by rw [hps] at hj;simpa using hj
  subst hi9;subst hj9;have hps0:ps.length=0:=by rw [hps];rfl
  rw [hps0] at HLEN LX2;rw [<-hm] at HC HY0 HLEN LY hr |-;clear srcA srcB srcC hfin hlen lX1 lY lX2 oX1 oY oX2 hv hu h1 h2 hX1 hY hX2 hflatps HA HB hn n hn0 hi hj hl;have HM:=hide hm;clear hm;obtain⟨R,hR⟩:∃ R,R=ps.take 0++rs++ps.drop 0:=⟨_,rfl⟩;rw [<-hR] at HFIN HLEN |-;clear hR hps0 hps;have HLEN2:=hide (show R.length=m by have:=HLEN.out;omega);have LX22:=hide (show X2.length=0*8 by have:=LX2.out;omega);clear HLEN LX2
  rename Hid (R.length=m)=>HLEN
  rename Hid (X2.length=0*8)=>LX2
  go_enter Tryz.func158,Tryz.ntmps158
  go_wp2;refine Zah (S:=(fun (_:World)=>True)) (by kernel_rfl) 13 rfl trivial (fun ops hops hHeld=>?_)
  iterate 13 (refine TK 13 ?_;try simp only [putS])
  refine wpAnyH_done (by rw [hops.out];kernel_rfl) ?_ _;clear hops ops
  go_wp2_with (first
   | (at_make;refine wpList_make_full _ rfl _ _ 29 rfl w.heap.size 39 i0 (.agg (recC Zbf (.slice none 0 0))) 8 Tryz.underlying29 hi0 hz0 hz1 .i64 .i64 _ _ (m) rfl rfl ?_ ?_ ?_ ?_ ?_ ?_;(omega);(omega);(rw [hz2];omega);(unfold maxLen;omega);(exact YA _);intro w1 ho1 hgr1;obtain⟨Z,LZ,G1⟩:=ZfK ho1;have B1:T_ w w1:=(YAC _ _).drew.grown hgr1 (by simp) (fun k hk=>by cases hk);clear ho1 hgr1)
   | (refine ZaB rfl (.tmp 33) (.tmp 34) 29 29 rfl 39 8 (by omega) Tryz.underlying29 Tryz.sizeRecS (some (U w.heap.size 0)) _ (m) (m) 0 _ 0 rfl rfl (YAR (by omega)) w.heap.size 0 Z 39 G1 X1 (LX1) (fun hc=>⟨rfl,(by exfalso;omega)⟩) (by rw [LX1.out,LZ.out];omega) OX1 w.heap.size w B1 (YA _) ?_;intro w2 G2 B2)
   | (refine ZaB rfl (.tmp 39) (.tmp 40) 29 29 rfl 39 8 (by omega) Tryz.underlying29 Tryz.sizeRecS _ _ m m m _ m rfl rfl (YAR (by omega)) w.heap.size (0*8) _ 39 G2 Y (LY) (fun hc=>⟨(by first | rfl | (exfalso;omega)),(by obtain ⟨gu,cu,eu⟩:=HY0.out hc;have ea:=ZeP eu;exact⟨_,ea,HC gu cu eu _ B2⟩)⟩) (by rw [Go.length_splice _ _ _ (by rw [LX1.out,LZ.out];omega),LY.out,LZ.out];omega) OY w.heap.size w B2 (YA _) ?_;intro w3 G3 B3)
   | (refine ZaB rfl (.tmp 45) (.tmp 46) 29 29 rfl 39 8 (by omega) Tryz.underlying29 Tryz.sizeRecS _ _ 0 0 (0) _ (0) rfl rfl (YAR (by omega)) w.heap.size (0*8+m*8) _ 39 G3 X2 (LX2) (fun hc=>⟨(by first | exact congrArg (fun o=>some (Addr.mk w.heap.size o none)) (Nat.add_mul 0 m 8) | (exfalso;omega)),(by exfalso;omega)⟩) (by rw [Go.length_splice _ _ _ (by rw [Go.length_splice _ _ _ (by rw [LX1.out,LZ.out];omega),LY.out,LZ.out];omega),Go.length_splice _ _ _ (by rw [LX1.out,LZ.out];omega),LX2.out,LZ.out];omega) OX2 w.heap.size w B3 (YA _) ?_;intro w4 G4 B4))
  go_ret;exact⟨_,rfl,Zi6 HFIN (by have h9:=HLEN.out;omega) (by unfold maxLen;omega) LX1 LY LX2 LZ (by omega) G4,B4⟩
 subst hve;rw [<-hn] at HA HB HLEN LX2 hi hj hnc hl |-;rw [<-hm] at HC HY0 HLEN LY hr |-;clear srcA srcB srcC hfin hlen lX1 lY lX2 oX1 oY oX2 hv hu h1 h2 hX1 hY hX2 hct hcs hflatps hgh;have HN:=hide hn;have HM:=hide hm;clear hn hm;have hI1:(0:Int)<=(i:Int):=by omega
 have hI3:i<=cap:=by omega
 have hJ1:(0:Int)<=(j:Int):=by omega
 have hcap2:(cap:Int)<=9223372036854775807:=by unfold maxLen at hcm;omega
 clear hcm hgb;obtain⟨L,hL⟩:∃ L,L=i+m+(n-j):=⟨_,rfl⟩;have HL:=hide hL;have hLi:i<=L:=by omega
 have hLm:i+m<=L:=by omega
 have hLs:L<=3145728:=by omega
 clear hL;obtain⟨R,hR⟩:∃ R,R=ps.take i++rs++ps.drop j:=⟨_,rfl⟩;rw [<-hR] at HFIN HLEN |-;clear hR;by_cases hjn:n=j
 ·have HLEN2:=hide (show R.length=i+m by have:=HLEN.out;omega);have LX22:=hide (show X2.length=0*8 by have:=LX2.out;rw [show n-j=0 by omega] at this;exact this);have hI9:i<=n:=hi;subst hjn;clear HLEN LX2 HL hLi hLm hLs L
  rename Hid (R.length=i+m)=>HLEN
  rename Hid (X2.length=0*8)=>LX2
  by_cases hm0:m=0
  ·subst hm0
   go_enter Tryz.func158,Tryz.ntmps158
   go_wp2;refine Zah (S:=(fun (_:World)=>True)) (by kernel_rfl) 13 rfl trivial (fun ops hops hHeld=>?_)
   iterate 13 (refine TK 13 ?_;try simp only [putS])
   refine wpAnyH_done (by rw [hops.out];kernel_rfl) ?_ _;clear hops ops
   go_wp2_with (first
    | (at_make;refine wpList_make_full _ rfl _ _ 29 rfl w.heap.size 39 i0 (.agg (recC Zbf (.slice none 0 0))) 8 Tryz.underlying29 hi0 hz0 hz1 .i64 .i64 _ _ (i) rfl rfl ?_ ?_ ?_ ?_ ?_ ?_;(omega);(omega);(rw [hz2];omega);(unfold maxLen;omega);(exact YA _);intro w1 ho1 hgr1;obtain⟨Z,LZ,G1⟩:=ZfK ho1;have B1:T_ w w1:=(YAC _ _).drew.grown hgr1 (by simp) (fun k hk=>by cases hk);clear ho1 hgr1)
    | (refine ZaB rfl (.tmp 33) (.tmp 34) 29 29 rfl 39 8 (by omega) Tryz.underlying29 Tryz.sizeRecS (some (U w.heap.size 0)) _ (i) (i) i _ i rfl rfl (YAR (by omega)) w.heap.size 0 Z 39 G1 X1 (LX1) (fun hc=>⟨rfl,⟨_,rfl,HA g cap rfl _ B1⟩⟩) (by rw [LX1.out,LZ.out];omega) OX1 w.heap.size w B1 (YA _) ?_;intro w2 G2 B2)
    | (refine ZaB rfl (.tmp 39) (.tmp 40) 29 29 rfl 39 8 (by omega) Tryz.underlying29 Tryz.sizeRecS _ _ 0 0 0 _ 0 rfl rfl (YAR (by omega)) w.heap.size (i*8) _ 39 G2 Y (LY) (fun hc=>⟨(by first | rfl | (exfalso;omega)),(by obtain ⟨gu,cu,eu⟩:=HY0.out hc;have ea:=ZeP eu;exact⟨_,ea,HC gu cu eu _ B2⟩)⟩) (by rw [Go.length_splice _ _ _ (by rw [LX1.out,LZ.out];omega),LY.out,LZ.out];omega) OY w.heap.size w B2 (YA _) ?_;intro w3 G3 B3)
    | (refine ZaB rfl (.tmp 45) (.tmp 46) 29 29 rfl 39 8 (by omega) Tryz.underlying29 Tryz.sizeRecS _ _ 0 0 (0) _ (0) rfl rfl (YAR (by omega)) w.heap.size (i*8+0*8) _ 39 G3 X2 (LX2) (fun hc=>⟨(by first | exact congrArg (fun o=>some (Addr.mk w.heap.size o none)) (Nat.add_mul i 0 8) | (exfalso;omega)),(by exfalso;omega)⟩) (by rw [Go.length_splice _ _ _ (by rw [Go.length_splice _ _ _ (by rw [LX1.out,LZ.out];omega),LY.out,LZ.out];omega),Go.length_splice _ _ _ (by rw [LX1.out,LZ.out];omega),LX2.out,LZ.out];omega) OX2 w.heap.size w B3 (YA _) ?_;intro w4 G4 B4))
   go_ret;exact⟨_,rfl,Zi6 HFIN (by have h9:=HLEN.out;omega) (by unfold maxLen;omega) LX1 LY LX2 LZ (by omega) G4,B4⟩
  ·go_enter Tryz.func158,Tryz.ntmps158
   go_wp2;refine Zah (S:=(fun (_:World)=>True)) (by kernel_rfl) 13 rfl trivial (fun ops hops hHeld=>?_)
   iterate 13 (refine TK 13 ?_;try simp only [putS])
   refine wpAnyH_done (by rw [hops.out];kernel_rfl) ?_ _;clear hops ops
   go_wp2_with (first
    | (at_make;refine wpList_make_full _ rfl _ _ 29 rfl w.heap.size 39 i0 (.agg (recC Zbf (.slice none 0 0))) 8 Tryz.underlying29 hi0 hz0 hz1 .i64 .i64 _ _ (i+m) rfl rfl ?_ ?_ ?_ ?_ ?_ ?_;(omega);(omega);(rw [hz2];omega);(unfold maxLen;omega);(exact YA _);intro w1 ho1 hgr1;obtain⟨Z,LZ,G1⟩:=ZfK ho1;have B1:T_ w w1:=(YAC _ _).drew.grown hgr1 (by simp) (fun k hk=>by cases hk);clear ho1 hgr1)
    | (refine ZaB rfl (.tmp 33) (.tmp 34) 29 29 rfl 39 8 (by omega) Tryz.underlying29 Tryz.sizeRecS (some (U w.heap.size 0)) _ (i+m) (i+m) i _ i rfl rfl (YAR (by omega)) w.heap.size 0 Z 39 G1 X1 (LX1) (fun hc=>⟨rfl,⟨_,rfl,HA g cap rfl _ B1⟩⟩) (by rw [LX1.out,LZ.out];omega) OX1 w.heap.size w B1 (YA _) ?_;intro w2 G2 B2)
    | (refine ZaB rfl (.tmp 39) (.tmp 40) 29 29 rfl 39 8 (by omega) Tryz.underlying29 Tryz.sizeRecS _ _ m m m _ m rfl rfl (YAR (by omega)) w.heap.size (i*8) _ 39 G2 Y (LY) (fun hc=>⟨(by first | rfl | (exfalso;omega)),(by obtain ⟨gu,cu,eu⟩:=HY0.out hc;have ea:=ZeP eu;exact⟨_,ea,HC gu cu eu _ B2⟩)⟩) (by rw [Go.length_splice _ _ _ (by rw [LX1.out,LZ.out];omega),LY.out,LZ.out];omega) OY w.heap.size w B2 (YA _) ?_;intro w3 G3 B3)
    | (refine ZaB rfl (.tmp 45) (.tmp 46) 29 29 rfl 39 8 (by omega) Tryz.underlying29 Tryz.sizeRecS _ _ (i+m-(i+m)) (i+m-(i+m)) (0) _ (0) rfl rfl (YAR (by omega)) w.heap.size (i*8+m*8) _ 39 G3 X2 (LX2) (fun hc=>⟨(by first | exact congrArg (fun o=>some (Addr.mk w.heap.size o none)) (Nat.add_mul i m 8) | (exfalso;omega)),(by exfalso;omega)⟩) (by rw [Go.length_splice _ _ _ (by rw [Go.length_splice _ _ _ (by rw [LX1.out,LZ.out];omega),LY.out,LZ.out];omega),Go.length_splice _ _ _ (by rw [LX1.out,LZ.out];omega),LX2.out,LZ.out];omega) OX2 w.heap.size w B3 (YA _) ?_;intro w4 G4 B4))
   go_ret;exact⟨_,rfl,Zi6 HFIN (by have h9:=HLEN.out;omega) (by unfold maxLen;omega) LX1 LY LX2 LZ (by omega) G4,B4⟩
 have hne1:¬L=i:=by have:=HL.out;omega
 have hne2:¬L=i+m:=by have:=HL.out;omega
 go_enter Tryz.func158,Tryz.ntmps158
 go_wp2;refine Zah (S:=(fun (_:World)=>True)) (by kernel_rfl) 13 rfl trivial (fun ops hops hHeld=>?_)
 iterate 13 (refine TK 13 ?_;try simp only [putS])
 refine wpAnyH_done (by rw [hops.out];kernel_rfl) ?_ _;clear hops ops
 go_wp2_with (first
  | (at_make;refine wpList_make_full _ rfl _ _ 29 rfl w.heap.size 39 i0 (.agg (recC Zbf (.slice none 0 0))) 8 Tryz.underlying29 hi0 hz0 hz1 .i64 .i64 _ _ (L) rfl rfl ?_ ?_ ?_ ?_ ?_ ?_;(have hh:=HL.out;omega);(have hh:=HL.out;omega);(rw [hz2];omega);(unfold maxLen;omega);(exact YA _);intro w1 ho1 hgr1;obtain⟨Z,LZ,G1⟩:=ZfK ho1;have B1:T_ w w1:=(YAC _ _).drew.grown hgr1 (by simp) (fun k hk=>by cases hk);clear ho1 hgr1)
  | (refine ZaB rfl (.tmp 33) (.tmp 34) 29 29 rfl 39 8 (by omega) Tryz.underlying29 Tryz.sizeRecS (some (U w.heap.size 0)) _ (L) (L) i _ i rfl rfl (YAR (by omega)) w.heap.size 0 Z 39 G1 X1 (LX1) (fun hc=>⟨rfl,⟨_,rfl,HA g cap rfl _ B1⟩⟩) (by rw [LX1.out,LZ.out];omega) OX1 w.heap.size w B1 (YA _) ?_;intro w2 G2 B2)
  | (refine ZaB rfl (.tmp 39) (.tmp 40) 29 29 rfl 39 8 (by omega) Tryz.underlying29 Tryz.sizeRecS _ _ (L-i) (L-i) m _ m rfl rfl (YAR (by have hh:=HL.out;omega)) w.heap.size (i*8) _ 39 G2 Y (LY) (fun hc=>⟨(by first | rfl | (exfalso;have hh:=HL.out;omega)),(by obtain ⟨gu,cu,eu⟩:=HY0.out hc;have ea:=ZeP eu;exact⟨_,ea,HC gu cu eu _ B2⟩)⟩) (by rw [Go.length_splice _ _ _ (by rw [LX1.out,LZ.out];omega),LY.out,LZ.out];have hh:=HL.out;omega) OY w.heap.size w B2 (YA _) ?_;intro w3 G3 B3)
  | (refine ZaB rfl (.tmp 45) (.tmp 46) 29 29 rfl 39 8 (by omega) Tryz.underlying29 Tryz.sizeRecS _ _ (L-(i+m)) (L-(i+m)) (n-j) _ (n-j) rfl rfl (YAR (by have hh:=HL.out;omega)) w.heap.size (i*8+m*8) _ 39 G3 X2 (LX2) (fun hc=>⟨(by first | exact congrArg (fun o=>some (Addr.mk w.heap.size o none)) (Nat.add_mul i m 8) | (exfalso;have hh:=HL.out;omega)),⟨_,rfl,HB g cap rfl _ B3⟩⟩) (by rw [Go.length_splice _ _ _ (by rw [Go.length_splice _ _ _ (by rw [LX1.out,LZ.out];omega),LY.out,LZ.out];have hh:=HL.out;omega),Go.length_splice _ _ _ (by rw [LX1.out,LZ.out];omega),LX2.out,LZ.out];have hh:=HL.out;omega) OX2 w.heap.size w B3 (YA _) ?_;intro w4 G4 B4))
 go_ret;exact⟨_,rfl,Zi6 HFIN (by have hh:=HL.out;have h9:=HLEN.out;omega) (by unfold maxLen;omega) LX1 LY LX2 LZ (by have hh:=HL.out;omega) G4,B4⟩
structure HB (W:World) (lo z:Nat) (C:Array Value) (u:Value) (n:Nat) (q:Nat->Nat) (wd:Nat->WayD) (wv:Nat->Value):Prop where
 box:W.heap[z]? = some (.cells C 277)
 c7:C[7]? = some u
 hq:HQ W lo u n q wd wv
theorem HB.cell (h:HB W lo z C u n q wd wv):W.cell? (U z 7)=some u:=(Zaa h.box 7).trans h.c7
theorem HB.below (h:HB W lo z C u n q wd wv)(hb:T_ W W'):HB W' lo z C u n q wd wv:=
 ⟨(hb.block _ (Zab h.box)).trans h.box,h.c7,h.hq.below hb⟩
theorem HB.shuf {q':Nat->Nat}(h:HB W lo z C u n q wd wv)(hg:W.grownBy W' u.ownBlock)(ho:W'.ownsRow lo 272 1 u n (ptrs q' n))(hs:Shuf q q' n):HB W' lo z C u n q' wd wv:=by
 refine⟨(hg.block z (Zab h.box) (Zaq h.hq.row h.box (by decide))).trans h.box,h.c7,ho,fun i hi=>?_,fun i hi=>?_⟩
 ·obtain ⟨j,hj,e⟩:=hs.into i hi;rw [e];have hw:=h.hq.way j hj;exact (hg.block _ (Zab hw) (Zaq h.hq.row hw (by decide))).trans hw
 ·obtain ⟨j,hj,e⟩:=hs.into i hi;rw [e];exact h.hq.sl j hj
theorem Za8 {r:Option Nat}(hb:T_ W W'):W.grownBy W' r:=⟨hb.os,hb.tape,hb.output,hb.size,fun k hk _=>hb.block k hk⟩
theorem up_any (W:World)(lo z n:Nat)(C:Array Value)(u:Value)(q:Nat->Nat)(wd:Nat->WayD)(wv:Nat->Value)(j:Nat)(h:HB W lo z C u n q wd wv)(hj:j<n)(hn:n<=1048576)(hu:UpInv (fun k=>(wd k).cost) q n j):
  Calls Tryz.prog 277 #[.iface 295 (.pointer (some (U z 7))),M (j:Int)] W fun e W'=>∃ q',e=.returned (.tuple #[])/\Zc7 (fun k=>(wd k).cost) q' n/\Shuf q q' n/\HB W' lo z C u n q' wd wv/\W.grownBy W' u.ownBlock:=by
 have HU:=hide hu;have HH:=hide h;clear hu h
 go_enter Tryz.func277,Tryz.ntmps277
 go_wp2
 go_loopw [1] (fun i wr=>∃ (j:Nat) (q':Nat->Nat),j<n/\i=M (j:Int)/\Hid (UpInv (fun k=>(wd k).cost) q' n j)/\Hid (Shuf q q' n)/\Hid (HB wr lo z C u n q' wd wv)/\Hid (W.grownBy wr u.ownBlock)) (fun i _=>(intOf i).toNat)
 case atStart=>exact ⟨j,q,hj,rfl,HU,hide (Shuf.refl _ _),HH,hide (Zbz _ _)⟩
 case round=>
  rename World=>wa
  clear HU HH hj;obtain⟨j,q',hj,rfl,HU,HS,HH,HG⟩:=hrel;have cz:=HH.out.cell;by_cases hj0:j=0
  ·subst hj0;have HI:=hide (Zp2 HU (.inl rfl));go_wp2
   go_returns
   exact⟨q',rfl,HI,HS,HH,HG⟩
  ·have hw1:IntKind.i64.wrap ((j:Int)-1)=((j-1:Nat):Int):=by rw [ZaN _ (by omega) (by omega)];omega
   have hw2:((j-1:Nat):Int).tdiv 2=((par j:Nat):Int):=by rw [Int.tdiv_eq_ediv_of_nonneg (by omega)];unfold par;omega
   have hpl:par j<j:=ZdO (by omega);obtain⟨p,hp⟩:∃ p,p=par j:=⟨_,rfl⟩;rw [<-hp] at hw2 hpl;have HP:=hide hp;clear hp;have hne:((p:Int)==(j:Int))=false:=by
    have h1:¬(p:Int)=(j:Int):=by omega
    simpa using h1
   have hne2:¬(p:Int)=(j:Int):=by omega
   have HL:=hide (ZfJ wa lo n u q' wd wv j p HH.out.hq hj (by omega));have mL:=Zek cz;by_cases hlt:(wd (q' j)).cost<(wd (q' p)).cost
   ·go_wp2_with fail
    refine HL.out.mono ?_;rintro e w2 ⟨rfl,b2⟩;rw [YAc hlt];have H2:=HH.out.below b2;have cz2:=H2.cell;have mS:=Zel cz2;have HSW:=hide (ZfY w2 lo n u q' p j H2.hq.row (by omega) hj);have HB2:=hide H2;have HUP:=hide (Zst HU (by omega) hj (by rw [<-HP.out];exact hlt));rw [<-HP.out] at HUP;have HG2:=hide (Zaj HG (Za8 (r:=u.ownBlock) b2));clear b2 H2 mL
    go_wp2_with fail
    refine HSW.out.mono ?_;rintro e w3 ⟨rfl,ho3,hg3⟩;have HB3:=hide (HB2.out.shuf hg3 ho3 (Shuf.swap q' (by omega) hj));have HS3:=hide (HS.out.trans (Shuf.swap q' (i:=p) (j:=j) (by omega) hj));have HG3:=hide (Zaj HG2 hg3);clear ho3 hg3 mS;go_wp2;go_roundw
    case rel=>exact ⟨p,_,by omega,rfl,HUP,HS3,HB3,HG3⟩
    case measure=>exact MS_
   ·go_wp2_with fail
    refine HL.out.mono ?_;rintro e w2 ⟨rfl,b2⟩;rw [YAZ (by omega)];have HI:=hide (Zp2 HU (.inr (by rw [<-HP.out];show ¬(wd (q' j)).cost<(wd (q' p)).cost;omega)));have HB2:=hide (HH.out.below b2);have HG2:=hide (Zaj HG (Za8 (r:=u.ownBlock) b2));clear b2 mL;go_wp2
    go_returns
    exact⟨q',rfl,HI,HS,HB2,HG2⟩
theorem Zlw {c:Nat->Int}{i j:Nat}(h1:2*i+1<n->c (q j)<=c (q (2*i+1)))(h2:2*i+2<n->c (q j)<=c (q (2*i+2))):∀ k,0<k->k<n->par k=i->c (q j)<=c (q k):=by
 intro k h0 hk hp;rcases ZmL h0 hp with rfl | rfl
 ·exact h1 hk
 ·exact h2 hk
theorem Zqn (W:World)(lo z n m:Nat)(C:Array Value)(u:Value)(q:Nat->Nat)(wd:Nat->WayD)(wv:Nat->Value)(h:HB W lo z C u m q wd wv)(hnm:n<=m)(hn:m<=1048576)(hu:DownInv (fun k=>(wd k).cost) q n 0):
  Calls Tryz.prog 278 #[.iface 295 (.pointer (some (U z 7))),M 0,M (n:Int)] W fun e W'=>∃ (r:Value) (q':Nat->Nat),e=.returned r/\Zc7 (fun k=>(wd k).cost) q' n/\Shuf q q' n/\HB W' lo z C u m q' wd wv/\W.grownBy W' u.ownBlock:=by
 have HU:=hide hu;have HH:=hide h;clear hu h
 go_enter Tryz.func278,Tryz.ntmps278
 go_wp2
 go_loopw [7] (fun s wr=>∃ (i:Nat) (q':Nat->Nat),i<=n/\s=M (i:Int)/\Hid (DownInv (fun k=>(wd k).cost) q' n i)/\Hid (Shuf q q' n)/\Hid (HB wr lo z C u m q' wd wv)/\Hid (W.grownBy wr u.ownBlock)) (fun s _=>n-(intOf s).toNat)
 case atStart=>exact ⟨0,q,by omega,rfl,HU,hide (Shuf.refl _ _),HH,hide (Zbz _ _)⟩
 case round=>
  rename World=>wa
  clear HU HH;obtain⟨i,q',hi,rfl,HU,HS,HH,HG⟩:=hrel;have cz:=HH.out.cell;have hw1:IntKind.i64.wrap (2*(i:Int))=((2*i:Nat):Int):=by rw [ZaN _ (by omega) (by omega)];omega
  have hw2:IntKind.i64.wrap (((2*i:Nat):Int)+1)=((2*i+1:Nat):Int):=by rw [ZaN _ (by omega) (by omega)];omega
  have hw3:IntKind.i64.wrap (((2*i+1:Nat):Int)+1)=((2*i+2:Nat):Int):=by rw [ZaN _ (by omega) (by omega)];omega
  obtain⟨j1,hj1⟩:∃ j,j=2*i+1:=⟨_,rfl⟩;obtain⟨j2,hj2⟩:∃ j,j=2*i+2:=⟨_,rfl⟩;obtain⟨i2,hi2⟩:∃ j,j=2*i:=⟨_,rfl⟩;rw [<-hj1] at hw2 hw3;rw [<-hi2] at hw1 hw2;rw [<-hj2] at hw3;have HJ1:=hide hj1;have HJ2:=hide hj2;have hij:i<j1:=by omega
  have hj12:j2=j1+1:=by omega
  have HJ12:=hide hj12;have hj1n:¬(j1:Int)<0:=by omega
  clear hj1 hj2 hi2;by_cases hlt:j1<n
  ·clear hj12;have hij2:i<j2:=by have:=HJ12.out;omega
   have hge:¬(n:Int)<=(j1:Int):=by omega
   have hged:decide ((j1:Int)>=(n:Int))=false:=by simp;omega
   have hged2:decide ((n:Int)<=(j1:Int))=false:=by simp;omega
   by_cases hlt2:j2<n
   ·have hl2:(j2:Int)<(n:Int):=by omega
    have mL:=Zek cz;have HL:=hide (ZfJ wa lo m u q' wd wv j2 j1 HH.out.hq (by omega) (by omega));by_cases hc21:(wd (q' j2)).cost<(wd (q' j1)).cost
    ·go_wp2_with fail
     refine HL.out.mono ?_;rintro e w2 ⟨rfl,b2⟩;rw [YAc hc21];have HB2:=hide (HH.out.below b2);have HG2:=hide (Zaj HG (Za8 (r:=u.ownBlock) b2));clear b2 mL cz HL;have hlJ:j2<n:=by omega
     have cz5:=HB2.out.cell;have mL5:=Zek cz5;have HL5:=hide (ZfJ w2 lo m u q' wd wv j2 i HB2.out.hq (by omega) (by omega));have KM:=hide (Zlw (c:=fun k=>(wd k).cost) (q:=q') (n:=n) (i:=i) (j:=j2) (fun _=>by rw [<-HJ1.out];exact Int.le_of_lt hc21) (fun _=>by rw [<-HJ2.out];exact Int.le_refl _));by_cases hlt5:(wd (q' j2)).cost<(wd (q' i)).cost
     ·go_wp2_with fail
      refine HL5.out.mono ?_;rintro e w6 ⟨rfl,b6⟩;rw [YAc hlt5];have H6:=HB2.out.below b6;have cz6:=H6.cell;have mS:=Zel cz6;have HSW:=hide (ZfY w6 lo m u q' i j2 H6.hq.row (by omega) (by omega));have HB6:=hide H6;have HDN:=hide (ZgZ HU (j:=j2) (by omega) hlJ (by unfold par;have:=HJ1.out;have:=HJ2.out;omega) hlt5 KM);have HG6:=hide (Zaj HG2 (Za8 (r:=u.ownBlock) b6));clear b6 H6 mL5 cz5
      go_wp2_with fail
      refine HSW.out.mono ?_;rintro e w7 ⟨rfl,ho7,hg7⟩;have HB7:=hide (HB6.out.shuf hg7 ho7 (Shuf.swap q' (by omega) (by omega)));have HS7:=hide (HS.out.trans (Shuf.swap q' (i:=i) (j:=j2) (by omega) hlJ));have HG7:=hide (Zaj HG6 hg7);clear ho7 hg7 mS;go_wp2;go_roundw
      case rel=>exact ⟨j2,_,by omega,rfl,HDN,HS7,HB7,HG7⟩
      case measure=>exact MS_
     ·go_wp2_with fail
      refine HL5.out.mono ?_;rintro e w6 ⟨rfl,b6⟩;rw [YAZ (by omega)];have hle5:(wd (q' i)).cost<=(wd (q' j2)).cost:=by omega
      have HI:=hide (ZfC HU (fun k h0 hk hp=>Int.le_trans hle5 (KM k h0 hk hp)));have HB6:=hide (HB2.out.below b6);have HG6:=hide (Zaj HG2 (Za8 (r:=u.ownBlock) b6));clear b6 mL5 cz5;go_wp2
      go_returns
      first
       | exact ⟨_,q',rfl,HI,HS,HB6,HG6⟩
       | exact ⟨_,rfl,q',HI,HS,HB6,HG6⟩
    ·go_wp2_with fail
     refine HL.out.mono ?_;rintro e w2 ⟨rfl,b2⟩;rw [YAZ (by omega)];have hc21':(wd (q' j1)).cost<=(wd (q' j2)).cost:=by omega
     have HB2:=hide (HH.out.below b2);have HG2:=hide (Zaj HG (Za8 (r:=u.ownBlock) b2));clear b2 mL cz HL;have hlJ:j1<n:=by omega
     have cz5:=HB2.out.cell;have mL5:=Zek cz5;have HL5:=hide (ZfJ w2 lo m u q' wd wv j1 i HB2.out.hq (by omega) (by omega));have KM:=hide (Zlw (c:=fun k=>(wd k).cost) (q:=q') (n:=n) (i:=i) (j:=j1) (fun _=>by rw [<-HJ1.out];exact Int.le_refl _) (fun _=>by rw [<-HJ2.out];exact hc21'));by_cases hlt5:(wd (q' j1)).cost<(wd (q' i)).cost
     ·go_wp2_with fail
      refine HL5.out.mono ?_;rintro e w6 ⟨rfl,b6⟩;rw [YAc hlt5];have H6:=HB2.out.below b6;have cz6:=H6.cell;have mS:=Zel cz6;have HSW:=hide (ZfY w6 lo m u q' i j1 H6.hq.row (by omega) (by omega));have HB6:=hide H6;have HDN:=hide (ZgZ HU (j:=j1) (by omega) hlJ (by unfold par;have:=HJ1.out;have:=HJ2.out;omega) hlt5 KM);have HG6:=hide (Zaj HG2 (Za8 (r:=u.ownBlock) b6));clear b6 H6 mL5 cz5
      go_wp2_with fail
      refine HSW.out.mono ?_;rintro e w7 ⟨rfl,ho7,hg7⟩;have HB7:=hide (HB6.out.shuf hg7 ho7 (Shuf.swap q' (by omega) (by omega)));have HS7:=hide (HS.out.trans (Shuf.swap q' (i:=i) (j:=j1) (by omega) hlJ));have HG7:=hide (Zaj HG6 hg7);clear ho7 hg7 mS;go_wp2;go_roundw
      case rel=>exact ⟨j1,_,by omega,rfl,HDN,HS7,HB7,HG7⟩
      case measure=>exact MS_
     ·go_wp2_with fail
      refine HL5.out.mono ?_;rintro e w6 ⟨rfl,b6⟩;rw [YAZ (by omega)];have hle5:(wd (q' i)).cost<=(wd (q' j1)).cost:=by omega
      have HI:=hide (ZfC HU (fun k h0 hk hp=>Int.le_trans hle5 (KM k h0 hk hp)));have HB6:=hide (HB2.out.below b6);have HG6:=hide (Zaj HG2 (Za8 (r:=u.ownBlock) b6));clear b6 mL5 cz5;go_wp2
      go_returns
      first
       | exact ⟨_,q',rfl,HI,HS,HB6,HG6⟩
       | exact ⟨_,rfl,q',HI,HS,HB6,HG6⟩
   ·have hl2:¬(j2:Int)<(n:Int):=by omega
    have hlJ:j1<n:=by omega
    have cz5:=HH.out.cell;have mL5:=Zek cz5;have HL5:=hide (ZfJ wa lo m u q' wd wv j1 i HH.out.hq (by omega) (by omega));have KM:=hide (Zlw (c:=fun k=>(wd k).cost) (q:=q') (n:=n) (i:=i) (j:=j1) (fun _=>by rw [<-HJ1.out];exact Int.le_refl _) (fun h=>by have:=HJ2.out;omega));by_cases hlt5:(wd (q' j1)).cost<(wd (q' i)).cost
    ·go_wp2_with fail
     refine HL5.out.mono ?_;rintro e w6 ⟨rfl,b6⟩;rw [YAc hlt5];have H6:=HH.out.below b6;have cz6:=H6.cell;have mS:=Zel cz6;have HSW:=hide (ZfY w6 lo m u q' i j1 H6.hq.row (by omega) (by omega));have HB6:=hide H6;have HDN:=hide (ZgZ HU (j:=j1) (by omega) hlJ (by unfold par;have:=HJ1.out;have:=HJ2.out;omega) hlt5 KM);have HG6:=hide (Zaj HG (Za8 (r:=u.ownBlock) b6));clear b6 H6 mL5 cz5
     go_wp2_with fail
     refine HSW.out.mono ?_;rintro e w7 ⟨rfl,ho7,hg7⟩;have HB7:=hide (HB6.out.shuf hg7 ho7 (Shuf.swap q' (by omega) (by omega)));have HS7:=hide (HS.out.trans (Shuf.swap q' (i:=i) (j:=j1) (by omega) hlJ));have HG7:=hide (Zaj HG6 hg7);clear ho7 hg7 mS;go_wp2;go_roundw
     case rel=>exact ⟨j1,_,by omega,rfl,HDN,HS7,HB7,HG7⟩
     case measure=>exact MS_
    ·go_wp2_with fail
     refine HL5.out.mono ?_;rintro e w6 ⟨rfl,b6⟩;rw [YAZ (by omega)];have hle5:(wd (q' i)).cost<=(wd (q' j1)).cost:=by omega
     have HI:=hide (ZfC HU (fun k h0 hk hp=>Int.le_trans hle5 (KM k h0 hk hp)));have HB6:=hide (HH.out.below b6);have HG6:=hide (Zaj HG (Za8 (r:=u.ownBlock) b6));clear b6 mL5 cz5;go_wp2
     go_returns
     first
      | exact ⟨_,q',rfl,HI,HS,HB6,HG6⟩
      | exact ⟨_,rfl,q',HI,HS,HB6,HG6⟩
  ·clear hj12;have hge:(n:Int)<=(j1:Int):=by omega
   have HI:=hide (ZfC HU (fun k h0 hk hp=>by rcases ZmL h0 hp with e | e <;> (have:=HJ1.out;omega)));go_wp2
   go_returns
   first
    | exact ⟨_,q',rfl,HI,HS,HH,HG⟩
    | exact ⟨_,rfl,q',HI,HS,HH,HG⟩
    | exact ⟨⟨_,rfl⟩,q',HI,HS,HH,HG⟩
theorem Zol {B:Nat}{w1:World}(h:Below B w w1):Below B w (w1.drewN n):=h.trans ⟨rfl,rfl,rfl,YA _,fun _ _=>rfl⟩
end Go.Proofs.YtcnjnibnecpddaaGreat
