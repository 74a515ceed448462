/-
  StoreS HeapU InsWA
-/
import Derived.Test.YtadokhjefnkajaaGreatIe14
import Derived.Test.YtadokhjefnkajaaGreatIe7
import Derived.Test.YtadokhjefnkajaaGreatIe5
import Derived.Test.YtadokhjefnkajaaGreatIe3
import Derived.Test.YtadokhjefnkajaaGreatIe15
import Derived.Test.YtadokhjefnkajaaGreatIe16
namespace Go.Proofs.YtadokhjefnkajaaGreat
open Go.RowKit
set_option linter.unusedSimpArgs false
set_option linter.unusedVariables false
set_option maxRecDepth 100000
set_option maxHeartbeats 8000000
theorem ZnG {xs:List RecD}{k:Nat}(hk:k<xs.length)(h:Zb0 ordR xs k=false):ZaI xs=false:=by unfold ZaI ascB;rw [ZaT hk h];simp
theorem ZdL (v:Value)(ps:List RP)(w:World)(hn:tot ps<=1048576)(hv:Zbn w v ps w.heap.size):
  Calls Tryz.prog 26 #[v] w fun e w'=>e=.returned (.bool (ZaI (fsts ps)))/\Below w.heap.size w w':=by
 have hnl:=Zbh ps;obtain⟨a,cap,rfl⟩:=hv.shape;have HV:=hide hv;clear hv;have hfl:(fsts ps).length=ps.length:=by simp [fsts]
 by_cases hlong:(150:Int)<(ps.length:Int)
 ·have HF:=hide (Zhj (xs:=fsts ps) (by omega))
  clear hfl
  go_enter Tryz.func26,Tryz.ntmps26
  go_wp2
  go_ret
  exact⟨Zai HF.out,Below.refl _ _⟩
 have HFL:=hide hfl;clear hfl
 go_enter Tryz.func26,Tryz.ntmps26
 go_wp2
 go_loopw [3] (fun i wr=>∃ k:Nat,k<=ps.length/\i=.int .i64 k/\(∀ j,j<k->okAt ZaX (fsts ps) j=true)/\(∀ j,j<k->Zb0 ordR (fsts ps) j=true)/\Below w.heap.size w wr) (fun i _=>ps.length-(intOf i).toNat)
 case atStart=>exact ⟨0,by omega,rfl,by omega,by omega,Below.refl _ _⟩
 case round=>
  obtain⟨k,hk,rfl,hall,hasc,hnx⟩:=hrel;have HALL:=hide hall;have HASC:=hide hasc;clear hall hasc;have hsz:=hnx.size;by_cases hlt:k<ps.length
  ·obtain ⟨l,hl⟩:∃ p,ps[k]? = some p:=⟨ps[k],List.getElem?_eq_getElem hlt⟩
   obtain⟨b,off,cap',hve,hbb,c0,c1,c2,c3,c4,c5,c6,c7,hnr⟩:=HV.out.cells k l hl;cases hve
   rw [<-hnx.cell (p:=⟨b,off+k*8,none⟩) hbb] at c0;rw [<-hnx.cell (p:=⟨b,off+k*8+1,none⟩) hbb] at c1;rw [<-hnx.cell (p:=⟨b,off+k*8+2,none⟩) hbb] at c2;rw [<-hnx.cell (p:=⟨b,off+k*8+3,none⟩) hbb] at c3;rw [<-hnx.cell (p:=⟨b,off+k*8+4,none⟩) hbb] at c4;rw [<-hnx.cell (p:=⟨b,off+k*8+5,none⟩) hbb] at c5;rw [<-hnx.cell (p:=⟨b,off+k*8+6,none⟩) hbb] at c6;rw [<-hnx.cell (p:=⟨b,off+k*8+7,none⟩) hbb] at c7;have HOK:=hide (fun W (hb:Below w.heap.size w W)=>Zl7 l.2 l.1 W (by have:=ZdN (List.mem_of_getElem? hl);omega) ((ZaE.later hnr hb (Nat.le_refl _)).more hb.size))
   unfold recC at HOK;have HAT1:=hide (Zck (ok:=ZaX) (Zbw hl));obtain⟨qo,hqo⟩:∃ q,q=ZaX l.1:=⟨_,rfl⟩;rw [<-hqo] at HOK HAT1;have HL:=hide (Zbw hl);clear hqo hl hnr;have hbr:b<wr.heap.size:=by omega
   have hki:(0:Int)<=(k:Int):=by omega
   have hkj:(k:Int)<(ps.length:Int):=by omega
   have hnd:Below w.heap.size w wr.drew:=hnx.drew;cases qo
   ·have HF:=hide (Zjb (by rw [HFL.out];exact hlt) HAT1.out)
    go_wp2
    refine Zag (S:=(fun W=>W.cell? ⟨b,off+k*8,none⟩=some (.int .i64 l.1.area)/\W.cell? ⟨b,off+k*8+1,none⟩=some (.int .i64 l.1.kind)/\W.cell? ⟨b,off+k*8+2,none⟩=some (.int .i64 l.1.owner)/\W.cell? ⟨b,off+k*8+3,none⟩=some (.int .i64 l.1.key)/\W.cell? ⟨b,off+k*8+4,none⟩=some (.int .i64 l.1.seq)/\W.cell? ⟨b,off+k*8+5,none⟩=some (l.2)/\W.cell? ⟨b,off+k*8+6,none⟩=some (.int .i64 l.1.cost)/\W.cell? ⟨b,off+k*8+7,none⟩=some (.bool l.1.far))) (by kernel_rfl) 23 rfl ⟨c0,c1,c2,c3,c4,c5,c6,c7⟩ (fun ops hops hHeld=>?_)
    iterate 4
     refine Zar 23 ?_ ?_ ?_ (by rw [hops.out];kernel_rfl) ?_ ?_ (by assumption) ?_
     rotate_left 2
     ·rw [hops.out];simp only [getS,Nat.reduceSub,Nat.reduceAdd];rfl
     ·intro W hW;(try dsimp only at hW);go_simp <;> with_reducible rfl
     ·exact fun _ _ _=>id
     try simp only [putS]
    refine Zak 4 (oi:=?_) ?_ (by rw [hops.out];kernel_rfl) ?_ ?_
    rotate_left 1
    ·rw [hops.out];simp only [getS];rfl
    ·rw [hops.out];kernel_rfl
    intro K hK
    go_simp
    refine (HOK.out _ hnd).mono ?_
    rintro e w1 ⟨rfl,b1⟩;have hSn:_/\_:=(show ((fun W=>W.cell? ⟨b,off+k*8,none⟩=some (.int .i64 l.1.area)/\W.cell? ⟨b,off+k*8+1,none⟩=some (.int .i64 l.1.kind)/\W.cell? ⟨b,off+k*8+2,none⟩=some (.int .i64 l.1.owner)/\W.cell? ⟨b,off+k*8+3,none⟩=some (.int .i64 l.1.key)/\W.cell? ⟨b,off+k*8+4,none⟩=some (.int .i64 l.1.seq)/\W.cell? ⟨b,off+k*8+5,none⟩=some (l.2)/\W.cell? ⟨b,off+k*8+6,none⟩=some (.int .i64 l.1.cost)/\W.cell? ⟨b,off+k*8+7,none⟩=some (.bool l.1.far))) w1 from by
     obtain⟨m0,m1,m2,m3,m4,m5,m6,m7⟩:=hHeld;refine⟨?_,?_,?_,?_,?_,?_,?_,?_⟩ <;> (refine (b1.cell ?_).trans ?_ <;> assumption))
    refine hK.out _ _ hSn (fun hHeld=>?_)
    clear hK K hSn
    try simp only [putS]
    iterate 2
     refine Zar 23 ?_ ?_ ?_ (by rw [hops.out];kernel_rfl) ?_ ?_ (by assumption) ?_
     rotate_left 2
     ·rw [hops.out];simp only [getS,Nat.reduceSub,Nat.reduceAdd];rfl
     ·intro W hW;(try dsimp only at hW);go_simp <;> with_reducible rfl
     ·exact fun _ _ _=>id
     try simp only [putS]
    refine Zad 7 20 (by rw [hops.out];kernel_rfl) (fun _ _ _ h=>h) (by assumption) ?_
    try simp only [putS]
    refine Zad 8 21 (by rw [hops.out];kernel_rfl) (fun _ _ _ h=>h) (by assumption) ?_
    try simp only [putS]
    refine Zad 9 22 (by rw [hops.out];kernel_rfl) (fun _ _ _ h=>h) (by assumption) ?_
    try simp only [putS]
    refine Zad 10 23 (by rw [hops.out];kernel_rfl) (fun _ _ _ h=>h) (by assumption) ?_
    try simp only [putS]
    refine Zad 11 24 (by rw [hops.out];kernel_rfl) (fun _ _ _ h=>h) (by assumption) ?_
    try simp only [putS]
    refine Zad 12 25 (by rw [hops.out];kernel_rfl) (fun _ _ _ h=>h) (by assumption) ?_
    try simp only [putS]
    refine Zad 13 26 (by rw [hops.out];kernel_rfl) (fun _ _ _ h=>h) (by assumption) ?_
    try simp only [putS]
    refine Zad 14 27 (by rw [hops.out];kernel_rfl) (fun _ _ _ h=>h) (by assumption) ?_
    try simp only [putS]
    refine Zad 15 28 (by rw [hops.out];kernel_rfl) (fun _ _ _ h=>h) (by assumption) ?_
    try simp only [putS]
    refine Zad 16 29 (by rw [hops.out];kernel_rfl) (fun _ _ _ h=>h) (by assumption) ?_
    try simp only [putS]
    refine Zad 17 30 (by rw [hops.out];kernel_rfl) (fun _ _ _ h=>h) (by assumption) ?_
    try simp only [putS]
    refine Zad 18 31 (by rw [hops.out];kernel_rfl) (fun _ _ _ h=>h) (by assumption) ?_
    try simp only [putS]
    refine Zad 19 32 (by rw [hops.out];kernel_rfl) (fun _ _ _ h=>h) (by assumption) ?_
    try simp only [putS]
    refine Zad 20 33 (by rw [hops.out];kernel_rfl) (fun _ _ _ h=>h) (by assumption) ?_
    try simp only [putS]
    refine Zad 21 34 (by rw [hops.out];kernel_rfl) (fun _ _ _ h=>h) (by assumption) ?_
    try simp only [putS]
    refine ZaP 22 ?_ ?_ ?_ (by rw [hops.out];kernel_rfl) ?_ ?_ (by assumption) ?_
    rotate_left 2
    ·rw [hops.out];simp only [getS];rfl
    ·intro W hW;(try dsimp only at hW);go_simp <;> with_reducible rfl
    ·exact fun _ _ _=>id
    try simp only [putS]
    refine wpAnyH_done (by rw [hops.out];kernel_rfl) ?_ _
    clear hops ops
    go_wp2
    go_ret
    exact⟨Zai HF.out,hnd.trans (b1.mono hsz)⟩
   by_cases hk0:k=0
   ·have hk1:¬(0:Int)<(k:Int):=by omega
    have HAT2:=hide (show Zb0 ordR (fsts ps) k=true by rw [hk0];rfl)
    clear hk0
    go_wp2
    refine Zag (S:=(fun W=>W.cell? ⟨b,off+k*8,none⟩=some (.int .i64 l.1.area)/\W.cell? ⟨b,off+k*8+1,none⟩=some (.int .i64 l.1.kind)/\W.cell? ⟨b,off+k*8+2,none⟩=some (.int .i64 l.1.owner)/\W.cell? ⟨b,off+k*8+3,none⟩=some (.int .i64 l.1.key)/\W.cell? ⟨b,off+k*8+4,none⟩=some (.int .i64 l.1.seq)/\W.cell? ⟨b,off+k*8+5,none⟩=some (l.2)/\W.cell? ⟨b,off+k*8+6,none⟩=some (.int .i64 l.1.cost)/\W.cell? ⟨b,off+k*8+7,none⟩=some (.bool l.1.far))) (by kernel_rfl) 23 rfl ⟨c0,c1,c2,c3,c4,c5,c6,c7⟩ (fun ops hops hHeld=>?_)
    iterate 4
     refine Zar 23 ?_ ?_ ?_ (by rw [hops.out];kernel_rfl) ?_ ?_ (by assumption) ?_
     rotate_left 2
     ·rw [hops.out];simp only [getS,Nat.reduceSub,Nat.reduceAdd];rfl
     ·intro W hW;(try dsimp only at hW);go_simp <;> with_reducible rfl
     ·exact fun _ _ _=>id
     try simp only [putS]
    refine Zak 4 (oi:=?_) ?_ (by rw [hops.out];kernel_rfl) ?_ ?_
    rotate_left 1
    ·rw [hops.out];simp only [getS];rfl
    ·rw [hops.out];kernel_rfl
    intro K hK
    go_simp
    refine (HOK.out _ hnd).mono ?_
    rintro e w1 ⟨rfl,b1⟩;have hSn:_/\_:=(show ((fun W=>W.cell? ⟨b,off+k*8,none⟩=some (.int .i64 l.1.area)/\W.cell? ⟨b,off+k*8+1,none⟩=some (.int .i64 l.1.kind)/\W.cell? ⟨b,off+k*8+2,none⟩=some (.int .i64 l.1.owner)/\W.cell? ⟨b,off+k*8+3,none⟩=some (.int .i64 l.1.key)/\W.cell? ⟨b,off+k*8+4,none⟩=some (.int .i64 l.1.seq)/\W.cell? ⟨b,off+k*8+5,none⟩=some (l.2)/\W.cell? ⟨b,off+k*8+6,none⟩=some (.int .i64 l.1.cost)/\W.cell? ⟨b,off+k*8+7,none⟩=some (.bool l.1.far))) w1 from by
     obtain⟨m0,m1,m2,m3,m4,m5,m6,m7⟩:=hHeld;refine⟨?_,?_,?_,?_,?_,?_,?_,?_⟩ <;> (refine (b1.cell ?_).trans ?_ <;> assumption))
    refine hK.out _ _ hSn (fun hHeld=>?_)
    clear hK K hSn
    try simp only [putS]
    iterate 3
     refine Zar 23 ?_ ?_ ?_ (by rw [hops.out];kernel_rfl) ?_ ?_ (by assumption) ?_
     rotate_left 2
     ·rw [hops.out];simp only [getS,Nat.reduceSub,Nat.reduceAdd];rfl
     ·intro W hW;(try dsimp only at hW);go_simp <;> with_reducible rfl
     ·exact fun _ _ _=>id
     try simp only [putS]
    refine ZaZ 8 (oi:=?_) (v:=.bool false) ?_ (by rw [hops.out];kernel_rfl) ?_ ?_ ?_ (by assumption) ?_
    rotate_left 1
    ·rw [hops.out];simp only [getS];rfl
    ·rw [hops.out];kernel_rfl
    ·intro W hW;(try dsimp only at hW);go_simp <;> (first | with_reducible rfl | (simp;omega) | omega)
    ·exact fun _ _ _=>id
    try simp only [putS]
    refine ZaP 9 ?_ ?_ ?_ (by rw [hops.out];kernel_rfl) ?_ ?_ (by assumption) ?_
    rotate_left 2
    ·rw [hops.out];simp only [getS];rfl
    ·intro W hW;(try dsimp only at hW);go_simp <;> with_reducible rfl
    ·exact fun _ _ _=>id
    try simp only [putS]
    refine Zad 10 23 (by rw [hops.out];kernel_rfl) (fun _ _ _ h=>h) (by assumption) ?_
    try simp only [putS]
    refine Zad 11 24 (by rw [hops.out];kernel_rfl) (fun _ _ _ h=>h) (by assumption) ?_
    try simp only [putS]
    refine Zad 12 25 (by rw [hops.out];kernel_rfl) (fun _ _ _ h=>h) (by assumption) ?_
    try simp only [putS]
    refine Zad 13 26 (by rw [hops.out];kernel_rfl) (fun _ _ _ h=>h) (by assumption) ?_
    try simp only [putS]
    refine Zad 14 27 (by rw [hops.out];kernel_rfl) (fun _ _ _ h=>h) (by assumption) ?_
    try simp only [putS]
    refine Zad 15 28 (by rw [hops.out];kernel_rfl) (fun _ _ _ h=>h) (by assumption) ?_
    try simp only [putS]
    refine Zad 16 29 (by rw [hops.out];kernel_rfl) (fun _ _ _ h=>h) (by assumption) ?_
    try simp only [putS]
    refine Zad 17 30 (by rw [hops.out];kernel_rfl) (fun _ _ _ h=>h) (by assumption) ?_
    try simp only [putS]
    refine Zad 18 31 (by rw [hops.out];kernel_rfl) (fun _ _ _ h=>h) (by assumption) ?_
    try simp only [putS]
    refine Zad 19 32 (by rw [hops.out];kernel_rfl) (fun _ _ _ h=>h) (by assumption) ?_
    try simp only [putS]
    refine Zad 20 33 (by rw [hops.out];kernel_rfl) (fun _ _ _ h=>h) (by assumption) ?_
    try simp only [putS]
    iterate 2
     refine Zar 23 ?_ ?_ ?_ (by rw [hops.out];kernel_rfl) ?_ ?_ (by assumption) ?_
     rotate_left 2
     ·rw [hops.out];simp only [getS,Nat.reduceSub,Nat.reduceAdd];rfl
     ·intro W hW;(try dsimp only at hW);go_simp <;> with_reducible rfl
     ·exact fun _ _ _=>id
     try simp only [putS]
    refine wpAnyH_done (by rw [hops.out];kernel_rfl) ?_ _
    clear hops ops
    go_wp2
    exact⟨⟨k+1,by omega,by go_num,ZaO HALL.out HAT1.out,ZaO HASC.out HAT2.out,hnd.trans (b1.mono hsz)⟩,by simp [intOf];omega⟩
   ·obtain ⟨j,hj⟩:∃ j,k=j+1:=⟨k-1,by omega⟩
    obtain⟨p,hp⟩:∃ p,ps[j]? = some p:=⟨ps[j],List.getElem?_eq_getElem (by omega)⟩
    obtain⟨b',off',cap2,hve2,hbb2,d0,d1,d2,d3,d4,d5,d6,d7,_⟩:=HV.out.cells j p hp;cases hve2
    rw [<-hnx.cell (p:=⟨b,off+j*8,none⟩) hbb] at d0;rw [<-hnx.cell (p:=⟨b,off+j*8+1,none⟩) hbb] at d1;rw [<-hnx.cell (p:=⟨b,off+j*8+2,none⟩) hbb] at d2;rw [<-hnx.cell (p:=⟨b,off+j*8+3,none⟩) hbb] at d3;rw [<-hnx.cell (p:=⟨b,off+j*8+4,none⟩) hbb] at d4;rw [<-hnx.cell (p:=⟨b,off+j*8+5,none⟩) hbb] at d5;rw [<-hnx.cell (p:=⟨b,off+j*8+6,none⟩) hbb] at d6;rw [<-hnx.cell (p:=⟨b,off+j*8+7,none⟩) hbb] at d7;have hat2:Zb0 ordR (fsts ps) k=decide (ordR p.1 l.1<0):=by rw [hj];exact ZbW (Zbw hp) (by rw [<-hj];exact HL.out)
    rw [ZfI] at hat2;have hj1:(k:Int)-1=(j:Int):=by omega
    have hj2:(0:Int)<=(j:Int):=by omega
    have hj3:(j:Int)<(ps.length:Int):=by omega
    have hj4:(0:Int)<(k:Int):=by omega
    have hj5:IntKind.i64.wrap (j:Int)=(j:Int):=ZaK _ (by omega) (by omega)
    have HBF:=hide (fun W=>Zeu p.2 l.2 p.1 l.1 W)
    unfold recC at HBF;obtain⟨qb,hqb⟩:∃ q,q=Zam p.1 l.1:=⟨_,rfl⟩;rw [<-hqb] at HBF hat2;have HAT2:=hide hat2;clear hqb hp hat2 hj hk0 hbb2;cases qb
    ·have HF:=hide (ZnG (by rw [HFL.out];exact hlt) HAT2.out)
     go_wp2
     refine Zag (S:=(fun W=>W.cell? ⟨b,off+k*8,none⟩=some (.int .i64 l.1.area)/\W.cell? ⟨b,off+k*8+1,none⟩=some (.int .i64 l.1.kind)/\W.cell? ⟨b,off+k*8+2,none⟩=some (.int .i64 l.1.owner)/\W.cell? ⟨b,off+k*8+3,none⟩=some (.int .i64 l.1.key)/\W.cell? ⟨b,off+k*8+4,none⟩=some (.int .i64 l.1.seq)/\W.cell? ⟨b,off+k*8+5,none⟩=some (l.2)/\W.cell? ⟨b,off+k*8+6,none⟩=some (.int .i64 l.1.cost)/\W.cell? ⟨b,off+k*8+7,none⟩=some (.bool l.1.far)/\W.cell? ⟨b,off+j*8,none⟩=some (.int .i64 p.1.area)/\W.cell? ⟨b,off+j*8+1,none⟩=some (.int .i64 p.1.kind)/\W.cell? ⟨b,off+j*8+2,none⟩=some (.int .i64 p.1.owner)/\W.cell? ⟨b,off+j*8+3,none⟩=some (.int .i64 p.1.key)/\W.cell? ⟨b,off+j*8+4,none⟩=some (.int .i64 p.1.seq)/\W.cell? ⟨b,off+j*8+5,none⟩=some (p.2)/\W.cell? ⟨b,off+j*8+6,none⟩=some (.int .i64 p.1.cost)/\W.cell? ⟨b,off+j*8+7,none⟩=some (.bool p.1.far))) (by kernel_rfl) 23 rfl ⟨c0,c1,c2,c3,c4,c5,c6,c7,d0,d1,d2,d3,d4,d5,d6,d7⟩ (fun ops hops hHeld=>?_)
     iterate 4
      refine Zar 23 ?_ ?_ ?_ (by rw [hops.out];kernel_rfl) ?_ ?_ (by assumption) ?_
      rotate_left 2
      ·rw [hops.out];simp only [getS,Nat.reduceSub,Nat.reduceAdd];rfl
      ·intro W hW;(try dsimp only at hW);go_simp <;> with_reducible rfl
      ·exact fun _ _ _=>id
      try simp only [putS]
     refine Zak 4 (oi:=?_) ?_ (by rw [hops.out];kernel_rfl) ?_ ?_
     rotate_left 1
     ·rw [hops.out];simp only [getS];rfl
     ·rw [hops.out];kernel_rfl
     intro K hK
     go_simp
     refine (HOK.out _ hnd).mono ?_
     rintro e w1 ⟨rfl,b1⟩;have hSn:_/\_:=(show ((fun W=>W.cell? ⟨b,off+k*8,none⟩=some (.int .i64 l.1.area)/\W.cell? ⟨b,off+k*8+1,none⟩=some (.int .i64 l.1.kind)/\W.cell? ⟨b,off+k*8+2,none⟩=some (.int .i64 l.1.owner)/\W.cell? ⟨b,off+k*8+3,none⟩=some (.int .i64 l.1.key)/\W.cell? ⟨b,off+k*8+4,none⟩=some (.int .i64 l.1.seq)/\W.cell? ⟨b,off+k*8+5,none⟩=some (l.2)/\W.cell? ⟨b,off+k*8+6,none⟩=some (.int .i64 l.1.cost)/\W.cell? ⟨b,off+k*8+7,none⟩=some (.bool l.1.far)/\W.cell? ⟨b,off+j*8,none⟩=some (.int .i64 p.1.area)/\W.cell? ⟨b,off+j*8+1,none⟩=some (.int .i64 p.1.kind)/\W.cell? ⟨b,off+j*8+2,none⟩=some (.int .i64 p.1.owner)/\W.cell? ⟨b,off+j*8+3,none⟩=some (.int .i64 p.1.key)/\W.cell? ⟨b,off+j*8+4,none⟩=some (.int .i64 p.1.seq)/\W.cell? ⟨b,off+j*8+5,none⟩=some (p.2)/\W.cell? ⟨b,off+j*8+6,none⟩=some (.int .i64 p.1.cost)/\W.cell? ⟨b,off+j*8+7,none⟩=some (.bool p.1.far))) w1 from by
      obtain⟨m0,m1,m2,m3,m4,m5,m6,m7,n0,n1,n2,n3,n4,n5,n6,n7⟩:=hHeld;refine⟨?_,?_,?_,?_,?_,?_,?_,?_,?_,?_,?_,?_,?_,?_,?_,?_⟩ <;> (refine (b1.cell ?_).trans ?_ <;> assumption))
     refine hK.out _ _ hSn (fun hHeld=>?_)
     clear hK K hSn
     try simp only [putS]
     have hbr:b<w1.heap.size:=Nat.lt_of_lt_of_le hbr b1.size
     iterate 3
      refine Zar 23 ?_ ?_ ?_ (by rw [hops.out];kernel_rfl) ?_ ?_ (by assumption) ?_
      rotate_left 2
      ·rw [hops.out];simp only [getS,Nat.reduceSub,Nat.reduceAdd];rfl
      ·intro W hW;(try dsimp only at hW);go_simp <;> with_reducible rfl
      ·exact fun _ _ _=>id
      try simp only [putS]
     refine ZaZ 8 (oi:=?_) (v:=.bool true) ?_ (by rw [hops.out];kernel_rfl) ?_ ?_ ?_ (by assumption) ?_
     rotate_left 1
     ·rw [hops.out];simp only [getS];rfl
     ·rw [hops.out];kernel_rfl
     ·intro W hW;(try dsimp only at hW);go_simp <;> (first | with_reducible rfl | (simp;omega) | omega)
     ·exact fun _ _ _=>id
     try simp only [putS]
     iterate 10
      refine Zar 23 ?_ ?_ ?_ (by rw [hops.out];kernel_rfl) ?_ ?_ (by assumption) ?_
      rotate_left 2
      ·rw [hops.out];simp only [getS,Nat.reduceSub,Nat.reduceAdd];rfl
      ·intro W hW;(try dsimp only at hW);go_simp <;> with_reducible rfl
      ·exact fun _ _ _=>id
      try simp only [putS]
     refine Zak 19 (oi:=?_) ?_ (by rw [hops.out];kernel_rfl) ?_ ?_
     rotate_left 1
     ·rw [hops.out];simp only [getS];rfl
     ·rw [hops.out];kernel_rfl
     intro K hK
     go_simp
     refine (HBF.out _).mono ?_
     rintro e w2 ⟨rfl,b2⟩;have hSn:_/\_:=(show ((fun W=>W.cell? ⟨b,off+k*8,none⟩=some (.int .i64 l.1.area)/\W.cell? ⟨b,off+k*8+1,none⟩=some (.int .i64 l.1.kind)/\W.cell? ⟨b,off+k*8+2,none⟩=some (.int .i64 l.1.owner)/\W.cell? ⟨b,off+k*8+3,none⟩=some (.int .i64 l.1.key)/\W.cell? ⟨b,off+k*8+4,none⟩=some (.int .i64 l.1.seq)/\W.cell? ⟨b,off+k*8+5,none⟩=some (l.2)/\W.cell? ⟨b,off+k*8+6,none⟩=some (.int .i64 l.1.cost)/\W.cell? ⟨b,off+k*8+7,none⟩=some (.bool l.1.far)/\W.cell? ⟨b,off+j*8,none⟩=some (.int .i64 p.1.area)/\W.cell? ⟨b,off+j*8+1,none⟩=some (.int .i64 p.1.kind)/\W.cell? ⟨b,off+j*8+2,none⟩=some (.int .i64 p.1.owner)/\W.cell? ⟨b,off+j*8+3,none⟩=some (.int .i64 p.1.key)/\W.cell? ⟨b,off+j*8+4,none⟩=some (.int .i64 p.1.seq)/\W.cell? ⟨b,off+j*8+5,none⟩=some (p.2)/\W.cell? ⟨b,off+j*8+6,none⟩=some (.int .i64 p.1.cost)/\W.cell? ⟨b,off+j*8+7,none⟩=some (.bool p.1.far))) w2 from by
      obtain⟨m0,m1,m2,m3,m4,m5,m6,m7,n0,n1,n2,n3,n4,n5,n6,n7⟩:=hHeld;refine⟨?_,?_,?_,?_,?_,?_,?_,?_,?_,?_,?_,?_,?_,?_,?_,?_⟩ <;> (refine (b2.cell ?_).trans ?_ <;> assumption))
     refine hK.out _ _ hSn (fun hHeld=>?_)
     clear hK K hSn
     try simp only [putS]
     iterate 3
      refine Zar 23 ?_ ?_ ?_ (by rw [hops.out];kernel_rfl) ?_ ?_ (by assumption) ?_
      rotate_left 2
      ·rw [hops.out];simp only [getS,Nat.reduceSub,Nat.reduceAdd];rfl
      ·intro W hW;(try dsimp only at hW);go_simp <;> with_reducible rfl
      ·exact fun _ _ _=>id
      try simp only [putS]
     refine wpAnyH_done (by rw [hops.out];kernel_rfl) ?_ _
     clear hops ops
     go_wp2
     go_ret
     exact⟨Zai HF.out,(hnd.trans (b1.mono hsz)).trans (b2.mono (by have:=b1.size;have:wr.drew.heap.size=wr.heap.size:=rfl;omega))⟩
    ·go_wp2
     refine Zag (S:=(fun W=>W.cell? ⟨b,off+k*8,none⟩=some (.int .i64 l.1.area)/\W.cell? ⟨b,off+k*8+1,none⟩=some (.int .i64 l.1.kind)/\W.cell? ⟨b,off+k*8+2,none⟩=some (.int .i64 l.1.owner)/\W.cell? ⟨b,off+k*8+3,none⟩=some (.int .i64 l.1.key)/\W.cell? ⟨b,off+k*8+4,none⟩=some (.int .i64 l.1.seq)/\W.cell? ⟨b,off+k*8+5,none⟩=some (l.2)/\W.cell? ⟨b,off+k*8+6,none⟩=some (.int .i64 l.1.cost)/\W.cell? ⟨b,off+k*8+7,none⟩=some (.bool l.1.far)/\W.cell? ⟨b,off+j*8,none⟩=some (.int .i64 p.1.area)/\W.cell? ⟨b,off+j*8+1,none⟩=some (.int .i64 p.1.kind)/\W.cell? ⟨b,off+j*8+2,none⟩=some (.int .i64 p.1.owner)/\W.cell? ⟨b,off+j*8+3,none⟩=some (.int .i64 p.1.key)/\W.cell? ⟨b,off+j*8+4,none⟩=some (.int .i64 p.1.seq)/\W.cell? ⟨b,off+j*8+5,none⟩=some (p.2)/\W.cell? ⟨b,off+j*8+6,none⟩=some (.int .i64 p.1.cost)/\W.cell? ⟨b,off+j*8+7,none⟩=some (.bool p.1.far))) (by kernel_rfl) 23 rfl ⟨c0,c1,c2,c3,c4,c5,c6,c7,d0,d1,d2,d3,d4,d5,d6,d7⟩ (fun ops hops hHeld=>?_)
     iterate 4
      refine Zar 23 ?_ ?_ ?_ (by rw [hops.out];kernel_rfl) ?_ ?_ (by assumption) ?_
      rotate_left 2
      ·rw [hops.out];simp only [getS,Nat.reduceSub,Nat.reduceAdd];rfl
      ·intro W hW;(try dsimp only at hW);go_simp <;> with_reducible rfl
      ·exact fun _ _ _=>id
      try simp only [putS]
     refine Zak 4 (oi:=?_) ?_ (by rw [hops.out];kernel_rfl) ?_ ?_
     rotate_left 1
     ·rw [hops.out];simp only [getS];rfl
     ·rw [hops.out];kernel_rfl
     intro K hK
     go_simp
     refine (HOK.out _ hnd).mono ?_
     rintro e w1 ⟨rfl,b1⟩;have hSn:_/\_:=(show ((fun W=>W.cell? ⟨b,off+k*8,none⟩=some (.int .i64 l.1.area)/\W.cell? ⟨b,off+k*8+1,none⟩=some (.int .i64 l.1.kind)/\W.cell? ⟨b,off+k*8+2,none⟩=some (.int .i64 l.1.owner)/\W.cell? ⟨b,off+k*8+3,none⟩=some (.int .i64 l.1.key)/\W.cell? ⟨b,off+k*8+4,none⟩=some (.int .i64 l.1.seq)/\W.cell? ⟨b,off+k*8+5,none⟩=some (l.2)/\W.cell? ⟨b,off+k*8+6,none⟩=some (.int .i64 l.1.cost)/\W.cell? ⟨b,off+k*8+7,none⟩=some (.bool l.1.far)/\W.cell? ⟨b,off+j*8,none⟩=some (.int .i64 p.1.area)/\W.cell? ⟨b,off+j*8+1,none⟩=some (.int .i64 p.1.kind)/\W.cell? ⟨b,off+j*8+2,none⟩=some (.int .i64 p.1.owner)/\W.cell? ⟨b,off+j*8+3,none⟩=some (.int .i64 p.1.key)/\W.cell? ⟨b,off+j*8+4,none⟩=some (.int .i64 p.1.seq)/\W.cell? ⟨b,off+j*8+5,none⟩=some (p.2)/\W.cell? ⟨b,off+j*8+6,none⟩=some (.int .i64 p.1.cost)/\W.cell? ⟨b,off+j*8+7,none⟩=some (.bool p.1.far))) w1 from by
      obtain⟨m0,m1,m2,m3,m4,m5,m6,m7,n0,n1,n2,n3,n4,n5,n6,n7⟩:=hHeld;refine⟨?_,?_,?_,?_,?_,?_,?_,?_,?_,?_,?_,?_,?_,?_,?_,?_⟩ <;> (refine (b1.cell ?_).trans ?_ <;> assumption))
     refine hK.out _ _ hSn (fun hHeld=>?_)
     clear hK K hSn
     try simp only [putS]
     have hbr:b<w1.heap.size:=Nat.lt_of_lt_of_le hbr b1.size
     iterate 3
      refine Zar 23 ?_ ?_ ?_ (by rw [hops.out];kernel_rfl) ?_ ?_ (by assumption) ?_
      rotate_left 2
      ·rw [hops.out];simp only [getS,Nat.reduceSub,Nat.reduceAdd];rfl
      ·intro W hW;(try dsimp only at hW);go_simp <;> with_reducible rfl
      ·exact fun _ _ _=>id
      try simp only [putS]
     refine ZaZ 8 (oi:=?_) (v:=.bool true) ?_ (by rw [hops.out];kernel_rfl) ?_ ?_ ?_ (by assumption) ?_
     rotate_left 1
     ·rw [hops.out];simp only [getS];rfl
     ·rw [hops.out];kernel_rfl
     ·intro W hW;(try dsimp only at hW);go_simp <;> (first | with_reducible rfl | (simp;omega) | omega)
     ·exact fun _ _ _=>id
     try simp only [putS]
     iterate 10
      refine Zar 23 ?_ ?_ ?_ (by rw [hops.out];kernel_rfl) ?_ ?_ (by assumption) ?_
      rotate_left 2
      ·rw [hops.out];simp only [getS,Nat.reduceSub,Nat.reduceAdd];rfl
      ·intro W hW;(try dsimp only at hW);go_simp <;> with_reducible rfl
      ·exact fun _ _ _=>id
      try simp only [putS]
     refine Zak 19 (oi:=?_) ?_ (by rw [hops.out];kernel_rfl) ?_ ?_
     rotate_left 1
     ·rw [hops.out];simp only [getS];rfl
     ·rw [hops.out];kernel_rfl
     intro K hK
     go_simp
     refine (HBF.out _).mono ?_
     rintro e w2 ⟨rfl,b2⟩;have hSn:_/\_:=(show ((fun W=>W.cell? ⟨b,off+k*8,none⟩=some (.int .i64 l.1.area)/\W.cell? ⟨b,off+k*8+1,none⟩=some (.int .i64 l.1.kind)/\W.cell? ⟨b,off+k*8+2,none⟩=some (.int .i64 l.1.owner)/\W.cell? ⟨b,off+k*8+3,none⟩=some (.int .i64 l.1.key)/\W.cell? ⟨b,off+k*8+4,none⟩=some (.int .i64 l.1.seq)/\W.cell? ⟨b,off+k*8+5,none⟩=some (l.2)/\W.cell? ⟨b,off+k*8+6,none⟩=some (.int .i64 l.1.cost)/\W.cell? ⟨b,off+k*8+7,none⟩=some (.bool l.1.far)/\W.cell? ⟨b,off+j*8,none⟩=some (.int .i64 p.1.area)/\W.cell? ⟨b,off+j*8+1,none⟩=some (.int .i64 p.1.kind)/\W.cell? ⟨b,off+j*8+2,none⟩=some (.int .i64 p.1.owner)/\W.cell? ⟨b,off+j*8+3,none⟩=some (.int .i64 p.1.key)/\W.cell? ⟨b,off+j*8+4,none⟩=some (.int .i64 p.1.seq)/\W.cell? ⟨b,off+j*8+5,none⟩=some (p.2)/\W.cell? ⟨b,off+j*8+6,none⟩=some (.int .i64 p.1.cost)/\W.cell? ⟨b,off+j*8+7,none⟩=some (.bool p.1.far))) w2 from by
      obtain⟨m0,m1,m2,m3,m4,m5,m6,m7,n0,n1,n2,n3,n4,n5,n6,n7⟩:=hHeld;refine⟨?_,?_,?_,?_,?_,?_,?_,?_,?_,?_,?_,?_,?_,?_,?_,?_⟩ <;> (refine (b2.cell ?_).trans ?_ <;> assumption))
     refine hK.out _ _ hSn (fun hHeld=>?_)
     clear hK K hSn
     try simp only [putS]
     iterate 3
      refine Zar 23 ?_ ?_ ?_ (by rw [hops.out];kernel_rfl) ?_ ?_ (by assumption) ?_
      rotate_left 2
      ·rw [hops.out];simp only [getS,Nat.reduceSub,Nat.reduceAdd];rfl
      ·intro W hW;(try dsimp only at hW);go_simp <;> with_reducible rfl
      ·exact fun _ _ _=>id
      try simp only [putS]
     refine wpAnyH_done (by rw [hops.out];kernel_rfl) ?_ _
     clear hops ops
     go_wp2
     exact⟨⟨k+1,by omega,by go_num,ZaO HALL.out HAT1.out,ZaO HASC.out HAT2.out,(hnd.trans (b1.mono hsz)).trans (b2.mono (by have:=b1.size;have:wr.drew.heap.size=wr.heap.size:=rfl;omega))⟩,by simp [intOf];omega⟩
  ·have e1:ZbJ ZaX (fsts ps)=true:=Za9 fun i hi=>HALL.out i (by have:=HFL.out;omega)
   have e3:ascB ordR (fsts ps)=true:=Za9 fun i hi=>HASC.out i (by have:=HFL.out;omega)
   have e2:ZaI (fsts ps)=true:=by
    unfold ZaI;rw [e1,e3,decide_eq_true (by have:=HFL.out;omega)]
    rfl
   have HE:=hide e2;clear e1 e2 e3
   go_wp2
   go_ret
   exact⟨Zai HE.out,hnx⟩
structure HB (W:World) (lo z:Nat) (C:Array Value) (u:Value) (n:Nat) (q:Nat->Nat) (wd:Nat->WayD) (wv:Nat->Value):Prop where
 box:W.heap[z]? = some (.cells C 278)
 c7:C[7]? = some u
 hq:HQ W lo u n q wd wv
theorem HB.cell {W:World}{lo z n:Nat}{C:Array Value}{u:Value}{q:Nat->Nat}{wd:Nat->WayD}{wv:Nat->Value}(h:HB W lo z C u n q wd wv):W.cell? ⟨z,7,none⟩=some u:=(Zaa h.box 7).trans h.c7
theorem HB.below {W W':World}{lo z n:Nat}{C:Array Value}{u:Value}{q:Nat->Nat}{wd:Nat->WayD}{wv:Nat->Value}(h:HB W lo z C u n q wd wv)(hb:Below W.heap.size W W'):HB W' lo z C u n q wd wv:=
 ⟨(hb.block _ (Zab h.box)).trans h.box,h.c7,h.hq.below hb⟩
theorem HB.shuf {W W':World}{lo z n:Nat}{C:Array Value}{u:Value}{q q':Nat->Nat}{wd:Nat->WayD}{wv:Nat->Value}(h:HB W lo z C u n q wd wv)(hg:W.grownBy W' u.ownBlock)(ho:W'.ownsRow lo 273 1 u n (ptrs q' n))(hs:Shuf q q' n):HB W' lo z C u n q' wd wv:=by
 refine⟨(hg.block z (Zab h.box) (Zat h.hq.row h.box (by decide))).trans h.box,h.c7,ho,fun i hi=>?_,fun i hi=>?_⟩
 ·obtain ⟨j,hj,e⟩:=hs.into i hi
  rw [e];have hw:=h.hq.way j hj;exact (hg.block _ (Zab hw) (Zat h.hq.row hw (by decide))).trans hw
 ·obtain ⟨j,hj,e⟩:=hs.into i hi
  rw [e];exact h.hq.sl j hj
theorem Za1 {W W':World}{r:Option Nat}(hb:Below W.heap.size W W'):W.grownBy W' r:=⟨hb.os,hb.tape,hb.output,hb.size,fun k hk _=>hb.block k hk⟩
theorem up_any (W:World)(lo z n:Nat)(C:Array Value)(u:Value)(q:Nat->Nat)(wd:Nat->WayD)(wv:Nat->Value)(j:Nat)(h:HB W lo z C u n q wd wv)(hj:j<n)(hn:n<=1048576)(hu:UpInv (fun k=>(wd k).cost) q n j):
  Calls Tryz.prog 278 #[.iface 296 (.pointer (some ⟨z,7,none⟩)),.int .i64 (j:Int)] W fun e W'=>∃ q',e=.returned (.tuple #[])/\ZcG (fun k=>(wd k).cost) q' n/\Shuf q q' n/\HB W' lo z C u n q' wd wv/\W.grownBy W' u.ownBlock:=by
 have HU:=hide hu;have HH:=hide h;clear hu h
 go_enter Tryz.func278,Tryz.ntmps278
 go_wp2
 go_loopw [1] (fun i wr=>∃ (j:Nat) (q':Nat->Nat),j<n/\i=.int .i64 (j:Int)/\Hid (UpInv (fun k=>(wd k).cost) q' n j)/\Hid (Shuf q q' n)/\Hid (HB wr lo z C u n q' wd wv)/\Hid (W.grownBy wr u.ownBlock)) (fun i _=>(intOf i).toNat)
 case atStart=>exact ⟨j,q,hj,rfl,HU,hide (Shuf.refl _ _),HH,hide (Zbd _ _)⟩
 case round=>
  rename World=>wa
  clear HU HH hj;obtain⟨j,q',hj,rfl,HU,HS,HH,HG⟩:=hrel;have cz:=HH.out.cell;by_cases hj0:j=0
  ·subst hj0
   have HI:=hide (ZnW HU.out (.inl rfl))
   go_wp2
   go_returns
   exact⟨q',rfl,HI.out,HS.out,HH.out,HG.out⟩
  ·have hw1:IntKind.i64.wrap ((j:Int)-1)=((j-1:Nat):Int):=by rw [ZaK _ (by omega) (by omega)];omega
   have hw2:((j-1:Nat):Int).tdiv 2=((par j:Nat):Int):=by rw [Int.tdiv_eq_ediv_of_nonneg (by omega)];unfold par;omega
   have hpl:par j<j:=Zdb (by omega)
   obtain⟨p,hp⟩:∃ p,p=par j:=⟨_,rfl⟩;rw [<-hp] at hw2 hpl;have HP:=hide hp;clear hp;have hne:((p:Int)==(j:Int))=false:=by
    have h1:¬(p:Int)=(j:Int):=by omega
    simpa using h1
   have hne2:¬(p:Int)=(j:Int):=by omega
   have HL:=hide (ZeO wa lo n u q' wd wv j p HH.out.hq hj (by omega))
   have mL:=ZdC cz;by_cases hlt:(wd (q' j)).cost<(wd (q' p)).cost
   ·go_wp2_with fail
    refine HL.out.mono ?_
    rintro e w2 ⟨rfl,b2⟩;rw [decide_eq_true hlt];have H2:=HH.out.below b2;have cz2:=H2.cell;have mS:=ZdD cz2;have HSW:=hide (Ze3 w2 lo n u q' p j H2.hq.row (by omega) hj)
    have HB2:=hide H2;have HUP:=hide (Zp4 HU.out (by omega) hj (by rw [<-HP.out];exact hlt))
    rw [<-HP.out] at HUP;have HG2:=hide (Zah HG.out (Za1 (r:=u.ownBlock) b2));clear b2 H2 mL
    go_wp2_with fail
    refine HSW.out.mono ?_
    rintro e w3 ⟨rfl,ho3,hg3⟩;have HB3:=hide (HB2.out.shuf hg3 ho3 (Shuf.swap q' (by omega) hj))
    have HS3:=hide (HS.out.trans (Shuf.swap q' (i:=p) (j:=j) (by omega) hj))
    have HG3:=hide (Zah HG2.out hg3);clear ho3 hg3 mS
    go_wp2
    go_roundw
    case rel=>exact ⟨p,_,by omega,rfl,HUP,HS3,HB3,HG3⟩
    case measure=>simp [intOf];omega
   ·go_wp2_with fail
    refine HL.out.mono ?_
    rintro e w2 ⟨rfl,b2⟩;rw [decide_eq_false (by omega)]
    have HI:=hide (ZnW HU.out (.inr (by rw [<-HP.out];show ¬(wd (q' j)).cost<(wd (q' p)).cost;omega)))
    have HB2:=hide (HH.out.below b2);have HG2:=hide (Zah HG.out (Za1 (r:=u.ownBlock) b2));clear b2 mL
    go_wp2
    go_returns
    exact⟨q',rfl,HI.out,HS.out,HB2.out,HG2.out⟩
theorem ZjV {c:Nat->Int}{q:Nat->Nat}{n i j:Nat}(h1:2*i+1<n->c (q j)<=c (q (2*i+1)))(h2:2*i+2<n->c (q j)<=c (q (2*i+2))):∀ k,0<k->k<n->par k=i->c (q j)<=c (q k):=by
 intro k h0 hk hp
 rcases Zk3 h0 hp with rfl | rfl
 ·exact h1 hk
 ·exact h2 hk
theorem Zod (W:World)(lo z n m:Nat)(C:Array Value)(u:Value)(q:Nat->Nat)(wd:Nat->WayD)(wv:Nat->Value)(h:HB W lo z C u m q wd wv)(hnm:n<=m)(hn:m<=1048576)(hu:DownInv (fun k=>(wd k).cost) q n 0):
  Calls Tryz.prog 279 #[.iface 296 (.pointer (some ⟨z,7,none⟩)),.int .i64 0,.int .i64 (n:Int)] W fun e W'=>∃ (r:Value) (q':Nat->Nat),e=.returned r/\ZcG (fun k=>(wd k).cost) q' n/\Shuf q q' n/\HB W' lo z C u m q' wd wv/\W.grownBy W' u.ownBlock:=by
 have HU:=hide hu;have HH:=hide h;clear hu h
 go_enter Tryz.func279,Tryz.ntmps279
 go_wp2
 go_loopw [7] (fun s wr=>∃ (i:Nat) (q':Nat->Nat),i<=n/\s=.int .i64 (i:Int)/\Hid (DownInv (fun k=>(wd k).cost) q' n i)/\Hid (Shuf q q' n)/\Hid (HB wr lo z C u m q' wd wv)/\Hid (W.grownBy wr u.ownBlock)) (fun s _=>n-(intOf s).toNat)
 case atStart=>exact ⟨0,q,by omega,rfl,HU,hide (Shuf.refl _ _),HH,hide (Zbd _ _)⟩
 case round=>
  rename World=>wa
  clear HU HH;obtain⟨i,q',hi,rfl,HU,HS,HH,HG⟩:=hrel;have cz:=HH.out.cell;have hw1:IntKind.i64.wrap (2*(i:Int))=((2*i:Nat):Int):=by rw [ZaK _ (by omega) (by omega)];omega
  have hw2:IntKind.i64.wrap (((2*i:Nat):Int)+1)=((2*i+1:Nat):Int):=by rw [ZaK _ (by omega) (by omega)];omega
  have hw3:IntKind.i64.wrap (((2*i+1:Nat):Int)+1)=((2*i+2:Nat):Int):=by rw [ZaK _ (by omega) (by omega)];omega
  obtain⟨j1,hj1⟩:∃ j,j=2*i+1:=⟨_,rfl⟩;obtain⟨j2,hj2⟩:∃ j,j=2*i+2:=⟨_,rfl⟩;obtain⟨i2,hi2⟩:∃ j,j=2*i:=⟨_,rfl⟩;rw [<-hj1] at hw2 hw3;rw [<-hi2] at hw1 hw2;rw [<-hj2] at hw3;have HJ1:=hide hj1;have HJ2:=hide hj2;have hij:i<j1:=by omega
  have hj12:j2=j1+1:=by omega
  have HJ12:=hide hj12;have hj1n:¬(j1:Int)<0:=by omega
  clear hj1 hj2 hi2;by_cases hlt:j1<n
  ·clear hj12
   have hij2:i<j2:=by have:=HJ12.out;omega
   have hge:¬(n:Int)<=(j1:Int):=by omega
   have hged:decide ((j1:Int)>=(n:Int))=false:=by simp;omega
   have hged2:decide ((n:Int)<=(j1:Int))=false:=by simp;omega
   by_cases hlt2:j2<n
   ·have hl2:(j2:Int)<(n:Int):=by omega
    have mL:=ZdC cz;have HL:=hide (ZeO wa lo m u q' wd wv j2 j1 HH.out.hq (by omega) (by omega))
    by_cases hc21:(wd (q' j2)).cost<(wd (q' j1)).cost
    ·go_wp2_with fail
     refine HL.out.mono ?_
     rintro e w2 ⟨rfl,b2⟩;rw [decide_eq_true hc21];have HB2:=hide (HH.out.below b2);have HG2:=hide (Zah HG.out (Za1 (r:=u.ownBlock) b2));clear b2 mL cz HL;have hlJ:j2<n:=by omega
     have cz5:=HB2.out.cell;have mL5:=ZdC cz5;have HL5:=hide (ZeO w2 lo m u q' wd wv j2 i HB2.out.hq (by omega) (by omega))
     have KM:=hide (ZjV (c:=fun k=>(wd k).cost) (q:=q') (n:=n) (i:=i) (j:=j2) (fun _=>by rw [<-HJ1.out];exact Int.le_of_lt hc21) (fun _=>by rw [<-HJ2.out];exact Int.le_refl _))
     by_cases hlt5:(wd (q' j2)).cost<(wd (q' i)).cost
     ·go_wp2_with fail
      refine HL5.out.mono ?_
      rintro e w6 ⟨rfl,b6⟩;rw [decide_eq_true hlt5];have H6:=HB2.out.below b6;have cz6:=H6.cell;have mS:=ZdD cz6;have HSW:=hide (Ze3 w6 lo m u q' i j2 H6.hq.row (by omega) (by omega))
      have HB6:=hide H6;have HDN:=hide (ZfZ HU.out (j:=j2) (by omega) hlJ (by unfold par;have:=HJ1.out;have:=HJ2.out;omega) hlt5 KM.out)
      have HG6:=hide (Zah HG2.out (Za1 (r:=u.ownBlock) b6));clear b6 H6 mL5 cz5
      go_wp2_with fail
      refine HSW.out.mono ?_
      rintro e w7 ⟨rfl,ho7,hg7⟩;have HB7:=hide (HB6.out.shuf hg7 ho7 (Shuf.swap q' (by omega) (by omega)))
      have HS7:=hide (HS.out.trans (Shuf.swap q' (i:=i) (j:=j2) (by omega) hlJ))
      have HG7:=hide (Zah HG6.out hg7);clear ho7 hg7 mS
      go_wp2
      go_roundw
      case rel=>exact ⟨j2,_,by omega,rfl,HDN,HS7,HB7,HG7⟩
      case measure=>simp [intOf];omega
     ·go_wp2_with fail
      refine HL5.out.mono ?_
      rintro e w6 ⟨rfl,b6⟩;rw [decide_eq_false (by omega)]
      have hle5:(wd (q' i)).cost<=(wd (q' j2)).cost:=by omega
      have HI:=hide (ZeG HU.out (fun k h0 hk hp=>Int.le_trans hle5 (KM.out k h0 hk hp)))
      have HB6:=hide (HB2.out.below b6);have HG6:=hide (Zah HG2.out (Za1 (r:=u.ownBlock) b6));clear b6 mL5 cz5
      go_wp2
      go_returns
      first
       | exact ⟨_,q',rfl,HI.out,HS.out,HB6.out,HG6.out⟩
       | exact ⟨_,rfl,q',HI.out,HS.out,HB6.out,HG6.out⟩
    ·go_wp2_with fail
     refine HL.out.mono ?_
     rintro e w2 ⟨rfl,b2⟩;rw [decide_eq_false (by omega)]
     have hc21':(wd (q' j1)).cost<=(wd (q' j2)).cost:=by omega
     have HB2:=hide (HH.out.below b2);have HG2:=hide (Zah HG.out (Za1 (r:=u.ownBlock) b2));clear b2 mL cz HL;have hlJ:j1<n:=by omega
     have cz5:=HB2.out.cell;have mL5:=ZdC cz5;have HL5:=hide (ZeO w2 lo m u q' wd wv j1 i HB2.out.hq (by omega) (by omega))
     have KM:=hide (ZjV (c:=fun k=>(wd k).cost) (q:=q') (n:=n) (i:=i) (j:=j1) (fun _=>by rw [<-HJ1.out];exact Int.le_refl _) (fun _=>by rw [<-HJ2.out];exact hc21'))
     by_cases hlt5:(wd (q' j1)).cost<(wd (q' i)).cost
     ·go_wp2_with fail
      refine HL5.out.mono ?_
      rintro e w6 ⟨rfl,b6⟩;rw [decide_eq_true hlt5];have H6:=HB2.out.below b6;have cz6:=H6.cell;have mS:=ZdD cz6;have HSW:=hide (Ze3 w6 lo m u q' i j1 H6.hq.row (by omega) (by omega))
      have HB6:=hide H6;have HDN:=hide (ZfZ HU.out (j:=j1) (by omega) hlJ (by unfold par;have:=HJ1.out;have:=HJ2.out;omega) hlt5 KM.out)
      have HG6:=hide (Zah HG2.out (Za1 (r:=u.ownBlock) b6));clear b6 H6 mL5 cz5
      go_wp2_with fail
      refine HSW.out.mono ?_
      rintro e w7 ⟨rfl,ho7,hg7⟩;have HB7:=hide (HB6.out.shuf hg7 ho7 (Shuf.swap q' (by omega) (by omega)))
      have HS7:=hide (HS.out.trans (Shuf.swap q' (i:=i) (j:=j1) (by omega) hlJ))
      have HG7:=hide (Zah HG6.out hg7);clear ho7 hg7 mS
      go_wp2
      go_roundw
      case rel=>exact ⟨j1,_,by omega,rfl,HDN,HS7,HB7,HG7⟩
      case measure=>simp [intOf];omega
     ·go_wp2_with fail
      refine HL5.out.mono ?_
      rintro e w6 ⟨rfl,b6⟩;rw [decide_eq_false (by omega)]
      have hle5:(wd (q' i)).cost<=(wd (q' j1)).cost:=by omega
      have HI:=hide (ZeG HU.out (fun k h0 hk hp=>Int.le_trans hle5 (KM.out k h0 hk hp)))
      have HB6:=hide (HB2.out.below b6);have HG6:=hide (Zah HG2.out (Za1 (r:=u.ownBlock) b6));clear b6 mL5 cz5
      go_wp2
      go_returns
      first
       | exact ⟨_,q',rfl,HI.out,HS.out,HB6.out,HG6.out⟩
       | exact ⟨_,rfl,q',HI.out,HS.out,HB6.out,HG6.out⟩
   ·have hl2:¬(j2:Int)<(n:Int):=by omega
    have hlJ:j1<n:=by omega
    have cz5:=HH.out.cell;have mL5:=ZdC cz5;have HL5:=hide (ZeO wa lo m u q' wd wv j1 i HH.out.hq (by omega) (by omega))
    have KM:=hide (ZjV (c:=fun k=>(wd k).cost) (q:=q') (n:=n) (i:=i) (j:=j1) (fun _=>by rw [<-HJ1.out];exact Int.le_refl _) (fun h=>by have:=HJ2.out;omega))
    by_cases hlt5:(wd (q' j1)).cost<(wd (q' i)).cost
    ·go_wp2_with fail
     refine HL5.out.mono ?_
     rintro e w6 ⟨rfl,b6⟩;rw [decide_eq_true hlt5];have H6:=HH.out.below b6;have cz6:=H6.cell;have mS:=ZdD cz6;have HSW:=hide (Ze3 w6 lo m u q' i j1 H6.hq.row (by omega) (by omega))
     have HB6:=hide H6;have HDN:=hide (ZfZ HU.out (j:=j1) (by omega) hlJ (by unfold par;have:=HJ1.out;have:=HJ2.out;omega) hlt5 KM.out)
     have HG6:=hide (Zah HG.out (Za1 (r:=u.ownBlock) b6));clear b6 H6 mL5 cz5
     go_wp2_with fail
     refine HSW.out.mono ?_
     rintro e w7 ⟨rfl,ho7,hg7⟩;have HB7:=hide (HB6.out.shuf hg7 ho7 (Shuf.swap q' (by omega) (by omega)))
     have HS7:=hide (HS.out.trans (Shuf.swap q' (i:=i) (j:=j1) (by omega) hlJ))
     have HG7:=hide (Zah HG6.out hg7);clear ho7 hg7 mS
     go_wp2
     go_roundw
     case rel=>exact ⟨j1,_,by omega,rfl,HDN,HS7,HB7,HG7⟩
     case measure=>simp [intOf];omega
    ·go_wp2_with fail
     refine HL5.out.mono ?_
     rintro e w6 ⟨rfl,b6⟩;rw [decide_eq_false (by omega)]
     have hle5:(wd (q' i)).cost<=(wd (q' j1)).cost:=by omega
     have HI:=hide (ZeG HU.out (fun k h0 hk hp=>Int.le_trans hle5 (KM.out k h0 hk hp)))
     have HB6:=hide (HH.out.below b6);have HG6:=hide (Zah HG.out (Za1 (r:=u.ownBlock) b6));clear b6 mL5 cz5
     go_wp2
     go_returns
     first
      | exact ⟨_,q',rfl,HI.out,HS.out,HB6.out,HG6.out⟩
      | exact ⟨_,rfl,q',HI.out,HS.out,HB6.out,HG6.out⟩
  ·clear hj12
   have hge:(n:Int)<=(j1:Int):=by omega
   have HI:=hide (ZeG HU.out (fun k h0 hk hp=>by rcases Zk3 h0 hp with e | e <;> (have:=HJ1.out;omega)))
   go_wp2
   go_returns
   first
    | exact ⟨_,q',rfl,HI.out,HS.out,HH.out,HG.out⟩
    | exact ⟨_,rfl,q',HI.out,HS.out,HH.out,HG.out⟩
    | exact ⟨⟨_,rfl⟩,q',HI.out,HS.out,HH.out,HG.out⟩
theorem Zo3 (cur D R:List Value)(a d:Nat)(hD:D.length=d)(hR:R.length=3)(hc:a+3+d<=cur.length):
  ((cur.take (a+3)++D++cur.drop (a+3+D.length)).take a++R++(cur.take (a+3)++D++cur.drop (a+3+D.length)).drop (a+R.length))=cur.take a++R++D++cur.drop (a+3+d):=by
 have e1:(cur.take (a+3)++D++cur.drop (a+3+D.length)).take a=cur.take a:=by
  rw [List.append_assoc,List.take_append_of_le_length (by simp;omega),List.take_take,Nat.min_eq_left (by omega)]
 have e2:(cur.take (a+3)++D++cur.drop (a+3+D.length)).drop (a+R.length)=D++cur.drop (a+3+d):=by
  rw [hR,List.append_assoc,List.drop_append_of_le_length (by simp;omega),List.drop_of_length_le (by simp;omega),List.nil_append,hD]
 rw [e1,e2,List.append_assoc,List.append_assoc,List.append_assoc]
theorem ZgZ (ps:List WP)(i:Nat)(h:i<=ps.length):(flat encW ps).take (i*3)=flat encW (ps.take i):=by
 conv=>lhs;rw [<-List.take_append_drop i ps,ZaH]
 have e:(flat encW (ps.take i)).length=i*3:=by rw [ZaF Zbg,List.length_take,Nat.min_eq_left h]
 rw [<-e,List.take_left]
theorem ZgY (ps:List WP)(i:Nat)(h:i<=ps.length):(flat encW ps).drop (i*3)=flat encW (ps.drop i):=by
 conv=>lhs;rw [<-List.take_append_drop i ps,ZaH]
 have e:(flat encW (ps.take i)).length=i*3:=by rw [ZaF Zbg,List.length_take,Nat.min_eq_left h]
 rw [<-e,List.drop_left]
theorem ZmC (r:WP):flat encW [r]=encW r:=by simp [flat]
theorem Zf3 (ps:List WP)(r:WP)(i:Nat):flat encW (ps.take i++[r]++ps.drop i)=flat encW (ps.take i)++encW r++flat encW (ps.drop i):=by
 rw [ZaH,ZaH,ZmC]
theorem ZhS (ps:List WP)(r:WP)(i:Nat)(h:i<=ps.length):(ps.take i++[r]++ps.drop i).length=ps.length+1:=by
 simp
 omega
theorem ZeK (ps:List WP)(h:∀ p∈ps,∃ a n c,p.2=.slice a n c):∀ u∈flat encW ps,u.oneCell'=true:=by
 intro u hu;simp only [flat,List.mem_flatMap] at hu
 obtain⟨p,hp,hu⟩:=hu;obtain⟨a,n,c,e⟩:=h p hp;obtain⟨x,v⟩:=p;simp only at e
 subst e;exact Zdi x a n c u hu
end Go.Proofs.YtadokhjefnkajaaGreat
