/-
  StoreS MergeS BsI
-/
import Derived.Test.YtgdgkgmjpnbbcaaGreatOn5
import Derived.Test.YtgdgkgmjpnbbcaaGreatOn4
import Derived.Test.YtgdgkgmjpnbbcaaGreatOn2
import Derived.Test.YtgdgkgmjpnbbcaaGreatOn3
namespace Go.Proofs.YtgdgkgmjpnbbcaaGreat
open Go.RowKit
set_option linter.unusedSimpArgs false
set_option linter.unusedVariables false
set_option maxRecDepth 100000
set_option maxHeartbeats 8000000
theorem Zm2 {xs:List RecD}{k:Nat}(hk:k<xs.length)(h:ZcF ordR xs k=false):ZaE xs=false:=by unfold ZaE ascB;rw [Zbe hk h];simp
theorem Zc8 (v:Value)(ps:List RP)(w:World)(hn:tot ps<=1048576)(hv:ZbK w v ps w.heap.size):
  Calls Tryz.prog 34 #[v] w fun e w'=>e=.returned (.bool (ZaE (fsts ps)))/\Below w.heap.size w w':=by
 have hnl:=ZbI ps;obtain⟨a,cap,rfl⟩:=hv.shape;have HV:=hide hv;clear hv;have hfl:(fsts ps).length=ps.length:=by simp [fsts]
 by_cases hlong:(150:Int)<(ps.length:Int)
 ·have HF:=hide (Zhz (xs:=fsts ps) (by omega))
  clear hfl
  go_enter Tryz.func34,Tryz.ntmps34
  go_wp2
  go_ret
  exact⟨Zam HF.out,Below.refl _ _⟩
 have HFL:=hide hfl;clear hfl
 go_enter Tryz.func34,Tryz.ntmps34
 go_wp2
 go_loopw [3] (fun i wr=>∃ k:Nat,k<=ps.length/\i=.int .i64 k/\(∀ j,j<k->okAt Za8 (fsts ps) j=true)/\(∀ j,j<k->ZcF ordR (fsts ps) j=true)/\Below w.heap.size w wr) (fun i _=>ps.length-(intOf i).toNat)
 case atStart=>exact ⟨0,by omega,rfl,by omega,by omega,Below.refl _ _⟩
 case round=>
  obtain⟨k,hk,rfl,hall,hasc,hnx⟩:=hrel;have HALL:=hide hall;have HASC:=hide hasc;clear hall hasc;have hsz:=hnx.size;by_cases hlt:k<ps.length
  ·obtain ⟨l,hl⟩:∃ p,ps[k]? = some p:=⟨ps[k],List.getElem?_eq_getElem hlt⟩
   obtain⟨b,off,cap',hve,hbb,c0,c1,c2,c3,c4,c5,c6,c7,hnr⟩:=HV.out.cells k l hl;cases hve
   rw [<-hnx.cell (p:=⟨b,off+k*8,none⟩) hbb] at c0;rw [<-hnx.cell (p:=⟨b,off+k*8+1,none⟩) hbb] at c1;rw [<-hnx.cell (p:=⟨b,off+k*8+2,none⟩) hbb] at c2;rw [<-hnx.cell (p:=⟨b,off+k*8+3,none⟩) hbb] at c3;rw [<-hnx.cell (p:=⟨b,off+k*8+4,none⟩) hbb] at c4;rw [<-hnx.cell (p:=⟨b,off+k*8+5,none⟩) hbb] at c5;rw [<-hnx.cell (p:=⟨b,off+k*8+6,none⟩) hbb] at c6;rw [<-hnx.cell (p:=⟨b,off+k*8+7,none⟩) hbb] at c7;have HOK:=hide (fun W (hb:Below w.heap.size w W)=>ZlA l.2 l.1 W (by have:=ZgX (List.mem_of_getElem? hl);omega) ((ZaR.later hnr hb (Nat.le_refl _)).more hb.size))
   unfold recC at HOK;have HAT1:=hide (Zcz (ok:=Za8) (Zbo hl));obtain⟨qo,hqo⟩:∃ q,q=Za8 l.1:=⟨_,rfl⟩;rw [<-hqo] at HOK HAT1;have HL:=hide (Zbo hl);clear hqo hl hnr;have hbr:b<wr.heap.size:=by omega
   have hki:(0:Int)<=(k:Int):=by omega
   have hkj:(k:Int)<(ps.length:Int):=by omega
   have hnd:Below w.heap.size w wr.drew:=hnx.drew;cases qo
   ·have HF:=hide (Zje (by rw [HFL.out];exact hlt) HAT1.out)
    go_wp2
    refine Zaj (S:=(fun W=>W.cell? ⟨b,off+k*8,none⟩=some (.int .i64 l.1.area)/\W.cell? ⟨b,off+k*8+1,none⟩=some (.int .i64 l.1.kind)/\W.cell? ⟨b,off+k*8+2,none⟩=some (.int .i64 l.1.owner)/\W.cell? ⟨b,off+k*8+3,none⟩=some (.int .i64 l.1.key)/\W.cell? ⟨b,off+k*8+4,none⟩=some (.int .i64 l.1.seq)/\W.cell? ⟨b,off+k*8+5,none⟩=some (l.2)/\W.cell? ⟨b,off+k*8+6,none⟩=some (.int .i64 l.1.cost)/\W.cell? ⟨b,off+k*8+7,none⟩=some (.bool l.1.far))) (by kernel_rfl) 23 rfl ⟨c0,c1,c2,c3,c4,c5,c6,c7⟩ (fun ops hops hHeld=>?_)
    iterate 4
     refine Zat 23 ?_ ?_ ?_ (by rw [hops.out];kernel_rfl) ?_ ?_ (by assumption) ?_
     rotate_left 2
     ·rw [hops.out];simp only [getS,Nat.reduceSub,Nat.reduceAdd];rfl
     ·intro W hW;(try dsimp only at hW);go_simp <;> with_reducible rfl
     ·exact fun _ _ _=>id
     try simp only [putS]
    refine Zak 4 (oi:=?_) ?_ (by rw [hops.out];kernel_rfl) ?_ ?_
    rotate_left 1
    ·rw [hops.out];simp only [getS];rfl
    ·rw [hops.out];kernel_rfl
    intro K hK
    go_simp
    refine (HOK.out _ hnd).mono ?_
    rintro e w1 ⟨rfl,b1⟩;have hSn:_/\_:=(show ((fun W=>W.cell? ⟨b,off+k*8,none⟩=some (.int .i64 l.1.area)/\W.cell? ⟨b,off+k*8+1,none⟩=some (.int .i64 l.1.kind)/\W.cell? ⟨b,off+k*8+2,none⟩=some (.int .i64 l.1.owner)/\W.cell? ⟨b,off+k*8+3,none⟩=some (.int .i64 l.1.key)/\W.cell? ⟨b,off+k*8+4,none⟩=some (.int .i64 l.1.seq)/\W.cell? ⟨b,off+k*8+5,none⟩=some (l.2)/\W.cell? ⟨b,off+k*8+6,none⟩=some (.int .i64 l.1.cost)/\W.cell? ⟨b,off+k*8+7,none⟩=some (.bool l.1.far))) w1 from by
     obtain⟨m0,m1,m2,m3,m4,m5,m6,m7⟩:=hHeld;refine⟨?_,?_,?_,?_,?_,?_,?_,?_⟩ <;> (refine (b1.cell ?_).trans ?_ <;> assumption))
    refine hK.out _ _ hSn (fun hHeld=>?_)
    clear hK K hSn
    try simp only [putS]
    iterate 2
     refine Zat 23 ?_ ?_ ?_ (by rw [hops.out];kernel_rfl) ?_ ?_ (by assumption) ?_
     rotate_left 2
     ·rw [hops.out];simp only [getS,Nat.reduceSub,Nat.reduceAdd];rfl
     ·intro W hW;(try dsimp only at hW);go_simp <;> with_reducible rfl
     ·exact fun _ _ _=>id
     try simp only [putS]
    refine Zad 7 20 (by rw [hops.out];kernel_rfl) (fun _ _ _ h=>h) (by assumption) ?_
    try simp only [putS]
    refine Zad 8 21 (by rw [hops.out];kernel_rfl) (fun _ _ _ h=>h) (by assumption) ?_
    try simp only [putS]
    refine Zad 9 22 (by rw [hops.out];kernel_rfl) (fun _ _ _ h=>h) (by assumption) ?_
    try simp only [putS]
    refine Zad 10 23 (by rw [hops.out];kernel_rfl) (fun _ _ _ h=>h) (by assumption) ?_
    try simp only [putS]
    refine Zad 11 24 (by rw [hops.out];kernel_rfl) (fun _ _ _ h=>h) (by assumption) ?_
    try simp only [putS]
    refine Zad 12 25 (by rw [hops.out];kernel_rfl) (fun _ _ _ h=>h) (by assumption) ?_
    try simp only [putS]
    refine Zad 13 26 (by rw [hops.out];kernel_rfl) (fun _ _ _ h=>h) (by assumption) ?_
    try simp only [putS]
    refine Zad 14 27 (by rw [hops.out];kernel_rfl) (fun _ _ _ h=>h) (by assumption) ?_
    try simp only [putS]
    refine Zad 15 28 (by rw [hops.out];kernel_rfl) (fun _ _ _ h=>h) (by assumption) ?_
    try simp only [putS]
    refine Zad 16 29 (by rw [hops.out];kernel_rfl) (fun _ _ _ h=>h) (by assumption) ?_
    try simp only [putS]
    refine Zad 17 30 (by rw [hops.out];kernel_rfl) (fun _ _ _ h=>h) (by assumption) ?_
    try simp only [putS]
    refine Zad 18 31 (by rw [hops.out];kernel_rfl) (fun _ _ _ h=>h) (by assumption) ?_
    try simp only [putS]
    refine Zad 19 32 (by rw [hops.out];kernel_rfl) (fun _ _ _ h=>h) (by assumption) ?_
    try simp only [putS]
    refine Zad 20 33 (by rw [hops.out];kernel_rfl) (fun _ _ _ h=>h) (by assumption) ?_
    try simp only [putS]
    refine Zad 21 34 (by rw [hops.out];kernel_rfl) (fun _ _ _ h=>h) (by assumption) ?_
    try simp only [putS]
    refine Za0 22 ?_ ?_ ?_ (by rw [hops.out];kernel_rfl) ?_ ?_ (by assumption) ?_
    rotate_left 2
    ·rw [hops.out];simp only [getS];rfl
    ·intro W hW;(try dsimp only at hW);go_simp <;> with_reducible rfl
    ·exact fun _ _ _=>id
    try simp only [putS]
    refine wpAnyH_done (by rw [hops.out];kernel_rfl) ?_ _
    clear hops ops
    go_wp2
    go_ret
    exact⟨Zam HF.out,hnd.trans (b1.mono hsz)⟩
   by_cases hk0:k=0
   ·have hk1:¬(0:Int)<(k:Int):=by omega
    have HAT2:=hide (show ZcF ordR (fsts ps) k=true by rw [hk0];rfl)
    clear hk0
    go_wp2
    refine Zaj (S:=(fun W=>W.cell? ⟨b,off+k*8,none⟩=some (.int .i64 l.1.area)/\W.cell? ⟨b,off+k*8+1,none⟩=some (.int .i64 l.1.kind)/\W.cell? ⟨b,off+k*8+2,none⟩=some (.int .i64 l.1.owner)/\W.cell? ⟨b,off+k*8+3,none⟩=some (.int .i64 l.1.key)/\W.cell? ⟨b,off+k*8+4,none⟩=some (.int .i64 l.1.seq)/\W.cell? ⟨b,off+k*8+5,none⟩=some (l.2)/\W.cell? ⟨b,off+k*8+6,none⟩=some (.int .i64 l.1.cost)/\W.cell? ⟨b,off+k*8+7,none⟩=some (.bool l.1.far))) (by kernel_rfl) 23 rfl ⟨c0,c1,c2,c3,c4,c5,c6,c7⟩ (fun ops hops hHeld=>?_)
    iterate 4
     refine Zat 23 ?_ ?_ ?_ (by rw [hops.out];kernel_rfl) ?_ ?_ (by assumption) ?_
     rotate_left 2
     ·rw [hops.out];simp only [getS,Nat.reduceSub,Nat.reduceAdd];rfl
     ·intro W hW;(try dsimp only at hW);go_simp <;> with_reducible rfl
     ·exact fun _ _ _=>id
     try simp only [putS]
    refine Zak 4 (oi:=?_) ?_ (by rw [hops.out];kernel_rfl) ?_ ?_
    rotate_left 1
    ·rw [hops.out];simp only [getS];rfl
    ·rw [hops.out];kernel_rfl
    intro K hK
    go_simp
    refine (HOK.out _ hnd).mono ?_
    rintro e w1 ⟨rfl,b1⟩;have hSn:_/\_:=(show ((fun W=>W.cell? ⟨b,off+k*8,none⟩=some (.int .i64 l.1.area)/\W.cell? ⟨b,off+k*8+1,none⟩=some (.int .i64 l.1.kind)/\W.cell? ⟨b,off+k*8+2,none⟩=some (.int .i64 l.1.owner)/\W.cell? ⟨b,off+k*8+3,none⟩=some (.int .i64 l.1.key)/\W.cell? ⟨b,off+k*8+4,none⟩=some (.int .i64 l.1.seq)/\W.cell? ⟨b,off+k*8+5,none⟩=some (l.2)/\W.cell? ⟨b,off+k*8+6,none⟩=some (.int .i64 l.1.cost)/\W.cell? ⟨b,off+k*8+7,none⟩=some (.bool l.1.far))) w1 from by
     obtain⟨m0,m1,m2,m3,m4,m5,m6,m7⟩:=hHeld;refine⟨?_,?_,?_,?_,?_,?_,?_,?_⟩ <;> (refine (b1.cell ?_).trans ?_ <;> assumption))
    refine hK.out _ _ hSn (fun hHeld=>?_)
    clear hK K hSn
    try simp only [putS]
    iterate 3
     refine Zat 23 ?_ ?_ ?_ (by rw [hops.out];kernel_rfl) ?_ ?_ (by assumption) ?_
     rotate_left 2
     ·rw [hops.out];simp only [getS,Nat.reduceSub,Nat.reduceAdd];rfl
     ·intro W hW;(try dsimp only at hW);go_simp <;> with_reducible rfl
     ·exact fun _ _ _=>id
     try simp only [putS]
    refine ZaA 8 (oi:=?_) (v:=.bool false) ?_ (by rw [hops.out];kernel_rfl) ?_ ?_ ?_ (by assumption) ?_
    rotate_left 1
    ·rw [hops.out];simp only [getS];rfl
    ·rw [hops.out];kernel_rfl
    ·intro W hW;(try dsimp only at hW);go_simp <;> (first | with_reducible rfl | (simp;omega) | omega)
    ·exact fun _ _ _=>id
    try simp only [putS]
    refine Za0 9 ?_ ?_ ?_ (by rw [hops.out];kernel_rfl) ?_ ?_ (by assumption) ?_
    rotate_left 2
    ·rw [hops.out];simp only [getS];rfl
    ·intro W hW;(try dsimp only at hW);go_simp <;> with_reducible rfl
    ·exact fun _ _ _=>id
    try simp only [putS]
    refine Zad 10 23 (by rw [hops.out];kernel_rfl) (fun _ _ _ h=>h) (by assumption) ?_
    try simp only [putS]
    refine Zad 11 24 (by rw [hops.out];kernel_rfl) (fun _ _ _ h=>h) (by assumption) ?_
    try simp only [putS]
    refine Zad 12 25 (by rw [hops.out];kernel_rfl) (fun _ _ _ h=>h) (by assumption) ?_
    try simp only [putS]
    refine Zad 13 26 (by rw [hops.out];kernel_rfl) (fun _ _ _ h=>h) (by assumption) ?_
    try simp only [putS]
    refine Zad 14 27 (by rw [hops.out];kernel_rfl) (fun _ _ _ h=>h) (by assumption) ?_
    try simp only [putS]
    refine Zad 15 28 (by rw [hops.out];kernel_rfl) (fun _ _ _ h=>h) (by assumption) ?_
    try simp only [putS]
    refine Zad 16 29 (by rw [hops.out];kernel_rfl) (fun _ _ _ h=>h) (by assumption) ?_
    try simp only [putS]
    refine Zad 17 30 (by rw [hops.out];kernel_rfl) (fun _ _ _ h=>h) (by assumption) ?_
    try simp only [putS]
    refine Zad 18 31 (by rw [hops.out];kernel_rfl) (fun _ _ _ h=>h) (by assumption) ?_
    try simp only [putS]
    refine Zad 19 32 (by rw [hops.out];kernel_rfl) (fun _ _ _ h=>h) (by assumption) ?_
    try simp only [putS]
    refine Zad 20 33 (by rw [hops.out];kernel_rfl) (fun _ _ _ h=>h) (by assumption) ?_
    try simp only [putS]
    iterate 2
     refine Zat 23 ?_ ?_ ?_ (by rw [hops.out];kernel_rfl) ?_ ?_ (by assumption) ?_
     rotate_left 2
     ·rw [hops.out];simp only [getS,Nat.reduceSub,Nat.reduceAdd];rfl
     ·intro W hW;(try dsimp only at hW);go_simp <;> with_reducible rfl
     ·exact fun _ _ _=>id
     try simp only [putS]
    refine wpAnyH_done (by rw [hops.out];kernel_rfl) ?_ _
    clear hops ops
    go_wp2
    exact⟨⟨k+1,by omega,by go_num,ZaZ HALL.out HAT1.out,ZaZ HASC.out HAT2.out,hnd.trans (b1.mono hsz)⟩,by simp [intOf];omega⟩
   ·obtain ⟨j,hj⟩:∃ j,k=j+1:=⟨k-1,by omega⟩
    obtain⟨p,hp⟩:∃ p,ps[j]? = some p:=⟨ps[j],List.getElem?_eq_getElem (by omega)⟩
    obtain⟨b',off',cap2,hve2,hbb2,d0,d1,d2,d3,d4,d5,d6,d7,_⟩:=HV.out.cells j p hp;cases hve2
    rw [<-hnx.cell (p:=⟨b,off+j*8,none⟩) hbb] at d0;rw [<-hnx.cell (p:=⟨b,off+j*8+1,none⟩) hbb] at d1;rw [<-hnx.cell (p:=⟨b,off+j*8+2,none⟩) hbb] at d2;rw [<-hnx.cell (p:=⟨b,off+j*8+3,none⟩) hbb] at d3;rw [<-hnx.cell (p:=⟨b,off+j*8+4,none⟩) hbb] at d4;rw [<-hnx.cell (p:=⟨b,off+j*8+5,none⟩) hbb] at d5;rw [<-hnx.cell (p:=⟨b,off+j*8+6,none⟩) hbb] at d6;rw [<-hnx.cell (p:=⟨b,off+j*8+7,none⟩) hbb] at d7;have hat2:ZcF ordR (fsts ps) k=decide (ordR p.1 l.1<0):=by rw [hj];exact ZbF (Zbo hp) (by rw [<-hj];exact HL.out)
    rw [Zia] at hat2;have hj1:(k:Int)-1=(j:Int):=by omega
    have hj2:(0:Int)<=(j:Int):=by omega
    have hj3:(j:Int)<(ps.length:Int):=by omega
    have hj4:(0:Int)<(k:Int):=by omega
    have hj5:IntKind.i64.wrap (j:Int)=(j:Int):=ZaO _ (by omega) (by omega)
    have HBF:=hide (fun W=>ZeK p.2 l.2 p.1 l.1 W)
    unfold recC at HBF;obtain⟨qb,hqb⟩:∃ q,q=Zas p.1 l.1:=⟨_,rfl⟩;rw [<-hqb] at HBF hat2;have HAT2:=hide hat2;clear hqb hp hat2 hj hk0 hbb2;cases qb
    ·have HF:=hide (Zm2 (by rw [HFL.out];exact hlt) HAT2.out)
     go_wp2
     refine Zaj (S:=(fun W=>W.cell? ⟨b,off+k*8,none⟩=some (.int .i64 l.1.area)/\W.cell? ⟨b,off+k*8+1,none⟩=some (.int .i64 l.1.kind)/\W.cell? ⟨b,off+k*8+2,none⟩=some (.int .i64 l.1.owner)/\W.cell? ⟨b,off+k*8+3,none⟩=some (.int .i64 l.1.key)/\W.cell? ⟨b,off+k*8+4,none⟩=some (.int .i64 l.1.seq)/\W.cell? ⟨b,off+k*8+5,none⟩=some (l.2)/\W.cell? ⟨b,off+k*8+6,none⟩=some (.int .i64 l.1.cost)/\W.cell? ⟨b,off+k*8+7,none⟩=some (.bool l.1.far)/\W.cell? ⟨b,off+j*8,none⟩=some (.int .i64 p.1.area)/\W.cell? ⟨b,off+j*8+1,none⟩=some (.int .i64 p.1.kind)/\W.cell? ⟨b,off+j*8+2,none⟩=some (.int .i64 p.1.owner)/\W.cell? ⟨b,off+j*8+3,none⟩=some (.int .i64 p.1.key)/\W.cell? ⟨b,off+j*8+4,none⟩=some (.int .i64 p.1.seq)/\W.cell? ⟨b,off+j*8+5,none⟩=some (p.2)/\W.cell? ⟨b,off+j*8+6,none⟩=some (.int .i64 p.1.cost)/\W.cell? ⟨b,off+j*8+7,none⟩=some (.bool p.1.far))) (by kernel_rfl) 23 rfl ⟨c0,c1,c2,c3,c4,c5,c6,c7,d0,d1,d2,d3,d4,d5,d6,d7⟩ (fun ops hops hHeld=>?_)
     iterate 4
      refine Zat 23 ?_ ?_ ?_ (by rw [hops.out];kernel_rfl) ?_ ?_ (by assumption) ?_
      rotate_left 2
      ·rw [hops.out];simp only [getS,Nat.reduceSub,Nat.reduceAdd];rfl
      ·intro W hW;(try dsimp only at hW);go_simp <;> with_reducible rfl
      ·exact fun _ _ _=>id
      try simp only [putS]
     refine Zak 4 (oi:=?_) ?_ (by rw [hops.out];kernel_rfl) ?_ ?_
     rotate_left 1
     ·rw [hops.out];simp only [getS];rfl
     ·rw [hops.out];kernel_rfl
     intro K hK
     go_simp
     refine (HOK.out _ hnd).mono ?_
     rintro e w1 ⟨rfl,b1⟩;have hSn:_/\_:=(show ((fun W=>W.cell? ⟨b,off+k*8,none⟩=some (.int .i64 l.1.area)/\W.cell? ⟨b,off+k*8+1,none⟩=some (.int .i64 l.1.kind)/\W.cell? ⟨b,off+k*8+2,none⟩=some (.int .i64 l.1.owner)/\W.cell? ⟨b,off+k*8+3,none⟩=some (.int .i64 l.1.key)/\W.cell? ⟨b,off+k*8+4,none⟩=some (.int .i64 l.1.seq)/\W.cell? ⟨b,off+k*8+5,none⟩=some (l.2)/\W.cell? ⟨b,off+k*8+6,none⟩=some (.int .i64 l.1.cost)/\W.cell? ⟨b,off+k*8+7,none⟩=some (.bool l.1.far)/\W.cell? ⟨b,off+j*8,none⟩=some (.int .i64 p.1.area)/\W.cell? ⟨b,off+j*8+1,none⟩=some (.int .i64 p.1.kind)/\W.cell? ⟨b,off+j*8+2,none⟩=some (.int .i64 p.1.owner)/\W.cell? ⟨b,off+j*8+3,none⟩=some (.int .i64 p.1.key)/\W.cell? ⟨b,off+j*8+4,none⟩=some (.int .i64 p.1.seq)/\W.cell? ⟨b,off+j*8+5,none⟩=some (p.2)/\W.cell? ⟨b,off+j*8+6,none⟩=some (.int .i64 p.1.cost)/\W.cell? ⟨b,off+j*8+7,none⟩=some (.bool p.1.far))) w1 from by
      obtain⟨m0,m1,m2,m3,m4,m5,m6,m7,n0,n1,n2,n3,n4,n5,n6,n7⟩:=hHeld;refine⟨?_,?_,?_,?_,?_,?_,?_,?_,?_,?_,?_,?_,?_,?_,?_,?_⟩ <;> (refine (b1.cell ?_).trans ?_ <;> assumption))
     refine hK.out _ _ hSn (fun hHeld=>?_)
     clear hK K hSn
     try simp only [putS]
     have hbr:b<w1.heap.size:=Nat.lt_of_lt_of_le hbr b1.size
     iterate 3
      refine Zat 23 ?_ ?_ ?_ (by rw [hops.out];kernel_rfl) ?_ ?_ (by assumption) ?_
      rotate_left 2
      ·rw [hops.out];simp only [getS,Nat.reduceSub,Nat.reduceAdd];rfl
      ·intro W hW;(try dsimp only at hW);go_simp <;> with_reducible rfl
      ·exact fun _ _ _=>id
      try simp only [putS]
     refine ZaA 8 (oi:=?_) (v:=.bool true) ?_ (by rw [hops.out];kernel_rfl) ?_ ?_ ?_ (by assumption) ?_
     rotate_left 1
     ·rw [hops.out];simp only [getS];rfl
     ·rw [hops.out];kernel_rfl
     ·intro W hW;(try dsimp only at hW);go_simp <;> (first | with_reducible rfl | (simp;omega) | omega)
     ·exact fun _ _ _=>id
     try simp only [putS]
     iterate 10
      refine Zat 23 ?_ ?_ ?_ (by rw [hops.out];kernel_rfl) ?_ ?_ (by assumption) ?_
      rotate_left 2
      ·rw [hops.out];simp only [getS,Nat.reduceSub,Nat.reduceAdd];rfl
      ·intro W hW;(try dsimp only at hW);go_simp <;> with_reducible rfl
      ·exact fun _ _ _=>id
      try simp only [putS]
     refine Zak 19 (oi:=?_) ?_ (by rw [hops.out];kernel_rfl) ?_ ?_
     rotate_left 1
     ·rw [hops.out];simp only [getS];rfl
     ·rw [hops.out];kernel_rfl
     intro K hK
     go_simp
     refine (HBF.out _).mono ?_
     rintro e w2 ⟨rfl,b2⟩;have hSn:_/\_:=(show ((fun W=>W.cell? ⟨b,off+k*8,none⟩=some (.int .i64 l.1.area)/\W.cell? ⟨b,off+k*8+1,none⟩=some (.int .i64 l.1.kind)/\W.cell? ⟨b,off+k*8+2,none⟩=some (.int .i64 l.1.owner)/\W.cell? ⟨b,off+k*8+3,none⟩=some (.int .i64 l.1.key)/\W.cell? ⟨b,off+k*8+4,none⟩=some (.int .i64 l.1.seq)/\W.cell? ⟨b,off+k*8+5,none⟩=some (l.2)/\W.cell? ⟨b,off+k*8+6,none⟩=some (.int .i64 l.1.cost)/\W.cell? ⟨b,off+k*8+7,none⟩=some (.bool l.1.far)/\W.cell? ⟨b,off+j*8,none⟩=some (.int .i64 p.1.area)/\W.cell? ⟨b,off+j*8+1,none⟩=some (.int .i64 p.1.kind)/\W.cell? ⟨b,off+j*8+2,none⟩=some (.int .i64 p.1.owner)/\W.cell? ⟨b,off+j*8+3,none⟩=some (.int .i64 p.1.key)/\W.cell? ⟨b,off+j*8+4,none⟩=some (.int .i64 p.1.seq)/\W.cell? ⟨b,off+j*8+5,none⟩=some (p.2)/\W.cell? ⟨b,off+j*8+6,none⟩=some (.int .i64 p.1.cost)/\W.cell? ⟨b,off+j*8+7,none⟩=some (.bool p.1.far))) w2 from by
      obtain⟨m0,m1,m2,m3,m4,m5,m6,m7,n0,n1,n2,n3,n4,n5,n6,n7⟩:=hHeld;refine⟨?_,?_,?_,?_,?_,?_,?_,?_,?_,?_,?_,?_,?_,?_,?_,?_⟩ <;> (refine (b2.cell ?_).trans ?_ <;> assumption))
     refine hK.out _ _ hSn (fun hHeld=>?_)
     clear hK K hSn
     try simp only [putS]
     iterate 3
      refine Zat 23 ?_ ?_ ?_ (by rw [hops.out];kernel_rfl) ?_ ?_ (by assumption) ?_
      rotate_left 2
      ·rw [hops.out];simp only [getS,Nat.reduceSub,Nat.reduceAdd];rfl
      ·intro W hW;(try dsimp only at hW);go_simp <;> with_reducible rfl
      ·exact fun _ _ _=>id
      try simp only [putS]
     refine wpAnyH_done (by rw [hops.out];kernel_rfl) ?_ _
     clear hops ops
     go_wp2
     go_ret
     exact⟨Zam HF.out,(hnd.trans (b1.mono hsz)).trans (b2.mono (by have:=b1.size;have:wr.drew.heap.size=wr.heap.size:=rfl;omega))⟩
    ·go_wp2
     refine Zaj (S:=(fun W=>W.cell? ⟨b,off+k*8,none⟩=some (.int .i64 l.1.area)/\W.cell? ⟨b,off+k*8+1,none⟩=some (.int .i64 l.1.kind)/\W.cell? ⟨b,off+k*8+2,none⟩=some (.int .i64 l.1.owner)/\W.cell? ⟨b,off+k*8+3,none⟩=some (.int .i64 l.1.key)/\W.cell? ⟨b,off+k*8+4,none⟩=some (.int .i64 l.1.seq)/\W.cell? ⟨b,off+k*8+5,none⟩=some (l.2)/\W.cell? ⟨b,off+k*8+6,none⟩=some (.int .i64 l.1.cost)/\W.cell? ⟨b,off+k*8+7,none⟩=some (.bool l.1.far)/\W.cell? ⟨b,off+j*8,none⟩=some (.int .i64 p.1.area)/\W.cell? ⟨b,off+j*8+1,none⟩=some (.int .i64 p.1.kind)/\W.cell? ⟨b,off+j*8+2,none⟩=some (.int .i64 p.1.owner)/\W.cell? ⟨b,off+j*8+3,none⟩=some (.int .i64 p.1.key)/\W.cell? ⟨b,off+j*8+4,none⟩=some (.int .i64 p.1.seq)/\W.cell? ⟨b,off+j*8+5,none⟩=some (p.2)/\W.cell? ⟨b,off+j*8+6,none⟩=some (.int .i64 p.1.cost)/\W.cell? ⟨b,off+j*8+7,none⟩=some (.bool p.1.far))) (by kernel_rfl) 23 rfl ⟨c0,c1,c2,c3,c4,c5,c6,c7,d0,d1,d2,d3,d4,d5,d6,d7⟩ (fun ops hops hHeld=>?_)
     iterate 4
      refine Zat 23 ?_ ?_ ?_ (by rw [hops.out];kernel_rfl) ?_ ?_ (by assumption) ?_
      rotate_left 2
      ·rw [hops.out];simp only [getS,Nat.reduceSub,Nat.reduceAdd];rfl
      ·intro W hW;(try dsimp only at hW);go_simp <;> with_reducible rfl
      ·exact fun _ _ _=>id
      try simp only [putS]
     refine Zak 4 (oi:=?_) ?_ (by rw [hops.out];kernel_rfl) ?_ ?_
     rotate_left 1
     ·rw [hops.out];simp only [getS];rfl
     ·rw [hops.out];kernel_rfl
     intro K hK
     go_simp
     refine (HOK.out _ hnd).mono ?_
     rintro e w1 ⟨rfl,b1⟩;have hSn:_/\_:=(show ((fun W=>W.cell? ⟨b,off+k*8,none⟩=some (.int .i64 l.1.area)/\W.cell? ⟨b,off+k*8+1,none⟩=some (.int .i64 l.1.kind)/\W.cell? ⟨b,off+k*8+2,none⟩=some (.int .i64 l.1.owner)/\W.cell? ⟨b,off+k*8+3,none⟩=some (.int .i64 l.1.key)/\W.cell? ⟨b,off+k*8+4,none⟩=some (.int .i64 l.1.seq)/\W.cell? ⟨b,off+k*8+5,none⟩=some (l.2)/\W.cell? ⟨b,off+k*8+6,none⟩=some (.int .i64 l.1.cost)/\W.cell? ⟨b,off+k*8+7,none⟩=some (.bool l.1.far)/\W.cell? ⟨b,off+j*8,none⟩=some (.int .i64 p.1.area)/\W.cell? ⟨b,off+j*8+1,none⟩=some (.int .i64 p.1.kind)/\W.cell? ⟨b,off+j*8+2,none⟩=some (.int .i64 p.1.owner)/\W.cell? ⟨b,off+j*8+3,none⟩=some (.int .i64 p.1.key)/\W.cell? ⟨b,off+j*8+4,none⟩=some (.int .i64 p.1.seq)/\W.cell? ⟨b,off+j*8+5,none⟩=some (p.2)/\W.cell? ⟨b,off+j*8+6,none⟩=some (.int .i64 p.1.cost)/\W.cell? ⟨b,off+j*8+7,none⟩=some (.bool p.1.far))) w1 from by
      obtain⟨m0,m1,m2,m3,m4,m5,m6,m7,n0,n1,n2,n3,n4,n5,n6,n7⟩:=hHeld;refine⟨?_,?_,?_,?_,?_,?_,?_,?_,?_,?_,?_,?_,?_,?_,?_,?_⟩ <;> (refine (b1.cell ?_).trans ?_ <;> assumption))
     refine hK.out _ _ hSn (fun hHeld=>?_)
     clear hK K hSn
     try simp only [putS]
     have hbr:b<w1.heap.size:=Nat.lt_of_lt_of_le hbr b1.size
     iterate 3
      refine Zat 23 ?_ ?_ ?_ (by rw [hops.out];kernel_rfl) ?_ ?_ (by assumption) ?_
      rotate_left 2
      ·rw [hops.out];simp only [getS,Nat.reduceSub,Nat.reduceAdd];rfl
      ·intro W hW;(try dsimp only at hW);go_simp <;> with_reducible rfl
      ·exact fun _ _ _=>id
      try simp only [putS]
     refine ZaA 8 (oi:=?_) (v:=.bool true) ?_ (by rw [hops.out];kernel_rfl) ?_ ?_ ?_ (by assumption) ?_
     rotate_left 1
     ·rw [hops.out];simp only [getS];rfl
     ·rw [hops.out];kernel_rfl
     ·intro W hW;(try dsimp only at hW);go_simp <;> (first | with_reducible rfl | (simp;omega) | omega)
     ·exact fun _ _ _=>id
     try simp only [putS]
     iterate 10
      refine Zat 23 ?_ ?_ ?_ (by rw [hops.out];kernel_rfl) ?_ ?_ (by assumption) ?_
      rotate_left 2
      ·rw [hops.out];simp only [getS,Nat.reduceSub,Nat.reduceAdd];rfl
      ·intro W hW;(try dsimp only at hW);go_simp <;> with_reducible rfl
      ·exact fun _ _ _=>id
      try simp only [putS]
     refine Zak 19 (oi:=?_) ?_ (by rw [hops.out];kernel_rfl) ?_ ?_
     rotate_left 1
     ·rw [hops.out];simp only [getS];rfl
     ·rw [hops.out];kernel_rfl
     intro K hK
     go_simp
     refine (HBF.out _).mono ?_
     rintro e w2 ⟨rfl,b2⟩;have hSn:_/\_:=(show ((fun W=>W.cell? ⟨b,off+k*8,none⟩=some (.int .i64 l.1.area)/\W.cell? ⟨b,off+k*8+1,none⟩=some (.int .i64 l.1.kind)/\W.cell? ⟨b,off+k*8+2,none⟩=some (.int .i64 l.1.owner)/\W.cell? ⟨b,off+k*8+3,none⟩=some (.int .i64 l.1.key)/\W.cell? ⟨b,off+k*8+4,none⟩=some (.int .i64 l.1.seq)/\W.cell? ⟨b,off+k*8+5,none⟩=some (l.2)/\W.cell? ⟨b,off+k*8+6,none⟩=some (.int .i64 l.1.cost)/\W.cell? ⟨b,off+k*8+7,none⟩=some (.bool l.1.far)/\W.cell? ⟨b,off+j*8,none⟩=some (.int .i64 p.1.area)/\W.cell? ⟨b,off+j*8+1,none⟩=some (.int .i64 p.1.kind)/\W.cell? ⟨b,off+j*8+2,none⟩=some (.int .i64 p.1.owner)/\W.cell? ⟨b,off+j*8+3,none⟩=some (.int .i64 p.1.key)/\W.cell? ⟨b,off+j*8+4,none⟩=some (.int .i64 p.1.seq)/\W.cell? ⟨b,off+j*8+5,none⟩=some (p.2)/\W.cell? ⟨b,off+j*8+6,none⟩=some (.int .i64 p.1.cost)/\W.cell? ⟨b,off+j*8+7,none⟩=some (.bool p.1.far))) w2 from by
      obtain⟨m0,m1,m2,m3,m4,m5,m6,m7,n0,n1,n2,n3,n4,n5,n6,n7⟩:=hHeld;refine⟨?_,?_,?_,?_,?_,?_,?_,?_,?_,?_,?_,?_,?_,?_,?_,?_⟩ <;> (refine (b2.cell ?_).trans ?_ <;> assumption))
     refine hK.out _ _ hSn (fun hHeld=>?_)
     clear hK K hSn
     try simp only [putS]
     iterate 3
      refine Zat 23 ?_ ?_ ?_ (by rw [hops.out];kernel_rfl) ?_ ?_ (by assumption) ?_
      rotate_left 2
      ·rw [hops.out];simp only [getS,Nat.reduceSub,Nat.reduceAdd];rfl
      ·intro W hW;(try dsimp only at hW);go_simp <;> with_reducible rfl
      ·exact fun _ _ _=>id
      try simp only [putS]
     refine wpAnyH_done (by rw [hops.out];kernel_rfl) ?_ _
     clear hops ops
     go_wp2
     exact⟨⟨k+1,by omega,by go_num,ZaZ HALL.out HAT1.out,ZaZ HASC.out HAT2.out,(hnd.trans (b1.mono hsz)).trans (b2.mono (by have:=b1.size;have:wr.drew.heap.size=wr.heap.size:=rfl;omega))⟩,by simp [intOf];omega⟩
  ·have e1:Zce Za8 (fsts ps)=true:=Zbf fun i hi=>HALL.out i (by have:=HFL.out;omega)
   have e3:ascB ordR (fsts ps)=true:=Zbf fun i hi=>HASC.out i (by have:=HFL.out;omega)
   have e2:ZaE (fsts ps)=true:=by
    unfold ZaE;rw [e1,e3,decide_eq_true (by have:=HFL.out;omega)]
    rfl
   have HE:=hide e2;clear e1 e2 e3
   go_wp2
   go_ret
   exact⟨Zam HE.out,hnx⟩
theorem ZoA (f:RP->Bool)(ps:List RP):tot (ps.filter f)<=tot ps:=by
 induction ps with
 | nil=>simp [tot]
 | cons p ps ih=>
  rw [List.filter_cons]
  split
  ·rw [Zcs,Zcs];omega
  ·rw [Zcs];omega
theorem Zpo (f g:RP->Bool)(hfg:∀ p,f p=true->g p=false)(ps:List RP):tot (ps.filter f)+tot (ps.filter g)<=tot ps:=by
 induction ps with
 | nil=>simp [tot]
 | cons p ps ih=>
  have:=hfg p;by_cases hf:f p=true
  ·have hg:=this hf
   simp only [List.filter_cons,hf,hg,if_true,Bool.false_eq_true,if_false,Zcs]
   omega
  ·have hf':f p=false:=by simpa using hf
   by_cases hg:g p=true
   ·simp only [List.filter_cons,hf',hg,if_true,Bool.false_eq_true,if_false,Zcs]
    omega
   ·have hg':g p=false:=by simpa using hg
    simp only [List.filter_cons,hf',hg',Bool.false_eq_true,if_false,Zcs]
    omega
theorem Zet {x y:RecD}(h:Zas x y=true):Zas y x=false:=by
 unfold Zas at *;simp only [Bool.or_eq_true,Bool.and_eq_true,decide_eq_true_eq,beq_iff_eq] at h
 simp only [Bool.or_eq_false_iff,Bool.and_eq_false_iff,decide_eq_false_iff_not,beq_eq_false_iff_ne]
 omega
theorem Zij (ps:List RP)(r:RP):tot (putL ps r)<=tot ps+(1+r.1.near.length):=by
 unfold putL;rw [Zdu,Zdu];have h:=Zpo (fun p=>Zas p.1 r.1) (fun p=>Zas r.1 p.1) (fun p hp=>Zet hp) ps
 have e:tot [r]=1+r.1.near.length:=by simp [tot]
 omega
def ltAt (xs:List RecD)(r:RecD)(t:Nat):Prop:=∃ x,xs[t]? = some x/\ordR x r<0
theorem ZdU {xs:List RecD}{r x:RecD}{t:Nat}(h:xs[t]? = some x):ltAt xs r t↔ordR x r<0:=by
 constructor
 ·rintro ⟨y,hy,hl⟩
  rw [h] at hy;cases hy
  exact hl
 ·exact fun hl=>⟨x,h,hl⟩
theorem Zlt (v:Value)(ps:List RP)(hi:Nat)(r:RP)(w:World)(hv:RecsIn w hi v ps)(hhi:hi<=w.heap.size)(hn:tot ps<=1048576)(hr:ZaJ w 0 hi r)(hmono:∀ s t,s<=t->t<ps.length->ltAt (fsts ps) r.1 t->ltAt (fsts ps) r.1 s):
  Calls Tryz.prog 62 #[v,.agg (recC r.1 r.2),.func (.func 63) #[] #[]] w fun e w'=>∃ (i:Nat) (f:Bool),e=.returned (.tuple #[.int .i64 (i:Int),.bool f])/\i<=ps.length/\(∀ t,t<i->ltAt (fsts ps) r.1 t)/\(∀ t,i<=t->t<ps.length->¬ltAt (fsts ps) r.1 t)/\(f=true↔∃ x,(fsts ps)[i]? = some x/\ordR x r.1=0)/\Below w.heap.size w w':=by
 have hnl:=ZbI ps;obtain⟨a1,c1,rfl⟩:=Zac hv.row;obtain⟨ra,rc,hrn⟩:=Zac hr.1;have HRN:=hide hrn;have HV:=hide hv;have HM:=hide hmono;unfold recC;rw [hrn];clear hv hr hrn hmono;have BX:Below w.heap.size w (w.alloc (.cells #[.int .i64 r.1.area,.int .i64 r.1.kind,.int .i64 r.1.owner,.int .i64 r.1.key,.int .i64 r.1.seq,.slice ra r.1.near.length rc,.int .i64 r.1.cost,.bool r.1.far] 59)):=(Below.refl _ _).alloc (Nat.le_refl _) _;have hx:=heap_alloc_new w (.cells #[.int .i64 r.1.area,.int .i64 r.1.kind,.int .i64 r.1.owner,.int .i64 r.1.key,.int .i64 r.1.seq,.slice ra r.1.near.length rc,.int .i64 r.1.cost,.bool r.1.far] 59);obtain⟨w0,hw0⟩:∃ w0,w0=w.alloc (.cells #[.int .i64 r.1.area,.int .i64 r.1.kind,.int .i64 r.1.owner,.int .i64 r.1.key,.int .i64 r.1.seq,.slice ra r.1.near.length rc,.int .i64 r.1.cost,.bool r.1.far] 59):=⟨_,rfl⟩;rw [<-hw0] at BX hx;have hs0:=Zab hx;have HX:=hide hx;clear hx
 go_enter Tryz.func62,Tryz.ntmps62
 go_wp2
 rw [<-hw0];clear hw0
 go_loopw [9,10] (fun i j wr=>∃ (m n:Nat),m<=n/\n<=ps.length/\i=.int .i64 m/\j=.int .i64 n/\Hid (∀ t,t<m->ltAt (fsts ps) r.1 t)/\Hid (∀ t,n<=t->t<ps.length->¬ltAt (fsts ps) r.1 t)/\Below w0.heap.size w0 wr) (fun i j _=>(intOf j).toNat-(intOf i).toNat)
 case atStart=>exact ⟨0,ps.length,by omega,by omega,rfl,rfl,hide (by omega),hide (by omega),Below.refl _ _⟩
 case round=>
  obtain⟨m,n,hmn,hnp,rfl,rfl,HLO,HHI,hnx⟩:=hrel;have hsz:=hnx.size;have BWR:Below w.heap.size w wr:=BX.trans (hnx.mono (by omega))
  by_cases hlt:m<n
  ·have hmi:(m:Int)<(n:Int):=by omega
   have hw1:IntKind.i64.wrap ((m:Int)+(n:Int))=(m:Int)+(n:Int):=ZaO _ (by omega) (by omega)
   go_wp2
   obtain⟨k,hk⟩:∃ k:Nat,k=(m+n) / 2:=⟨_,rfl⟩;have hke:((m:Int)+(n:Int)) / 2=(k:Int):=by omega
   rw [hke];have hkm:m<=k:=by omega
   have hkn:k<n:=by omega
   have hki:(0:Int)<=(k:Int):=by omega
   have hkj:(k:Int)<(ps.length:Int):=by omega
   clear hk hke hw1;obtain⟨p,hp⟩:∃ p,ps[k]? = some p:=⟨ps[k],List.getElem?_eq_getElem (by omega)⟩
   obtain⟨b,off,cap',hve,hbb,c0,c1,c2,c3,c4,c5,c6,c7,hnr⟩:=HV.out.at.cells k p hp;cases hve
   obtain⟨pa,pc,hpn⟩:=ZaB.shape hnr;rw [hpn] at c5;rw [<-BWR.cell (p:=⟨b,off+k*8,none⟩) (Nat.lt_of_lt_of_le hbb hhi)] at c0;rw [<-BWR.cell (p:=⟨b,off+k*8+1,none⟩) (Nat.lt_of_lt_of_le hbb hhi)] at c1;rw [<-BWR.cell (p:=⟨b,off+k*8+2,none⟩) (Nat.lt_of_lt_of_le hbb hhi)] at c2;rw [<-BWR.cell (p:=⟨b,off+k*8+3,none⟩) (Nat.lt_of_lt_of_le hbb hhi)] at c3;rw [<-BWR.cell (p:=⟨b,off+k*8+4,none⟩) (Nat.lt_of_lt_of_le hbb hhi)] at c4;rw [<-BWR.cell (p:=⟨b,off+k*8+5,none⟩) (Nat.lt_of_lt_of_le hbb hhi)] at c5;rw [<-BWR.cell (p:=⟨b,off+k*8+6,none⟩) (Nat.lt_of_lt_of_le hbb hhi)] at c6;rw [<-BWR.cell (p:=⟨b,off+k*8+7,none⟩) (Nat.lt_of_lt_of_le hbb hhi)] at c7;have hxx:=(hnx.block _ (Zab HX.out)).trans HX.out;have d0:=Zaa hxx 0;have d1:=Zaa hxx 1;have d2:=Zaa hxx 2;have d3:=Zaa hxx 3;have d4:=Zaa hxx 4;have d5:=Zaa hxx 5;have d6:=Zaa hxx 6;have d7:=Zaa hxx 7;simp at d0 d1 d2 d3 d4 d5 d6 d7
   have hb1:b<wr.heap.size:=by omega
   have hb2:w.heap.size<wr.heap.size:=by omega
   have hq:=fun W=>Zde p.2 r.2 p.1 r.1 W
   unfold recC at hq;rw [hpn,HRN.out] at hq;obtain⟨x,hx⟩:∃ x,x=ordR p.1 r.1:=⟨_,rfl⟩;rw [<-hx] at hq;have HK:=hide hq;have HXV:=hide hx;have HPP:=hide (Zbo hp);clear hq hx hp hxx hnr hpn;by_cases hx0:x<0
   ·have HLO2:=hide (show ∀ t,t<k+1->ltAt (fsts ps) r.1 t from fun t ht=>HM.out t k (by omega) (by omega) ((ZdU HPP.out).2 (by rw [<-HXV.out];exact hx0)))
    go_region_held3 (fun W=>W.cell? ⟨b,off+k*8,none⟩=some (.int .i64 p.1.area)/\W.cell? ⟨b,off+k*8+1,none⟩=some (.int .i64 p.1.kind)/\W.cell? ⟨b,off+k*8+2,none⟩=some (.int .i64 p.1.owner)/\W.cell? ⟨b,off+k*8+3,none⟩=some (.int .i64 p.1.key)/\W.cell? ⟨b,off+k*8+4,none⟩=some (.int .i64 p.1.seq)/\W.cell? ⟨b,off+k*8+5,none⟩=some (.slice pa p.1.near.length pc)/\W.cell? ⟨b,off+k*8+6,none⟩=some (.int .i64 p.1.cost)/\W.cell? ⟨b,off+k*8+7,none⟩=some (.bool p.1.far)/\W.cell? ⟨w.heap.size,0,none⟩=some (.int .i64 r.1.area)/\W.cell? ⟨w.heap.size,1,none⟩=some (.int .i64 r.1.kind)/\W.cell? ⟨w.heap.size,2,none⟩=some (.int .i64 r.1.owner)/\W.cell? ⟨w.heap.size,3,none⟩=some (.int .i64 r.1.key)/\W.cell? ⟨w.heap.size,4,none⟩=some (.int .i64 r.1.seq)/\W.cell? ⟨w.heap.size,5,none⟩=some (.slice ra r.1.near.length rc)/\W.cell? ⟨w.heap.size,6,none⟩=some (.int .i64 r.1.cost)/\W.cell? ⟨w.heap.size,7,none⟩=some (.bool r.1.far)) (first | go_keep | (refine ⟨?_,?_,?_,?_,?_,?_,?_,?_,?_,?_,?_,?_,?_,?_,?_,?_⟩ <;> (rw [hbc.cell (by assumption)];assumption))) (first | (go_at_call 63;refine (HK.out _).mono ?_;rintro e w1 ⟨rfl,hbc⟩))
    go_wp2
    go_roundw
    case rel=>exact ⟨k+1,n,by omega,by omega,by go_num,rfl,HLO2,HHI,hnx.trans ((Below.refl _ _).drew.trans (hbc.mono hsz))⟩
    case measure=>simp [intOf];omega
   ·have HHI2:=hide (show ∀ t,k<=t->t<ps.length->¬ltAt (fsts ps) r.1 t from fun t h1 h2 h3=>hx0 (by rw [HXV.out];exact (ZdU HPP.out).1 (HM.out k t h1 h2 h3)))
    go_region_held3 (fun W=>W.cell? ⟨b,off+k*8,none⟩=some (.int .i64 p.1.area)/\W.cell? ⟨b,off+k*8+1,none⟩=some (.int .i64 p.1.kind)/\W.cell? ⟨b,off+k*8+2,none⟩=some (.int .i64 p.1.owner)/\W.cell? ⟨b,off+k*8+3,none⟩=some (.int .i64 p.1.key)/\W.cell? ⟨b,off+k*8+4,none⟩=some (.int .i64 p.1.seq)/\W.cell? ⟨b,off+k*8+5,none⟩=some (.slice pa p.1.near.length pc)/\W.cell? ⟨b,off+k*8+6,none⟩=some (.int .i64 p.1.cost)/\W.cell? ⟨b,off+k*8+7,none⟩=some (.bool p.1.far)/\W.cell? ⟨w.heap.size,0,none⟩=some (.int .i64 r.1.area)/\W.cell? ⟨w.heap.size,1,none⟩=some (.int .i64 r.1.kind)/\W.cell? ⟨w.heap.size,2,none⟩=some (.int .i64 r.1.owner)/\W.cell? ⟨w.heap.size,3,none⟩=some (.int .i64 r.1.key)/\W.cell? ⟨w.heap.size,4,none⟩=some (.int .i64 r.1.seq)/\W.cell? ⟨w.heap.size,5,none⟩=some (.slice ra r.1.near.length rc)/\W.cell? ⟨w.heap.size,6,none⟩=some (.int .i64 r.1.cost)/\W.cell? ⟨w.heap.size,7,none⟩=some (.bool r.1.far)) (first | go_keep | (refine ⟨?_,?_,?_,?_,?_,?_,?_,?_,?_,?_,?_,?_,?_,?_,?_,?_⟩ <;> (rw [hbc.cell (by assumption)];assumption))) (first | (go_at_call 63;refine (HK.out _).mono ?_;rintro e w1 ⟨rfl,hbc⟩))
    go_wp2
    go_roundw
    case rel=>exact ⟨m,k,by omega,by omega,rfl,rfl,HLO,HHI2,hnx.trans ((Below.refl _ _).drew.trans (hbc.mono hsz))⟩
    case measure=>simp [intOf];omega
  ·have hmn2:m=n:=by omega
   subst hmn2;by_cases hend:m<ps.length
   ·have hmi:(0:Int)<=(m:Int):=by omega
    have hmj:(m:Int)<(ps.length:Int):=by omega
    obtain⟨p,hp⟩:∃ p,ps[m]? = some p:=⟨ps[m],List.getElem?_eq_getElem (by omega)⟩
    obtain⟨b,off,cap',hve,hbb,c0,c1,c2,c3,c4,c5,c6,c7,hnr⟩:=HV.out.at.cells m p hp;cases hve
    obtain⟨pa,pc,hpn⟩:=ZaB.shape hnr;rw [hpn] at c5;rw [<-BWR.cell (p:=⟨b,off+m*8,none⟩) (Nat.lt_of_lt_of_le hbb hhi)] at c0;rw [<-BWR.cell (p:=⟨b,off+m*8+1,none⟩) (Nat.lt_of_lt_of_le hbb hhi)] at c1;rw [<-BWR.cell (p:=⟨b,off+m*8+2,none⟩) (Nat.lt_of_lt_of_le hbb hhi)] at c2;rw [<-BWR.cell (p:=⟨b,off+m*8+3,none⟩) (Nat.lt_of_lt_of_le hbb hhi)] at c3;rw [<-BWR.cell (p:=⟨b,off+m*8+4,none⟩) (Nat.lt_of_lt_of_le hbb hhi)] at c4;rw [<-BWR.cell (p:=⟨b,off+m*8+5,none⟩) (Nat.lt_of_lt_of_le hbb hhi)] at c5;rw [<-BWR.cell (p:=⟨b,off+m*8+6,none⟩) (Nat.lt_of_lt_of_le hbb hhi)] at c6;rw [<-BWR.cell (p:=⟨b,off+m*8+7,none⟩) (Nat.lt_of_lt_of_le hbb hhi)] at c7;have hxx:=(hnx.block _ (Zab HX.out)).trans HX.out;have d0:=Zaa hxx 0;have d1:=Zaa hxx 1;have d2:=Zaa hxx 2;have d3:=Zaa hxx 3;have d4:=Zaa hxx 4;have d5:=Zaa hxx 5;have d6:=Zaa hxx 6;have d7:=Zaa hxx 7;simp at d0 d1 d2 d3 d4 d5 d6 d7
    have hb1:b<wr.heap.size:=by omega
    have hb2:w.heap.size<wr.heap.size:=by omega
    have hq:=fun W=>Zde p.2 r.2 p.1 r.1 W
    unfold recC at hq;rw [hpn,HRN.out] at hq;obtain⟨x,hx⟩:∃ x,x=ordR p.1 r.1:=⟨_,rfl⟩;rw [<-hx] at hq;have HK:=hide hq;have HXV:=hide hx;have HPP:=hide (Zbo hp);clear hq hx hp hxx hnr hpn;have hfin:(x==0)=true↔∃ y,(fsts ps)[m]? = some y/\ordR y r.1=0:=by
     rw [HPP.out]
     constructor
     ·intro h
      exact⟨p.1,rfl,by rw [<-HXV.out];simpa using h⟩
     ·rintro ⟨y,hy,he⟩
      cases hy
      rw [HXV.out]
      simpa using he
    have HFIN:=hide hfin;clear hfin
    go_wp2
    go_region_held3 (fun W=>W.cell? ⟨b,off+m*8,none⟩=some (.int .i64 p.1.area)/\W.cell? ⟨b,off+m*8+1,none⟩=some (.int .i64 p.1.kind)/\W.cell? ⟨b,off+m*8+2,none⟩=some (.int .i64 p.1.owner)/\W.cell? ⟨b,off+m*8+3,none⟩=some (.int .i64 p.1.key)/\W.cell? ⟨b,off+m*8+4,none⟩=some (.int .i64 p.1.seq)/\W.cell? ⟨b,off+m*8+5,none⟩=some (.slice pa p.1.near.length pc)/\W.cell? ⟨b,off+m*8+6,none⟩=some (.int .i64 p.1.cost)/\W.cell? ⟨b,off+m*8+7,none⟩=some (.bool p.1.far)/\W.cell? ⟨w.heap.size,0,none⟩=some (.int .i64 r.1.area)/\W.cell? ⟨w.heap.size,1,none⟩=some (.int .i64 r.1.kind)/\W.cell? ⟨w.heap.size,2,none⟩=some (.int .i64 r.1.owner)/\W.cell? ⟨w.heap.size,3,none⟩=some (.int .i64 r.1.key)/\W.cell? ⟨w.heap.size,4,none⟩=some (.int .i64 r.1.seq)/\W.cell? ⟨w.heap.size,5,none⟩=some (.slice ra r.1.near.length rc)/\W.cell? ⟨w.heap.size,6,none⟩=some (.int .i64 r.1.cost)/\W.cell? ⟨w.heap.size,7,none⟩=some (.bool r.1.far)) (first | go_keep | (refine ⟨?_,?_,?_,?_,?_,?_,?_,?_,?_,?_,?_,?_,?_,?_,?_,?_⟩ <;> (rw [hbc.cell (by assumption)];assumption))) (first | (go_at_call 63;refine (HK.out _).mono ?_;rintro e w1 ⟨rfl,hbc⟩))
    go_wp2
    go_returns
    exact⟨m,x==0,rfl,by omega,HLO.out,HHI.out,HFIN.out,BWR.trans ((Below.refl _ _).drew.trans (hbc.mono (show w.heap.size<=wr.heap.size by omega)))⟩
   ·have hme:¬(m:Int)<(ps.length:Int):=by omega
    have HNO:=hide (show (false=true↔∃ y,(fsts ps)[m]? = some y/\ordR y r.1=0) from ⟨(fun h=>by cases h),(fun ⟨y,hy,_⟩=>by rw [List.getElem?_eq_none (by simp [fsts];omega)] at hy;cases hy)⟩)
    go_wp2
    go_quiet (fail)
    go_wp2
    go_returns
    exact⟨m,false,rfl,by omega,HLO.out,HHI.out,HNO.out,BWR.trans ⟨rfl,rfl,rfl,Nat.le_refl _,fun _ _=>rfl⟩⟩
end Go.Proofs.YtgdgkgmjpnbbcaaGreat
