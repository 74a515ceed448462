/-
  NearOk RecOk
-/
import Derived.Test.YtcimbiinljcifaaGreatLn6
import Derived.Test.YtcimbiinljcifaaGreatLn2
import Derived.Test.YtcimbiinljcifaaGreatLn1
import Derived.Test.YtcimbiinljcifaaGreatLn3
namespace Go.Proofs.YtcimbiinljcifaaGreat
open Go.RowKit
set_option linter.unusedSimpArgs false
set_option linter.unusedVariables false
set_option maxRecDepth 100000
set_option maxHeartbeats 8000000
def ZbC (owner:Int)(l:Nr):Bool:=inB l.to 1 6 && !(l.to==owner)&&inB l.c 1 1000
def ordN (p l:Nr):Int:=p.to-l.to
def Za1 (owner:Int)(ns:List Nr):Bool:=Zbl (ZbC owner) ns&&ascB ordN ns
theorem Zkx (v1:Value)(x:RecD)(w:World)(hl:x.near.length<=1048576)(hv:ZaA w v1 x.near w.heap.size):
  Calls Tryz.prog 111 #[.agg (recC x v1)] w fun e w'=>e=.returned (.bool (Za1 x.owner x.near))/\Below w.heap.size w w':=by
 obtain⟨a1,c1,rfl⟩:=hv.shape;have HV:=hide hv;clear hv;unfold recC
 go_enter Tryz.func111,Tryz.ntmps111
 go_wp2
 go_loopw [3] (fun i wr=>∃ k:Nat,k<=x.near.length/\i=.int .i64 k/\(∀ j,j<k->okAt (ZbC x.owner) x.near j=true)/\(∀ j,j<k->ZbA ordN x.near j=true)/\Below w.heap.size w wr/\wr.heap[w.heap.size]? = some (.cells #[.int .i64 x.area,.int .i64 x.kind,.int .i64 x.owner,.int .i64 x.key,.int .i64 x.seq,.slice a1 x.near.length c1,.int .i64 x.cost,.bool x.far] 40)) (fun i _=>x.near.length-(intOf i).toNat)
 case atStart=>exact ⟨0,by omega,rfl,by omega,by omega,(Below.refl _ _).alloc (Nat.le_refl _) _,heap_alloc_new w _⟩
 case round=>
  obtain⟨k,hk,rfl,hall,hasc,hnx,hx⟩:=hrel;have hxl:=Zab hx;have g5:=Zaa hx 5;simp at g5
  have HALL:=hide hall;have HASC:=hide hasc;have HX:=hide hx;clear hall hasc hx;by_cases hlt:k<x.near.length
  ·obtain ⟨l,hl⟩:∃ l,x.near[k]? = some l:=⟨x.near[k],List.getElem?_eq_getElem hlt⟩
   obtain⟨b,off,cap',hve,hbb,s0,s1⟩:=HV.out.cells k l hl;cases hve
   rw [<-hnx.cell (p:=⟨b,off+k*2,none⟩) hbb] at s0;rw [<-hnx.cell (p:=⟨b,off+k*2+1,none⟩) hbb] at s1;have hzr:=hnx.size;have hbr:b<wr.heap.size:=by omega
   have hki:(0:Int)<=(k:Int):=by omega
   have hkj:(k:Int)<(x.near.length:Int):=by omega
   obtain⟨qt,hqt⟩:∃ q,q=inB l.to 1 6:=⟨_,rfl⟩;obtain⟨qc,hqc⟩:∃ q,q=inB l.c 1 1000:=⟨_,rfl⟩;have hok:ZbC x.owner l=(qt && !(l.to==x.owner)&&qc):=by unfold ZbC;rw [hqt,hqc]
   have HIT:=hide (Zbo l.to 1 6);have HIC:=hide (Zbo l.c 1 1000);rw [<-hqt] at HIT;rw [<-hqc] at HIC;have HAT1:=hide ((Zbh (ok:=ZbC x.owner) hl).trans hok);have HL:=hide hl;clear hqt hqc hok hl;obtain⟨wq,hwq⟩:∃ wq:World,wq=wr.alloc (.cells #[.int .i64 l.to,.int .i64 l.c] 98):=⟨_,rfl⟩;have BW:Below w.heap.size w wq:=by rw [hwq];exact hnx.alloc hnx.size _
   have hb0:wq.heap[wr.heap.size]? = some (.cells #[.int .i64 l.to,.int .i64 l.c] 98):=by rw [hwq];exact heap_alloc_new wr _
   have hx9:wq.heap[w.heap.size]? = some (.cells #[.int .i64 x.area,.int .i64 x.kind,.int .i64 x.owner,.int .i64 x.key,.int .i64 x.seq,.slice (some ⟨b,off,none⟩) x.near.length c1,.int .i64 x.cost,.bool x.far] 40):=by rw [hwq,Below.heap_alloc _ _ _ hxl];exact HX.out
   go_wp2
   rw [<-hwq];have g2:=Zaa hx9 2;have g5:=Zaa hx9 5;have e0:=Zaa hb0 0;have e1:=Zaa hb0 1;simp at g2 g5 e0 e1
   have HX9:=hide hx9;obtain⟨z,hz⟩:∃ z,z=wr.heap.size:=⟨_,rfl⟩;rw [<-hz] at e0 e1 |-;clear hb0 hx9 hwq hz s0 s1;cases qt
   ·have hf:Za1 x.owner x.near=false:=by unfold Za1 Zbl;rw [ZaF hlt (HAT1.out.trans (by simp))];rfl
    have HF:=hide hf;clear hf;refine Zai (S:=(fun W=>W.cell? ⟨w.heap.size,2,none⟩=some (.int .i64 x.owner)/\W.cell? ⟨w.heap.size,5,none⟩=some (.slice (some ⟨b,off,none⟩) x.near.length c1)/\W.cell? ⟨z,0,none⟩=some (.int .i64 l.to)/\W.cell? ⟨z,1,none⟩=some (.int .i64 l.c))) (by kernel_rfl) 33 rfl ⟨g2,g5,e0,e1⟩ (fun ops hops hHeld=>?_)
    iterate 2
     refine Zao 33 ?_ ?_ ?_ (by rw [hops.out];kernel_rfl) ?_ ?_ (by assumption) ?_
     rotate_left 2
     ·rw [hops.out];simp only [getS,Nat.reduceSub,Nat.reduceAdd];rfl
     ·intro W hW;(try dsimp only at hW);go_simp <;> with_reducible rfl
     ·exact fun _ _ _=>id
     try simp only [putS]
    refine Zap 2 (oi:=?_) ?_ (by rw [hops.out];kernel_rfl) ?_ ?_
    rotate_left 1
    ·rw [hops.out];simp only [getS];rfl
    ·rw [hops.out];kernel_rfl
    intro K hK
    go_simp
    refine (HIT.out _).mono ?_
    rintro e w1 ⟨rfl,rfl⟩;refine hK.out _ _ hHeld (fun _=>?_)
    clear hK K
    try simp only [putS]
    iterate 2
     refine Zao 33 ?_ ?_ ?_ (by rw [hops.out];kernel_rfl) ?_ ?_ (by assumption) ?_
     rotate_left 2
     ·rw [hops.out];simp only [getS,Nat.reduceSub,Nat.reduceAdd];rfl
     ·intro W hW;(try dsimp only at hW);go_simp <;> with_reducible rfl
     ·exact fun _ _ _=>id
     try simp only [putS]
    refine Zad 5 22 (by rw [hops.out];kernel_rfl) (fun _ _ _ h=>h) (by assumption) ?_
    try simp only [putS]
    refine Zad 6 23 (by rw [hops.out];kernel_rfl) (fun _ _ _ h=>h) (by assumption) ?_
    try simp only [putS]
    refine Zad 7 24 (by rw [hops.out];kernel_rfl) (fun _ _ _ h=>h) (by assumption) ?_
    try simp only [putS]
    refine Zad 8 25 (by rw [hops.out];kernel_rfl) (fun _ _ _ h=>h) (by assumption) ?_
    try simp only [putS]
    refine Zad 9 26 (by rw [hops.out];kernel_rfl) (fun _ _ _ h=>h) (by assumption) ?_
    try simp only [putS]
    iterate 2
     refine Zao 33 ?_ ?_ ?_ (by rw [hops.out];kernel_rfl) ?_ ?_ (by assumption) ?_
     rotate_left 2
     ·rw [hops.out];simp only [getS,Nat.reduceSub,Nat.reduceAdd];rfl
     ·intro W hW;(try dsimp only at hW);go_simp <;> with_reducible rfl
     ·exact fun _ _ _=>id
     try simp only [putS]
    refine Zad 12 29 (by rw [hops.out];kernel_rfl) (fun _ _ _ h=>h) (by assumption) ?_
    try simp only [putS]
    refine Zad 13 30 (by rw [hops.out];kernel_rfl) (fun _ _ _ h=>h) (by assumption) ?_
    try simp only [putS]
    refine Zad 14 31 (by rw [hops.out];kernel_rfl) (fun _ _ _ h=>h) (by assumption) ?_
    try simp only [putS]
    refine Zad 15 32 (by rw [hops.out];kernel_rfl) (fun _ _ _ h=>h) (by assumption) ?_
    try simp only [putS]
    iterate 2
     refine Zao 33 ?_ ?_ ?_ (by rw [hops.out];kernel_rfl) ?_ ?_ (by assumption) ?_
     rotate_left 2
     ·rw [hops.out];simp only [getS,Nat.reduceSub,Nat.reduceAdd];rfl
     ·intro W hW;(try dsimp only at hW);go_simp <;> with_reducible rfl
     ·exact fun _ _ _=>id
     try simp only [putS]
    refine Zad 18 35 (by rw [hops.out];kernel_rfl) (fun _ _ _ h=>h) (by assumption) ?_
    try simp only [putS]
    refine Zad 19 36 (by rw [hops.out];kernel_rfl) (fun _ _ _ h=>h) (by assumption) ?_
    try simp only [putS]
    refine Zad 20 37 (by rw [hops.out];kernel_rfl) (fun _ _ _ h=>h) (by assumption) ?_
    try simp only [putS]
    refine Zad 21 38 (by rw [hops.out];kernel_rfl) (fun _ _ _ h=>h) (by assumption) ?_
    try simp only [putS]
    refine Zad 22 39 (by rw [hops.out];kernel_rfl) (fun _ _ _ h=>h) (by assumption) ?_
    try simp only [putS]
    refine Zad 23 40 (by rw [hops.out];kernel_rfl) (fun _ _ _ h=>h) (by assumption) ?_
    try simp only [putS]
    refine Zad 24 41 (by rw [hops.out];kernel_rfl) (fun _ _ _ h=>h) (by assumption) ?_
    try simp only [putS]
    refine Zad 25 42 (by rw [hops.out];kernel_rfl) (fun _ _ _ h=>h) (by assumption) ?_
    try simp only [putS]
    refine Zad 26 43 (by rw [hops.out];kernel_rfl) (fun _ _ _ h=>h) (by assumption) ?_
    try simp only [putS]
    refine Zad 27 44 (by rw [hops.out];kernel_rfl) (fun _ _ _ h=>h) (by assumption) ?_
    try simp only [putS]
    refine Zad 28 45 (by rw [hops.out];kernel_rfl) (fun _ _ _ h=>h) (by assumption) ?_
    try simp only [putS]
    refine Zad 29 46 (by rw [hops.out];kernel_rfl) (fun _ _ _ h=>h) (by assumption) ?_
    try simp only [putS]
    refine Zad 30 47 (by rw [hops.out];kernel_rfl) (fun _ _ _ h=>h) (by assumption) ?_
    try simp only [putS]
    refine Zad 31 48 (by rw [hops.out];kernel_rfl) (fun _ _ _ h=>h) (by assumption) ?_
    try simp only [putS]
    refine Zay 32 ?_ ?_ ?_ (by rw [hops.out];kernel_rfl) ?_ ?_ (by assumption) ?_
    rotate_left 2
    ·rw [hops.out];simp only [getS];rfl
    ·intro W hW;(try dsimp only at hW);go_simp <;> with_reducible rfl
    ·exact fun _ _ _=>id
    try simp only [putS]
    refine wpAnyH_done (by rw [hops.out];kernel_rfl) ?_ _
    clear hops ops
    go_wp2
    go_ret
    exact⟨Zaf HF.out,BW.drew⟩
   by_cases how:l.to=x.owner
   ·have hoe:(l.to==x.owner)=true:=by simpa using how
    have hf:Za1 x.owner x.near=false:=by unfold Za1 Zbl;rw [ZaF hlt (HAT1.out.trans (by simp [hoe]))];rfl
    have HF:=hide hf;clear hf how;refine Zai (S:=(fun W=>W.cell? ⟨w.heap.size,2,none⟩=some (.int .i64 x.owner)/\W.cell? ⟨w.heap.size,5,none⟩=some (.slice (some ⟨b,off,none⟩) x.near.length c1)/\W.cell? ⟨z,0,none⟩=some (.int .i64 l.to)/\W.cell? ⟨z,1,none⟩=some (.int .i64 l.c))) (by kernel_rfl) 33 rfl ⟨g2,g5,e0,e1⟩ (fun ops hops hHeld=>?_)
    iterate 2
     refine Zao 33 ?_ ?_ ?_ (by rw [hops.out];kernel_rfl) ?_ ?_ (by assumption) ?_
     rotate_left 2
     ·rw [hops.out];simp only [getS,Nat.reduceSub,Nat.reduceAdd];rfl
     ·intro W hW;(try dsimp only at hW);go_simp <;> with_reducible rfl
     ·exact fun _ _ _=>id
     try simp only [putS]
    refine Zap 2 (oi:=?_) ?_ (by rw [hops.out];kernel_rfl) ?_ ?_
    rotate_left 1
    ·rw [hops.out];simp only [getS];rfl
    ·rw [hops.out];kernel_rfl
    intro K hK
    go_simp
    refine (HIT.out _).mono ?_
    rintro e w1 ⟨rfl,rfl⟩;refine hK.out _ _ hHeld (fun _=>?_)
    clear hK K
    try simp only [putS]
    iterate 6
     refine Zao 33 ?_ ?_ ?_ (by rw [hops.out];kernel_rfl) ?_ ?_ (by assumption) ?_
     rotate_left 2
     ·rw [hops.out];simp only [getS,Nat.reduceSub,Nat.reduceAdd];rfl
     ·intro W hW;(try dsimp only at hW);go_simp <;> with_reducible rfl
     ·exact fun _ _ _=>id
     try simp only [putS]
    refine Zaz 9 (oi:=?_) (v:=.bool true) ?_ (by rw [hops.out];kernel_rfl) ?_ ?_ ?_ (by assumption) ?_
    rotate_left 1
    ·rw [hops.out];simp only [getS];rfl
    ·rw [hops.out];kernel_rfl
    ·intro W hW;(try dsimp only at hW);go_simp <;> (first | with_reducible rfl | (simp;omega) | omega)
    ·exact fun _ _ _=>id
    try simp only [putS]
    iterate 2
     refine Zao 33 ?_ ?_ ?_ (by rw [hops.out];kernel_rfl) ?_ ?_ (by assumption) ?_
     rotate_left 2
     ·rw [hops.out];simp only [getS,Nat.reduceSub,Nat.reduceAdd];rfl
     ·intro W hW;(try dsimp only at hW);go_simp <;> with_reducible rfl
     ·exact fun _ _ _=>id
     try simp only [putS]
    refine Zad 12 29 (by rw [hops.out];kernel_rfl) (fun _ _ _ h=>h) (by assumption) ?_
    try simp only [putS]
    refine Zad 13 30 (by rw [hops.out];kernel_rfl) (fun _ _ _ h=>h) (by assumption) ?_
    try simp only [putS]
    refine Zad 14 31 (by rw [hops.out];kernel_rfl) (fun _ _ _ h=>h) (by assumption) ?_
    try simp only [putS]
    refine Zad 15 32 (by rw [hops.out];kernel_rfl) (fun _ _ _ h=>h) (by assumption) ?_
    try simp only [putS]
    iterate 2
     refine Zao 33 ?_ ?_ ?_ (by rw [hops.out];kernel_rfl) ?_ ?_ (by assumption) ?_
     rotate_left 2
     ·rw [hops.out];simp only [getS,Nat.reduceSub,Nat.reduceAdd];rfl
     ·intro W hW;(try dsimp only at hW);go_simp <;> with_reducible rfl
     ·exact fun _ _ _=>id
     try simp only [putS]
    refine Zad 18 35 (by rw [hops.out];kernel_rfl) (fun _ _ _ h=>h) (by assumption) ?_
    try simp only [putS]
    refine Zad 19 36 (by rw [hops.out];kernel_rfl) (fun _ _ _ h=>h) (by assumption) ?_
    try simp only [putS]
    refine Zad 20 37 (by rw [hops.out];kernel_rfl) (fun _ _ _ h=>h) (by assumption) ?_
    try simp only [putS]
    refine Zad 21 38 (by rw [hops.out];kernel_rfl) (fun _ _ _ h=>h) (by assumption) ?_
    try simp only [putS]
    refine Zad 22 39 (by rw [hops.out];kernel_rfl) (fun _ _ _ h=>h) (by assumption) ?_
    try simp only [putS]
    refine Zad 23 40 (by rw [hops.out];kernel_rfl) (fun _ _ _ h=>h) (by assumption) ?_
    try simp only [putS]
    refine Zad 24 41 (by rw [hops.out];kernel_rfl) (fun _ _ _ h=>h) (by assumption) ?_
    try simp only [putS]
    refine Zad 25 42 (by rw [hops.out];kernel_rfl) (fun _ _ _ h=>h) (by assumption) ?_
    try simp only [putS]
    refine Zad 26 43 (by rw [hops.out];kernel_rfl) (fun _ _ _ h=>h) (by assumption) ?_
    try simp only [putS]
    refine Zad 27 44 (by rw [hops.out];kernel_rfl) (fun _ _ _ h=>h) (by assumption) ?_
    try simp only [putS]
    refine Zad 28 45 (by rw [hops.out];kernel_rfl) (fun _ _ _ h=>h) (by assumption) ?_
    try simp only [putS]
    refine Zad 29 46 (by rw [hops.out];kernel_rfl) (fun _ _ _ h=>h) (by assumption) ?_
    try simp only [putS]
    refine Zad 30 47 (by rw [hops.out];kernel_rfl) (fun _ _ _ h=>h) (by assumption) ?_
    try simp only [putS]
    refine Zad 31 48 (by rw [hops.out];kernel_rfl) (fun _ _ _ h=>h) (by assumption) ?_
    try simp only [putS]
    refine Zay 32 ?_ ?_ ?_ (by rw [hops.out];kernel_rfl) ?_ ?_ (by assumption) ?_
    rotate_left 2
    ·rw [hops.out];simp only [getS];rfl
    ·intro W hW;(try dsimp only at hW);go_simp <;> with_reducible rfl
    ·exact fun _ _ _=>id
    try simp only [putS]
    refine wpAnyH_done (by rw [hops.out];kernel_rfl) ?_ _
    clear hops ops
    go_wp2
    go_ret
    exact⟨Zaf HF.out,BW.drew⟩
   have hoe:(l.to==x.owner)=false:=by simpa using how
   have HAT1:Hid (okAt (ZbC x.owner) x.near k=qc):=HAT1.out.trans (by simp [hoe])
   clear how;cases qc
   ·have hf:Za1 x.owner x.near=false:=by unfold Za1 Zbl;rw [ZaF hlt HAT1.out];rfl
    have HF:=hide hf;clear hf;refine Zai (S:=(fun W=>W.cell? ⟨w.heap.size,2,none⟩=some (.int .i64 x.owner)/\W.cell? ⟨w.heap.size,5,none⟩=some (.slice (some ⟨b,off,none⟩) x.near.length c1)/\W.cell? ⟨z,0,none⟩=some (.int .i64 l.to)/\W.cell? ⟨z,1,none⟩=some (.int .i64 l.c))) (by kernel_rfl) 33 rfl ⟨g2,g5,e0,e1⟩ (fun ops hops hHeld=>?_)
    iterate 2
     refine Zao 33 ?_ ?_ ?_ (by rw [hops.out];kernel_rfl) ?_ ?_ (by assumption) ?_
     rotate_left 2
     ·rw [hops.out];simp only [getS,Nat.reduceSub,Nat.reduceAdd];rfl
     ·intro W hW;(try dsimp only at hW);go_simp <;> with_reducible rfl
     ·exact fun _ _ _=>id
     try simp only [putS]
    refine Zap 2 (oi:=?_) ?_ (by rw [hops.out];kernel_rfl) ?_ ?_
    rotate_left 1
    ·rw [hops.out];simp only [getS];rfl
    ·rw [hops.out];kernel_rfl
    intro K hK
    go_simp
    refine (HIT.out _).mono ?_
    rintro e w1 ⟨rfl,rfl⟩;refine hK.out _ _ hHeld (fun _=>?_)
    clear hK K
    try simp only [putS]
    iterate 6
     refine Zao 33 ?_ ?_ ?_ (by rw [hops.out];kernel_rfl) ?_ ?_ (by assumption) ?_
     rotate_left 2
     ·rw [hops.out];simp only [getS,Nat.reduceSub,Nat.reduceAdd];rfl
     ·intro W hW;(try dsimp only at hW);go_simp <;> with_reducible rfl
     ·exact fun _ _ _=>id
     try simp only [putS]
    refine Zaz 9 (oi:=?_) (v:=.bool false) ?_ (by rw [hops.out];kernel_rfl) ?_ ?_ ?_ (by assumption) ?_
    rotate_left 1
    ·rw [hops.out];simp only [getS];rfl
    ·rw [hops.out];kernel_rfl
    ·intro W hW;(try dsimp only at hW);go_simp <;> (first | with_reducible rfl | (simp;omega) | omega)
    ·exact fun _ _ _=>id
    try simp only [putS]
    iterate 4
     refine Zao 33 ?_ ?_ ?_ (by rw [hops.out];kernel_rfl) ?_ ?_ (by assumption) ?_
     rotate_left 2
     ·rw [hops.out];simp only [getS,Nat.reduceSub,Nat.reduceAdd];rfl
     ·intro W hW;(try dsimp only at hW);go_simp <;> with_reducible rfl
     ·exact fun _ _ _=>id
     try simp only [putS]
    refine Zap 14 (oi:=?_) ?_ (by rw [hops.out];kernel_rfl) ?_ ?_
    rotate_left 1
    ·rw [hops.out];simp only [getS];rfl
    ·rw [hops.out];kernel_rfl
    intro K hK
    go_simp
    refine (HIC.out _).mono ?_
    rintro e w1 ⟨rfl,rfl⟩;refine hK.out _ _ hHeld (fun _=>?_)
    clear hK K
    try simp only [putS]
    iterate 3
     refine Zao 33 ?_ ?_ ?_ (by rw [hops.out];kernel_rfl) ?_ ?_ (by assumption) ?_
     rotate_left 2
     ·rw [hops.out];simp only [getS,Nat.reduceSub,Nat.reduceAdd];rfl
     ·intro W hW;(try dsimp only at hW);go_simp <;> with_reducible rfl
     ·exact fun _ _ _=>id
     try simp only [putS]
    refine Zad 18 35 (by rw [hops.out];kernel_rfl) (fun _ _ _ h=>h) (by assumption) ?_
    try simp only [putS]
    refine Zad 19 36 (by rw [hops.out];kernel_rfl) (fun _ _ _ h=>h) (by assumption) ?_
    try simp only [putS]
    refine Zad 20 37 (by rw [hops.out];kernel_rfl) (fun _ _ _ h=>h) (by assumption) ?_
    try simp only [putS]
    refine Zad 21 38 (by rw [hops.out];kernel_rfl) (fun _ _ _ h=>h) (by assumption) ?_
    try simp only [putS]
    refine Zad 22 39 (by rw [hops.out];kernel_rfl) (fun _ _ _ h=>h) (by assumption) ?_
    try simp only [putS]
    refine Zad 23 40 (by rw [hops.out];kernel_rfl) (fun _ _ _ h=>h) (by assumption) ?_
    try simp only [putS]
    refine Zad 24 41 (by rw [hops.out];kernel_rfl) (fun _ _ _ h=>h) (by assumption) ?_
    try simp only [putS]
    refine Zad 25 42 (by rw [hops.out];kernel_rfl) (fun _ _ _ h=>h) (by assumption) ?_
    try simp only [putS]
    refine Zad 26 43 (by rw [hops.out];kernel_rfl) (fun _ _ _ h=>h) (by assumption) ?_
    try simp only [putS]
    refine Zad 27 44 (by rw [hops.out];kernel_rfl) (fun _ _ _ h=>h) (by assumption) ?_
    try simp only [putS]
    refine Zad 28 45 (by rw [hops.out];kernel_rfl) (fun _ _ _ h=>h) (by assumption) ?_
    try simp only [putS]
    refine Zad 29 46 (by rw [hops.out];kernel_rfl) (fun _ _ _ h=>h) (by assumption) ?_
    try simp only [putS]
    refine Zad 30 47 (by rw [hops.out];kernel_rfl) (fun _ _ _ h=>h) (by assumption) ?_
    try simp only [putS]
    refine Zad 31 48 (by rw [hops.out];kernel_rfl) (fun _ _ _ h=>h) (by assumption) ?_
    try simp only [putS]
    refine Zay 32 ?_ ?_ ?_ (by rw [hops.out];kernel_rfl) ?_ ?_ (by assumption) ?_
    rotate_left 2
    ·rw [hops.out];simp only [getS];rfl
    ·intro W hW;(try dsimp only at hW);go_simp <;> with_reducible rfl
    ·exact fun _ _ _=>id
    try simp only [putS]
    refine wpAnyH_done (by rw [hops.out];kernel_rfl) ?_ _
    clear hops ops
    go_wp2
    go_ret
    exact⟨Zaf HF.out,BW.drew⟩
   by_cases hk0:k=0
   ·have hk1:¬(0:Int)<(k:Int):=by omega
    have hat2:ZbA ordN x.near k=true:=by rw [hk0];rfl
    have HAT2:=hide hat2;clear hat2 hk0;refine Zai (S:=(fun W=>W.cell? ⟨w.heap.size,2,none⟩=some (.int .i64 x.owner)/\W.cell? ⟨w.heap.size,5,none⟩=some (.slice (some ⟨b,off,none⟩) x.near.length c1)/\W.cell? ⟨z,0,none⟩=some (.int .i64 l.to)/\W.cell? ⟨z,1,none⟩=some (.int .i64 l.c))) (by kernel_rfl) 33 rfl ⟨g2,g5,e0,e1⟩ (fun ops hops hHeld=>?_)
    iterate 2
     refine Zao 33 ?_ ?_ ?_ (by rw [hops.out];kernel_rfl) ?_ ?_ (by assumption) ?_
     rotate_left 2
     ·rw [hops.out];simp only [getS,Nat.reduceSub,Nat.reduceAdd];rfl
     ·intro W hW;(try dsimp only at hW);go_simp <;> with_reducible rfl
     ·exact fun _ _ _=>id
     try simp only [putS]
    refine Zap 2 (oi:=?_) ?_ (by rw [hops.out];kernel_rfl) ?_ ?_
    rotate_left 1
    ·rw [hops.out];simp only [getS];rfl
    ·rw [hops.out];kernel_rfl
    intro K hK
    go_simp
    refine (HIT.out _).mono ?_
    rintro e w1 ⟨rfl,rfl⟩;refine hK.out _ _ hHeld (fun _=>?_)
    clear hK K
    try simp only [putS]
    iterate 6
     refine Zao 33 ?_ ?_ ?_ (by rw [hops.out];kernel_rfl) ?_ ?_ (by assumption) ?_
     rotate_left 2
     ·rw [hops.out];simp only [getS,Nat.reduceSub,Nat.reduceAdd];rfl
     ·intro W hW;(try dsimp only at hW);go_simp <;> with_reducible rfl
     ·exact fun _ _ _=>id
     try simp only [putS]
    refine Zaz 9 (oi:=?_) (v:=.bool false) ?_ (by rw [hops.out];kernel_rfl) ?_ ?_ ?_ (by assumption) ?_
    rotate_left 1
    ·rw [hops.out];simp only [getS];rfl
    ·rw [hops.out];kernel_rfl
    ·intro W hW;(try dsimp only at hW);go_simp <;> (first | with_reducible rfl | (simp;omega) | omega)
    ·exact fun _ _ _=>id
    try simp only [putS]
    iterate 4
     refine Zao 33 ?_ ?_ ?_ (by rw [hops.out];kernel_rfl) ?_ ?_ (by assumption) ?_
     rotate_left 2
     ·rw [hops.out];simp only [getS,Nat.reduceSub,Nat.reduceAdd];rfl
     ·intro W hW;(try dsimp only at hW);go_simp <;> with_reducible rfl
     ·exact fun _ _ _=>id
     try simp only [putS]
    refine Zap 14 (oi:=?_) ?_ (by rw [hops.out];kernel_rfl) ?_ ?_
    rotate_left 1
    ·rw [hops.out];simp only [getS];rfl
    ·rw [hops.out];kernel_rfl
    intro K hK
    go_simp
    refine (HIC.out _).mono ?_
    rintro e w1 ⟨rfl,rfl⟩;refine hK.out _ _ hHeld (fun _=>?_)
    clear hK K
    try simp only [putS]
    iterate 4
     refine Zao 33 ?_ ?_ ?_ (by rw [hops.out];kernel_rfl) ?_ ?_ (by assumption) ?_
     rotate_left 2
     ·rw [hops.out];simp only [getS,Nat.reduceSub,Nat.reduceAdd];rfl
     ·intro W hW;(try dsimp only at hW);go_simp <;> with_reducible rfl
     ·exact fun _ _ _=>id
     try simp only [putS]
    refine Zaz 19 (oi:=?_) (v:=.bool false) ?_ (by rw [hops.out];kernel_rfl) ?_ ?_ ?_ (by assumption) ?_
    rotate_left 1
    ·rw [hops.out];simp only [getS];rfl
    ·rw [hops.out];kernel_rfl
    ·intro W hW;(try dsimp only at hW);go_simp <;> (first | with_reducible rfl | (simp;omega) | omega)
    ·exact fun _ _ _=>id
    try simp only [putS]
    refine Zay 20 ?_ ?_ ?_ (by rw [hops.out];kernel_rfl) ?_ ?_ (by assumption) ?_
    rotate_left 2
    ·rw [hops.out];simp only [getS];rfl
    ·intro W hW;(try dsimp only at hW);go_simp <;> with_reducible rfl
    ·exact fun _ _ _=>id
    try simp only [putS]
    refine Zad 21 38 (by rw [hops.out];kernel_rfl) (fun _ _ _ h=>h) (by assumption) ?_
    try simp only [putS]
    refine Zad 22 39 (by rw [hops.out];kernel_rfl) (fun _ _ _ h=>h) (by assumption) ?_
    try simp only [putS]
    refine Zad 23 40 (by rw [hops.out];kernel_rfl) (fun _ _ _ h=>h) (by assumption) ?_
    try simp only [putS]
    refine Zad 24 41 (by rw [hops.out];kernel_rfl) (fun _ _ _ h=>h) (by assumption) ?_
    try simp only [putS]
    refine Zad 25 42 (by rw [hops.out];kernel_rfl) (fun _ _ _ h=>h) (by assumption) ?_
    try simp only [putS]
    refine Zad 26 43 (by rw [hops.out];kernel_rfl) (fun _ _ _ h=>h) (by assumption) ?_
    try simp only [putS]
    refine Zad 27 44 (by rw [hops.out];kernel_rfl) (fun _ _ _ h=>h) (by assumption) ?_
    try simp only [putS]
    refine Zad 28 45 (by rw [hops.out];kernel_rfl) (fun _ _ _ h=>h) (by assumption) ?_
    try simp only [putS]
    refine Zad 29 46 (by rw [hops.out];kernel_rfl) (fun _ _ _ h=>h) (by assumption) ?_
    try simp only [putS]
    refine Zad 30 47 (by rw [hops.out];kernel_rfl) (fun _ _ _ h=>h) (by assumption) ?_
    try simp only [putS]
    iterate 2
     refine Zao 33 ?_ ?_ ?_ (by rw [hops.out];kernel_rfl) ?_ ?_ (by assumption) ?_
     rotate_left 2
     ·rw [hops.out];simp only [getS,Nat.reduceSub,Nat.reduceAdd];rfl
     ·intro W hW;(try dsimp only at hW);go_simp <;> with_reducible rfl
     ·exact fun _ _ _=>id
     try simp only [putS]
    refine wpAnyH_done (by rw [hops.out];kernel_rfl) ?_ _
    clear hops ops
    go_wp2
    exact⟨⟨k+1,by omega,by go_num,ZaC HALL.out HAT1.out,ZaC HASC.out HAT2.out,BW.drew,HX9.out⟩,by simp [intOf];omega⟩
   ·obtain ⟨j,hj⟩:∃ j,k=j+1:=⟨k-1,by omega⟩
    obtain⟨p,hp⟩:∃ p,x.near[j]? = some p:=⟨x.near[j],List.getElem?_eq_getElem (by omega)⟩
    obtain⟨b',off',cap2,hve2,hbb2,t0,t1⟩:=HV.out.cells j p hp;cases hve2
    rw [<-BW.cell (p:=⟨b,off+j*2,none⟩) hbb] at t0;have hat2:ZbA ordN x.near k=decide (p.to-l.to<0):=by rw [hj];exact Za6 hp (by rw [<-hj];exact HL.out)
    have HAT2:=hide hat2;have hj1:(k:Int)-1=(j:Int):=by omega
    have hj2:(0:Int)<=(j:Int):=by omega
    have hj3:(j:Int)<(x.near.length:Int):=by omega
    have hj4:(0:Int)<(k:Int):=by omega
    have hj5:IntKind.i64.wrap (j:Int)=(j:Int):=ZaD _ (by omega) (by omega)
    clear hp hat2 hj hk0 hbb2 t1;by_cases hpl:p.to<l.to
    ·have hd:decide (p.to-l.to<0)=true:=decide_eq_true (by omega)
     have HAT3:Hid (ZbA ordN x.near k=true):=HAT2.out.trans hd;have hpl2:¬l.to<=p.to:=by omega
     clear hd HAT2;refine Zai (S:=(fun W=>W.cell? ⟨w.heap.size,2,none⟩=some (.int .i64 x.owner)/\W.cell? ⟨w.heap.size,5,none⟩=some (.slice (some ⟨b,off,none⟩) x.near.length c1)/\W.cell? ⟨z,0,none⟩=some (.int .i64 l.to)/\W.cell? ⟨z,1,none⟩=some (.int .i64 l.c)/\W.cell? ⟨b,off+j*2,none⟩=some (.int .i64 p.to))) (by kernel_rfl) 33 rfl ⟨g2,g5,e0,e1,t0⟩ (fun ops hops hHeld=>?_)
     iterate 2
      refine Zao 33 ?_ ?_ ?_ (by rw [hops.out];kernel_rfl) ?_ ?_ (by assumption) ?_
      rotate_left 2
      ·rw [hops.out];simp only [getS,Nat.reduceSub,Nat.reduceAdd];rfl
      ·intro W hW;(try dsimp only at hW);go_simp <;> with_reducible rfl
      ·exact fun _ _ _=>id
      try simp only [putS]
     refine Zap 2 (oi:=?_) ?_ (by rw [hops.out];kernel_rfl) ?_ ?_
     rotate_left 1
     ·rw [hops.out];simp only [getS];rfl
     ·rw [hops.out];kernel_rfl
     intro K hK
     go_simp
     refine (HIT.out _).mono ?_
     rintro e w1 ⟨rfl,rfl⟩;refine hK.out _ _ hHeld (fun _=>?_)
     clear hK K
     try simp only [putS]
     iterate 6
      refine Zao 33 ?_ ?_ ?_ (by rw [hops.out];kernel_rfl) ?_ ?_ (by assumption) ?_
      rotate_left 2
      ·rw [hops.out];simp only [getS,Nat.reduceSub,Nat.reduceAdd];rfl
      ·intro W hW;(try dsimp only at hW);go_simp <;> with_reducible rfl
      ·exact fun _ _ _=>id
      try simp only [putS]
     refine Zaz 9 (oi:=?_) (v:=.bool false) ?_ (by rw [hops.out];kernel_rfl) ?_ ?_ ?_ (by assumption) ?_
     rotate_left 1
     ·rw [hops.out];simp only [getS];rfl
     ·rw [hops.out];kernel_rfl
     ·intro W hW;(try dsimp only at hW);go_simp <;> (first | with_reducible rfl | (simp;omega) | omega)
     ·exact fun _ _ _=>id
     try simp only [putS]
     iterate 4
      refine Zao 33 ?_ ?_ ?_ (by rw [hops.out];kernel_rfl) ?_ ?_ (by assumption) ?_
      rotate_left 2
      ·rw [hops.out];simp only [getS,Nat.reduceSub,Nat.reduceAdd];rfl
      ·intro W hW;(try dsimp only at hW);go_simp <;> with_reducible rfl
      ·exact fun _ _ _=>id
      try simp only [putS]
     refine Zap 14 (oi:=?_) ?_ (by rw [hops.out];kernel_rfl) ?_ ?_
     rotate_left 1
     ·rw [hops.out];simp only [getS];rfl
     ·rw [hops.out];kernel_rfl
     intro K hK
     go_simp
     refine (HIC.out _).mono ?_
     rintro e w1 ⟨rfl,rfl⟩;refine hK.out _ _ hHeld (fun _=>?_)
     clear hK K
     try simp only [putS]
     iterate 4
      refine Zao 33 ?_ ?_ ?_ (by rw [hops.out];kernel_rfl) ?_ ?_ (by assumption) ?_
      rotate_left 2
      ·rw [hops.out];simp only [getS,Nat.reduceSub,Nat.reduceAdd];rfl
      ·intro W hW;(try dsimp only at hW);go_simp <;> with_reducible rfl
      ·exact fun _ _ _=>id
      try simp only [putS]
     refine Zaz 19 (oi:=?_) (v:=.bool true) ?_ (by rw [hops.out];kernel_rfl) ?_ ?_ ?_ (by assumption) ?_
     rotate_left 1
     ·rw [hops.out];simp only [getS];rfl
     ·rw [hops.out];kernel_rfl
     ·intro W hW;(try dsimp only at hW);go_simp <;> (first | with_reducible rfl | (simp;omega) | omega)
     ·exact fun _ _ _=>id
     try simp only [putS]
     iterate 13
      refine Zao 33 ?_ ?_ ?_ (by rw [hops.out];kernel_rfl) ?_ ?_ (by assumption) ?_
      rotate_left 2
      ·rw [hops.out];simp only [getS,Nat.reduceSub,Nat.reduceAdd];rfl
      ·intro W hW;(try dsimp only at hW);go_simp <;> with_reducible rfl
      ·exact fun _ _ _=>id
      try simp only [putS]
     refine wpAnyH_done (by rw [hops.out];kernel_rfl) ?_ _
     clear hops ops
     go_wp2
     exact⟨⟨k+1,by omega,by go_num,ZaC HALL.out HAT1.out,ZaC HASC.out HAT3.out,BW.drew,HX9.out⟩,by simp [intOf];omega⟩
    ·have hd:decide (p.to-l.to<0)=false:=decide_eq_false (by omega)
     have hf:Za1 x.owner x.near=false:=by unfold Za1 ascB;rw [ZaF hlt (HAT2.out.trans hd)];simp
     have HF:=hide hf;have hpl2:l.to<=p.to:=by omega
     clear hd hf HAT2;refine Zai (S:=(fun W=>W.cell? ⟨w.heap.size,2,none⟩=some (.int .i64 x.owner)/\W.cell? ⟨w.heap.size,5,none⟩=some (.slice (some ⟨b,off,none⟩) x.near.length c1)/\W.cell? ⟨z,0,none⟩=some (.int .i64 l.to)/\W.cell? ⟨z,1,none⟩=some (.int .i64 l.c)/\W.cell? ⟨b,off+j*2,none⟩=some (.int .i64 p.to))) (by kernel_rfl) 33 rfl ⟨g2,g5,e0,e1,t0⟩ (fun ops hops hHeld=>?_)
     iterate 2
      refine Zao 33 ?_ ?_ ?_ (by rw [hops.out];kernel_rfl) ?_ ?_ (by assumption) ?_
      rotate_left 2
      ·rw [hops.out];simp only [getS,Nat.reduceSub,Nat.reduceAdd];rfl
      ·intro W hW;(try dsimp only at hW);go_simp <;> with_reducible rfl
      ·exact fun _ _ _=>id
      try simp only [putS]
     refine Zap 2 (oi:=?_) ?_ (by rw [hops.out];kernel_rfl) ?_ ?_
     rotate_left 1
     ·rw [hops.out];simp only [getS];rfl
     ·rw [hops.out];kernel_rfl
     intro K hK
     go_simp
     refine (HIT.out _).mono ?_
     rintro e w1 ⟨rfl,rfl⟩;refine hK.out _ _ hHeld (fun _=>?_)
     clear hK K
     try simp only [putS]
     iterate 6
      refine Zao 33 ?_ ?_ ?_ (by rw [hops.out];kernel_rfl) ?_ ?_ (by assumption) ?_
      rotate_left 2
      ·rw [hops.out];simp only [getS,Nat.reduceSub,Nat.reduceAdd];rfl
      ·intro W hW;(try dsimp only at hW);go_simp <;> with_reducible rfl
      ·exact fun _ _ _=>id
      try simp only [putS]
     refine Zaz 9 (oi:=?_) (v:=.bool false) ?_ (by rw [hops.out];kernel_rfl) ?_ ?_ ?_ (by assumption) ?_
     rotate_left 1
     ·rw [hops.out];simp only [getS];rfl
     ·rw [hops.out];kernel_rfl
     ·intro W hW;(try dsimp only at hW);go_simp <;> (first | with_reducible rfl | (simp;omega) | omega)
     ·exact fun _ _ _=>id
     try simp only [putS]
     iterate 4
      refine Zao 33 ?_ ?_ ?_ (by rw [hops.out];kernel_rfl) ?_ ?_ (by assumption) ?_
      rotate_left 2
      ·rw [hops.out];simp only [getS,Nat.reduceSub,Nat.reduceAdd];rfl
      ·intro W hW;(try dsimp only at hW);go_simp <;> with_reducible rfl
      ·exact fun _ _ _=>id
      try simp only [putS]
     refine Zap 14 (oi:=?_) ?_ (by rw [hops.out];kernel_rfl) ?_ ?_
     rotate_left 1
     ·rw [hops.out];simp only [getS];rfl
     ·rw [hops.out];kernel_rfl
     intro K hK
     go_simp
     refine (HIC.out _).mono ?_
     rintro e w1 ⟨rfl,rfl⟩;refine hK.out _ _ hHeld (fun _=>?_)
     clear hK K
     try simp only [putS]
     iterate 4
      refine Zao 33 ?_ ?_ ?_ (by rw [hops.out];kernel_rfl) ?_ ?_ (by assumption) ?_
      rotate_left 2
      ·rw [hops.out];simp only [getS,Nat.reduceSub,Nat.reduceAdd];rfl
      ·intro W hW;(try dsimp only at hW);go_simp <;> with_reducible rfl
      ·exact fun _ _ _=>id
      try simp only [putS]
     refine Zaz 19 (oi:=?_) (v:=.bool true) ?_ (by rw [hops.out];kernel_rfl) ?_ ?_ ?_ (by assumption) ?_
     rotate_left 1
     ·rw [hops.out];simp only [getS];rfl
     ·rw [hops.out];kernel_rfl
     ·intro W hW;(try dsimp only at hW);go_simp <;> (first | with_reducible rfl | (simp;omega) | omega)
     ·exact fun _ _ _=>id
     try simp only [putS]
     iterate 13
      refine Zao 33 ?_ ?_ ?_ (by rw [hops.out];kernel_rfl) ?_ ?_ (by assumption) ?_
      rotate_left 2
      ·rw [hops.out];simp only [getS,Nat.reduceSub,Nat.reduceAdd];rfl
      ·intro W hW;(try dsimp only at hW);go_simp <;> with_reducible rfl
      ·exact fun _ _ _=>id
      try simp only [putS]
     refine wpAnyH_done (by rw [hops.out];kernel_rfl) ?_ _
     clear hops ops
     go_wp2
     go_ret
     exact⟨Zaf HF.out,BW.drew⟩
  ·have hfin:Za1 x.owner x.near=true:=by
    have e1:Zbl (ZbC x.owner) x.near=true:=ZaG fun i hi=>HALL.out i (by omega)
    have e2:ascB ordN x.near=true:=ZaG fun i hi=>HASC.out i (by omega)
    unfold Za1;rw [e1,e2];rfl
   have HFIN:=hide hfin;clear hfin
   go_wp2
   go_ret
   exact⟨Zaf HFIN.out,hnx⟩
def Zas (x:RecD):Bool:=inB x.owner 1 6&&inB x.seq 1 100000 &&
 (if x.kind=1 then inB x.area 0 2&&x.key==0&&Za1 x.owner x.near&&x.cost==0 && !x.far
  else if x.kind=2 then inB x.area 0 2&&inB x.key 1 6&&x.near.length==0&&inB x.cost 0 60000 && !x.far
  else if x.kind=3 then x.area==9&&inB x.key 1 9&&x.near.length==0&&(inB x.cost 1 1000||x.cost==60000)
  else false)
theorem Zgh (v1:Value)(x:RecD)(w:World)(hl:x.near.length<=1048576)(hv:ZaA w v1 x.near w.heap.size):
  Calls Tryz.prog 73 #[.agg (recC x v1)] w fun e w'=>e=.returned (.bool (Zas x))/\Below w.heap.size w w':=by
 obtain⟨p1,c1,rfl⟩:=hv.shape;have HN:=hide (fun W (h:Below w.heap.size w W)=>Zkx (.slice p1 x.near.length c1) x W hl (hv.then h))
 obtain⟨R,hR⟩:∃ R,R=Zas x:=⟨_,rfl⟩;rw [<-hR];obtain⟨qn,hqn⟩:∃ q,q=Za1 x.owner x.near:=⟨_,rfl⟩;rw [<-hqn] at HN;unfold Zas at hR;rw [<-hqn] at hR;obtain⟨area,kind,owner,key,seq,ns,cost,far⟩:=x;unfold recC at HN |-;simp only [] at HN hR hl hv |-
 have hnew:=heap_alloc_new w (.cells #[.int .i64 area,.int .i64 kind,.int .i64 owner,.int .i64 key,.int .i64 seq,.slice p1 ns.length c1,.int .i64 cost,.bool far] 40);have B0:Below w.heap.size w (w.alloc (.cells #[.int .i64 area,.int .i64 kind,.int .i64 owner,.int .i64 key,.int .i64 seq,.slice p1 ns.length c1,.int .i64 cost,.bool far] 40)):=(Below.refl _ _).alloc (Nat.le_refl _) _;have H1:=hide (Zbo owner 1 6);have H2:=hide (Zbo seq 1 100000);obtain⟨q1,hq1⟩:∃ q,q=inB owner 1 6:=⟨_,rfl⟩;obtain⟨q2,hq2⟩:∃ q,q=inB seq 1 100000:=⟨_,rfl⟩;rw [<-hq1] at H1 hR;rw [<-hq2] at H2 hR;have NEW:=hide hnew;have HR:=hide hR;have HL:=hide hl;clear hnew hR hq1 hq2 hqn hv hl
 go_enter Tryz.func73,Tryz.ntmps73
 go_wp2_with fail
 refine (H1.out _).mono ?_
 rintro e w1 ⟨rfl,rfl⟩;cases q1
 ·go_wp2
  go_ret
  exact⟨Zaf (by rw [HR.out];rfl),B0⟩
 go_wp2_with fail
 refine (H2.out _).mono ?_
 rintro e w1 ⟨rfl,rfl⟩;cases q2
 ·go_wp2
  go_ret
  exact⟨Zaf (by rw [HR.out];rfl),B0⟩
 clear H1 H2;by_cases hk1:kind=1
 ·subst hk1
  have HR2:=hide (show R=(inB area 0 2&&key==0&&qn&&cost==0 && !far) by have:=HR.out;simpa using this)
  have H3:=hide (Zbo area 0 2);obtain⟨q3,hq3⟩:∃ q,q=inB area 0 2:=⟨_,rfl⟩;rw [<-hq3] at H3 HR2;clear hq3 HR
  go_wp2_with fail
  refine (H3.out _).mono ?_
  rintro e w1 ⟨rfl,rfl⟩;cases q3
  ·go_wp2
   go_ret
   exact⟨Zaf (by rw [HR2.out];rfl),B0⟩
  by_cases hkey:key=0
  case neg=>
   have hd:(key==0)=false:=by simpa using hkey
   rw [hd] at HR2
   go_wp2
   go_ret
   exact⟨Zaf (by rw [HR2.out];rfl),B0⟩
  subst hkey
  go_wp2_with fail
  refine (HN.out _ B0).mono ?_
  rintro e w2 ⟨rfl,b2⟩;have hx2:w2.heap[w.heap.size]? = some (.cells #[.int .i64 area,.int .i64 1,.int .i64 owner,.int .i64 0,.int .i64 seq,.slice p1 ns.length c1,.int .i64 cost,.bool far] 40):=by rw [b2.block _ (by simp)];exact NEW.out
  have f6:=Zaa hx2 6;have f7:=Zaa hx2 7;simp at f6 f7
  have B2:=B0.trans (b2.mono B0.size);clear hx2 b2 NEW B0;cases qn
  ·go_wp2
   go_ret
   exact⟨Zaf (by rw [HR2.out];rfl),B2⟩
  by_cases hco:cost=0
  case neg=>
   have hd:(cost==0)=false:=by simpa using hco
   rw [hd] at HR2
   go_wp2
   go_ret
   exact⟨Zaf (by rw [HR2.out];rfl),B2⟩
  subst hco;cases far
  ·go_wp2
   go_ret
   exact⟨Zaf (by rw [HR2.out];rfl),B2⟩
  ·go_wp2
   go_ret
   exact⟨Zaf (by rw [HR2.out];rfl),B2⟩
 have k1:(kind==1)=false:=by simpa using hk1
 by_cases hk2:kind=2
 ·subst hk2
  have HR2:=hide (show R=(inB area 0 2&&inB key 1 6&&ns.length==0&&inB cost 0 60000 && !far) by have:=HR.out;simpa using this)
  have H3:=hide (Zbo area 0 2);obtain⟨q3,hq3⟩:∃ q,q=inB area 0 2:=⟨_,rfl⟩;rw [<-hq3] at H3 HR2;have H4:=hide (Zbo key 1 6);obtain⟨q4,hq4⟩:∃ q,q=inB key 1 6:=⟨_,rfl⟩;rw [<-hq4] at H4 HR2;have H5:=hide (Zbo cost 0 60000);obtain⟨q5,hq5⟩:∃ q,q=inB cost 0 60000:=⟨_,rfl⟩;rw [<-hq5] at H5 HR2;clear hq3 hq4 hq5 HR hk1 k1
  go_wp2_with fail
  refine (H3.out _).mono ?_
  rintro e w1 ⟨rfl,rfl⟩;cases q3
  ·go_wp2
   go_ret
   exact⟨Zaf (by rw [HR2.out];rfl),B0⟩
  go_wp2_with fail
  refine (H4.out _).mono ?_
  rintro e w1 ⟨rfl,rfl⟩;cases q4
  ·go_wp2
   go_ret
   exact⟨Zaf (by rw [HR2.out];rfl),B0⟩
  by_cases hn0:ns.length=0
  case neg=>
   have hd:((ns.length:Int)==0)=false:=by simp;intro h;rw [h] at hn0;exact hn0 rfl
   have hR2:R=false:=by rw [HR2.out,show (ns.length==0)=false by simpa using hn0];rfl
   have HR3:=hide hR2;clear hR2 hn0 HR2
   go_wp2
   go_ret
   exact⟨Zaf HR3.out,B0⟩
  have hd:((ns.length:Int)==0)=true:=by simp;exact List.length_eq_zero_iff.1 hn0
  have HR3:=hide (show R=(q5 && !far) by have:=HR2.out;rw [show (ns.length==0)=true by simpa using hn0] at this;simpa using this)
  clear hn0 HR2
  go_wp2_with fail
  refine (H5.out _).mono ?_
  rintro e w1 ⟨rfl,rfl⟩;cases q5
  ·go_wp2
   go_ret
   exact⟨Zaf (by rw [HR3.out];rfl),B0⟩
  cases far
  ·go_wp2
   go_ret
   exact⟨Zaf (by rw [HR3.out];rfl),B0⟩
  ·go_wp2
   go_ret
   exact⟨Zaf (by rw [HR3.out];rfl),B0⟩
 have k2:(kind==2)=false:=by simpa using hk2
 by_cases hk3:kind=3
 ·subst hk3
  have HR2:=hide (show R=(area==9&&inB key 1 9&&ns.length==0&&(inB cost 1 1000||cost==60000)) by have:=HR.out;simpa using this)
  have H4:=hide (Zbo key 1 9);obtain⟨q4,hq4⟩:∃ q,q=inB key 1 9:=⟨_,rfl⟩;rw [<-hq4] at H4 HR2;have H5:=hide (Zbo cost 1 1000);obtain⟨q5,hq5⟩:∃ q,q=inB cost 1 1000:=⟨_,rfl⟩;rw [<-hq5] at H5 HR2;clear hq4 hq5 HR hk1 k1 hk2 k2;by_cases ha:area=9
  case neg=>
   have hd:(area==9)=false:=by simpa using ha
   rw [hd] at HR2
   go_wp2
   go_ret
   exact⟨Zaf (by rw [HR2.out];rfl),B0⟩
  subst ha
  go_wp2_with fail
  refine (H4.out _).mono ?_
  rintro e w1 ⟨rfl,rfl⟩;cases q4
  ·go_wp2
   go_ret
   exact⟨Zaf (by rw [HR2.out];rfl),B0⟩
  by_cases hn0:ns.length=0
  case neg=>
   have hd:((ns.length:Int)==0)=false:=by simp;intro h;rw [h] at hn0;exact hn0 rfl
   have hR2:R=false:=by rw [HR2.out,show (ns.length==0)=false by simpa using hn0];rfl
   have HR3:=hide hR2;clear hR2 hn0 HR2
   go_wp2
   go_ret
   exact⟨Zaf HR3.out,B0⟩
  have hd:((ns.length:Int)==0)=true:=by simp;exact List.length_eq_zero_iff.1 hn0
  have HR3:=hide (show R=(q5||cost==60000) by have:=HR2.out;rw [show (ns.length==0)=true by simpa using hn0] at this;simpa using this)
  clear hn0 HR2
  go_wp2_with fail
  refine (H5.out _).mono ?_
  rintro e w1 ⟨rfl,rfl⟩;cases q5
  ·go_wp2
   go_ret
   exact⟨Zaf (by rw [HR3.out];rfl),B0⟩
  ·go_wp2
   go_ret
   exact⟨Zaf (by rw [HR3.out];rfl),B0⟩
 have k3:(kind==3)=false:=by simpa using hk3
 have hR2:R=false:=by rw [HR.out,if_neg hk1,if_neg hk2,if_neg hk3];rfl
 have HR2:=hide hR2;clear hR2 HR hk1 hk2 hk3
 go_wp2
 go_ret
 exact⟨Zaf HR2.out,B0⟩
end Go.Proofs.YtcimbiinljcifaaGreat
