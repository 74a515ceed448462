/-
  NewS FindK StoMath NewerS NewerJ ScopeS MgMath DrawSto
-/
import Derived.Test.YtcimbiinljcifaaGreatLn8
import Derived.Test.YtcimbiinljcifaaGreatLn20
import Derived.Test.YtcimbiinljcifaaGreatLn3
import Derived.Test.YtcimbiinljcifaaGreatLn7
import Derived.Test.YtcimbiinljcifaaGreatLn16
namespace Go.Proofs.YtcimbiinljcifaaGreat
open Go.RowKit
set_option linter.unusedSimpArgs false
set_option linter.unusedVariables false
set_option maxRecDepth 100000
set_option maxHeartbeats 8000000
def Zb1 (r:RecD)(m:Int)(x:RecD):Int:=if Zak x r&&decide (m<x.seq) then x.seq else m
def Za8 (xs:List RecD)(r:RecD):Int:=xs.foldl (Zb1 r) 0
theorem Zf4 {r x:RecD}{m:Int}(h:Zak x r=false):Zb1 r m x=m:=by unfold Zb1;rw [h];rfl
theorem Zfk {r x:RecD}{m:Int}(h:¬m<x.seq):Zb1 r m x=m:=by unfold Zb1;rw [decide_eq_false h];simp
theorem Zfj {r x:RecD}{m:Int}(h:Zak x r=true)(h2:m<x.seq):Zb1 r m x=x.seq:=by unfold Zb1;rw [h,decide_eq_true h2];rfl
theorem Zib {ps:List RP}{k:Nat}{p:RP}(r:RecD)(h:ps[k]? = some p):Za8 (fsts (ps.take (k+1))) r=Zb1 r (Za8 (fsts (ps.take k)) r) p.1:=by
 rw [show fsts (ps.take (k+1))=fsts (ps.take k)++[p.1] from ZeQ h]
 unfold Za8;rw [List.foldl_append]
 rfl
theorem Zjn (v:Value)(ps:List RP)(hi:Nat)(r:RP)(w:World)(hv:RecsIn w hi v ps)(hhi:hi<=w.heap.size)(hn:ps.length<=1048576):
  Calls Tryz.prog 12 #[v,.agg (recC r.1 r.2)] w fun e w'=>e=.returned (.int .i64 (Za8 (fsts ps) r.1))/\Below w.heap.size w w':=by
 obtain⟨NN,hNN⟩:∃ N,N=Za8 (fsts ps) r.1:=⟨_,rfl⟩;rw [<-hNN];have HNN:=hide hNN;clear hNN;obtain⟨a1,c1,rfl⟩:=Zac hv.row;have HV:=hide hv;clear hv;have BX:=(Below.refl w.heap.size w).alloc (Nat.le_refl _) (.cells (recC r.1 r.2) 40);have hx:=heap_alloc_new w (.cells (recC r.1 r.2) 40);obtain⟨wx,hwx⟩:∃ wx,wx=w.alloc (.cells (recC r.1 r.2) 40):=⟨_,rfl⟩;rw [<-hwx] at BX hx;unfold recC at *
 go_enter Tryz.func12,Tryz.ntmps12
 go_wp2
 rw [<-hwx];have HX:=hide hx;clear hwx hx
 go_loopw [6,5] (fun i o wr=>∃ (k:Nat) (m:Int),k<=ps.length/\i=.int .i64 k/\o=.int .i64 m/\Hid (m=Za8 (fsts (ps.take k)) r.1)/\Below wx.heap.size wx wr) (fun i _ _=>ps.length-(intOf i).toNat)
 case atStart=>exact ⟨0,0,by omega,rfl,rfl,rfl,Below.refl _ _⟩
 case round=>
  obtain⟨k,m,hk,rfl,rfl,HM,hnx⟩:=hrel;have hsz:=hnx.size;have hsx:=Zab HX.out;have BWR:Below w.heap.size w wr:=BX.trans (hnx.mono (by omega))
  by_cases hlt:k<ps.length
  ·obtain ⟨p,hp⟩:∃ p,ps[k]? = some p:=⟨ps[k],List.getElem?_eq_getElem hlt⟩
   have hat:=HV.out.at;obtain⟨b,off,cap',hve,hbb,c0,c1,c2,c3,c4,c5,c6,c7,_⟩:=hat.cells k p hp;cases hve
   rw [<-BWR.cell (p:=⟨b,off+k*8,none⟩) (Nat.lt_of_lt_of_le hbb hhi)] at c0;rw [<-BWR.cell (p:=⟨b,off+k*8+1,none⟩) (Nat.lt_of_lt_of_le hbb hhi)] at c1;rw [<-BWR.cell (p:=⟨b,off+k*8+2,none⟩) (Nat.lt_of_lt_of_le hbb hhi)] at c2;rw [<-BWR.cell (p:=⟨b,off+k*8+3,none⟩) (Nat.lt_of_lt_of_le hbb hhi)] at c3;rw [<-BWR.cell (p:=⟨b,off+k*8+4,none⟩) (Nat.lt_of_lt_of_le hbb hhi)] at c4;rw [<-BWR.cell (p:=⟨b,off+k*8+5,none⟩) (Nat.lt_of_lt_of_le hbb hhi)] at c5;rw [<-BWR.cell (p:=⟨b,off+k*8+6,none⟩) (Nat.lt_of_lt_of_le hbb hhi)] at c6;rw [<-BWR.cell (p:=⟨b,off+k*8+7,none⟩) (Nat.lt_of_lt_of_le hbb hhi)] at c7;have hxx:=(hnx.block _ hsx).trans HX.out;have d0:=Zaa hxx 0;have d1:=Zaa hxx 1;have d2:=Zaa hxx 2;have d3:=Zaa hxx 3;have d4:=Zaa hxx 4;have d5:=Zaa hxx 5;have d6:=Zaa hxx 6;have d7:=Zaa hxx 7;simp at d0 d1 d2 d3 d4 d5 d6 d7
   have hb1:b<wr.heap.size:=by omega
   have hb2:w.heap.size<wr.heap.size:=by omega
   have hki:(0:Int)<=(k:Int):=by omega
   have hkj:(k:Int)<(ps.length:Int):=by omega
   have hq:=fun W=>ZeC p.2 r.2 p.1 r.1 W
   unfold recC at hq;obtain⟨q,hqq⟩:∃ q,q=Zak p.1 r.1:=⟨_,rfl⟩;rw [<-hqq] at hq;have HK:=hide hq;have HQQ:=hide hqq;have HPP:=hide (Zib r.1 hp);clear hq hqq hp hat hxx;cases q
   ·have HN:=hide (show m=Za8 (fsts (ps.take (k+1))) r.1 by rw [HPP.out,Zf4 HQQ.out.symm];exact HM.out)
    go_wp2
    refine Zai (S:=(fun W=>W.cell? ⟨b,off+k*8,none⟩=some (.int .i64 p.1.area)/\W.cell? ⟨b,off+k*8+1,none⟩=some (.int .i64 p.1.kind)/\W.cell? ⟨b,off+k*8+2,none⟩=some (.int .i64 p.1.owner)/\W.cell? ⟨b,off+k*8+3,none⟩=some (.int .i64 p.1.key)/\W.cell? ⟨b,off+k*8+4,none⟩=some (.int .i64 p.1.seq)/\W.cell? ⟨b,off+k*8+5,none⟩=some (p.2)/\W.cell? ⟨b,off+k*8+6,none⟩=some (.int .i64 p.1.cost)/\W.cell? ⟨b,off+k*8+7,none⟩=some (.bool p.1.far)/\W.cell? ⟨w.heap.size,0,none⟩=some (.int .i64 r.1.area)/\W.cell? ⟨w.heap.size,1,none⟩=some (.int .i64 r.1.kind)/\W.cell? ⟨w.heap.size,2,none⟩=some (.int .i64 r.1.owner)/\W.cell? ⟨w.heap.size,3,none⟩=some (.int .i64 r.1.key)/\W.cell? ⟨w.heap.size,4,none⟩=some (.int .i64 r.1.seq)/\W.cell? ⟨w.heap.size,5,none⟩=some (r.2)/\W.cell? ⟨w.heap.size,6,none⟩=some (.int .i64 r.1.cost)/\W.cell? ⟨w.heap.size,7,none⟩=some (.bool r.1.far))) (by kernel_rfl) 15 rfl ⟨c0,c1,c2,c3,c4,c5,c6,c7,d0,d1,d2,d3,d4,d5,d6,d7⟩ (fun ops hops hHeld=>?_)
    iterate 5
     refine Zao 15 ?_ ?_ ?_ (by rw [hops.out];kernel_rfl) ?_ ?_ (by assumption) ?_
     rotate_left 2
     ·rw [hops.out];simp only [getS,Nat.reduceSub,Nat.reduceAdd];rfl
     ·intro W hW;(try dsimp only at hW);go_simp <;> with_reducible rfl
     ·exact fun _ _ _=>id
     try simp only [putS]
    refine Zap 5 (oi:=?_) ?_ (by rw [hops.out];kernel_rfl) ?_ ?_
    rotate_left 1
    ·rw [hops.out];simp only [getS];rfl
    ·rw [hops.out];kernel_rfl
    intro K hK
    go_simp
    refine (HK.out _).mono ?_
    rintro e w1 ⟨rfl,b1⟩;have hSn:_/\_:=(show ((fun W=>W.cell? ⟨b,off+k*8,none⟩=some (.int .i64 p.1.area)/\W.cell? ⟨b,off+k*8+1,none⟩=some (.int .i64 p.1.kind)/\W.cell? ⟨b,off+k*8+2,none⟩=some (.int .i64 p.1.owner)/\W.cell? ⟨b,off+k*8+3,none⟩=some (.int .i64 p.1.key)/\W.cell? ⟨b,off+k*8+4,none⟩=some (.int .i64 p.1.seq)/\W.cell? ⟨b,off+k*8+5,none⟩=some (p.2)/\W.cell? ⟨b,off+k*8+6,none⟩=some (.int .i64 p.1.cost)/\W.cell? ⟨b,off+k*8+7,none⟩=some (.bool p.1.far)/\W.cell? ⟨w.heap.size,0,none⟩=some (.int .i64 r.1.area)/\W.cell? ⟨w.heap.size,1,none⟩=some (.int .i64 r.1.kind)/\W.cell? ⟨w.heap.size,2,none⟩=some (.int .i64 r.1.owner)/\W.cell? ⟨w.heap.size,3,none⟩=some (.int .i64 r.1.key)/\W.cell? ⟨w.heap.size,4,none⟩=some (.int .i64 r.1.seq)/\W.cell? ⟨w.heap.size,5,none⟩=some (r.2)/\W.cell? ⟨w.heap.size,6,none⟩=some (.int .i64 r.1.cost)/\W.cell? ⟨w.heap.size,7,none⟩=some (.bool r.1.far))) w1 from by
     obtain⟨m0,m1,m2,m3,m4,m5,m6,m7,n0,n1,n2,n3,n4,n5,n6,n7⟩:=hHeld;refine⟨?_,?_,?_,?_,?_,?_,?_,?_,?_,?_,?_,?_,?_,?_,?_,?_⟩ <;> (refine (b1.cell ?_).trans ?_ <;> assumption))
    refine hK.out _ _ hSn (fun hHeld=>?_)
    clear hK K hSn
    try simp only [putS]
    refine Zay 6 ?_ ?_ ?_ (by rw [hops.out];kernel_rfl) ?_ ?_ (by assumption) ?_
    rotate_left 2
    ·rw [hops.out];simp only [getS];rfl
    ·intro W hW;(try dsimp only at hW);go_simp <;> with_reducible rfl
    ·exact fun _ _ _=>id
    try simp only [putS]
    refine Zad 7 20 (by rw [hops.out];kernel_rfl) (fun _ _ _ h=>h) (by assumption) ?_
    try simp only [putS]
    refine Zad 8 21 (by rw [hops.out];kernel_rfl) (fun _ _ _ h=>h) (by assumption) ?_
    try simp only [putS]
    refine Zad 9 22 (by rw [hops.out];kernel_rfl) (fun _ _ _ h=>h) (by assumption) ?_
    try simp only [putS]
    refine Zad 10 23 (by rw [hops.out];kernel_rfl) (fun _ _ _ h=>h) (by assumption) ?_
    try simp only [putS]
    refine Zad 11 24 (by rw [hops.out];kernel_rfl) (fun _ _ _ h=>h) (by assumption) ?_
    try simp only [putS]
    refine Zad 12 25 (by rw [hops.out];kernel_rfl) (fun _ _ _ h=>h) (by assumption) ?_
    try simp only [putS]
    refine Zad 13 26 (by rw [hops.out];kernel_rfl) (fun _ _ _ h=>h) (by assumption) ?_
    try simp only [putS]
    refine Zay 14 ?_ ?_ ?_ (by rw [hops.out];kernel_rfl) ?_ ?_ (by assumption) ?_
    rotate_left 2
    ·rw [hops.out];simp only [getS];rfl
    ·intro W hW;(try dsimp only at hW);go_simp <;> with_reducible rfl
    ·exact fun _ _ _=>id
    try simp only [putS]
    refine wpAnyH_done (by rw [hops.out];kernel_rfl) ?_ _
    clear hops ops
    go_wp2
    go_roundw
    case rel=>exact ⟨k+1,m,by omega,by go_num,rfl,HN,hnx.drew.trans (b1.mono hsz)⟩
    case measure=>simp [intOf];omega
   ·by_cases hms:m<p.1.seq
    ·have HN:=hide (show p.1.seq=Za8 (fsts (ps.take (k+1))) r.1 by rw [HPP.out,Zfj HQQ.out.symm (by rw [<-HM.out];exact hms)])
     go_wp2
     refine Zai (S:=(fun W=>W.cell? ⟨b,off+k*8,none⟩=some (.int .i64 p.1.area)/\W.cell? ⟨b,off+k*8+1,none⟩=some (.int .i64 p.1.kind)/\W.cell? ⟨b,off+k*8+2,none⟩=some (.int .i64 p.1.owner)/\W.cell? ⟨b,off+k*8+3,none⟩=some (.int .i64 p.1.key)/\W.cell? ⟨b,off+k*8+4,none⟩=some (.int .i64 p.1.seq)/\W.cell? ⟨b,off+k*8+5,none⟩=some (p.2)/\W.cell? ⟨b,off+k*8+6,none⟩=some (.int .i64 p.1.cost)/\W.cell? ⟨b,off+k*8+7,none⟩=some (.bool p.1.far)/\W.cell? ⟨w.heap.size,0,none⟩=some (.int .i64 r.1.area)/\W.cell? ⟨w.heap.size,1,none⟩=some (.int .i64 r.1.kind)/\W.cell? ⟨w.heap.size,2,none⟩=some (.int .i64 r.1.owner)/\W.cell? ⟨w.heap.size,3,none⟩=some (.int .i64 r.1.key)/\W.cell? ⟨w.heap.size,4,none⟩=some (.int .i64 r.1.seq)/\W.cell? ⟨w.heap.size,5,none⟩=some (r.2)/\W.cell? ⟨w.heap.size,6,none⟩=some (.int .i64 r.1.cost)/\W.cell? ⟨w.heap.size,7,none⟩=some (.bool r.1.far))) (by kernel_rfl) 15 rfl ⟨c0,c1,c2,c3,c4,c5,c6,c7,d0,d1,d2,d3,d4,d5,d6,d7⟩ (fun ops hops hHeld=>?_)
     iterate 5
      refine Zao 15 ?_ ?_ ?_ (by rw [hops.out];kernel_rfl) ?_ ?_ (by assumption) ?_
      rotate_left 2
      ·rw [hops.out];simp only [getS,Nat.reduceSub,Nat.reduceAdd];rfl
      ·intro W hW;(try dsimp only at hW);go_simp <;> with_reducible rfl
      ·exact fun _ _ _=>id
      try simp only [putS]
     refine Zap 5 (oi:=?_) ?_ (by rw [hops.out];kernel_rfl) ?_ ?_
     rotate_left 1
     ·rw [hops.out];simp only [getS];rfl
     ·rw [hops.out];kernel_rfl
     intro K hK
     go_simp
     refine (HK.out _).mono ?_
     rintro e w1 ⟨rfl,b1⟩;have hSn:_/\_:=(show ((fun W=>W.cell? ⟨b,off+k*8,none⟩=some (.int .i64 p.1.area)/\W.cell? ⟨b,off+k*8+1,none⟩=some (.int .i64 p.1.kind)/\W.cell? ⟨b,off+k*8+2,none⟩=some (.int .i64 p.1.owner)/\W.cell? ⟨b,off+k*8+3,none⟩=some (.int .i64 p.1.key)/\W.cell? ⟨b,off+k*8+4,none⟩=some (.int .i64 p.1.seq)/\W.cell? ⟨b,off+k*8+5,none⟩=some (p.2)/\W.cell? ⟨b,off+k*8+6,none⟩=some (.int .i64 p.1.cost)/\W.cell? ⟨b,off+k*8+7,none⟩=some (.bool p.1.far)/\W.cell? ⟨w.heap.size,0,none⟩=some (.int .i64 r.1.area)/\W.cell? ⟨w.heap.size,1,none⟩=some (.int .i64 r.1.kind)/\W.cell? ⟨w.heap.size,2,none⟩=some (.int .i64 r.1.owner)/\W.cell? ⟨w.heap.size,3,none⟩=some (.int .i64 r.1.key)/\W.cell? ⟨w.heap.size,4,none⟩=some (.int .i64 r.1.seq)/\W.cell? ⟨w.heap.size,5,none⟩=some (r.2)/\W.cell? ⟨w.heap.size,6,none⟩=some (.int .i64 r.1.cost)/\W.cell? ⟨w.heap.size,7,none⟩=some (.bool r.1.far))) w1 from by
      obtain⟨m0,m1,m2,m3,m4,m5,m6,m7,n0,n1,n2,n3,n4,n5,n6,n7⟩:=hHeld;refine⟨?_,?_,?_,?_,?_,?_,?_,?_,?_,?_,?_,?_,?_,?_,?_,?_⟩ <;> (refine (b1.cell ?_).trans ?_ <;> assumption))
     refine hK.out _ _ hSn (fun hHeld=>?_)
     clear hK K hSn
     try simp only [putS]
     iterate 7
      refine Zao 15 ?_ ?_ ?_ (by rw [hops.out];kernel_rfl) ?_ ?_ (by assumption) ?_
      rotate_left 2
      ·rw [hops.out];simp only [getS,Nat.reduceSub,Nat.reduceAdd];rfl
      ·intro W hW;(try dsimp only at hW);go_simp <;> with_reducible rfl
      ·exact fun _ _ _=>id
      try simp only [putS]
     refine Zaz 13 (oi:=?_) (v:=.bool true) ?_ (by rw [hops.out];kernel_rfl) ?_ ?_ ?_ (by assumption) ?_
     rotate_left 1
     ·rw [hops.out];simp only [getS];rfl
     ·rw [hops.out];kernel_rfl
     ·intro W hW;(try dsimp only at hW);go_simp <;> (first | with_reducible rfl | (simp;omega) | omega)
     ·exact fun _ _ _=>id
     try simp only [putS]
     refine Zay 14 ?_ ?_ ?_ (by rw [hops.out];kernel_rfl) ?_ ?_ (by assumption) ?_
     rotate_left 2
     ·rw [hops.out];simp only [getS];rfl
     ·intro W hW;(try dsimp only at hW);go_simp <;> with_reducible rfl
     ·exact fun _ _ _=>id
     try simp only [putS]
     refine wpAnyH_done (by rw [hops.out];kernel_rfl) ?_ _
     clear hops ops;obtain⟨m0,m1,m2,m3,m4,m5,m6,m7,n0,n1,n2,n3,n4,n5,n6,n7⟩:=hHeld;clear c0 c1 c2 c3 c4 c5 c6 c7 d0 d1 d2 d3 d4 d5 d6 d7
     go_wp2
     go_roundw
     case rel=>exact ⟨k+1,p.1.seq,by omega,by go_num,rfl,HN,hnx.drew.trans (b1.mono hsz)⟩
     case measure=>simp [intOf];omega
    ·have HN:=hide (show m=Za8 (fsts (ps.take (k+1))) r.1 by rw [HPP.out,Zfk (by rw [<-HM.out];exact hms)];exact HM.out)
     go_wp2
     refine Zai (S:=(fun W=>W.cell? ⟨b,off+k*8,none⟩=some (.int .i64 p.1.area)/\W.cell? ⟨b,off+k*8+1,none⟩=some (.int .i64 p.1.kind)/\W.cell? ⟨b,off+k*8+2,none⟩=some (.int .i64 p.1.owner)/\W.cell? ⟨b,off+k*8+3,none⟩=some (.int .i64 p.1.key)/\W.cell? ⟨b,off+k*8+4,none⟩=some (.int .i64 p.1.seq)/\W.cell? ⟨b,off+k*8+5,none⟩=some (p.2)/\W.cell? ⟨b,off+k*8+6,none⟩=some (.int .i64 p.1.cost)/\W.cell? ⟨b,off+k*8+7,none⟩=some (.bool p.1.far)/\W.cell? ⟨w.heap.size,0,none⟩=some (.int .i64 r.1.area)/\W.cell? ⟨w.heap.size,1,none⟩=some (.int .i64 r.1.kind)/\W.cell? ⟨w.heap.size,2,none⟩=some (.int .i64 r.1.owner)/\W.cell? ⟨w.heap.size,3,none⟩=some (.int .i64 r.1.key)/\W.cell? ⟨w.heap.size,4,none⟩=some (.int .i64 r.1.seq)/\W.cell? ⟨w.heap.size,5,none⟩=some (r.2)/\W.cell? ⟨w.heap.size,6,none⟩=some (.int .i64 r.1.cost)/\W.cell? ⟨w.heap.size,7,none⟩=some (.bool r.1.far))) (by kernel_rfl) 15 rfl ⟨c0,c1,c2,c3,c4,c5,c6,c7,d0,d1,d2,d3,d4,d5,d6,d7⟩ (fun ops hops hHeld=>?_)
     iterate 5
      refine Zao 15 ?_ ?_ ?_ (by rw [hops.out];kernel_rfl) ?_ ?_ (by assumption) ?_
      rotate_left 2
      ·rw [hops.out];simp only [getS,Nat.reduceSub,Nat.reduceAdd];rfl
      ·intro W hW;(try dsimp only at hW);go_simp <;> with_reducible rfl
      ·exact fun _ _ _=>id
      try simp only [putS]
     refine Zap 5 (oi:=?_) ?_ (by rw [hops.out];kernel_rfl) ?_ ?_
     rotate_left 1
     ·rw [hops.out];simp only [getS];rfl
     ·rw [hops.out];kernel_rfl
     intro K hK
     go_simp
     refine (HK.out _).mono ?_
     rintro e w1 ⟨rfl,b1⟩;have hSn:_/\_:=(show ((fun W=>W.cell? ⟨b,off+k*8,none⟩=some (.int .i64 p.1.area)/\W.cell? ⟨b,off+k*8+1,none⟩=some (.int .i64 p.1.kind)/\W.cell? ⟨b,off+k*8+2,none⟩=some (.int .i64 p.1.owner)/\W.cell? ⟨b,off+k*8+3,none⟩=some (.int .i64 p.1.key)/\W.cell? ⟨b,off+k*8+4,none⟩=some (.int .i64 p.1.seq)/\W.cell? ⟨b,off+k*8+5,none⟩=some (p.2)/\W.cell? ⟨b,off+k*8+6,none⟩=some (.int .i64 p.1.cost)/\W.cell? ⟨b,off+k*8+7,none⟩=some (.bool p.1.far)/\W.cell? ⟨w.heap.size,0,none⟩=some (.int .i64 r.1.area)/\W.cell? ⟨w.heap.size,1,none⟩=some (.int .i64 r.1.kind)/\W.cell? ⟨w.heap.size,2,none⟩=some (.int .i64 r.1.owner)/\W.cell? ⟨w.heap.size,3,none⟩=some (.int .i64 r.1.key)/\W.cell? ⟨w.heap.size,4,none⟩=some (.int .i64 r.1.seq)/\W.cell? ⟨w.heap.size,5,none⟩=some (r.2)/\W.cell? ⟨w.heap.size,6,none⟩=some (.int .i64 r.1.cost)/\W.cell? ⟨w.heap.size,7,none⟩=some (.bool r.1.far))) w1 from by
      obtain⟨m0,m1,m2,m3,m4,m5,m6,m7,n0,n1,n2,n3,n4,n5,n6,n7⟩:=hHeld;refine⟨?_,?_,?_,?_,?_,?_,?_,?_,?_,?_,?_,?_,?_,?_,?_,?_⟩ <;> (refine (b1.cell ?_).trans ?_ <;> assumption))
     refine hK.out _ _ hSn (fun hHeld=>?_)
     clear hK K hSn
     try simp only [putS]
     iterate 7
      refine Zao 15 ?_ ?_ ?_ (by rw [hops.out];kernel_rfl) ?_ ?_ (by assumption) ?_
      rotate_left 2
      ·rw [hops.out];simp only [getS,Nat.reduceSub,Nat.reduceAdd];rfl
      ·intro W hW;(try dsimp only at hW);go_simp <;> with_reducible rfl
      ·exact fun _ _ _=>id
      try simp only [putS]
     refine Zaz 13 (oi:=?_) (v:=.bool false) ?_ (by rw [hops.out];kernel_rfl) ?_ ?_ ?_ (by assumption) ?_
     rotate_left 1
     ·rw [hops.out];simp only [getS];rfl
     ·rw [hops.out];kernel_rfl
     ·intro W hW;(try dsimp only at hW);go_simp <;> (first | with_reducible rfl | (simp;omega) | omega)
     ·exact fun _ _ _=>id
     try simp only [putS]
     refine Zay 14 ?_ ?_ ?_ (by rw [hops.out];kernel_rfl) ?_ ?_ (by assumption) ?_
     rotate_left 2
     ·rw [hops.out];simp only [getS];rfl
     ·intro W hW;(try dsimp only at hW);go_simp <;> with_reducible rfl
     ·exact fun _ _ _=>id
     try simp only [putS]
     refine wpAnyH_done (by rw [hops.out];kernel_rfl) ?_ _
     clear hops ops
     go_wp2
     go_roundw
     case rel=>exact ⟨k+1,m,by omega,by go_num,rfl,HN,hnx.drew.trans (b1.mono hsz)⟩
     case measure=>simp [intOf];omega
  ·have HN:=hide (show m=NN by
    rw [HM.out,HNN.out,List.take_of_length_le (by omega)])
   go_wp2
   go_ret
   exact⟨by rw [HN.out];rfl,BWR⟩
theorem Zd8 (v1 v2:Value)(ps qs:List RP)(hi:Nat)(w:World)(h1:RecsIn w hi v1 ps)(h2:RecsIn w hi v2 qs)(he:fsts ps=fsts qs)(hhi:hi<=w.heap.size)(hn:tot ps<=1048576):
  Calls Tryz.prog 10 #[v1,v2] w fun e w'=>e=.returned (.bool true)/\Below w.heap.size w w':=by
 have hnl:=Za3 ps;have hel:ps.length=qs.length:=by have:=congrArg List.length he;simpa [fsts] using this
 obtain⟨a1,c1,rfl⟩:=Zac h1.row;obtain⟨a2,c2,rfl⟩:=Zac h2.row;have HV:=hide h1;have HW:=hide h2;have HE:=hide he;have hei:(ps.length:Int)=(qs.length:Int):=by omega
 have HEL:=hide hel;clear h1 h2 he hel
 go_enter Tryz.func10,Tryz.ntmps10
 go_wp2
 go_loopw [5] (fun i wr=>∃ (k:Nat),k<=ps.length/\i=.int .i64 k/\Below w.heap.size w wr) (fun i _=>ps.length-(intOf i).toNat)
 case atStart=>exact ⟨0,by omega,rfl,Below.refl _ _⟩
 case round=>
  obtain⟨k,hk,rfl,hnx⟩:=hrel;have hsz:=hnx.size;by_cases hlt:k<ps.length
  ·obtain ⟨p,hp⟩:∃ p,ps[k]? = some p:=⟨ps[k],List.getElem?_eq_getElem hlt⟩
   obtain⟨q,hq⟩:∃ q,qs[k]? = some q:=⟨qs[k]'(by have:=HEL.out;omega),List.getElem?_eq_getElem (by have:=HEL.out;omega)⟩
   have hpq:p.1=q.1:=by
    have e1:=ZbB hp;have e2:=ZbB hq;rw [HE.out,e2] at e1;exact (Option.some.inj e1).symm
   obtain⟨b,off,cap',hve,hbb,c0,c1,c2,c3,c4,c5,c6,c7,hn1⟩:=HV.out.at.cells k p hp;cases hve
   obtain⟨b2,off2,cap2,hve2,hbb2,d0,d1,d2,d3,d4,d5,d6,d7,hn2⟩:=HW.out.at.cells k q hq;cases hve2
   rw [<-hnx.cell (p:=⟨b,off+k*8,none⟩) (Nat.lt_of_lt_of_le hbb hhi)] at c0;rw [<-hnx.cell (p:=⟨b,off+k*8+1,none⟩) (Nat.lt_of_lt_of_le hbb hhi)] at c1;rw [<-hnx.cell (p:=⟨b,off+k*8+2,none⟩) (Nat.lt_of_lt_of_le hbb hhi)] at c2;rw [<-hnx.cell (p:=⟨b,off+k*8+3,none⟩) (Nat.lt_of_lt_of_le hbb hhi)] at c3;rw [<-hnx.cell (p:=⟨b,off+k*8+4,none⟩) (Nat.lt_of_lt_of_le hbb hhi)] at c4;rw [<-hnx.cell (p:=⟨b,off+k*8+5,none⟩) (Nat.lt_of_lt_of_le hbb hhi)] at c5;rw [<-hnx.cell (p:=⟨b,off+k*8+6,none⟩) (Nat.lt_of_lt_of_le hbb hhi)] at c6;rw [<-hnx.cell (p:=⟨b,off+k*8+7,none⟩) (Nat.lt_of_lt_of_le hbb hhi)] at c7;rw [<-hnx.cell (p:=⟨b2,off2+k*8,none⟩) (Nat.lt_of_lt_of_le hbb2 hhi)] at d0;rw [<-hnx.cell (p:=⟨b2,off2+k*8+1,none⟩) (Nat.lt_of_lt_of_le hbb2 hhi)] at d1;rw [<-hnx.cell (p:=⟨b2,off2+k*8+2,none⟩) (Nat.lt_of_lt_of_le hbb2 hhi)] at d2;rw [<-hnx.cell (p:=⟨b2,off2+k*8+3,none⟩) (Nat.lt_of_lt_of_le hbb2 hhi)] at d3;rw [<-hnx.cell (p:=⟨b2,off2+k*8+4,none⟩) (Nat.lt_of_lt_of_le hbb2 hhi)] at d4;rw [<-hnx.cell (p:=⟨b2,off2+k*8+5,none⟩) (Nat.lt_of_lt_of_le hbb2 hhi)] at d5;rw [<-hnx.cell (p:=⟨b2,off2+k*8+6,none⟩) (Nat.lt_of_lt_of_le hbb2 hhi)] at d6;rw [<-hnx.cell (p:=⟨b2,off2+k*8+7,none⟩) (Nat.lt_of_lt_of_le hbb2 hhi)] at d7;have hb1:b<wr.heap.size:=by omega
   have hb2:b2<wr.heap.size:=by omega
   have hki:(0:Int)<=(k:Int):=by omega
   have hkj:(k:Int)<(ps.length:Int):=by omega
   have hkq:(k:Int)<(qs.length:Int):=by omega
   have HSM:=hide (fun W (hb:Below w.heap.size w W)=>ZlF p.1 p.2 q.2 W ((ZaT.later hn1 hb hhi).more (by have:=hb.size;omega)) ((ZaT.later (B:=hi) (by rw [hpq];exact hn2) hb hhi).more (by have:=hb.size;omega)) (by have:=Zc6 (List.mem_of_getElem? hp);omega))
   unfold recC at HSM;rw [<-hpq] at d0 d1 d2 d3 d4 d6 d7;have hnd:Below w.heap.size w wr.drew:=hnx.drew;clear hp hq hpq hn1 hn2 hei
   go_wp2
   go_region_held3 (fun W=>W.cell? ⟨b,off+k*8,none⟩=some (.int .i64 p.1.area)/\W.cell? ⟨b,off+k*8+1,none⟩=some (.int .i64 p.1.kind)/\W.cell? ⟨b,off+k*8+2,none⟩=some (.int .i64 p.1.owner)/\W.cell? ⟨b,off+k*8+3,none⟩=some (.int .i64 p.1.key)/\W.cell? ⟨b,off+k*8+4,none⟩=some (.int .i64 p.1.seq)/\W.cell? ⟨b,off+k*8+5,none⟩=some (p.2)/\W.cell? ⟨b,off+k*8+6,none⟩=some (.int .i64 p.1.cost)/\W.cell? ⟨b,off+k*8+7,none⟩=some (.bool p.1.far)/\W.cell? ⟨b2,off2+k*8,none⟩=some (.int .i64 p.1.area)/\W.cell? ⟨b2,off2+k*8+1,none⟩=some (.int .i64 p.1.kind)/\W.cell? ⟨b2,off2+k*8+2,none⟩=some (.int .i64 p.1.owner)/\W.cell? ⟨b2,off2+k*8+3,none⟩=some (.int .i64 p.1.key)/\W.cell? ⟨b2,off2+k*8+4,none⟩=some (.int .i64 p.1.seq)/\W.cell? ⟨b2,off2+k*8+5,none⟩=some (q.2)/\W.cell? ⟨b2,off2+k*8+6,none⟩=some (.int .i64 p.1.cost)/\W.cell? ⟨b2,off2+k*8+7,none⟩=some (.bool p.1.far)) (first | go_keep | (refine ⟨?_,?_,?_,?_,?_,?_,?_,?_,?_,?_,?_,?_,?_,?_,?_,?_⟩ <;> (rw [hbc.cell (by assumption)];assumption))) (first | (go_at_call 35;refine (HSM.out _ hnd).mono ?_;rintro e w1 ⟨rfl,hbc⟩))
   go_wp2
   go_roundw
   case rel=>exact ⟨k+1,by omega,by go_num,hnd.trans (hbc.mono hsz)⟩
   case measure=>simp [intOf];omega
  ·go_wp2
   go_ret
   exact⟨rfl,hnx⟩
theorem ZaR {P:Program}{fn:Func}{p u:Tmp}{ty:TypeId}(h:fn.results=#[.cell p ty,.tmp u])(tmps:Array Value)(w:World)(g:Nat)(t:TypeId)(cs:Array Value)(fr:Nat × Nat)(d:TypeDesc)
  (hp:tmps.getD p undef=.pointer (some ⟨g,0,none⟩)) (hg:w.heap[g]? = some (.cells cs t fr))
  (hu:P.underlying ty=some d) (hd:(match d with | .struct _ | .array _ _=>true | _=>false)=true) (hi:(P.info? ty).map (·.size)=some cs.size):
  (results fn tmps).run P w=.ok (.tuple #[.agg cs,tmps.getD u undef]) w:=by
 have hp':tmps[p]?.getD undef=.pointer (some ⟨g,0,none⟩):=by simpa using hp
 rw [results_cell_tmp h];simp [hp',asAddr,run_loadVar_row w g t ty cs fr d hg hu hd hi]
def Zh1 (xs:List RecD)(r:RecD):RecD:=if atZ xs r<0 then Zbe else xs.getD (atZ xs r).toNat Zbe
def Zjc (xs:List RecD)(r:RecD):Bool := !decide (atZ xs r<0)
theorem Zhm {xs:List RecD}{r:RecD}(h:atZ xs r = -1):Zh1 xs r=Zbe/\Zjc xs r=false:=by unfold Zh1 Zjc;rw [h];exact⟨rfl,rfl⟩
theorem Zj2 {xs:List RecD}{r y:RecD}{k:Nat}(h:atZ xs r=(k:Int))(hy:xs[k]? = some y):Zh1 xs r=y/\Zjc xs r=true:=by
 unfold Zh1 Zjc;rw [h,if_neg (by omega)]
 exact⟨by simp [hy],by simp⟩
theorem Zjd {ps:List RP}{k:Nat}{y:RecD}(h:(fsts ps)[k]? = some y):∃ p,ps[k]? = some p/\p.1=y:=by
 simp [fsts] at h
 obtain⟨v,hv⟩:=h;exact⟨(y,v),hv,rfl⟩
theorem Zb8 {x y:RecD}(h:Zak x y=true):Zak y x=true:=by
 unfold Zak at *;simp only [Bool.and_eq_true,beq_iff_eq] at *
 omega
theorem Zby {x y z:RecD}(h:Zak x y=true)(h2:Zak y z=true):Zak x z=true:=by
 unfold Zak at *;simp only [Bool.and_eq_true,beq_iff_eq] at *
 omega
theorem Zcp (x:RecD):Zak x x=true:=by simp [Zak]
theorem Zb5 {x y:RecD}(h:Zan x y=true):Zak x y=false:=by
 cases hs:Zak x y with
 | false=>rfl
 | true=>rw [(ZbQ hs).1] at h;cases h
theorem Zgx {xs:List RecD}(h:Asc xs){x y:RecD}(hx:x∈xs)(hy:y∈xs)(hs:Zak x y=true):x=y:=by
 unfold Asc at h;rw [List.pairwise_iff_getElem] at h;obtain⟨i,hi,ei⟩:=List.getElem_of_mem hx;obtain⟨j,hj,ej⟩:=List.getElem_of_mem hy
 rcases Nat.lt_trichotomy i j with hij | hij | hij
 ·have h1:=h i j hi hj hij
  rw [ei,ej] at h1;rw [Zb5 h1] at hs;cases hs
 ·subst hij
  rw [<-ei, <-ej]
 ·have h1:=h j i hj hi hij
  rw [ei,ej] at h1;have h2:=Zb5 h1;rw [Zb8 hs] at h2;cases h2
theorem ZhV {xs:List RecD}{r:RecD}(h:atZ xs r = -1):∀ x∈xs,Zak x r=false:=by
 intro x hx;unfold atZ at h;cases e:xs.findIdx? (fun x=>Zak x r) with
 | none=>
  rw [List.findIdx?_eq_none_iff] at e
  simpa using e x hx
 | some i=>rw [e] at h;simp only [] at h;omega
theorem ZcQ {xs:List RecD}{r x:RecD}(ha:Asc xs)(h:ZaE xs r=true)(hx:x∈xs)(hs:Zak x r=true):x.seq<r.seq:=by
 rcases ZbP xs r with hz | ⟨j,y,hz,hy,hys⟩
 ·rw [ZhV hz x hx] at hs;cases hs
 ·rw [Zeb (ZgZ h) hz hy] at h
  have e:x=y:=Zgx ha hx (List.mem_of_getElem? hy) (Zby hs (Zb8 hys));rw [e]
  simpa using h
theorem ZkF {xs:List RecD}{r:RecD}(hr:Zas r=true)(hl:xs.length<150)(h:ZaE xs r=false):∃ x∈xs,Zak x r=true/\r.seq<=x.seq:=by
 rcases ZbP xs r with hz | ⟨j,y,hz,hy,hys⟩
 ·rw [ZcP hr hz,decide_eq_true hl] at h;cases h
 ·rw [Zeb hr hz hy] at h
  exact⟨y,List.mem_of_getElem? hy,hys,by simpa using h⟩
theorem ZbR {xs:List RecD}{r x:RecD}:x∈putD xs r↔(x∈xs/\Zan x r=true)\/x=r\/(x∈xs/\Zan r x=true):=by
 unfold putD;simp
theorem Ziw (f g:RecD->Bool)(hfg:∀ x,f x=true->g x=false)(xs:List RecD):(xs.filter f).length+(xs.filter g).length<=xs.length:=by
 induction xs with
 | nil=>simp
 | cons x xs ih=>
  rw [List.filter_cons,List.filter_cons,List.length_cons];cases hf:f x with
  | true=>rw [hfg x hf];simp;omega
  | false=>
   cases g x with
   | true=>simp;omega
   | false=>simp;omega
theorem Zfc (xs:List RecD)(r:RecD):(Za7 xs r).length<=xs.length+1:=by
 unfold Za7
 split
 ·unfold putD
  have h:=Ziw (fun x=>Zan x r) (fun x=>Zan r x) (fun x h=>ZbY h) xs
  simp only [List.length_append,List.length_cons,List.length_nil]
  omega
 ·omega
structure Made (ls a:List RecD):Prop where
 asc:Asc a
 sub:∀ x∈a,x∈ls
 all:∀ y∈ls,∃ x∈a,Zak x y=true/\y.seq<=x.seq
theorem Made.nil:Made [] []:=⟨List.Pairwise.nil,by simp,by simp⟩
theorem Made.step {ls a:List RecD}{r:RecD}(h:Made ls a)(hr:Zas r=true)(hl:a.length<150):Made (ls++[r]) (Za7 a r):=by
 cases ht:ZaE a r with
 | false=>
  have e:Za7 a r=a:=by unfold Za7;rw [ht];rfl
  rw [e];refine⟨h.asc,fun x hx=>List.mem_append_left _ (h.sub x hx),?_⟩
  intro y hy
  rcases List.mem_append.1 hy with h1 | h1
  ·exact h.all y h1
  ·have:y=r:=by simpa using h1
   subst this;exact ZkF hr hl ht
 | true=>
  have e:Za7 a r=putD a r:=by unfold Za7;rw [ht];rfl
  rw [e];refine⟨ZcW h.asc r,?_,?_⟩
  ·intro x hx
   rcases ZbR.1 hx with h1 | h1 | h1
   ·exact List.mem_append_left _ (h.sub x h1.1)
   ·rw [h1];simp
   ·exact List.mem_append_left _ (h.sub x h1.1)
  ·intro y hy
   rcases List.mem_append.1 hy with h1 | h1
   ·obtain ⟨x,hx,hs,hq⟩:=h.all y h1
    rcases Zgz x r with h2 | h2 | h2
    ·exact ⟨x,ZbR.2 (.inl ⟨hx,h2⟩),hs,hq⟩
    ·have h3:=ZcQ h.asc ht hx h2
     exact⟨r,ZbR.2 (.inr (.inl rfl)),Zby (Zb8 h2) hs,by omega⟩
    ·exact ⟨x,ZbR.2 (.inr (.inr ⟨hx,h2⟩)),hs,hq⟩
   ·have:y=r:=by simpa using h1
    subst this;exact⟨y,ZbR.2 (.inr (.inl rfl)),Zcp y,Int.le_refl _⟩
theorem Made.store {ls a:List RecD}(h:Made ls a)(hok:∀ x∈ls,Zas x=true)(hl:a.length<=150):Zaw a=true:=by
 unfold Zaw;rw [decide_eq_true hl,Zgv h.asc];have e:Zbl Zas a=true:=ZaG fun j hj=>by
  unfold okAt;rw [List.getElem?_eq_getElem hj];exact hok _ (h.sub _ (List.getElem_mem hj))
 rw [e]
 rfl
theorem Zen (r:RecD):∀ (xs:List RecD) (m:Int),m<=xs.foldl (Zb1 r) m/\(∀ x∈xs,Zak x r=true->x.seq<=xs.foldl (Zb1 r) m)/\(xs.foldl (Zb1 r) m=m\/∃ x∈xs,Zak x r=true/\x.seq=xs.foldl (Zb1 r) m):=by
 intro xs
 induction xs with
 | nil=>intro m;simp
 | cons y xs ih=>
  intro m;rw [List.foldl_cons];obtain⟨h1,h2,h3⟩:=ih (Zb1 r m y);cases hs:Zak y r with
  | false=>
   rw [Zf4 hs] at *;refine⟨h1,?_,?_⟩
   ·intro x hx hk
    rcases List.mem_cons.1 hx with rfl | h4
    ·rw [hs] at hk;cases hk
    ·exact h2 x h4 hk
   ·rcases h3 with h3 | ⟨x,hx,h4⟩
    ·exact .inl h3
    ·exact .inr ⟨x,List.mem_cons_of_mem _ hx,h4⟩
  | true=>
   by_cases hm:m<y.seq
   ·rw [Zfj hs hm] at *
    refine⟨by omega,?_,?_⟩
    ·intro x hx hk
     rcases List.mem_cons.1 hx with rfl | h4
     ·exact h1
     ·exact h2 x h4 hk
    ·rcases h3 with h3 | ⟨x,hx,h4⟩
     ·exact .inr ⟨y,List.mem_cons_self ..,hs,h3.symm⟩
     ·exact .inr ⟨x,List.mem_cons_of_mem _ hx,h4⟩
   ·rw [Zfk hm] at *
    refine⟨h1,?_,?_⟩
    ·intro x hx hk
     rcases List.mem_cons.1 hx with rfl | h4
     ·omega
     ·exact h2 x h4 hk
    ·rcases h3 with h3 | ⟨x,hx,h4⟩
     ·exact .inl h3
     ·exact .inr ⟨x,List.mem_cons_of_mem _ hx,h4⟩
theorem Zhv {xs:List RecD}{r x:RecD}(hx:x∈xs)(hs:Zak x r=true)(h0:0<=x.seq)(hall:∀ y∈xs,Zak y r=true->y.seq<=x.seq):Za8 xs r=x.seq:=by
 obtain⟨h1,h2,h3⟩:=Zen r xs 0;unfold Za8;have h4:=h2 x hx hs
 rcases h3 with h3 | ⟨y,hy,hk,e⟩
 ·omega
 ·have:=hall y hy hk;omega
theorem Zl1 {x:RecD}(h:Zas x=true):1<=x.seq:=by
 unfold Zas inB at h;simp only [Bool.and_eq_true,decide_eq_true_eq] at h
 omega



structure Merged (A B M:List RecD):Prop where
 made:Made (A++B) M
 sto:Zaw M=true
 okA:Zaw A=true
 okB:Zaw B=true
 lenM:M.length<=60
theorem Zkf {A:List RecD}(h:Asc A):Made A A:=⟨h,fun _ hx=>hx,fun y hy=>⟨y,hy,Zcp y,Int.le_refl _⟩⟩
theorem Zhw {xs:List RecD}{r:RecD}{s:Int}(h0:0<=s)(h:∀ z∈xs,Zak z r=true->z.seq<=s):Za8 xs r<=s:=by
 obtain⟨h1,h2,h3⟩:=Zen r xs 0;unfold Za8
 rcases h3 with h3 | ⟨x,hx,hk,e⟩
 ·omega
 ·have:=h x hx hk;omega
theorem Merged.ok {A B M:List RecD}(h:Merged A B M):∀ x∈A++B,Zas x=true:=by
 intro x hx
 rcases List.mem_append.1 hx with h1 | h1
 ·exact (Zdp h.okA).2.1 x h1
 ·exact (Zdp h.okB).2.1 x h1
theorem Merged.le {A B M:List RecD}(h:Merged A B M){y z:RecD}(hy:y∈M)(hz:z∈A++B)(hs:Zak z y=true):z.seq<=y.seq:=by
 obtain⟨x,hx,h1,h2⟩:=h.made.all z hz;rw [Zgx h.made.asc hx hy (Zby h1 hs)] at h2;exact h2
theorem Merged.most {A B M:List RecD}(h:Merged A B M){y:RecD}(hy:y∈M):(if Za8 A y<Za8 B y then Za8 B y else Za8 A y)=y.seq:=by
 have h0:=Zl1 (h.ok y (h.made.sub y hy));have hA:Za8 A y<=y.seq:=Zhw (by omega) (fun z hz hs=>h.le hy (List.mem_append_left _ hz) hs)
 have hB:Za8 B y<=y.seq:=Zhw (by omega) (fun z hz hs=>h.le hy (List.mem_append_right _ hz) hs)
 rcases List.mem_append.1 (h.made.sub y hy) with h1 | h1
 ·have e:=Zhv h1 (Zcp y) (by omega) (fun z hz hs=>h.le hy (List.mem_append_left _ hz) hs)
  split <;> omega
 ·have e:=Zhv h1 (Zcp y) (by omega) (fun z hz hs=>h.le hy (List.mem_append_right _ hz) hs)
  split <;> omega
theorem Zit {M:List RecD}{x y:RecD}(hM:Asc M)(hy:y∈M)(hs:Zak y x=true)(hq:x.seq<=y.seq):ZaE M x=false:=by
 cases h:ZaE M x with
 | false=>rfl
 | true=>have:=ZcQ hM h hy hs;omega
theorem Merged.again {A B M:List RecD}(h:Merged A B M):ZlZ M B=M:=by
 have key:∀ (xs:List RecD),(∀ x∈xs,x∈B)->xs.foldl Za7 M=M:=by
  intro xs
  induction xs with
  | nil=>intro _;rfl
  | cons x xs ih=>
   intro hx;obtain⟨y,hy,hs,hq⟩:=h.made.all x (List.mem_append_right _ (hx x (List.mem_cons_self ..)));have e:Za7 M x=M:=by unfold Za7;rw [Zit h.made.asc hy hs hq];rfl
   rw [List.foldl_cons,e];exact ih (fun z hz=>hx z (List.mem_cons_of_mem _ hz))
 unfold ZlZ;rw [h.sto];exact key B (fun x hx=>hx)
theorem Zir {xs:List RecD}{r:RecD}(h:Zaw xs=true)(hr:Zas r=true)(hl:xs.length<150):Zaw (Za7 xs r)=true:=by
 have h3:=Zdp h;have hm:=(Zkf h3.2.2).step hr hl;refine hm.store ?_ (by have:=Zfc xs r;omega)
 intro x hx
 rcases List.mem_append.1 hx with h1 | h1
 ·exact h3.2.1 x h1
 ·have:x=r:=by simpa using h1
  subst this;exact hr
theorem ZlV {W:World}{p base size n:Nat}{e:TypeId}{v:Value}{xs:List Value}{a:Option Addr}{len cap:Nat}(hc:Cur W p a len cap)(h:W.ownsRow base e size v n xs)(he:e≠95)(k:Nat)(hk:v.ownBlock=some k):some k≠some p:=by
 obtain⟨⟨i,hh,_,hb⟩,_⟩:=hc
 rcases h.2 with ⟨h0,_⟩ | ⟨g,cp,cur,hv,_,hg,_⟩
 ·rw [h0] at hk;simp [Value.ownBlock] at hk
 ·rw [hv] at hk
  simp [Value.ownBlock] at hk
  subst hk;intro e2;simp at e2
  subst e2;rw [hg] at hb;simp at hb
  exact he hb.2
theorem RecsIn.cur {W W':World}{hi p:Nat}{v:Value}{ps:List RP}{a:Option Addr}{len cap:Nat}(h:RecsIn W hi v ps)(hc:Cur W p a len cap)(hg:W.grownBy W' (some p)):RecsIn W' hi v ps where
 row:=Zam h.row (fun k e=>hg.block k (h.row.lt k e).2 (ZlV hc h.row (by decide) k e))
 top:=h.top
 nears:=fun q hq=>⟨Zam (h.nears q hq).1 (fun k e=>hg.block k ((h.nears q hq).1.lt k e).2 (ZlV hc (h.nears q hq).1 (by decide) k e)),(h.nears q hq).2⟩
theorem Zjx (W:World):RecsIn (W.alloc (.cells #[] 40)) (W.alloc (.cells #[] 40)).heap.size (.slice (some ⟨W.heap.size,0,none⟩) 0 0) []:=(Zce W 0 (Nat.zero_le _)).in
theorem ZgG (p:Nat)(a:Option Addr)(len cap:Nat)(w:World)(hc:Cur w p a len cap):
  Calls Tryz.prog 61 #[.pointer (some ⟨p,0,none⟩)] w fun e w'=>∃ (v:Value) (qs:List RP),e=.returned v/\RecsIn w' w'.heap.size v qs/\Zaw (fsts qs)=true/\qs.length<=12/\Cur w' p a len cap/\w.grownBy w' (some p):=by
 have hp:=ZaQ hc;have C0:=hide (ZaX hc (.cells #[] 40));have R0:=hide (Zjx w);have G0:=hide (ZdX (ZiN w (some p)) (.cells #[] 40));clear hc
 go_enter Tryz.func61,Tryz.ntmps61
 go_wp2
 generalize w.alloc (.cells #[] 40)=w0 at *
 go_loopw [4,3] (fun i o wr=>∃ (k:Nat) (qs:List RP) (u:Value),k<=12/\i=.int .i64 k/\o=u/\Hid (qs.length<=k)/\Hid (Zaw (fsts qs)=true)/\RecsIn wr wr.heap.size u qs/\Cur wr p a len cap/\w.grownBy wr (some p)) (fun i _ _=>13-(intOf i).toNat)
 case atStart=>exact ⟨0,[],_,by omega,rfl,rfl,hide (by simp),hide (by decide),R0.out,C0.out,G0.out⟩
 case round=>
  obtain⟨k,qs,u,hk,rfl,rfl,HQL,HST,hown,hcr,hgr⟩:=hrel;obtain⟨ua,uc,rfl⟩:=Zac hown.row;have OW:=hide hown;have HCR:=hide hcr;have HGR:=hide hgr;clear hown hcr hgr
  go_wp2_with fail
  refine (ZaB p a len cap 12 _ HCR.out (by omega) (by omega)).mono ?_
  rintro e w3 ⟨y,rfl,hy0,hy1,hc3,hg3⟩;have OW3:=hide ((OW.out.cur HCR.out hg3).wide hg3.size);have G3:=hide (ZcX HGR.out hg3);have C3:=hide hc3;clear hc3 hg3 OW HCR HGR;by_cases hlt:(k:Int)<y
  ·go_wp2_with fail
   refine (ZeT p a len cap _ C3.out).mono ?_
   rintro e w4 ⟨x,n1,rfl,ho4,hl4,hok4,hc4,hg4⟩;have OW4:=(OW3.out.cur C3.out hg4).wide hg4.size;have hst:=Zdp HST.out;have hq:=HQL.out;have hfl:(fsts qs).length=qs.length:=by simp [fsts]
   have htq:tot qs<=1048576:=by rw [ZdQ];have:=ZcO HST.out;omega
   have HIN:=Zfx (.slice ua qs.length uc) qs w4.heap.size (x,n1) w4 OW4 (Nat.le_refl _) htq ⟨Zal ho4 (Nat.zero_le _),fun k hk=>(ho4.lt k hk).2⟩ (by show x.near.length<=1048576;omega)
   have HN:=hide (show Zaw (fsts (Za2 qs (x,n1)))=true by rw [Zcg];exact Zir HST.out hok4 (by omega))
   have HLn:=hide (show (Za2 qs (x,n1)).length<=k+1 by
    have e1:(fsts (Za2 qs (x,n1))).length=(Za2 qs (x,n1)).length:=by simp [fsts]
    rw [Zcg] at e1;have h5:=Zfc (fsts qs) x;simp only [] at e1
    omega)
   have G4:=ZcX G3.out hg4;obtain⟨na,nc,rfl⟩:=Zac ho4;generalize Za2 qs (x,Value.slice na x.near.length nc)=qn at *;obtain⟨TT,hTT⟩:∃ T,T=ZaE (fsts qs) (x,Value.slice na x.near.length nc).1:=⟨_,rfl⟩;rw [<-hTT] at HIN;have HI:=hide HIN;have HC4:=hide hc4;have HG4:=hide G4;clear HIN hst hok4 ho4 hc4 hg4 G4 OW4 OW3 G3 C3 HST HQL htq hfl hq hTT;unfold recC at *
   go_wp2_with fail
   refine HI.out.mono ?_
   rintro e w5 ⟨x5,rfl,o5,b5⟩;obtain⟨x5a,x5c,rfl⟩:=Zac o5.row;have O5:=hide o5;have C5:=hide (HC4.out.grown (Zb2 b5) (fun b _=>by simp))
   have G5:=hide (ZcY HG4.out (Zb2 b5) (fun k e=>by cases e))
   clear o5 b5 HC4 HG4 HI
   go_wp2
   go_roundw
   case rel=>exact ⟨k+1,qn,_,by omega,by go_num,rfl,HLn,HN,O5.out,C5.out,G5.out⟩
   case measure=>simp [intOf];omega
  ·go_wp2
   go_ret
   first
    | exact ⟨_,qs,rfl,OW3.out,HST.out,by have:=HQL.out;omega,C3.out,G3.out⟩
    | exact ⟨_,rfl,qs,OW3.out,HST.out,by have:=HQL.out;omega,C3.out,G3.out⟩
end Go.Proofs.YtcimbiinljcifaaGreat
