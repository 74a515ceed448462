/-
  InstS
-/
import Derived.Test.YtcimbiinljcifaaGreatLn9
import Derived.Test.YtcimbiinljcifaaGreatLn10
import Derived.Test.YtcimbiinljcifaaGreatLn3
namespace Go.Proofs.YtcimbiinljcifaaGreat
open Go.RowKit
set_option linter.unusedSimpArgs false
set_option linter.unusedVariables false
set_option maxRecDepth 100000
set_option maxHeartbeats 8000000
def ZaE (xs:List RecD)(r:RecD):Bool:=Zas r&&(if atZ xs r<0 then decide (xs.length<150) else decide ((xs.getD (atZ xs r).toNat Zbe).seq<r.seq))
def Za2 (ps:List RP)(r:RP):List RP:=if ZaE (fsts ps) r.1 then putL ps r else ps
theorem ZfX {ps:List RP}{k:Nat}{y:RecD}(h:(fsts ps)[k]? = some y):∃ p,ps[k]? = some p/\p.1=y:=by
 simp [fsts] at h
 obtain⟨v,hv⟩:=h;exact⟨(y,v),hv,rfl⟩
theorem ZhM {xs:List RecD}{r:RecD}(h:Zas r=false):ZaE xs r=false:=by unfold ZaE;rw [h];rfl
theorem ZcP {xs:List RecD}{r:RecD}(h:Zas r=true)(hz:atZ xs r = -1):ZaE xs r=decide (xs.length<150):=by unfold ZaE;rw [h,hz];rfl
theorem Zeb {xs:List RecD}{r y:RecD}{k:Nat}(h:Zas r=true)(hz:atZ xs r=(k:Int))(hy:xs[k]? = some y):ZaE xs r=decide (y.seq<r.seq):=by
 unfold ZaE;rw [h,hz,if_neg (by omega)]
 simp [hy]
theorem Ze9 {ps:List RP}{r:RP}(h:ZaE (fsts ps) r.1=false):Za2 ps r=ps:=by unfold Za2;rw [h];rfl
theorem ZiO {ps:List RP}{r:RP}(h:ZaE (fsts ps) r.1=true):Za2 ps r=putL ps r:=by unfold Za2;rw [h];rfl
theorem Zfs {x:Value}{a b:Bool}(h:b=a):Ending.returned (.tuple #[x,.bool a])=.returned (.tuple #[x,.bool b]):=by rw [h]
theorem Zge (v:Value)(ps:List RP)(hi:Nat)(r:RP)(w:World)(hv:RecsIn w hi v ps)(hhi:hi<=w.heap.size)(hn:tot ps<=1048576)(hr:Zat w 0 hi r)(hrl:r.1.near.length<=1048576):
  Calls Tryz.prog 32 #[v,.agg (recC r.1 r.2)] w fun e w'=>∃ x,e=.returned (.tuple #[x,.bool (ZaE (fsts ps) r.1)])/\RecsIn w' w'.heap.size x (Za2 ps r)/\Below w.heap.size w w'/\∀ k,x.ownBlock=some k->v.ownBlock=some k\/w.heap.size<=k:=by
 obtain⟨TT,hTT⟩:∃ T,T=ZaE (fsts ps) r.1:=⟨_,rfl⟩;obtain⟨LL,hLL⟩:∃ L,L=Za2 ps r:=⟨_,rfl⟩;rw [<-hTT, <-hLL];have HT0:=hide hTT;have HL0:=hide hLL;clear hTT hLL;have hnl:=Za3 ps;have hfl:(fsts ps).length=ps.length:=by simp [fsts]
 obtain⟨a1,c1,rfl⟩:=Zac hv.row;obtain⟨ra,rc,hrn⟩:=Zac hr.1;have BX:Below w.heap.size w (w.alloc (.cells #[.int .i64 r.1.area,.int .i64 r.1.kind,.int .i64 r.1.owner,.int .i64 r.1.key,.int .i64 r.1.seq,.slice ra r.1.near.length rc,.int .i64 r.1.cost,.bool r.1.far] 40)):=(Below.refl _ _).alloc (Nat.le_refl _) _;have hx:=heap_alloc_new w (.cells #[.int .i64 r.1.area,.int .i64 r.1.kind,.int .i64 r.1.owner,.int .i64 r.1.key,.int .i64 r.1.seq,.slice ra r.1.near.length rc,.int .i64 r.1.cost,.bool r.1.far] 40);obtain⟨w0,hw0⟩:∃ w0,w0=w.alloc (.cells #[.int .i64 r.1.area,.int .i64 r.1.kind,.int .i64 r.1.owner,.int .i64 r.1.key,.int .i64 r.1.seq,.slice ra r.1.near.length rc,.int .i64 r.1.cost,.bool r.1.far] 40):=⟨_,rfl⟩;rw [<-hw0] at BX hx;have hsx:=Zab hx;have HAT:=hide (Zi1 (.slice a1 ps.length c1) ps hi r w0 (hv.below BX hhi) (by omega) hn)
 have HOK:=hide (fun W (hb:Below w.heap.size w W)=>Zgh r.2 r.1 W hrl (ZaT.then (Zaq hr.1) hb))
 have HPUT:=hide (fun W (hb:Below w.heap.size w W)=>ZiX (.slice a1 ps.length c1) ps hi r W (hv.below hb hhi) (by have:=hb.size;omega) hn (hr.keep (fun j _ h2 _=>hb.block j (by omega))))
 have HV:=hide hv;unfold recC at *;rw [hrn] at HAT HOK HPUT |-;clear hv hr hrn;have main:∀ (z:Int),atZ (fsts ps) r.1=z->True:=fun _ _=>trivial
 clear main;by_cases hok:Zas r.1=false
 ·rw [hok] at HOK
  have HF:=hide (ZhM (xs:=fsts ps) hok);generalize atZ (fsts ps) r.1=z at *;clear hok
  go_enter Tryz.func32,Tryz.ntmps32
  go_wp2_with fail
  rw [<-hw0];clear hw0;refine HAT.out.mono ?_
  rintro e wa ⟨rfl,ba⟩;have bas:=ba.size;have BWA:Below w.heap.size w wa:=BX.trans (ba.mono (by omega))
  have hx1:=(ba.block _ hsx).trans hx;have d0:=Zaa hx1 0;have d1:=Zaa hx1 1;have d2:=Zaa hx1 2;have d3:=Zaa hx1 3;have d4:=Zaa hx1 4;have d5:=Zaa hx1 5;have d6:=Zaa hx1 6;have d7:=Zaa hx1 7;simp at d0 d1 d2 d3 d4 d5 d6 d7
  have hwl:w.heap.size<wa.heap.size:=by omega
  have hnd:Below w.heap.size w wa.drew:=BWA.drew;clear ba HAT hx
  go_wp2
  refine Zai (S:=(fun W=>W.cell? ⟨w.heap.size,0,none⟩=some (.int .i64 r.1.area)/\W.cell? ⟨w.heap.size,1,none⟩=some (.int .i64 r.1.kind)/\W.cell? ⟨w.heap.size,2,none⟩=some (.int .i64 r.1.owner)/\W.cell? ⟨w.heap.size,3,none⟩=some (.int .i64 r.1.key)/\W.cell? ⟨w.heap.size,4,none⟩=some (.int .i64 r.1.seq)/\W.cell? ⟨w.heap.size,5,none⟩=some (.slice ra r.1.near.length rc)/\W.cell? ⟨w.heap.size,6,none⟩=some (.int .i64 r.1.cost)/\W.cell? ⟨w.heap.size,7,none⟩=some (.bool r.1.far))) (by kernel_rfl) 26 rfl ⟨d0,d1,d2,d3,d4,d5,d6,d7⟩ (fun ops hops hHeld=>?_)
  refine Zay 0 ?_ ?_ ?_ (by rw [hops.out];kernel_rfl) ?_ ?_ (by assumption) ?_
  rotate_left 2
  ·rw [hops.out];simp only [getS];rfl
  ·intro W hW;(try dsimp only at hW);go_simp <;> with_reducible rfl
  ·exact fun _ _ _=>id
  try simp only [putS]
  refine Zap 1 (oi:=?_) ?_ (by rw [hops.out];kernel_rfl) ?_ ?_
  rotate_left 1
  ·rw [hops.out];simp only [getS];rfl
  ·rw [hops.out];kernel_rfl
  intro K hK
  go_simp
  refine (HOK.out _ hnd).mono ?_
  rintro e w1 ⟨rfl,b1⟩;have hSn:_/\_:=(show ((fun W=>W.cell? ⟨w.heap.size,0,none⟩=some (.int .i64 r.1.area)/\W.cell? ⟨w.heap.size,1,none⟩=some (.int .i64 r.1.kind)/\W.cell? ⟨w.heap.size,2,none⟩=some (.int .i64 r.1.owner)/\W.cell? ⟨w.heap.size,3,none⟩=some (.int .i64 r.1.key)/\W.cell? ⟨w.heap.size,4,none⟩=some (.int .i64 r.1.seq)/\W.cell? ⟨w.heap.size,5,none⟩=some (.slice ra r.1.near.length rc)/\W.cell? ⟨w.heap.size,6,none⟩=some (.int .i64 r.1.cost)/\W.cell? ⟨w.heap.size,7,none⟩=some (.bool r.1.far))) w1 from by
   obtain⟨m0,m1,m2,m3,m4,m5,m6,m7⟩:=hHeld;refine⟨?_,?_,?_,?_,?_,?_,?_,?_⟩ <;> (refine (b1.cell ?_).trans ?_ <;> assumption))
  refine hK.out _ _ hSn (fun hHeld=>?_)
  clear hK K hSn
  try simp only [putS]
  iterate 2
   refine Zao 26 ?_ ?_ ?_ (by rw [hops.out];kernel_rfl) ?_ ?_ (by assumption) ?_
   rotate_left 2
   ·rw [hops.out];simp only [getS,Nat.reduceSub,Nat.reduceAdd];rfl
   ·intro W hW;(try dsimp only at hW);go_simp <;> with_reducible rfl
   ·exact fun _ _ _=>id
   try simp only [putS]
  refine Zad 4 14 (by rw [hops.out];kernel_rfl) (fun _ _ _ h=>h) (by assumption) ?_
  try simp only [putS]
  refine Zad 5 15 (by rw [hops.out];kernel_rfl) (fun _ _ _ h=>h) (by assumption) ?_
  try simp only [putS]
  refine Zad 6 16 (by rw [hops.out];kernel_rfl) (fun _ _ _ h=>h) (by assumption) ?_
  try simp only [putS]
  refine Zad 7 17 (by rw [hops.out];kernel_rfl) (fun _ _ _ h=>h) (by assumption) ?_
  try simp only [putS]
  refine Zad 8 18 (by rw [hops.out];kernel_rfl) (fun _ _ _ h=>h) (by assumption) ?_
  try simp only [putS]
  refine Zad 9 19 (by rw [hops.out];kernel_rfl) (fun _ _ _ h=>h) (by assumption) ?_
  try simp only [putS]
  refine Zad 10 20 (by rw [hops.out];kernel_rfl) (fun _ _ _ h=>h) (by assumption) ?_
  try simp only [putS]
  refine Zad 11 21 (by rw [hops.out];kernel_rfl) (fun _ _ _ h=>h) (by assumption) ?_
  try simp only [putS]
  refine Zad 12 22 (by rw [hops.out];kernel_rfl) (fun _ _ _ h=>h) (by assumption) ?_
  try simp only [putS]
  refine Zad 13 23 (by rw [hops.out];kernel_rfl) (fun _ _ _ h=>h) (by assumption) ?_
  try simp only [putS]
  refine Zad 14 24 (by rw [hops.out];kernel_rfl) (fun _ _ _ h=>h) (by assumption) ?_
  try simp only [putS]
  refine Zad 15 25 (by rw [hops.out];kernel_rfl) (fun _ _ _ h=>h) (by assumption) ?_
  try simp only [putS]
  iterate 2
   refine Zao 26 ?_ ?_ ?_ (by rw [hops.out];kernel_rfl) ?_ ?_ (by assumption) ?_
   rotate_left 2
   ·rw [hops.out];simp only [getS,Nat.reduceSub,Nat.reduceAdd];rfl
   ·intro W hW;(try dsimp only at hW);go_simp <;> with_reducible rfl
   ·exact fun _ _ _=>id
   try simp only [putS]
  refine Zad 18 28 (by rw [hops.out];kernel_rfl) (fun _ _ _ h=>h) (by assumption) ?_
  try simp only [putS]
  refine Zad 19 29 (by rw [hops.out];kernel_rfl) (fun _ _ _ h=>h) (by assumption) ?_
  try simp only [putS]
  refine Zad 20 30 (by rw [hops.out];kernel_rfl) (fun _ _ _ h=>h) (by assumption) ?_
  try simp only [putS]
  refine Zad 21 31 (by rw [hops.out];kernel_rfl) (fun _ _ _ h=>h) (by assumption) ?_
  try simp only [putS]
  refine Zad 22 32 (by rw [hops.out];kernel_rfl) (fun _ _ _ h=>h) (by assumption) ?_
  try simp only [putS]
  refine Zad 23 33 (by rw [hops.out];kernel_rfl) (fun _ _ _ h=>h) (by assumption) ?_
  try simp only [putS]
  refine Zad 24 34 (by rw [hops.out];kernel_rfl) (fun _ _ _ h=>h) (by assumption) ?_
  try simp only [putS]
  refine Zay 25 ?_ ?_ ?_ (by rw [hops.out];kernel_rfl) ?_ ?_ (by assumption) ?_
  rotate_left 2
  ·rw [hops.out];simp only [getS];rfl
  ·intro W hW;(try dsimp only at hW);go_simp <;> with_reducible rfl
  ·exact fun _ _ _=>id
  try simp only [putS]
  refine wpAnyH_done (by rw [hops.out];kernel_rfl) ?_ _
  clear hops ops;have BW2:Below w.heap.size w w1:=hnd.trans (b1.mono (by have:wa.drew.heap.size=wa.heap.size:=rfl;omega))
  go_wp2
  go_returns
  exact⟨_,Zfs (HT0.out.trans HF.out),by rw [HL0.out,Ze9 HF.out];exact (HV.out.below BW2 hhi).wide (by have:=BW2.size;omega),BW2,fun k hk=>.inl hk⟩
 have hok:Zas r.1=true:=by cases h:Zas r.1 with | true=>rfl | false=>exact absurd h hok
 rw [hok] at HOK
 rcases ZbP (fsts ps) r.1 with hz | ⟨j,y,hz,hy,_⟩
 ·rw [hz] at HAT
  have ht:=ZcP hok hz;by_cases hfull:(fsts ps).length<150
  ·have HF:=hide (show ZaE (fsts ps) r.1=true by rw [ht];exact decide_eq_true hfull)
   have hf2:¬(150:Int)<=(ps.length:Int):=by omega
   clear ht hz hfull hfl hok
   go_enter Tryz.func32,Tryz.ntmps32
   go_wp2_with fail
   rw [<-hw0];clear hw0;refine HAT.out.mono ?_
   rintro e wa ⟨rfl,ba⟩;have bas:=ba.size;have BWA:Below w.heap.size w wa:=BX.trans (ba.mono (by omega))
   have hx1:=(ba.block _ hsx).trans hx;have d0:=Zaa hx1 0;have d1:=Zaa hx1 1;have d2:=Zaa hx1 2;have d3:=Zaa hx1 3;have d4:=Zaa hx1 4;have d5:=Zaa hx1 5;have d6:=Zaa hx1 6;have d7:=Zaa hx1 7;simp at d0 d1 d2 d3 d4 d5 d6 d7
   have hwl:w.heap.size<wa.heap.size:=by omega
   have hnd:Below w.heap.size w wa.drew:=BWA.drew;clear ba HAT hx
   go_wp2
   refine Zai (S:=(fun W=>W.cell? ⟨w.heap.size,0,none⟩=some (.int .i64 r.1.area)/\W.cell? ⟨w.heap.size,1,none⟩=some (.int .i64 r.1.kind)/\W.cell? ⟨w.heap.size,2,none⟩=some (.int .i64 r.1.owner)/\W.cell? ⟨w.heap.size,3,none⟩=some (.int .i64 r.1.key)/\W.cell? ⟨w.heap.size,4,none⟩=some (.int .i64 r.1.seq)/\W.cell? ⟨w.heap.size,5,none⟩=some (.slice ra r.1.near.length rc)/\W.cell? ⟨w.heap.size,6,none⟩=some (.int .i64 r.1.cost)/\W.cell? ⟨w.heap.size,7,none⟩=some (.bool r.1.far))) (by kernel_rfl) 26 rfl ⟨d0,d1,d2,d3,d4,d5,d6,d7⟩ (fun ops hops hHeld=>?_)
   refine Zay 0 ?_ ?_ ?_ (by rw [hops.out];kernel_rfl) ?_ ?_ (by assumption) ?_
   rotate_left 2
   ·rw [hops.out];simp only [getS];rfl
   ·intro W hW;(try dsimp only at hW);go_simp <;> with_reducible rfl
   ·exact fun _ _ _=>id
   try simp only [putS]
   refine Zap 1 (oi:=?_) ?_ (by rw [hops.out];kernel_rfl) ?_ ?_
   rotate_left 1
   ·rw [hops.out];simp only [getS];rfl
   ·rw [hops.out];kernel_rfl
   intro K hK
   go_simp
   refine (HOK.out _ hnd).mono ?_
   rintro e w1 ⟨rfl,b1⟩;have hSn:_/\_:=(show ((fun W=>W.cell? ⟨w.heap.size,0,none⟩=some (.int .i64 r.1.area)/\W.cell? ⟨w.heap.size,1,none⟩=some (.int .i64 r.1.kind)/\W.cell? ⟨w.heap.size,2,none⟩=some (.int .i64 r.1.owner)/\W.cell? ⟨w.heap.size,3,none⟩=some (.int .i64 r.1.key)/\W.cell? ⟨w.heap.size,4,none⟩=some (.int .i64 r.1.seq)/\W.cell? ⟨w.heap.size,5,none⟩=some (.slice ra r.1.near.length rc)/\W.cell? ⟨w.heap.size,6,none⟩=some (.int .i64 r.1.cost)/\W.cell? ⟨w.heap.size,7,none⟩=some (.bool r.1.far))) w1 from by
    obtain⟨m0,m1,m2,m3,m4,m5,m6,m7⟩:=hHeld;refine⟨?_,?_,?_,?_,?_,?_,?_,?_⟩ <;> (refine (b1.cell ?_).trans ?_ <;> assumption))
   refine hK.out _ _ hSn (fun hHeld=>?_)
   clear hK K hSn
   try simp only [putS]
   iterate 3
    refine Zao 26 ?_ ?_ ?_ (by rw [hops.out];kernel_rfl) ?_ ?_ (by assumption) ?_
    rotate_left 2
    ·rw [hops.out];simp only [getS,Nat.reduceSub,Nat.reduceAdd];rfl
    ·intro W hW;(try dsimp only at hW);go_simp <;> with_reducible rfl
    ·exact fun _ _ _=>id
    try simp only [putS]
   refine Zaz 5 (oi:=?_) (v:=.bool false) ?_ (by rw [hops.out];kernel_rfl) ?_ ?_ ?_ (by assumption) ?_
   rotate_left 1
   ·rw [hops.out];simp only [getS];rfl
   ·rw [hops.out];kernel_rfl
   ·intro W hW;(try dsimp only at hW);go_simp <;> (first | with_reducible rfl | (simp;omega) | omega)
   ·exact fun _ _ _=>id
   try simp only [putS]
   refine Zay 6 ?_ ?_ ?_ (by rw [hops.out];kernel_rfl) ?_ ?_ (by assumption) ?_
   rotate_left 2
   ·rw [hops.out];simp only [getS];rfl
   ·intro W hW;(try dsimp only at hW);go_simp <;> with_reducible rfl
   ·exact fun _ _ _=>id
   try simp only [putS]
   refine Zad 7 17 (by rw [hops.out];kernel_rfl) (fun _ _ _ h=>h) (by assumption) ?_
   try simp only [putS]
   refine Zad 8 18 (by rw [hops.out];kernel_rfl) (fun _ _ _ h=>h) (by assumption) ?_
   try simp only [putS]
   refine Zad 9 19 (by rw [hops.out];kernel_rfl) (fun _ _ _ h=>h) (by assumption) ?_
   try simp only [putS]
   refine Zad 10 20 (by rw [hops.out];kernel_rfl) (fun _ _ _ h=>h) (by assumption) ?_
   try simp only [putS]
   refine Zad 11 21 (by rw [hops.out];kernel_rfl) (fun _ _ _ h=>h) (by assumption) ?_
   try simp only [putS]
   refine Zad 12 22 (by rw [hops.out];kernel_rfl) (fun _ _ _ h=>h) (by assumption) ?_
   try simp only [putS]
   refine Zad 13 23 (by rw [hops.out];kernel_rfl) (fun _ _ _ h=>h) (by assumption) ?_
   try simp only [putS]
   refine Zad 14 24 (by rw [hops.out];kernel_rfl) (fun _ _ _ h=>h) (by assumption) ?_
   try simp only [putS]
   iterate 4
    refine Zao 26 ?_ ?_ ?_ (by rw [hops.out];kernel_rfl) ?_ ?_ (by assumption) ?_
    rotate_left 2
    ·rw [hops.out];simp only [getS,Nat.reduceSub,Nat.reduceAdd];rfl
    ·intro W hW;(try dsimp only at hW);go_simp <;> with_reducible rfl
    ·exact fun _ _ _=>id
    try simp only [putS]
   refine Zaz 19 (oi:=?_) (v:=.bool true) ?_ (by rw [hops.out];kernel_rfl) ?_ ?_ ?_ (by assumption) ?_
   rotate_left 1
   ·rw [hops.out];simp only [getS];rfl
   ·rw [hops.out];kernel_rfl
   ·intro W hW;(try dsimp only at hW);go_simp <;> (first | with_reducible rfl | (simp;omega) | omega)
   ·exact fun _ _ _=>id
   try simp only [putS]
   iterate 3
    refine Zao 26 ?_ ?_ ?_ (by rw [hops.out];kernel_rfl) ?_ ?_ (by assumption) ?_
    rotate_left 2
    ·rw [hops.out];simp only [getS,Nat.reduceSub,Nat.reduceAdd];rfl
    ·intro W hW;(try dsimp only at hW);go_simp <;> with_reducible rfl
    ·exact fun _ _ _=>id
    try simp only [putS]
   refine Zaz 23 (oi:=?_) (v:=.bool false) ?_ (by rw [hops.out];kernel_rfl) ?_ ?_ ?_ (by assumption) ?_
   rotate_left 1
   ·rw [hops.out];simp only [getS];rfl
   ·rw [hops.out];kernel_rfl
   ·intro W hW;(try dsimp only at hW);go_simp <;> (first | with_reducible rfl | (simp;omega) | omega)
   ·exact fun _ _ _=>id
   try simp only [putS]
   iterate 2
    refine Zao 26 ?_ ?_ ?_ (by rw [hops.out];kernel_rfl) ?_ ?_ (by assumption) ?_
    rotate_left 2
    ·rw [hops.out];simp only [getS,Nat.reduceSub,Nat.reduceAdd];rfl
    ·intro W hW;(try dsimp only at hW);go_simp <;> with_reducible rfl
    ·exact fun _ _ _=>id
    try simp only [putS]
   refine wpAnyH_done (by rw [hops.out];kernel_rfl) ?_ _
   clear hops ops;have BW2:Below w.heap.size w w1:=hnd.trans (b1.mono (by have:wa.drew.heap.size=wa.heap.size:=rfl;omega))
   have hx2:=(b1.block _ (Zab hx1)).trans hx1;have n0:=Zaa hx2 0;have n1:=Zaa hx2 1;have n2:=Zaa hx2 2;have n3:=Zaa hx2 3;have n4:=Zaa hx2 4;have n5:=Zaa hx2 5;have n6:=Zaa hx2 6;have n7:=Zaa hx2 7;simp at n0 n1 n2 n3 n4 n5 n6 n7
   go_wp2_with fail
   refine (HPUT.out _ BW2).mono ?_
   rintro e w3 ⟨u,rfl,hu,b3,hnw⟩;obtain⟨u1,u2,rfl⟩:=Zac hu.row;have HU:=hide hu;have HNW:=hide hnw;clear hu hnw
   go_wp2
   go_returns
   exact⟨_,Zfs (HT0.out.trans HF.out),by rw [HL0.out,ZiO HF.out];exact HU.out,BW2.trans (b3.mono BW2.size),fun k hk=>.inr (by have:=HNW.out k hk;have:=BW2.size;omega)⟩
  ·have HF:=hide (show ZaE (fsts ps) r.1=false by rw [ht];exact decide_eq_false hfull)
   have hf2:(150:Int)<=(ps.length:Int):=by omega
   clear ht hz hfull hfl hok
   go_enter Tryz.func32,Tryz.ntmps32
   go_wp2_with fail
   rw [<-hw0];clear hw0;refine HAT.out.mono ?_
   rintro e wa ⟨rfl,ba⟩;have bas:=ba.size;have BWA:Below w.heap.size w wa:=BX.trans (ba.mono (by omega))
   have hx1:=(ba.block _ hsx).trans hx;have d0:=Zaa hx1 0;have d1:=Zaa hx1 1;have d2:=Zaa hx1 2;have d3:=Zaa hx1 3;have d4:=Zaa hx1 4;have d5:=Zaa hx1 5;have d6:=Zaa hx1 6;have d7:=Zaa hx1 7;simp at d0 d1 d2 d3 d4 d5 d6 d7
   have hwl:w.heap.size<wa.heap.size:=by omega
   have hnd:Below w.heap.size w wa.drew:=BWA.drew;clear ba HAT hx
   go_wp2
   refine Zai (S:=(fun W=>W.cell? ⟨w.heap.size,0,none⟩=some (.int .i64 r.1.area)/\W.cell? ⟨w.heap.size,1,none⟩=some (.int .i64 r.1.kind)/\W.cell? ⟨w.heap.size,2,none⟩=some (.int .i64 r.1.owner)/\W.cell? ⟨w.heap.size,3,none⟩=some (.int .i64 r.1.key)/\W.cell? ⟨w.heap.size,4,none⟩=some (.int .i64 r.1.seq)/\W.cell? ⟨w.heap.size,5,none⟩=some (.slice ra r.1.near.length rc)/\W.cell? ⟨w.heap.size,6,none⟩=some (.int .i64 r.1.cost)/\W.cell? ⟨w.heap.size,7,none⟩=some (.bool r.1.far))) (by kernel_rfl) 26 rfl ⟨d0,d1,d2,d3,d4,d5,d6,d7⟩ (fun ops hops hHeld=>?_)
   refine Zay 0 ?_ ?_ ?_ (by rw [hops.out];kernel_rfl) ?_ ?_ (by assumption) ?_
   rotate_left 2
   ·rw [hops.out];simp only [getS];rfl
   ·intro W hW;(try dsimp only at hW);go_simp <;> with_reducible rfl
   ·exact fun _ _ _=>id
   try simp only [putS]
   refine Zap 1 (oi:=?_) ?_ (by rw [hops.out];kernel_rfl) ?_ ?_
   rotate_left 1
   ·rw [hops.out];simp only [getS];rfl
   ·rw [hops.out];kernel_rfl
   intro K hK
   go_simp
   refine (HOK.out _ hnd).mono ?_
   rintro e w1 ⟨rfl,b1⟩;have hSn:_/\_:=(show ((fun W=>W.cell? ⟨w.heap.size,0,none⟩=some (.int .i64 r.1.area)/\W.cell? ⟨w.heap.size,1,none⟩=some (.int .i64 r.1.kind)/\W.cell? ⟨w.heap.size,2,none⟩=some (.int .i64 r.1.owner)/\W.cell? ⟨w.heap.size,3,none⟩=some (.int .i64 r.1.key)/\W.cell? ⟨w.heap.size,4,none⟩=some (.int .i64 r.1.seq)/\W.cell? ⟨w.heap.size,5,none⟩=some (.slice ra r.1.near.length rc)/\W.cell? ⟨w.heap.size,6,none⟩=some (.int .i64 r.1.cost)/\W.cell? ⟨w.heap.size,7,none⟩=some (.bool r.1.far))) w1 from by
    obtain⟨m0,m1,m2,m3,m4,m5,m6,m7⟩:=hHeld;refine⟨?_,?_,?_,?_,?_,?_,?_,?_⟩ <;> (refine (b1.cell ?_).trans ?_ <;> assumption))
   refine hK.out _ _ hSn (fun hHeld=>?_)
   clear hK K hSn
   try simp only [putS]
   iterate 3
    refine Zao 26 ?_ ?_ ?_ (by rw [hops.out];kernel_rfl) ?_ ?_ (by assumption) ?_
    rotate_left 2
    ·rw [hops.out];simp only [getS,Nat.reduceSub,Nat.reduceAdd];rfl
    ·intro W hW;(try dsimp only at hW);go_simp <;> with_reducible rfl
    ·exact fun _ _ _=>id
    try simp only [putS]
   refine Zaz 5 (oi:=?_) (v:=.bool false) ?_ (by rw [hops.out];kernel_rfl) ?_ ?_ ?_ (by assumption) ?_
   rotate_left 1
   ·rw [hops.out];simp only [getS];rfl
   ·rw [hops.out];kernel_rfl
   ·intro W hW;(try dsimp only at hW);go_simp <;> (first | with_reducible rfl | (simp;omega) | omega)
   ·exact fun _ _ _=>id
   try simp only [putS]
   refine Zay 6 ?_ ?_ ?_ (by rw [hops.out];kernel_rfl) ?_ ?_ (by assumption) ?_
   rotate_left 2
   ·rw [hops.out];simp only [getS];rfl
   ·intro W hW;(try dsimp only at hW);go_simp <;> with_reducible rfl
   ·exact fun _ _ _=>id
   try simp only [putS]
   refine Zad 7 17 (by rw [hops.out];kernel_rfl) (fun _ _ _ h=>h) (by assumption) ?_
   try simp only [putS]
   refine Zad 8 18 (by rw [hops.out];kernel_rfl) (fun _ _ _ h=>h) (by assumption) ?_
   try simp only [putS]
   refine Zad 9 19 (by rw [hops.out];kernel_rfl) (fun _ _ _ h=>h) (by assumption) ?_
   try simp only [putS]
   refine Zad 10 20 (by rw [hops.out];kernel_rfl) (fun _ _ _ h=>h) (by assumption) ?_
   try simp only [putS]
   refine Zad 11 21 (by rw [hops.out];kernel_rfl) (fun _ _ _ h=>h) (by assumption) ?_
   try simp only [putS]
   refine Zad 12 22 (by rw [hops.out];kernel_rfl) (fun _ _ _ h=>h) (by assumption) ?_
   try simp only [putS]
   refine Zad 13 23 (by rw [hops.out];kernel_rfl) (fun _ _ _ h=>h) (by assumption) ?_
   try simp only [putS]
   refine Zad 14 24 (by rw [hops.out];kernel_rfl) (fun _ _ _ h=>h) (by assumption) ?_
   try simp only [putS]
   iterate 4
    refine Zao 26 ?_ ?_ ?_ (by rw [hops.out];kernel_rfl) ?_ ?_ (by assumption) ?_
    rotate_left 2
    ·rw [hops.out];simp only [getS,Nat.reduceSub,Nat.reduceAdd];rfl
    ·intro W hW;(try dsimp only at hW);go_simp <;> with_reducible rfl
    ·exact fun _ _ _=>id
    try simp only [putS]
   refine Zaz 19 (oi:=?_) (v:=.bool true) ?_ (by rw [hops.out];kernel_rfl) ?_ ?_ ?_ (by assumption) ?_
   rotate_left 1
   ·rw [hops.out];simp only [getS];rfl
   ·rw [hops.out];kernel_rfl
   ·intro W hW;(try dsimp only at hW);go_simp <;> (first | with_reducible rfl | (simp;omega) | omega)
   ·exact fun _ _ _=>id
   try simp only [putS]
   iterate 3
    refine Zao 26 ?_ ?_ ?_ (by rw [hops.out];kernel_rfl) ?_ ?_ (by assumption) ?_
    rotate_left 2
    ·rw [hops.out];simp only [getS,Nat.reduceSub,Nat.reduceAdd];rfl
    ·intro W hW;(try dsimp only at hW);go_simp <;> with_reducible rfl
    ·exact fun _ _ _=>id
    try simp only [putS]
   refine Zaz 23 (oi:=?_) (v:=.bool true) ?_ (by rw [hops.out];kernel_rfl) ?_ ?_ ?_ (by assumption) ?_
   rotate_left 1
   ·rw [hops.out];simp only [getS];rfl
   ·rw [hops.out];kernel_rfl
   ·intro W hW;(try dsimp only at hW);go_simp <;> (first | with_reducible rfl | (simp;omega) | omega)
   ·exact fun _ _ _=>id
   try simp only [putS]
   iterate 2
    refine Zao 26 ?_ ?_ ?_ (by rw [hops.out];kernel_rfl) ?_ ?_ (by assumption) ?_
    rotate_left 2
    ·rw [hops.out];simp only [getS,Nat.reduceSub,Nat.reduceAdd];rfl
    ·intro W hW;(try dsimp only at hW);go_simp <;> with_reducible rfl
    ·exact fun _ _ _=>id
    try simp only [putS]
   refine wpAnyH_done (by rw [hops.out];kernel_rfl) ?_ _
   clear hops ops;have BW2:Below w.heap.size w w1:=hnd.trans (b1.mono (by have:wa.drew.heap.size=wa.heap.size:=rfl;omega))
   go_wp2
   go_returns
   exact⟨_,Zfs (HT0.out.trans HF.out),by rw [HL0.out,Ze9 HF.out];exact (HV.out.below BW2 hhi).wide (by have:=BW2.size;omega),BW2,fun k hk=>.inl hk⟩
 ·rw [hz] at HAT
  have ht:=Zeb hok hz hy;obtain⟨t,htj,hty⟩:=ZfX hy;have hjl:j<ps.length:=(List.getElem?_eq_some_iff.1 htj).1;have hji:(0:Int)<=(j:Int):=by omega
  have hjj:(j:Int)<(ps.length:Int):=by omega
  have hj0:¬(j:Int)<0:=by omega
  obtain⟨b,off,cp,hve,hbb,_,_,_,_,e4,_,_,_,_⟩:=HV.out.at.cells j t htj;cases hve
  rw [hty] at e4;have hbw:b<w.heap.size:=by omega
  clear hz hy htj hty hfl hok;by_cases hsq:y.seq<r.1.seq
  ·have HF:=hide (show ZaE (fsts ps) r.1=true by rw [ht];exact decide_eq_true hsq)
   have hs2:¬r.1.seq<=y.seq:=by omega
   clear ht
   go_enter Tryz.func32,Tryz.ntmps32
   go_wp2_with fail
   rw [<-hw0];clear hw0;refine HAT.out.mono ?_
   rintro e wa ⟨rfl,ba⟩;have bas:=ba.size;have BWA:Below w.heap.size w wa:=BX.trans (ba.mono (by omega))
   have hx1:=(ba.block _ hsx).trans hx;have d0:=Zaa hx1 0;have d1:=Zaa hx1 1;have d2:=Zaa hx1 2;have d3:=Zaa hx1 3;have d4:=Zaa hx1 4;have d5:=Zaa hx1 5;have d6:=Zaa hx1 6;have d7:=Zaa hx1 7;simp at d0 d1 d2 d3 d4 d5 d6 d7
   have hwl:w.heap.size<wa.heap.size:=by omega
   have hnd:Below w.heap.size w wa.drew:=BWA.drew;rw [<-BWA.cell (p:=⟨b,off+j*8+4,none⟩) hbw] at e4;have hbl:b<wa.heap.size:=by omega
   clear ba HAT hx
   go_wp2
   refine Zai (S:=(fun W=>W.cell? ⟨w.heap.size,0,none⟩=some (.int .i64 r.1.area)/\W.cell? ⟨w.heap.size,1,none⟩=some (.int .i64 r.1.kind)/\W.cell? ⟨w.heap.size,2,none⟩=some (.int .i64 r.1.owner)/\W.cell? ⟨w.heap.size,3,none⟩=some (.int .i64 r.1.key)/\W.cell? ⟨w.heap.size,4,none⟩=some (.int .i64 r.1.seq)/\W.cell? ⟨w.heap.size,5,none⟩=some (.slice ra r.1.near.length rc)/\W.cell? ⟨w.heap.size,6,none⟩=some (.int .i64 r.1.cost)/\W.cell? ⟨w.heap.size,7,none⟩=some (.bool r.1.far)/\W.cell? ⟨b,off+j*8+4,none⟩=some (.int .i64 y.seq))) (by kernel_rfl) 26 rfl ⟨d0,d1,d2,d3,d4,d5,d6,d7,e4⟩ (fun ops hops hHeld=>?_)
   refine Zay 0 ?_ ?_ ?_ (by rw [hops.out];kernel_rfl) ?_ ?_ (by assumption) ?_
   rotate_left 2
   ·rw [hops.out];simp only [getS];rfl
   ·intro W hW;(try dsimp only at hW);go_simp <;> with_reducible rfl
   ·exact fun _ _ _=>id
   try simp only [putS]
   refine Zap 1 (oi:=?_) ?_ (by rw [hops.out];kernel_rfl) ?_ ?_
   rotate_left 1
   ·rw [hops.out];simp only [getS];rfl
   ·rw [hops.out];kernel_rfl
   intro K hK
   go_simp
   refine (HOK.out _ hnd).mono ?_
   rintro e w1 ⟨rfl,b1⟩;have hSn:_/\_:=(show ((fun W=>W.cell? ⟨w.heap.size,0,none⟩=some (.int .i64 r.1.area)/\W.cell? ⟨w.heap.size,1,none⟩=some (.int .i64 r.1.kind)/\W.cell? ⟨w.heap.size,2,none⟩=some (.int .i64 r.1.owner)/\W.cell? ⟨w.heap.size,3,none⟩=some (.int .i64 r.1.key)/\W.cell? ⟨w.heap.size,4,none⟩=some (.int .i64 r.1.seq)/\W.cell? ⟨w.heap.size,5,none⟩=some (.slice ra r.1.near.length rc)/\W.cell? ⟨w.heap.size,6,none⟩=some (.int .i64 r.1.cost)/\W.cell? ⟨w.heap.size,7,none⟩=some (.bool r.1.far)/\W.cell? ⟨b,off+j*8+4,none⟩=some (.int .i64 y.seq))) w1 from by
    obtain⟨m0,m1,m2,m3,m4,m5,m6,m7,m8⟩:=hHeld;refine⟨?_,?_,?_,?_,?_,?_,?_,?_,?_⟩ <;> (refine (b1.cell ?_).trans ?_ <;> assumption))
   refine hK.out _ _ hSn (fun hHeld=>?_)
   clear hK K hSn
   try simp only [putS]
   iterate 3
    refine Zao 26 ?_ ?_ ?_ (by rw [hops.out];kernel_rfl) ?_ ?_ (by assumption) ?_
    rotate_left 2
    ·rw [hops.out];simp only [getS,Nat.reduceSub,Nat.reduceAdd];rfl
    ·intro W hW;(try dsimp only at hW);go_simp <;> with_reducible rfl
    ·exact fun _ _ _=>id
    try simp only [putS]
   refine Zaz 5 (oi:=?_) (v:=.bool true) ?_ (by rw [hops.out];kernel_rfl) ?_ ?_ ?_ (by assumption) ?_
   rotate_left 1
   ·rw [hops.out];simp only [getS];rfl
   ·rw [hops.out];kernel_rfl
   ·intro W hW;(try dsimp only at hW);go_simp <;> (first | with_reducible rfl | (simp;omega) | omega)
   ·exact fun _ _ _=>id
   try simp only [putS]
   iterate 8
    refine Zao 26 ?_ ?_ ?_ (by rw [hops.out];kernel_rfl) ?_ ?_ (by assumption) ?_
    rotate_left 2
    ·rw [hops.out];simp only [getS,Nat.reduceSub,Nat.reduceAdd];rfl
    ·intro W hW;(try dsimp only at hW);go_simp <;> with_reducible rfl
    ·exact fun _ _ _=>id
    try simp only [putS]
   refine Zaz 14 (oi:=?_) (v:=.bool false) ?_ (by rw [hops.out];kernel_rfl) ?_ ?_ ?_ (by assumption) ?_
   rotate_left 1
   ·rw [hops.out];simp only [getS];rfl
   ·rw [hops.out];kernel_rfl
   ·intro W hW;(try dsimp only at hW);go_simp <;> (first | with_reducible rfl | (simp;omega) | omega)
   ·exact fun _ _ _=>id
   try simp only [putS]
   iterate 4
    refine Zao 26 ?_ ?_ ?_ (by rw [hops.out];kernel_rfl) ?_ ?_ (by assumption) ?_
    rotate_left 2
    ·rw [hops.out];simp only [getS,Nat.reduceSub,Nat.reduceAdd];rfl
    ·intro W hW;(try dsimp only at hW);go_simp <;> with_reducible rfl
    ·exact fun _ _ _=>id
    try simp only [putS]
   refine Zaz 19 (oi:=?_) (v:=.bool false) ?_ (by rw [hops.out];kernel_rfl) ?_ ?_ ?_ (by assumption) ?_
   rotate_left 1
   ·rw [hops.out];simp only [getS];rfl
   ·rw [hops.out];kernel_rfl
   ·intro W hW;(try dsimp only at hW);go_simp <;> (first | with_reducible rfl | (simp;omega) | omega)
   ·exact fun _ _ _=>id
   try simp only [putS]
   refine Zay 20 ?_ ?_ ?_ (by rw [hops.out];kernel_rfl) ?_ ?_ (by assumption) ?_
   rotate_left 2
   ·rw [hops.out];simp only [getS];rfl
   ·intro W hW;(try dsimp only at hW);go_simp <;> with_reducible rfl
   ·exact fun _ _ _=>id
   try simp only [putS]
   refine Zad 21 31 (by rw [hops.out];kernel_rfl) (fun _ _ _ h=>h) (by assumption) ?_
   try simp only [putS]
   refine Zad 22 32 (by rw [hops.out];kernel_rfl) (fun _ _ _ h=>h) (by assumption) ?_
   try simp only [putS]
   refine Zad 23 33 (by rw [hops.out];kernel_rfl) (fun _ _ _ h=>h) (by assumption) ?_
   try simp only [putS]
   iterate 2
    refine Zao 26 ?_ ?_ ?_ (by rw [hops.out];kernel_rfl) ?_ ?_ (by assumption) ?_
    rotate_left 2
    ·rw [hops.out];simp only [getS,Nat.reduceSub,Nat.reduceAdd];rfl
    ·intro W hW;(try dsimp only at hW);go_simp <;> with_reducible rfl
    ·exact fun _ _ _=>id
    try simp only [putS]
   refine wpAnyH_done (by rw [hops.out];kernel_rfl) ?_ _
   clear hops ops;have BW2:Below w.heap.size w w1:=hnd.trans (b1.mono (by have:wa.drew.heap.size=wa.heap.size:=rfl;omega))
   have hx2:=(b1.block _ (Zab hx1)).trans hx1;have n0:=Zaa hx2 0;have n1:=Zaa hx2 1;have n2:=Zaa hx2 2;have n3:=Zaa hx2 3;have n4:=Zaa hx2 4;have n5:=Zaa hx2 5;have n6:=Zaa hx2 6;have n7:=Zaa hx2 7;simp at n0 n1 n2 n3 n4 n5 n6 n7
   go_wp2_with fail
   refine (HPUT.out _ BW2).mono ?_
   rintro e w3 ⟨u,rfl,hu,b3,hnw⟩;obtain⟨u1,u2,rfl⟩:=Zac hu.row;have HU:=hide hu;have HNW:=hide hnw;clear hu hnw
   go_wp2
   go_returns
   exact⟨_,Zfs (HT0.out.trans HF.out),by rw [HL0.out,ZiO HF.out];exact HU.out,BW2.trans (b3.mono BW2.size),fun k hk=>.inr (by have:=HNW.out k hk;have:=BW2.size;omega)⟩
  ·have HF:=hide (show ZaE (fsts ps) r.1=false by rw [ht];exact decide_eq_false hsq)
   have hs2:r.1.seq<=y.seq:=by omega
   clear ht
   go_enter Tryz.func32,Tryz.ntmps32
   go_wp2_with fail
   rw [<-hw0];clear hw0;refine HAT.out.mono ?_
   rintro e wa ⟨rfl,ba⟩;have bas:=ba.size;have BWA:Below w.heap.size w wa:=BX.trans (ba.mono (by omega))
   have hx1:=(ba.block _ hsx).trans hx;have d0:=Zaa hx1 0;have d1:=Zaa hx1 1;have d2:=Zaa hx1 2;have d3:=Zaa hx1 3;have d4:=Zaa hx1 4;have d5:=Zaa hx1 5;have d6:=Zaa hx1 6;have d7:=Zaa hx1 7;simp at d0 d1 d2 d3 d4 d5 d6 d7
   have hwl:w.heap.size<wa.heap.size:=by omega
   have hnd:Below w.heap.size w wa.drew:=BWA.drew;rw [<-BWA.cell (p:=⟨b,off+j*8+4,none⟩) hbw] at e4;have hbl:b<wa.heap.size:=by omega
   clear ba HAT hx
   go_wp2
   refine Zai (S:=(fun W=>W.cell? ⟨w.heap.size,0,none⟩=some (.int .i64 r.1.area)/\W.cell? ⟨w.heap.size,1,none⟩=some (.int .i64 r.1.kind)/\W.cell? ⟨w.heap.size,2,none⟩=some (.int .i64 r.1.owner)/\W.cell? ⟨w.heap.size,3,none⟩=some (.int .i64 r.1.key)/\W.cell? ⟨w.heap.size,4,none⟩=some (.int .i64 r.1.seq)/\W.cell? ⟨w.heap.size,5,none⟩=some (.slice ra r.1.near.length rc)/\W.cell? ⟨w.heap.size,6,none⟩=some (.int .i64 r.1.cost)/\W.cell? ⟨w.heap.size,7,none⟩=some (.bool r.1.far)/\W.cell? ⟨b,off+j*8+4,none⟩=some (.int .i64 y.seq))) (by kernel_rfl) 26 rfl ⟨d0,d1,d2,d3,d4,d5,d6,d7,e4⟩ (fun ops hops hHeld=>?_)
   refine Zay 0 ?_ ?_ ?_ (by rw [hops.out];kernel_rfl) ?_ ?_ (by assumption) ?_
   rotate_left 2
   ·rw [hops.out];simp only [getS];rfl
   ·intro W hW;(try dsimp only at hW);go_simp <;> with_reducible rfl
   ·exact fun _ _ _=>id
   try simp only [putS]
   refine Zap 1 (oi:=?_) ?_ (by rw [hops.out];kernel_rfl) ?_ ?_
   rotate_left 1
   ·rw [hops.out];simp only [getS];rfl
   ·rw [hops.out];kernel_rfl
   intro K hK
   go_simp
   refine (HOK.out _ hnd).mono ?_
   rintro e w1 ⟨rfl,b1⟩;have hSn:_/\_:=(show ((fun W=>W.cell? ⟨w.heap.size,0,none⟩=some (.int .i64 r.1.area)/\W.cell? ⟨w.heap.size,1,none⟩=some (.int .i64 r.1.kind)/\W.cell? ⟨w.heap.size,2,none⟩=some (.int .i64 r.1.owner)/\W.cell? ⟨w.heap.size,3,none⟩=some (.int .i64 r.1.key)/\W.cell? ⟨w.heap.size,4,none⟩=some (.int .i64 r.1.seq)/\W.cell? ⟨w.heap.size,5,none⟩=some (.slice ra r.1.near.length rc)/\W.cell? ⟨w.heap.size,6,none⟩=some (.int .i64 r.1.cost)/\W.cell? ⟨w.heap.size,7,none⟩=some (.bool r.1.far)/\W.cell? ⟨b,off+j*8+4,none⟩=some (.int .i64 y.seq))) w1 from by
    obtain⟨m0,m1,m2,m3,m4,m5,m6,m7,m8⟩:=hHeld;refine⟨?_,?_,?_,?_,?_,?_,?_,?_,?_⟩ <;> (refine (b1.cell ?_).trans ?_ <;> assumption))
   refine hK.out _ _ hSn (fun hHeld=>?_)
   clear hK K hSn
   try simp only [putS]
   iterate 3
    refine Zao 26 ?_ ?_ ?_ (by rw [hops.out];kernel_rfl) ?_ ?_ (by assumption) ?_
    rotate_left 2
    ·rw [hops.out];simp only [getS,Nat.reduceSub,Nat.reduceAdd];rfl
    ·intro W hW;(try dsimp only at hW);go_simp <;> with_reducible rfl
    ·exact fun _ _ _=>id
    try simp only [putS]
   refine Zaz 5 (oi:=?_) (v:=.bool true) ?_ (by rw [hops.out];kernel_rfl) ?_ ?_ ?_ (by assumption) ?_
   rotate_left 1
   ·rw [hops.out];simp only [getS];rfl
   ·rw [hops.out];kernel_rfl
   ·intro W hW;(try dsimp only at hW);go_simp <;> (first | with_reducible rfl | (simp;omega) | omega)
   ·exact fun _ _ _=>id
   try simp only [putS]
   iterate 8
    refine Zao 26 ?_ ?_ ?_ (by rw [hops.out];kernel_rfl) ?_ ?_ (by assumption) ?_
    rotate_left 2
    ·rw [hops.out];simp only [getS,Nat.reduceSub,Nat.reduceAdd];rfl
    ·intro W hW;(try dsimp only at hW);go_simp <;> with_reducible rfl
    ·exact fun _ _ _=>id
    try simp only [putS]
   refine Zaz 14 (oi:=?_) (v:=.bool true) ?_ (by rw [hops.out];kernel_rfl) ?_ ?_ ?_ (by assumption) ?_
   rotate_left 1
   ·rw [hops.out];simp only [getS];rfl
   ·rw [hops.out];kernel_rfl
   ·intro W hW;(try dsimp only at hW);go_simp <;> (first | with_reducible rfl | (simp;omega) | omega)
   ·exact fun _ _ _=>id
   try simp only [putS]
   iterate 3
    refine Zao 26 ?_ ?_ ?_ (by rw [hops.out];kernel_rfl) ?_ ?_ (by assumption) ?_
    rotate_left 2
    ·rw [hops.out];simp only [getS,Nat.reduceSub,Nat.reduceAdd];rfl
    ·intro W hW;(try dsimp only at hW);go_simp <;> with_reducible rfl
    ·exact fun _ _ _=>id
    try simp only [putS]
   refine Zad 18 28 (by rw [hops.out];kernel_rfl) (fun _ _ _ h=>h) (by assumption) ?_
   try simp only [putS]
   refine Zad 19 29 (by rw [hops.out];kernel_rfl) (fun _ _ _ h=>h) (by assumption) ?_
   try simp only [putS]
   refine Zad 20 30 (by rw [hops.out];kernel_rfl) (fun _ _ _ h=>h) (by assumption) ?_
   try simp only [putS]
   refine Zad 21 31 (by rw [hops.out];kernel_rfl) (fun _ _ _ h=>h) (by assumption) ?_
   try simp only [putS]
   refine Zad 22 32 (by rw [hops.out];kernel_rfl) (fun _ _ _ h=>h) (by assumption) ?_
   try simp only [putS]
   refine Zad 23 33 (by rw [hops.out];kernel_rfl) (fun _ _ _ h=>h) (by assumption) ?_
   try simp only [putS]
   refine Zad 24 34 (by rw [hops.out];kernel_rfl) (fun _ _ _ h=>h) (by assumption) ?_
   try simp only [putS]
   refine Zay 25 ?_ ?_ ?_ (by rw [hops.out];kernel_rfl) ?_ ?_ (by assumption) ?_
   rotate_left 2
   ·rw [hops.out];simp only [getS];rfl
   ·intro W hW;(try dsimp only at hW);go_simp <;> with_reducible rfl
   ·exact fun _ _ _=>id
   try simp only [putS]
   refine wpAnyH_done (by rw [hops.out];kernel_rfl) ?_ _
   clear hops ops;have BW2:Below w.heap.size w w1:=hnd.trans (b1.mono (by have:wa.drew.heap.size=wa.heap.size:=rfl;omega))
   go_wp2
   go_returns
   exact⟨_,Zfs (HT0.out.trans HF.out),by rw [HL0.out,Ze9 HF.out];exact (HV.out.below BW2 hhi).wide (by have:=BW2.size;omega),BW2,fun k hk=>.inl hk⟩
theorem Zfx (v:Value)(ps:List RP)(hi:Nat)(r:RP)(w:World)(hv:RecsIn w hi v ps)(hhi:hi<=w.heap.size)(hn:tot ps<=1048576)(hr:Zat w 0 hi r)(hrl:r.1.near.length<=1048576):
  Calls Tryz.prog 32 #[v,.agg (recC r.1 r.2)] w fun e w'=>∃ x,e=.returned (.tuple #[x,.bool (ZaE (fsts ps) r.1)])/\RecsIn w' w'.heap.size x (Za2 ps r)/\Below w.heap.size w w':=by
 refine (Zge v ps hi r w hv hhi hn hr hrl).mono ?_
 rintro e w' ⟨x,h1,h2,h3,_⟩;exact⟨x,h1,h2,h3⟩
end Go.Proofs.YtcimbiinljcifaaGreat
