/-
  InstS LinksS RenK OnwI MarkS
-/
import Derived.Test.YtadokhjefnkajaaGreatIe23
import Derived.Test.YtadokhjefnkajaaGreatIe7
import Derived.Test.YtadokhjefnkajaaGreatIe3
import Derived.Test.YtadokhjefnkajaaGreatIe25
import Derived.Test.YtadokhjefnkajaaGreatIe15
import Derived.Test.YtadokhjefnkajaaGreatIe4
import Derived.Test.YtadokhjefnkajaaGreatIe14
import Derived.Test.YtadokhjefnkajaaGreatIe22
import Derived.Test.YtadokhjefnkajaaGreatIe24
import Derived.Test.YtadokhjefnkajaaGreatIe12
import Derived.Test.YtadokhjefnkajaaGreatIe13
namespace Go.Proofs.YtadokhjefnkajaaGreat
open Go.RowKit
set_option linter.unusedSimpArgs false
set_option linter.unusedVariables false
set_option maxRecDepth 100000
set_option maxHeartbeats 8000000

def ZdA (ns:List Nr)(bk:Int->Int)(v:Nat):Nat->Int
 | 0=>0
 | k+1=>match ns[k]? with
  | some n=>if n.to=(v:Int)/\inB n.to 1 6=true/\0<bk n.to then n.c else ZdA ns bk v k
  | none=>ZdA ns bk v k
def ZlD (xs:List RecD)(area:Int)(u v:Nat):Int:=ZdA (Zci xs area u).near (fun b=>Zeb xs area b u) v (Zci xs area u).near.length
def ZgJ (o:Nat->Nat->Int)(i:Nat):Value:=.int .i64 (o (i / 7) (i%7))
theorem ZkL {W:World}{g:Nat}{o:Nat->Nat->Int} (h:W.heap[g]? = some (.cells (rowA (ZgJ o) 49) 3)) {a b:Nat} (ha:a<=6) (hb:b<=6):W.cell? ⟨g,a*7+b,none⟩=some (.int .i64 (o a b)):=by
 rw [Ze1 h (by omega)]
 unfold ZgJ;rw [show (a*7+b) / 7=a by omega,show (a*7+b)%7=b by omega]
theorem Zm4 {W:World}{g:Nat}{o:Nat->Nat->Int} (h:W.heap[g]? = some (.cells (rowA (ZgJ o) 49) 3)) {a b:Nat} (hb:b<=6) (x:Int):
  (W.setCell ⟨g,a*7+b,none⟩ (.int .i64 x)).heap[g]? = some (.cells (rowA (ZgJ (fun u v=>if u=a/\v=b then x else o u v)) 49) 3):=by
 rw [ZfK h,Zdc (fun i _=>?_)]
 unfold ZgJ
 show (if i=a*7+b then Value.int .i64 x else .int .i64 (o (i / 7) (i%7)))=.int .i64 (if i / 7=a/\i%7=b then x else o (i / 7) (i%7))
 by_cases e:i=a*7+b
 ·rw [if_pos e,if_pos (by omega)]
 ·rw [if_neg e,if_neg (by omega)]
theorem ZdW {ns:List Nr}{k:Nat}{n:Nr}(bk:Int->Int)(v:Nat)(h:ns[k]? = some n):ZdA ns bk v (k+1)=if n.to=(v:Int)/\inB n.to 1 6=true/\0<bk n.to then n.c else ZdA ns bk v k:=by
 show (match ns[k]? with
  | some n=>if n.to=(v:Int)/\inB n.to 1 6=true/\0<bk n.to then n.c else ZdA ns bk v k
  | none=>ZdA ns bk v k)=_
 rw [h]
theorem Zdx {x a b:Int}:inB x a b=true↔a<=x/\x<=b:=by simp [inB]
def ZdX (xs:List RecD)(area:Int)(k j u v:Nat):Int:=if u<=k then ZlD xs area u v else if u=k+1 then ZdA (Zci xs area u).near (fun b=>Zeb xs area b u) v j else 0
def Zin (xs:List RecD)(area:Int)(k j:Nat)(o:Nat->Nat->Int):Prop:=∀ u v,1<=u->u<=6->1<=v->v<=6->o u v=ZdX xs area k j u v
theorem Zox {xs:List RecD}{area:Int}{k:Nat}{o:Nat->Nat->Int} (h:Zin xs area k (Zci xs area ((k+1:Nat):Int)).near.length o):Zin xs area (k+1) 0 o:=by
 intro u v h1 h2 h3 h4;rw [h u v h1 h2 h3 h4];unfold ZdX;by_cases e:u<=k
 ·rw [if_pos e,if_pos (by omega)]
 ·rw [if_neg e]
  by_cases e2:u=k+1
  ·rw [if_pos e2,if_pos (by omega)]
   subst e2
   rfl
  ·rw [if_neg e2,if_neg (by omega)]
   split
   ·rfl
   ·rfl
theorem ZkP {xs:List RecD}{area:Int}{k j:Nat}{o:Nat->Nat->Int}{n:Nr}(h:Zin xs area k j o) (hn:(Zci xs area ((k+1:Nat):Int)).near[j]? = some n) (hno:¬(inB n.to 1 6=true/\0<Zeb xs area n.to ((k+1:Nat):Int))):Zin xs area k (j+1) o:=by
 intro u v h1 h2 h3 h4;rw [h u v h1 h2 h3 h4];unfold ZdX;by_cases e:u<=k
 ·rw [if_pos e,if_pos e]
 ·rw [if_neg e,if_neg e]
  by_cases e2:u=k+1
  ·rw [if_pos e2,if_pos e2]
   subst e2;rw [ZdW _ v hn,if_neg (fun hc=>hno hc.2)]
  ·rw [if_neg e2,if_neg e2]
theorem ZpL {xs:List RecD}{area:Int}{k j t:Nat}{o:Nat->Nat->Int}{n:Nr}(h:Zin xs area k j o) (hn:(Zci xs area ((k+1:Nat):Int)).near[j]? = some n) (hyes:inB n.to 1 6=true/\0<Zeb xs area n.to ((k+1:Nat):Int)) (ht:n.to=(t:Int)):Zin xs area k (j+1) (fun u v=>if u=k+1/\v=t then n.c else o u v):=by
 intro u v h1 h2 h3 h4;have hh:=h u v h1 h2 h3 h4;unfold ZdX at hh |-;by_cases e:u<=k
 ·rw [if_pos e] at hh |-
  show (if u=k+1/\v=t then n.c else o u v)=_
  rw [if_neg (by omega)]
  exact hh
 ·rw [if_neg e] at hh |-
  by_cases e2:u=k+1
  ·rw [if_pos e2] at hh |-
   subst e2;rw [ZdW _ v hn]
   show (if k+1=k+1/\v=t then n.c else o (k+1) v)=_
   by_cases e3:v=t
   ·rw [if_pos ⟨rfl,e3⟩,if_pos ⟨by omega,hyes⟩]
   ·rw [if_neg (fun hc=>e3 hc.2),if_neg (fun hc=>by have:=hc.1;omega)]
    exact hh
  ·rw [if_neg e2] at hh |-
   show (if u=k+1/\v=t then n.c else o u v)=_
   rw [if_neg (fun hc=>e2 hc.1)]
   exact hh
theorem Zl4 (v:Value)(ps:List RP)(hi:Nat)(area:Int)(w:World)(hv:RecsIn w hi v ps)(hhi:hi<=w.heap.size)(hn:tot ps<=1048576):
  Calls Tryz.prog 235 #[v,.int .i64 area] w fun e w'=>∃ o,e=.returned (.slice (some ⟨w.heap.size,0,none⟩) 49 49)/\w'.heap[w.heap.size]? = some (.cells (rowA (ZgJ o) 49) 3)/\(∀ u v,1<=u->u<=6->1<=v->v<=6->o u v=ZlD (fsts ps) area u v)/\Below w.heap.size w w':=by
 obtain⟨a1,c1,rfl⟩:=Zac hv.row;have HN:=hide (fun node W (hb:Below w.heap.size w W)=>Zgy (.slice a1 ps.length c1) ps hi area node W (hv.below hb hhi) (Nat.le_trans hhi hb.size) hn)
 have HT:=hide (fun a b W (hb:Below w.heap.size w W)=>Zl8 (.slice a1 ps.length c1) ps hi area a b W (hv.below hb hhi) (Nat.le_trans hhi hb.size) hn)
 clear hv;have g0:=heap_alloc_new w (.cells (rowA (fun _=>.int .i64 0) 49) 3)
 have B0:Below w.heap.size w (w.alloc (.cells (rowA (fun _=>.int .i64 0) 49) 3)):=(Below.refl _ _).alloc (Nat.le_refl _) _
 go_enter Tryz.func235,Tryz.ntmps235
 go_wp2_with (first | (at_make;refine ZbX _ rfl _ _ 28 rfl 3 (.int .i64 0) 8 Tryz.underlying28 Tryz.info3 rfl 49 rfl rfl (by omega) (by omega) ?_))
 generalize w.alloc (.cells (rowA (fun _=>.int .i64 0) 49) 3)=w0 at *
 go_wp2
 go_loopw [6] (fun i wr=>∃ (k:Nat) (o:Nat->Nat->Int),k<=6/\i=.int .i64 ((k:Int)+1)/\Hid (Zin (fsts ps) area k 0 o)/\wr.heap[w.heap.size]? = some (.cells (rowA (ZgJ o) 49) 3)/\Below w.heap.size w wr) (fun i _=>8-(intOf i).toNat)
 case atStart=>exact ⟨0,fun _ _=>0,by omega,rfl,hide (fun u v h1 h2 h3 h4=>by unfold ZdX;rw [if_neg (by omega)];split <;> rfl),g0,B0⟩
 case round=>
  rename World=>wo
  obtain⟨k,o,hk,rfl,HO,hg,hnx⟩:=hrel;have hsz:=hnx.size;by_cases hlt:k<6
  ·have hk6:(k:Int)+1<=6:=by omega
   have hw1:IntKind.i64.wrap ((k:Int)+1+1)=((k+1:Nat):Int)+1:=by rw [ZaK _ (by omega) (by omega)];omega
   have J:=hide (HN.out ((k:Int)+1) wo hnx);obtain⟨D,hD⟩:∃ D,D=Zci (fsts ps) area ((k:Int)+1):=⟨_,rfl⟩;obtain⟨NB,hNB⟩:∃ b,b=Zgh (fsts ps) area ((k:Int)+1):=⟨_,rfl⟩;rw [<-hD, <-hNB] at J;have HD:=hide hD;clear hD hNB;unfold recC at J
   go_wp2_with fail
   refine J.out.mono ?_
   rintro e w1 ⟨u,rfl,hu,hul,b1⟩;obtain⟨ua,uc,rfl⟩:=ZaC.shape hu;have hx:=heap_alloc_new w1 (.cells #[.int .i64 D.area,.int .i64 D.kind,.int .i64 D.owner,.int .i64 D.key,.int .i64 D.seq,.slice ua D.near.length uc,.int .i64 D.cost,.bool D.far] 39);have BX:Below w1.heap.size w1 (w1.alloc (.cells #[.int .i64 D.area,.int .i64 D.kind,.int .i64 D.owner,.int .i64 D.key,.int .i64 D.seq,.slice ua D.near.length uc,.int .i64 D.cost,.bool D.far] 39)):=(Below.refl _ _).alloc (Nat.le_refl _) _;obtain⟨w2,hw2⟩:∃ W,W=w1.alloc (.cells #[.int .i64 D.area,.int .i64 D.kind,.int .i64 D.owner,.int .i64 D.key,.int .i64 D.seq,.slice ua D.near.length uc,.int .i64 D.cost,.bool D.far] 39):=⟨_,rfl⟩;rw [<-hw2] at hx BX;have B12:Below wo.heap.size wo w2:=b1.trans (BX.mono b1.size);have B2:Below w.heap.size w w2:=hnx.trans (B12.mono hsz);have HU:Hid (ZaC w2 (.slice ua D.near.length uc) D.near hi):=hide (ZaE.later hu BX (by have:=b1.size;omega))
   have hs2:=Zab hx;have hg2:=(B12.block _ (Zab hg)).trans hg;obtain⟨z,hz⟩:∃ z,z=w1.heap.size:=⟨_,rfl⟩;have HZ:=hide hz;have hzg:w.heap.size<z:=by have:=Zab hg;have:=b1.size;omega
   have HXX:=hide hx;have HG2:=hide hg2;clear hu hx hg hg2 BX b1 J
   go_wp2
   rw [<-hw2];rw [<-hz];rw [<-hz] at HXX hs2;clear hw2 hz
   go_loopw [9] (fun i wr=>∃ (j:Nat) (o:Nat->Nat->Int),j<=D.near.length/\i=.int .i64 (j:Int)/\Hid (Zin (fsts ps) area k j o)/\Hid (wr.heap[w.heap.size]? = some (.cells (rowA (ZgJ o) 49) 3))/\wr.heap[z]? = some (.cells #[.int .i64 D.area,.int .i64 D.kind,.int .i64 D.owner,.int .i64 D.key,.int .i64 D.seq,.slice ua D.near.length uc,.int .i64 D.cost,.bool D.far] 39)/\Below w.heap.size w2 wr) (fun i _=>D.near.length-(intOf i).toNat)
   case atStart=>exact ⟨0,o,by omega,rfl,HO,HG2,HXX.out,Below.refl _ _⟩
   case round=>
    obtain⟨j,o,hj,rfl,HO,HG,hz,hnq⟩:=hrel;have BQ:Below w.heap.size w wr:=B2.trans hnq;have d5:=Zaa hz 5;simp at d5
    have HZZ:=hide hz;clear hz;by_cases hjl:j<D.near.length
    ·obtain ⟨n,hn⟩:∃ n,D.near[j]? = some n:=⟨D.near[j],List.getElem?_eq_getElem hjl⟩
     have hNq:=(ZaE.later HU.out hnq hhi);obtain⟨b,off,cp,hve,hbb,c0,c1⟩:=ZaC.cells hNq j n hn;cases hve
     have hji:(0:Int)<=(j:Int):=by omega
     have hjj:(j:Int)<(D.near.length:Int):=by omega
     have HNJ:=hide hn;clear hn hNq;by_cases hin:inB n.to 1 6=true
     ·obtain ⟨t,ht⟩:∃ t:Nat,n.to=(t:Int):=⟨n.to.toNat,by have:=Zdx.1 hin;omega⟩
      have ht6:=Zdx.1 hin;rw [ht] at ht6 c0;have hin':inB (t:Int) 1 6=true:=by rw [<-ht];exact hin
      by_cases hbk:0<Zeb (fsts ps) area (t:Int) ((k:Int)+1)
      ·have hTL:=hide (HT.out (t:Int) ((k:Int)+1) wr BQ)
       go_wp2_with fail
       refine (ZbO _ _ _ _).mono ?_
       rintro e w3 ⟨rfl,rfl⟩;rw [hin']
       go_wp2_with fail
       refine hTL.out.mono ?_
       rintro e w3 ⟨rfl,b3⟩;have hs3:=b3.size;have HMS:=hide (ZpL HO.out (by rw [<-show (k:Int)+1=((k+1:Nat):Int) by omega, <-HD.out];exact HNJ.out) (by rw [<-show (k:Int)+1=((k+1:Nat):Int) by omega,ht];exact⟨hin',hbk⟩) ht)
       have hg3:=(b3.block _ (Zab HG.out)).trans HG.out;have hz3:=(b3.block _ (Zab HZZ.out)).trans HZZ.out;have B3:Below w.heap.size w2 w3:=hnq.trans (b3.mono BQ.size);have hbq:b<wr.heap.size:=by have:=BQ.size;omega
       rw [<-b3.cell (p:=⟨b,off+j*2,none⟩) hbq] at c0;rw [<-b3.cell (p:=⟨b,off+j*2+1,none⟩) hbq] at c1;rw [<-b3.cell (p:=⟨z,5,none⟩) (Zab HZZ.out)] at d5;have dg:=ZkL hg3 (a:=k+1) (b:=t) (by omega) (by omega)
       have fg:=Zaf hg3;have HP:=hide (Zm4 hg3 (a:=k+1) (b:=t) (by omega) n.c)
       have HZP:=hide ((heap_setCell_other w3 ⟨w.heap.size,(k+1)*7+t,none⟩ z (.int .i64 n.c) (by show z≠w.heap.size;omega)).trans hz3)
       have BP:=hide (show Below w.heap.size w2 (w3.setCell ⟨w.heap.size,(k+1)*7+t,none⟩ (.int .i64 n.c)) from B3.setCell (p:=⟨w.heap.size,(k+1)*7+t,none⟩) (Nat.le_refl _) _)
       have hm1:IntKind.i64.wrap (((k:Int)+1)*7)=(((k+1)*7:Nat):Int):=by rw [ZaK _ (by omega) (by omega)];omega
       have hm2:IntKind.i64.wrap ((((k+1)*7:Nat):Int)+(t:Int))=(((k+1)*7+t:Nat):Int):=by rw [ZaK _ (by omega) (by omega)];omega
       have hm3:(0:Int)<=(((k+1)*7+t:Nat):Int):=by omega
       have hm4:(((k+1)*7+t:Nat):Int)<49:=by omega
       clear hg3 hz3 hTL HO HG HZZ HU HXX HG2 HN HT
       go_wp2
       go_region
       go_wp2
       go_roundw
       case rel=>exact ⟨j+1,_,by omega,by go_num,HMS,HP,HZP.out,BP.out.trans ⟨rfl,rfl,rfl,Nat.le_refl _,fun _ _=>rfl⟩⟩
       case measure=>simp [intOf];omega
      ·have hTL:=hide (HT.out (t:Int) ((k:Int)+1) wr BQ)
       go_wp2_with fail
       refine (ZbO _ _ _ _).mono ?_
       rintro e w3 ⟨rfl,rfl⟩;rw [hin']
       go_wp2_with fail
       refine hTL.out.mono ?_
       rintro e w3 ⟨rfl,b3⟩;have hs3:=b3.size;have HMS:=hide (ZkP HO.out (by rw [<-show (k:Int)+1=((k+1:Nat):Int) by omega, <-HD.out];exact HNJ.out) (fun hc=>by have h2:=hc.2;rw [show ((k+1:Nat):Int)=(k:Int)+1 by omega,ht] at h2;omega))
       have HG3:=hide ((b3.block _ (Zab HG.out)).trans HG.out);have HZ3:=hide ((b3.block _ (Zab HZZ.out)).trans HZZ.out);have B3:Below w.heap.size w2 w3:=hnq.trans (b3.mono BQ.size)
       go_wp2
       go_roundw
       case rel=>exact ⟨j+1,o,by omega,by go_num,HMS,HG3,HZ3.out,B3⟩
       case measure=>simp [intOf];omega
     ·have hin':inB n.to 1 6=false:=by simpa using hin
      have HMS:=hide (ZkP HO.out (by rw [<-show (k:Int)+1=((k+1:Nat):Int) by omega, <-HD.out];exact HNJ.out) (fun hc=>hin hc.1))
      go_wp2_with fail
      refine (ZbO _ _ _ _).mono ?_
      rintro e w3 ⟨rfl,rfl⟩;rw [hin']
      go_wp2
      go_roundw
      case rel=>exact ⟨j+1,o,by omega,by go_num,HMS,HG,HZZ.out,hnq⟩
      case measure=>simp [intOf];omega
    ·have hjn:j=D.near.length:=by omega
     have HMN:=hide (Zox (k:=k) (o:=o) (by rw [<-show (k:Int)+1=((k+1:Nat):Int) by omega, <-HD.out, <-hjn];exact HO.out))
     clear hjn
     go_wp2
     go_roundw
     case rel=>exact ⟨k+1,o,by omega,rfl,HMN,HG.out,BQ⟩
     case measure=>simp [intOf];omega
  ·have hk6:¬(k:Int)+1<=6:=by omega
   have KN:=hide (show ∀ u v,1<=u->u<=6->1<=v->v<=6->o u v=ZlD (fsts ps) area u v by
    intro u v h1 h2 h3 h4;rw [HO.out u v h1 h2 h3 h4];unfold ZdX;rw [if_pos (by omega)])
   go_wp2
   go_ret
   first
    | exact ⟨rfl,o,hg,KN.out,hnx⟩
    | exact ⟨o,rfl,hg,KN.out,hnx⟩

theorem World.size_alloc_drew (w:World)(o:Obj):(w.drew.alloc o).heap.size=w.heap.size+1:=by
 have:(w.drew.alloc o).heap.size=w.drew.heap.size+1:=by simp
 exact this
def onwD (x:WayD)(to c:Int):WayD:=if x.hops=[] then ⟨to,x.cost+c,[to]⟩ else ⟨to,x.cost+c,x.hops⟩
theorem ZlQ (x:WayD)(vx:Value)(bx:Nat)(to c:Int)(w:World)(hx:w.ownsRow bx 3 1 vx x.hops.length (flat intE x.hops))(hlx:x.hops.length<=1048576)(h0:0<=x.cost+c)(h1:x.cost+c<=1000000):
  Calls Tryz.prog 266 #[.agg (wayC x vx),.int .i64 to,.int .i64 c] w fun e w'=>∃ u,e=.returned (.agg (wayC (onwD x to c) u))/\w'.ownsRow w.heap.size 3 1 u (onwD x to c).hops.length (flat intE (onwD x to c).hops)/\Below w.heap.size w w':=by
 obtain⟨D,hD⟩:∃ D,D=onwD x to c:=⟨_,rfl⟩;rw [<-hD];unfold onwD at hD;have HD:=hide hD;clear hD;obtain⟨p1,q1,rfl⟩:=Zac hx;have HOH:=hide (fun W (hb:Below w.heap.size w W)=>Zel x.hops (.slice p1 x.hops.length q1) bx W (Zae hx hb (Nat.le_refl _)) hlx)
 clear hx;have hwc:IntKind.i64.wrap (x.cost+c)=x.cost+c:=ZaK _ (by omega) (by omega)
 have m0:((w.alloc (.cells #[.int .i64 x.to,.int .i64 x.cost,.slice p1 x.hops.length q1] 194)).alloc (.cells #[.int .i64 0,.int .i64 0,.slice none 0 0] 194)).heap[w.heap.size]? = some (.cells #[.int .i64 x.to,.int .i64 x.cost,.slice p1 x.hops.length q1] 194):=by
  rw [Below.heap_alloc _ _ _ (by simp),heap_alloc_new]
 have m1:((w.alloc (.cells #[.int .i64 x.to,.int .i64 x.cost,.slice p1 x.hops.length q1] 194)).alloc (.cells #[.int .i64 0,.int .i64 0,.slice none 0 0] 194)).heap[w.heap.size+1]? = some (.cells #[.int .i64 0,.int .i64 0,.slice none 0 0] 194):=by
  have e:=heap_alloc_new (w.alloc (.cells #[.int .i64 x.to,.int .i64 x.cost,.slice p1 x.hops.length q1] 194)) (.cells #[.int .i64 0,.int .i64 0,.slice none 0 0] 194);rw [show (w.alloc (.cells #[.int .i64 x.to,.int .i64 x.cost,.slice p1 x.hops.length q1] 194)).heap.size=w.heap.size+1 by simp] at e
  exact e
 have BQ:Below w.heap.size w ((w.alloc (.cells #[.int .i64 x.to,.int .i64 x.cost,.slice p1 x.hops.length q1] 194)).alloc (.cells #[.int .i64 0,.int .i64 0,.slice none 0 0] 194)):=((Below.refl w.heap.size w).alloc (by simp) _).alloc (by simp) _
 obtain⟨w1,hw1⟩:∃ W,W=((w.alloc (.cells #[.int .i64 x.to,.int .i64 x.cost,.slice p1 x.hops.length q1] 194)).alloc (.cells #[.int .i64 0,.int .i64 0,.slice none 0 0] 194)):=⟨_,rfl⟩;rw [<-hw1] at m0 m1 BQ;have s1:=Zaa m0 1;have s2:=Zaa m0 2;simp at s1 s2
 unfold wayC
 go_enter Tryz.func266,Tryz.ntmps266
 go_wp2
 rw [<-hw1];clear hw1;refine wp_region_noPanic ?_
 have hS0:w1.drew.cell? ⟨w.heap.size,1,none⟩=some (.int .i64 x.cost)/\w1.drew.cell? ⟨w.heap.size,2,none⟩=some (.slice p1 x.hops.length q1):=⟨s1,s2⟩;refine Zag (S:=fun W=>W.cell? ⟨w.heap.size,1,none⟩=some (.int .i64 x.cost)/\W.cell? ⟨w.heap.size,2,none⟩=some (.slice p1 x.hops.length q1)) (by kernel_rfl) 11 rfl hS0 ?_
 intro ops hops _
 show wpAnyH Tryz.prog .any ops _ _ 11 #[false,false,false,false,false,false,false,false,false,false,false] _ w1.drew
 iterate 7
  refine Zar 11 ?_ ?_ ?_ (by rw [hops.out];kernel_rfl) ?_ ?_ (by assumption) ?_
  rotate_left 2
  ·rw [hops.out];simp only [getS,Nat.reduceSub,Nat.reduceAdd];rfl
  ·intro W hW;obtain⟨k1,k2⟩:=hW;go_simp <;> with_reducible rfl
  ·exact fun _ _ _=>id
  try simp only [putS]
 refine wpAnyH_ready (rs:=[7,9]) (by rw [hops.out];kernel_rfl) (by simp) ?_
 refine AllReadyH.cons (o:=?_) ?_ (fun K hK=>?_) ?_
 rotate_left 1
 ·rw [hops.out];simp only [getS];rfl
 ·rw [if_pos (by rfl)]
  go_simp
  refine (HOH.out _ (Zlm BQ)).mono ?_
  rintro e w4 ⟨u,rfl,hn2,b2⟩;obtain⟨na,nc,rfl⟩:=Zac hn2;have hK2:w4.cell? ⟨w.heap.size,1,none⟩=some (.int .i64 x.cost)/\w4.cell? ⟨w.heap.size,2,none⟩=some (.slice p1 x.hops.length q1):=⟨by rw [b2.cell (by exact Zab m0)];exact s1,by rw [b2.cell (by exact Zab m0)];exact s2⟩
  refine hK.out _ _ hK2 (fun _=>?_)
  clear hK K
  try simp only [putS]
  refine ZaP 8 ?_ ?_ ?_ (by rw [hops.out];kernel_rfl) ?_ ?_ (by assumption) ?_
  rotate_left 2
  ·rw [hops.out];simp only [getS];rfl
  ·intro W hW;obtain⟨k1,k2⟩:=hW;go_simp <;> with_reducible rfl
  ·exact fun _ _ _=>id
  try simp only [putS]
  refine Zak 9 (oi:=?_) ?_ (by rw [hops.out];kernel_rfl) ?_ ?_
  rotate_left 1
  ·rw [hops.out];simp only [getS];rfl
  ·rw [hops.out];kernel_rfl
  intro K hK
  go_simp
  have hK3:(w4.alloc (.cells #[.int .i64 0,.int .i64 0,.slice none 0 0] 194)).cell? ⟨w.heap.size,1,none⟩=some (.int .i64 x.cost)/\(w4.alloc (.cells #[.int .i64 0,.int .i64 0,.slice none 0 0] 194)).cell? ⟨w.heap.size,2,none⟩=some (.slice p1 x.hops.length q1):=⟨by rw [World.cell?_of_block (w:=w4) (Below.heap_alloc _ _ _ (by have h1:=Zab m0;have h2:=b2.size;have h3:w1.heap.size<=w4.heap.size:=h2;exact Nat.lt_of_lt_of_le h1 h3))];exact hK2.1,by rw [World.cell?_of_block (w:=w4) (Below.heap_alloc _ _ _ (by have h1:=Zab m0;have h2:=b2.size;have h3:w1.heap.size<=w4.heap.size:=h2;exact Nat.lt_of_lt_of_le h1 h3))];exact hK2.2⟩
  refine hK.out _ _ hK3 (fun _=>?_)
  clear hK K
  try simp only [putS]
  have h41:w1.heap.size<=w4.heap.size:=b2.size;have l1:=Zab m1;have z0:=(Below.heap_alloc w4 (.cells #[.int .i64 0,.int .i64 0,.slice none 0 0] 194) _ (by omega)).trans ((b2.block _ (Zab m0)).trans m0)
  have z1:=(Below.heap_alloc w4 (.cells #[.int .i64 0,.int .i64 0,.slice none 0 0] 194) _ (by omega)).trans ((b2.block _ (Zab m1)).trans m1)
  have zn:=heap_alloc_new w4 (.cells #[.int .i64 0,.int .i64 0,.slice none 0 0] 194);have ho:=Zaj (b0:=w.heap.size+2) (hn2.alloc (.cells #[.int .i64 0,.int .i64 0,.slice none 0 0] 194)) (by show w.heap.size+2<=w1.heap.size;omega)
  have hB:Below w.heap.size w (w4.alloc (.cells #[.int .i64 0,.int .i64 0,.slice none 0 0] 194)):=((Zlm BQ).trans (b2.mono BQ.size)).alloc (by omega) _
  have hnb:w.heap.size+1<w4.heap.size:=by omega
  have hvn:∀ g,(Value.slice na x.hops.length nc).ownBlock=some g->g≠w4.heap.size:=fun g hv=>by have:=(hn2.lt g hv).2;omega
  clear hn2 b2 hK2;generalize (w4.alloc (.cells #[.int .i64 0,.int .i64 0,.slice none 0 0] 194))=W5 at *;have u0:=Zaa zn 0;have u1:=Zaa zn 1;have u2:=Zaa zn 2;simp at u0 u1 u2
  have fu:=Zaf zn;have FN:=Zc6 (⟨to,x.cost+c,x.hops⟩:WayD) (.slice na x.hops.length nc) zn;have G8:=Za2 W5 w4.heap.size (⟨to,x.cost+c,x.hops⟩:WayD) (.slice na x.hops.length nc);have ZZ0:=(G8.block _ (Zab z0) (by simp;omega)).trans z0
  have ZZ1:=(G8.block _ (Zab z1) (by simp;omega)).trans z1
  have OO:=ho.kept G8 (by
   cases hv:(Value.slice na x.hops.length nc).ownBlock with
   | none=>exact .inl rfl
   | some g=>exact .inr (fun e=>hvn g hv (by simpa using e)))
  have BB:=hB.grown G8 hB.size (fun k hk=>by simp at hk;omega)
  have hS6:(Za8 W5 w4.heap.size (⟨to,x.cost+c,x.hops⟩:WayD) (.slice na x.hops.length nc)).cell? ⟨w.heap.size,1,none⟩=some (.int .i64 x.cost)/\(Za8 W5 w4.heap.size (⟨to,x.cost+c,x.hops⟩:WayD) (.slice na x.hops.length nc)).cell? ⟨w.heap.size,2,none⟩=some (.slice p1 x.hops.length q1):=⟨by have e:=Zaa ZZ0 1;simpa using e,by have e:=Zaa ZZ0 2;simpa using e⟩
  obtain⟨W6,hW6⟩:∃ W,W=((W5.setCell ⟨w4.heap.size,0,none⟩ (.int .i64 to)).setCell ⟨w4.heap.size,1,none⟩ (.int .i64 (x.cost+c))).setCell ⟨w4.heap.size,2,none⟩ (.slice na x.hops.length nc):=⟨_,rfl⟩;have e6:W6=Za8 W5 w4.heap.size (⟨to,x.cost+c,x.hops⟩:WayD) (.slice na x.hops.length nc):=hW6;rw [<-e6] at FN ZZ0 ZZ1 OO BB hS6;have HW6:=hide hW6;clear e6 hW6;have hnbB:=hnb;have HFN:=hide FN;have HZ0:=hide ZZ0;have HZ1:=hide ZZ1;have HOO:=hide OO;have HBB:=hide BB;clear FN G8 ZZ0 ZZ1 OO BB zn z0 z1 ho hB hvn;refine Zak 10 (oi:=?_) ?_ (by rw [hops.out];kernel_rfl) ?_ ?_
  rotate_left 1
  ·rw [hops.out];simp only [getS];rfl
  ·rw [hops.out];kernel_rfl
  intro K hK
  go_simp
  rw [<-HW6.out];refine hK.out _ _ hS6 (fun _=>?_)
  clear hK K
  try simp only [putS]
  refine wpAnyH_done (by rw [hops.out];kernel_rfl) ?_ _
  clear hops ops u0 u1 u2 fu;refine NoPanic.normal ?_
  clear HW6;obtain⟨NB,hNB⟩:∃ k,k=w4.heap.size:=⟨_,rfl⟩;rw [<-hNB] at HFN hnbB |-;clear hNB;clear m0 m1 s1 s2 hS0 BQ;have s2:=hS6.2;have f0:=Zaa HFN.out 0;have f1:=Zaa HFN.out 1;have f2:=Zaa HFN.out 2;simp [wayC] at f0 f1 f2
  have ff:=Zaf HFN.out;have v0:=Zaa HZ1.out 0;have v1:=Zaa HZ1.out 1;have v2:=Zaa HZ1.out 2;simp at v0 v1 v2
  have fv:=Zaf HZ1.out;have lnB:=Zab HFN.out;by_cases hx0:x.hops=[]
  ·have hDe:D=⟨to,x.cost+c,[to]⟩:=by rw [HD.out,if_pos hx0]
   subst hDe;have hl0:x.hops.length=0:=by rw [hx0];rfl
   have hlb:((x.hops.length:Int)==0)=true:=by rw [hl0];rfl
   have ez:(W6.setCell ⟨NB,2,none⟩ (.slice (some ⟨W6.heap.size,0,none⟩) 1 1)).heap.size=W6.heap.size:=by simp
   have QA:(W6.setCell ⟨NB,2,none⟩ (.slice (some ⟨W6.heap.size,0,none⟩) 1 1)).heap[w.heap.size+1]? = some (.cells #[.int .i64 0,.int .i64 0,.slice none 0 0] 194):=by
    rw [heap_setCell_other W6 ⟨NB,2,none⟩ _ _ (by show w.heap.size+1≠NB;omega)]
    exact HZ1.out
   have F1:=Zc6 ⟨to,x.cost+c,[to]⟩ (.slice (some ⟨W6.heap.size,0,none⟩) 1 1) QA;have G9:=Za2 (W6.setCell ⟨NB,2,none⟩ (.slice (some ⟨W6.heap.size,0,none⟩) 1 1)) (w.heap.size+1) ⟨to,x.cost+c,[to]⟩ (.slice (some ⟨W6.heap.size,0,none⟩) 1 1);have B8:=(HBB.out.setCell (p:=⟨NB,2,none⟩) (by show w.heap.size<=NB;omega) (.slice (some ⟨W6.heap.size,0,none⟩) 1 1)).grown G9 (by rw [ez];omega) (fun k hk=>by simp at hk;omega)
   have ez2:(Za8 (W6.setCell ⟨NB,2,none⟩ (.slice (some ⟨W6.heap.size,0,none⟩) 1 1)) (w.heap.size+1) ⟨to,x.cost+c,[to]⟩ (.slice (some ⟨W6.heap.size,0,none⟩) 1 1)).heap.size=W6.heap.size:=by simp [Za8]
   have FF:=hide ((Below.heap_alloc (Za8 (W6.setCell ⟨NB,2,none⟩ (.slice (some ⟨W6.heap.size,0,none⟩) 1 1)) (w.heap.size+1) ⟨to,x.cost+c,[to]⟩ (.slice (some ⟨W6.heap.size,0,none⟩) 1 1)) (.cells #[.int .i64 to] 3) (w.heap.size+1) (by rw [ez2];omega)).trans F1)
   have RW:((Za8 (W6.setCell ⟨NB,2,none⟩ (.slice (some ⟨W6.heap.size,0,none⟩) 1 1)) (w.heap.size+1) ⟨to,x.cost+c,[to]⟩ (.slice (some ⟨W6.heap.size,0,none⟩) 1 1)).alloc (.cells #[.int .i64 to] 3)).ownsRow w.heap.size 3 1 (.slice (some ⟨(Za8 (W6.setCell ⟨NB,2,none⟩ (.slice (some ⟨W6.heap.size,0,none⟩) 1 1)) (w.heap.size+1) ⟨to,x.cost+c,[to]⟩ (.slice (some ⟨W6.heap.size,0,none⟩) 1 1)).heap.size,0,none⟩) 1 1) [to].length (flat intE [to]):=World.ownsRow_lit _ #[.int .i64 to] 1 (by rw [ez2];omega) (by unfold maxLen;omega) (by simp)
   rw [ez2] at RW;have O9:=hide RW;have B9:=hide (B8.alloc (by rw [ez2];omega) (.cells #[.int .i64 to] 3))
   have HFIN:=hide (fun W (hW:W=(Za8 (W6.setCell ⟨NB,2,none⟩ (.slice (some ⟨W6.heap.size,0,none⟩) 1 1)) (w.heap.size+1) ⟨to,x.cost+c,[to]⟩ (.slice (some ⟨W6.heap.size,0,none⟩) 1 1)).alloc (.cells #[.int .i64 to] 3))=>show W.heap[w.heap.size+1]? = some (.cells (wayC ⟨to,x.cost+c,[to]⟩ (.slice (some ⟨W6.heap.size,0,none⟩) 1 1)) 194)/\W.ownsRow w.heap.size 3 1 (.slice (some ⟨W6.heap.size,0,none⟩) 1 1) [to].length (flat intE [to])/\Below w.heap.size w W by subst hW;exact⟨FF.out,O9.out,B9.out⟩)
   have QB:=(Below.heap_alloc (W6.setCell ⟨NB,2,none⟩ (.slice (some ⟨W6.heap.size,0,none⟩) 1 1)) (.cells #[.int .i64 to] 3) (w.heap.size+1) (by rw [ez];omega)).trans QA
   have fb0:=Zaf QB 0;have fb1:=Zaf QB 1;have fb2:=Zaf QB 2;have l6:w.heap.size+1<W6.heap.size:=by omega
   clear G9 RW QA QB F1 B8 ez ez2 FF O9 B9 hl0 hx0 HZ0 HZ1 HFN HOO HBB hS6 HOH HD
   go_wp2_with fail
   (try simp only [Exit.inBlock,Exit.then])
   obtain⟨W7,hW7⟩:∃ W,W=(Za8 (W6.setCell ⟨NB,2,none⟩ (.slice (some ⟨W6.heap.size,0,none⟩) 1 1)) (w.heap.size+1) ⟨to,x.cost+c,[to]⟩ (.slice (some ⟨W6.heap.size,0,none⟩) 1 1)).alloc (.cells #[.int .i64 to] 3):=⟨_,rfl⟩;have R7:=HFIN.out W7 hW7;rw [<-hW7];refine bodyPost_ret (results_cell_row rfl _ _ (w.heap.size+1) 194 (wayC ⟨to,x.cost+c,[to]⟩ (.slice (some ⟨W6.heap.size,0,none⟩) 1 1)) (0,0) _ rfl R7.1 Tryz.underlying194 rfl (by kernel_rfl)) rfl ?_
   exact⟨_,rfl,R7.2.1,R7.2.2⟩
  ·have hDe:D=⟨to,x.cost+c,x.hops⟩:=by rw [HD.out,if_neg hx0]
   subst hDe;have hl0:x.hops.length≠0:=fun e=>hx0 (List.eq_nil_of_length_eq_zero e)
   have hlb:((x.hops.length:Int)==0)=false:=by
    have h1:¬(x.hops.length:Int)=0:=by omega
    simpa using h1
   have FF:=hide (Zc6 ⟨to,x.cost+c,x.hops⟩ (.slice na x.hops.length nc) HZ1.out);have G9:=Za2 W6 (w.heap.size+1) ⟨to,x.cost+c,x.hops⟩ (.slice na x.hops.length nc);have O9:=hide (Zaj (b0:=w.heap.size) (HOO.out.kept G9 (by
    cases hv:(Value.slice na x.hops.length nc).ownBlock with
    | none=>exact .inl rfl
    | some g=>exact .inr (fun e=>by have:=(HOO.out.lt g hv).1;simp at e;omega))) (by omega))
   have B9:=hide (HBB.out.grown G9 HBB.out.size (fun k hk=>by simp at hk;omega))
   have hl1:¬(x.hops.length:Int)=0:=by omega
   clear G9 hl0 hx0 HZ0 HZ1 HFN HOO HBB hS6 HOH HD
   go_wp2_with fail
   (try simp only [Exit.inBlock,Exit.then])
   refine bodyPost_ret (results_cell_row rfl _ _ (w.heap.size+1) 194 (wayC ⟨to,x.cost+c,x.hops⟩ (.slice na x.hops.length nc)) (0,0) _ rfl FF.out Tryz.underlying194 rfl (by kernel_rfl)) rfl ?_
   exact⟨_,rfl,O9.out,B9.out⟩
 refine AllReadyH.cons (o:=?_) ?_ (fun K hK=>?_) ?_
 rotate_left 1
 ·rw [hops.out];simp only [getS];rfl
 ·rw [if_pos (by rfl)]
  go_simp
  have hK2:(w1.drew.alloc (.cells #[.int .i64 0,.int .i64 0,.slice none 0 0] 194)).cell? ⟨w.heap.size,1,none⟩=some (.int .i64 x.cost)/\(w1.drew.alloc (.cells #[.int .i64 0,.int .i64 0,.slice none 0 0] 194)).cell? ⟨w.heap.size,2,none⟩=some (.slice p1 x.hops.length q1):=⟨by rw [World.cell?_of_block (w:=w1.drew) (Below.heap_alloc _ _ _ (by exact Zab m0))];exact s1,by rw [World.cell?_of_block (w:=w1.drew) (Below.heap_alloc _ _ _ (by exact Zab m0))];exact s2⟩
  refine hK.out _ _ hK2 (fun _=>?_)
  clear hK K
  try simp only [putS]
  refine Zak 7 (oi:=?_) ?_ (by rw [hops.out];kernel_rfl) ?_ ?_
  rotate_left 1
  ·rw [hops.out];simp only [getS];rfl
  ·rw [hops.out];kernel_rfl
  intro K hK
  go_simp
  refine (HOH.out (w1.drew.alloc (.cells #[.int .i64 0,.int .i64 0,.slice none 0 0] 194)) ((Zlm BQ).alloc (by exact BQ.size) _)).mono ?_
  rintro e w4 ⟨u,rfl,hn2,b2⟩;obtain⟨na,nc,rfl⟩:=Zac hn2;have l0:w.heap.size<(w1.drew.alloc (.cells #[.int .i64 0,.int .i64 0,.slice none 0 0] 194)).heap.size:=by
   have h1:=Zab m0;have h2:(w1.drew.alloc (.cells #[.int .i64 0,.int .i64 0,.slice none 0 0] 194)).heap.size=w1.heap.size+1:=by
    rw [World.size_alloc_drew]
   omega
  have hK3:w4.cell? ⟨w.heap.size,1,none⟩=some (.int .i64 x.cost)/\w4.cell? ⟨w.heap.size,2,none⟩=some (.slice p1 x.hops.length q1):=⟨by rw [b2.cell l0];exact hK2.1,by rw [b2.cell l0];exact hK2.2⟩
  refine hK.out _ _ hK3 (fun _=>?_)
  clear hK K
  try simp only [putS]
  refine ZaP 8 ?_ ?_ ?_ (by rw [hops.out];kernel_rfl) ?_ ?_ (by assumption) ?_
  rotate_left 2
  ·rw [hops.out];simp only [getS];rfl
  ·intro W hW;obtain⟨k1,k2⟩:=hW;go_simp <;> with_reducible rfl
  ·exact fun _ _ _=>id
  try simp only [putS]
  have hsA:(w1.drew.alloc (.cells #[.int .i64 0,.int .i64 0,.slice none 0 0] 194)).heap.size=w1.heap.size+1:=World.size_alloc_drew w1 _;have l1:=Zab m1;have z0:=(b2.block _ l0).trans ((Below.heap_alloc w1.drew (.cells #[.int .i64 0,.int .i64 0,.slice none 0 0] 194) _ (by exact Zab m0)).trans m0)
  have z1:=(b2.block _ (by omega)).trans ((Below.heap_alloc w1.drew (.cells #[.int .i64 0,.int .i64 0,.slice none 0 0] 194) _ (by exact Zab m1)).trans m1)
  have zn:=(b2.block _ (by rw [hsA];exact Nat.lt_succ_self w1.heap.size)).trans (heap_alloc_new w1.drew (.cells #[.int .i64 0,.int .i64 0,.slice none 0 0] 194))
  have ho:=Zaj (b0:=w.heap.size+2) hn2 (by omega)
  have hB:Below w.heap.size w w4:=((Zlm BQ).alloc (by exact BQ.size) _).trans (b2.mono (by omega))
  have hnb:w.heap.size+1<w1.heap.size:=l1;have hvn:∀ g,(Value.slice na x.hops.length nc).ownBlock=some g->g≠w1.heap.size:=fun g hv=>by have:=(hn2.lt g hv).1;omega
  have zn:w4.heap[w1.heap.size]? = some (.cells #[.int .i64 0,.int .i64 0,.slice none 0 0] 194):=zn;clear hn2 b2 hK2 hK3;have u0:=Zaa zn 0;have u1:=Zaa zn 1;have u2:=Zaa zn 2;simp at u0 u1 u2
  have fu:=Zaf zn;have FN:=Zc6 (⟨to,x.cost+c,x.hops⟩:WayD) (.slice na x.hops.length nc) zn;have G8:=Za2 w4 w1.heap.size (⟨to,x.cost+c,x.hops⟩:WayD) (.slice na x.hops.length nc);have ZZ0:=(G8.block _ (Zab z0) (by simp;omega)).trans z0
  have ZZ1:=(G8.block _ (Zab z1) (by simp;omega)).trans z1
  have OO:=ho.kept G8 (by
   cases hv:(Value.slice na x.hops.length nc).ownBlock with
   | none=>exact .inl rfl
   | some g=>exact .inr (fun e=>hvn g hv (by simpa using e)))
  have BB:=hB.grown G8 hB.size (fun k hk=>by simp at hk;omega)
  have hS6:(Za8 w4 w1.heap.size (⟨to,x.cost+c,x.hops⟩:WayD) (.slice na x.hops.length nc)).cell? ⟨w.heap.size,1,none⟩=some (.int .i64 x.cost)/\(Za8 w4 w1.heap.size (⟨to,x.cost+c,x.hops⟩:WayD) (.slice na x.hops.length nc)).cell? ⟨w.heap.size,2,none⟩=some (.slice p1 x.hops.length q1):=⟨by have e:=Zaa ZZ0 1;simpa using e,by have e:=Zaa ZZ0 2;simpa using e⟩
  obtain⟨W6,hW6⟩:∃ W,W=((w4.setCell ⟨w1.heap.size,0,none⟩ (.int .i64 to)).setCell ⟨w1.heap.size,1,none⟩ (.int .i64 (x.cost+c))).setCell ⟨w1.heap.size,2,none⟩ (.slice na x.hops.length nc):=⟨_,rfl⟩;have e6:W6=Za8 w4 w1.heap.size (⟨to,x.cost+c,x.hops⟩:WayD) (.slice na x.hops.length nc):=hW6;rw [<-e6] at FN ZZ0 ZZ1 OO BB hS6;have HW6:=hide hW6;clear e6 hW6;have hnbB:=hnb;have HFN:=hide FN;have HZ0:=hide ZZ0;have HZ1:=hide ZZ1;have HOO:=hide OO;have HBB:=hide BB;clear FN G8 ZZ0 ZZ1 OO BB zn z0 z1 ho hB hvn;refine Zak 10 (oi:=?_) ?_ (by rw [hops.out];kernel_rfl) ?_ ?_
  rotate_left 1
  ·rw [hops.out];simp only [getS];rfl
  ·rw [hops.out];kernel_rfl
  intro K hK
  go_simp
  rw [<-HW6.out];refine hK.out _ _ hS6 (fun _=>?_)
  clear hK K
  try simp only [putS]
  refine wpAnyH_done (by rw [hops.out];kernel_rfl) ?_ _
  clear hops ops u0 u1 u2 fu;refine NoPanic.normal ?_
  clear HW6;obtain⟨NB,hNB⟩:∃ k,k=w1.heap.size:=⟨_,rfl⟩;rw [<-hNB] at HFN hnbB |-;clear hNB;clear m0 m1 s1 s2 hS0 BQ;have s2:=hS6.2;have f0:=Zaa HFN.out 0;have f1:=Zaa HFN.out 1;have f2:=Zaa HFN.out 2;simp [wayC] at f0 f1 f2
  have ff:=Zaf HFN.out;have v0:=Zaa HZ1.out 0;have v1:=Zaa HZ1.out 1;have v2:=Zaa HZ1.out 2;simp at v0 v1 v2
  have fv:=Zaf HZ1.out;have lnB:=Zab HFN.out;by_cases hx0:x.hops=[]
  ·have hDe:D=⟨to,x.cost+c,[to]⟩:=by rw [HD.out,if_pos hx0]
   subst hDe;have hl0:x.hops.length=0:=by rw [hx0];rfl
   have hlb:((x.hops.length:Int)==0)=true:=by rw [hl0];rfl
   have ez:(W6.setCell ⟨NB,2,none⟩ (.slice (some ⟨W6.heap.size,0,none⟩) 1 1)).heap.size=W6.heap.size:=by simp
   have QA:(W6.setCell ⟨NB,2,none⟩ (.slice (some ⟨W6.heap.size,0,none⟩) 1 1)).heap[w.heap.size+1]? = some (.cells #[.int .i64 0,.int .i64 0,.slice none 0 0] 194):=by
    rw [heap_setCell_other W6 ⟨NB,2,none⟩ _ _ (by show w.heap.size+1≠NB;omega)]
    exact HZ1.out
   have F1:=Zc6 ⟨to,x.cost+c,[to]⟩ (.slice (some ⟨W6.heap.size,0,none⟩) 1 1) QA;have G9:=Za2 (W6.setCell ⟨NB,2,none⟩ (.slice (some ⟨W6.heap.size,0,none⟩) 1 1)) (w.heap.size+1) ⟨to,x.cost+c,[to]⟩ (.slice (some ⟨W6.heap.size,0,none⟩) 1 1);have B8:=(HBB.out.setCell (p:=⟨NB,2,none⟩) (by show w.heap.size<=NB;omega) (.slice (some ⟨W6.heap.size,0,none⟩) 1 1)).grown G9 (by rw [ez];omega) (fun k hk=>by simp at hk;omega)
   have ez2:(Za8 (W6.setCell ⟨NB,2,none⟩ (.slice (some ⟨W6.heap.size,0,none⟩) 1 1)) (w.heap.size+1) ⟨to,x.cost+c,[to]⟩ (.slice (some ⟨W6.heap.size,0,none⟩) 1 1)).heap.size=W6.heap.size:=by simp [Za8]
   have FF:=hide ((Below.heap_alloc (Za8 (W6.setCell ⟨NB,2,none⟩ (.slice (some ⟨W6.heap.size,0,none⟩) 1 1)) (w.heap.size+1) ⟨to,x.cost+c,[to]⟩ (.slice (some ⟨W6.heap.size,0,none⟩) 1 1)) (.cells #[.int .i64 to] 3) (w.heap.size+1) (by rw [ez2];omega)).trans F1)
   have RW:((Za8 (W6.setCell ⟨NB,2,none⟩ (.slice (some ⟨W6.heap.size,0,none⟩) 1 1)) (w.heap.size+1) ⟨to,x.cost+c,[to]⟩ (.slice (some ⟨W6.heap.size,0,none⟩) 1 1)).alloc (.cells #[.int .i64 to] 3)).ownsRow w.heap.size 3 1 (.slice (some ⟨(Za8 (W6.setCell ⟨NB,2,none⟩ (.slice (some ⟨W6.heap.size,0,none⟩) 1 1)) (w.heap.size+1) ⟨to,x.cost+c,[to]⟩ (.slice (some ⟨W6.heap.size,0,none⟩) 1 1)).heap.size,0,none⟩) 1 1) [to].length (flat intE [to]):=World.ownsRow_lit _ #[.int .i64 to] 1 (by rw [ez2];omega) (by unfold maxLen;omega) (by simp)
   rw [ez2] at RW;have O9:=hide RW;have B9:=hide (B8.alloc (by rw [ez2];omega) (.cells #[.int .i64 to] 3))
   have HFIN:=hide (fun W (hW:W=(Za8 (W6.setCell ⟨NB,2,none⟩ (.slice (some ⟨W6.heap.size,0,none⟩) 1 1)) (w.heap.size+1) ⟨to,x.cost+c,[to]⟩ (.slice (some ⟨W6.heap.size,0,none⟩) 1 1)).alloc (.cells #[.int .i64 to] 3))=>show W.heap[w.heap.size+1]? = some (.cells (wayC ⟨to,x.cost+c,[to]⟩ (.slice (some ⟨W6.heap.size,0,none⟩) 1 1)) 194)/\W.ownsRow w.heap.size 3 1 (.slice (some ⟨W6.heap.size,0,none⟩) 1 1) [to].length (flat intE [to])/\Below w.heap.size w W by subst hW;exact⟨FF.out,O9.out,B9.out⟩)
   have QB:=(Below.heap_alloc (W6.setCell ⟨NB,2,none⟩ (.slice (some ⟨W6.heap.size,0,none⟩) 1 1)) (.cells #[.int .i64 to] 3) (w.heap.size+1) (by rw [ez];omega)).trans QA
   have fb0:=Zaf QB 0;have fb1:=Zaf QB 1;have fb2:=Zaf QB 2;have l6:w.heap.size+1<W6.heap.size:=by omega
   clear G9 RW QA QB F1 B8 ez ez2 FF O9 B9 hl0 hx0 HZ0 HZ1 HFN HOO HBB hS6 HOH HD
   go_wp2_with fail
   (try simp only [Exit.inBlock,Exit.then])
   obtain⟨W7,hW7⟩:∃ W,W=(Za8 (W6.setCell ⟨NB,2,none⟩ (.slice (some ⟨W6.heap.size,0,none⟩) 1 1)) (w.heap.size+1) ⟨to,x.cost+c,[to]⟩ (.slice (some ⟨W6.heap.size,0,none⟩) 1 1)).alloc (.cells #[.int .i64 to] 3):=⟨_,rfl⟩;have R7:=HFIN.out W7 hW7;rw [<-hW7];refine bodyPost_ret (results_cell_row rfl _ _ (w.heap.size+1) 194 (wayC ⟨to,x.cost+c,[to]⟩ (.slice (some ⟨W6.heap.size,0,none⟩) 1 1)) (0,0) _ rfl R7.1 Tryz.underlying194 rfl (by kernel_rfl)) rfl ?_
   exact⟨_,rfl,R7.2.1,R7.2.2⟩
  ·have hDe:D=⟨to,x.cost+c,x.hops⟩:=by rw [HD.out,if_neg hx0]
   subst hDe;have hl0:x.hops.length≠0:=fun e=>hx0 (List.eq_nil_of_length_eq_zero e)
   have hlb:((x.hops.length:Int)==0)=false:=by
    have h1:¬(x.hops.length:Int)=0:=by omega
    simpa using h1
   have FF:=hide (Zc6 ⟨to,x.cost+c,x.hops⟩ (.slice na x.hops.length nc) HZ1.out);have G9:=Za2 W6 (w.heap.size+1) ⟨to,x.cost+c,x.hops⟩ (.slice na x.hops.length nc);have O9:=hide (Zaj (b0:=w.heap.size) (HOO.out.kept G9 (by
    cases hv:(Value.slice na x.hops.length nc).ownBlock with
    | none=>exact .inl rfl
    | some g=>exact .inr (fun e=>by have:=(HOO.out.lt g hv).1;simp at e;omega))) (by omega))
   have B9:=hide (HBB.out.grown G9 HBB.out.size (fun k hk=>by simp at hk;omega))
   have hl1:¬(x.hops.length:Int)=0:=by omega
   clear G9 hl0 hx0 HZ0 HZ1 HFN HOO HBB hS6 HOH HD
   go_wp2_with fail
   (try simp only [Exit.inBlock,Exit.then])
   refine bodyPost_ret (results_cell_row rfl _ _ (w.heap.size+1) 194 (wayC ⟨to,x.cost+c,x.hops⟩ (.slice na x.hops.length nc)) (0,0) _ rfl FF.out Tryz.underlying194 rfl (by kernel_rfl)) rfl ?_
   exact⟨_,rfl,O9.out,B9.out⟩
 exact AllReadyH.nil
theorem Zg7 {w:World}{base size n:Nat}{e:TypeId}{v:Value}{xs:List Value}(h:w.ownsRow base e size v n xs):some w.heap.size≠v.ownBlock:=fun e=>by have:=(h.lt _ e.symm).2;omega
theorem Zj0 (n:Int)(v1 v2:Value)(base:Nat)(ls:List Lk)(ts:List Th)(c:Int)(w:World)(h1:w.ownsRow base 174 4 v1 ls.length (flat lkE ls))(h2:w.ownsRow base 120 4 v2 ts.length (flat thE ts))(hn:ls.length<=1048576)(hm:ts.length<=1048576)(hc:0<=c)(hc2:c<=10000000):
  Calls Tryz.prog 41 #[.agg #[.int .i64 n,v1,v2],.int .i64 c] w fun e w'=>e=.returned (.int .i64 (c+4*(ls.length:Int)+4*(ts.length:Int)))/\w'.ownsRow base 174 4 v1 ls.length (flat lkE (Zgf c ls.length))/\w'.ownsRow base 120 4 v2 ts.length (flat thE (Zgg (c+4*(ls.length:Int)) ts.length))/\FrameS (fun k=>v1.ownBlock=some k\/v2.ownBlock=some k) w w':=by
 obtain⟨a1,c1,rfl⟩:=Zac h1;obtain⟨a2,c2,rfl⟩:=Zac h2;have BA:=(Below.refl w.heap.size w).alloc (Nat.le_refl _) (.cells #[.int .i64 n,.slice a1 ls.length c1,.slice a2 ts.length c2] 27);have g0:=heap_alloc_new w (.cells #[.int .i64 n,.slice a1 ls.length c1,.slice a2 ts.length c2] 27);have HM1:=hide (ZhV _ base ls.length ls c _ rfl (h1.alloc (.cells #[.int .i64 n,.slice a1 ls.length c1,.slice a2 ts.length c2] 27)) hn hc (by omega))
 have N1:=Zg7 h1;have N2:=Zg7 h2;have H1:=hide h1;have H2:=hide (h2.alloc (.cells #[.int .i64 n,.slice a1 ls.length c1,.slice a2 ts.length c2] 27));have H2':=hide h2;have G0:=hide g0;clear h1 h2 g0
 go_enter Tryz.func41,Tryz.ntmps41
 go_wp2_with fail
 obtain⟨w0,hw0⟩:∃ W,W=w.alloc (.cells #[.int .i64 n,.slice a1 ls.length c1,.slice a2 ts.length c2] 27):=⟨_,rfl⟩;rw [<-hw0] at BA G0 HM1 H2 |-;clear hw0;refine HM1.out.mono ?_
 rintro e w1 ⟨rfl,o1,gr1⟩;have g1:=(gr1.block _ (Zab G0.out) N1).trans G0.out;have hx:∀ k,(Value.slice a1 ls.length c1).ownBlock=some k->(Value.slice a2 ts.length c2).ownBlock≠some k:=fun k hk e=>by
  rcases H1.out.2 with ⟨h,_⟩ | ⟨g',cap',cur',hv',_,hh',_⟩
  ·rw [h] at hk;simp [Value.ownBlock] at hk
  ·rw [hv'] at hk
   simp [Value.ownBlock] at hk
   subst hk;exact Zat H2'.out hh' (by decide) e.symm
 have o2:=Zan (W':=w1) H2.out (fun k hk=>gr1.block k (H2.out.lt k hk).2 (fun e=>hx k e.symm hk))
 have F1:FrameS (fun k=>(Value.slice a1 ls.length c1).ownBlock=some k\/(Value.slice a2 ts.length c2).ownBlock=some k) w w1:=⟨gr1.os.trans BA.os,gr1.tape.trans BA.tape,gr1.output.trans BA.output,Nat.le_trans BA.size gr1.size,fun k hk hs=>(gr1.block k (Nat.lt_of_lt_of_le hk BA.size) (fun e=>hs (.inl e.symm))).trans (BA.block k hk)⟩
 have s2:=Zaa g1 2;simp at s2
 have HM2:=hide (ZgK _ base ts.length ts (c+4*(ls.length:Int)) w1 rfl o2 hm (by omega) (by omega))
 have O1:=hide o1;have HX:=hide hx;clear g1 o1 o2 hx HM1 gr1
 go_wp2_with fail
 refine HM2.out.mono ?_
 rintro e w2 ⟨rfl,o2,gr2⟩;have F2:=F1.trans (FrameS.grown gr2 (fun k hk=>.inr hk))
 have o1:=Zan (W':=w2) O1.out (fun k hk=>gr2.block k (O1.out.lt k hk).2 (fun e=>HX.out k hk e.symm))
 have O2:=hide o2;have O3:=hide o1;clear o1 o2 gr2 s2 HM2
 go_wp2
 go_ret
 exact⟨rfl,O3.out,O2.out,F2⟩
def Zps (v1 v2 v3 v4:Value)(ps:List RP)(k:Nat):Prop:=(v1.ownBlock=some k\/v2.ownBlock=some k)\/v3.ownBlock=some k\/BlkOf v4 ps k
theorem SelfOwn.blk {W:World}{lo hi m1 m2:Nat}{v1 v2 v3 v4:Value}{x:SelfD}{ps:List RP}(h:SelfOwn W lo hi v1 v2 v3 v4 x ps m1 m2)(k:Nat)(hk:Zps v1 v2 v3 v4 ps k):lo<=k/\k<hi/\k<W.heap.size:=by
 have h1:=h.o1;have h2:=h.o2;have h3:=h.o3
 rcases hk with (e | e) | e | e
 ·have a:=h.links.lt k e;have b:=h.ltop k e;omega
 ·have a:=h.things.lt k e;have b:=h.ttop k e;omega
 ·have a:=h.heard.row.lt k e;have b:=h.heard.top k e;omega
 ·have a:=h.store.blk k e;omega
end Go.Proofs.YtadokhjefnkajaaGreat
