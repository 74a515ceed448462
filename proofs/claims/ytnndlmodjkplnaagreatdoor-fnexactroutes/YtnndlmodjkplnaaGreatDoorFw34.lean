/-
  IEnds IAreaB AreaS MarkL RowsN Law5K MarkS HopsToS
-/
import Derived.Test.YtnndlmodjkplnaaGreatDoorFw15
import Derived.Test.YtnndlmodjkplnaaGreatDoorFw6
import Derived.Test.YtnndlmodjkplnaaGreatDoorFw5
import Derived.Maps.AppendAt
import Derived.Test.YtnndlmodjkplnaaGreatDoorFw3
import Derived.Lib.OwnBridge
import Derived.Sort.OwnSortedInts
import Derived.Test.YtnndlmodjkplnaaGreatDoorFw33
import Derived.Test.YtnndlmodjkplnaaGreatDoorFw2
import Derived.Test.YtnndlmodjkplnaaGreatDoorFw4
import Derived.Test.YtnndlmodjkplnaaGreatDoorFw18
namespace Go.Proofs.YtnndlmodjkplnaaGreatDoor
open Go.RowKit
set_option linter.unusedSimpArgs false
set_option linter.unusedVariables false
set_option maxRecDepth 100000
set_option maxHeartbeats 8000000
theorem Zny (w:World)(o:Obj)(z:Int)(t:TypeId):((w.alloc o).alloc (.cells #[.int .i64 z] t)).cell? ((⟨w.heap.size+1,0,none⟩:Addr).add 0)=some (.int .i64 z):=by
 have hs:(w.alloc o).heap.size=w.heap.size+1:=by simp
 rw [add_zero', <-hs];exact Zaa (heap_alloc_new (w.alloc o) (.cells #[.int .i64 z] t)) 0
def hit1 (f r:Int)(l:Lk):List Int:=if l.a=f/\l.r=r then [l.b] else []
def hit2 (f r:Int)(l:Lk):List Int:=if l.b=f/\l.r=r then [l.a] else []
def hits (f r:Int)(l:Lk):List Int:=hit1 f r l++hit2 f r l
def gath (ls:List Lk)(f r:Int)(k:Nat):List Int:=(ls.take k).flatMap (hits f r)
theorem ZiP {ls:List Lk}{f r:Int}{k:Nat}{l:Lk}(h:ls[k]? = some l):gath ls f r (k+1)=gath ls f r k++hit1 f r l++hit2 f r l:=by
 obtain⟨hk,e⟩:=List.getElem?_eq_some_iff.1 h;unfold gath;rw [List.take_succ_eq_append_getElem hk,List.flatMap_append,e];simp [hits]
theorem ZoI (f r:Int)(l:Lk):(hits f r l).length<=2:=by
 unfold hits hit1 hit2
 split <;> split <;> simp
theorem ZoF (ls:List Lk)(f r:Int)(k:Nat):(gath ls f r k).length<=2*k:=by
 induction k with
 | zero=>simp [gath]
 | succ k ih=>
  by_cases hk:k<ls.length
  ·have h1:=ZoI f r ls[k]
   rw [ZiP (List.getElem?_eq_getElem hk)];unfold hits at h1;simp only [List.length_append] at h1 |-
   omega
  ·have e:gath ls f r (k+1)=gath ls f r k:=by unfold gath;rw [List.take_of_length_le (by omega),List.take_of_length_le (by omega)]
   rw [e];omega
def ZfE (ls:List Lk)(f r:Int):List Int:=Lib.compact ((gath ls f r ls.length).mergeSort fun x y=>decide (x<=y))
theorem Znh (n:Value)(v tv:Value)(ls:List Lk)(f r:Int)(w:World)(hls:ls.length<=1048576)(hv:Zbf w v ls w.heap.size):
  Calls Tryz.prog 71 #[.agg #[n,v,tv],.int .i64 f,.int .i64 r] w fun e w'=>∃ x,e=.returned x/\w'.ownsRow w.heap.size 3 1 x (gath ls f r ls.length).length (Za2 (gath ls f r ls.length))/\Below w.heap.size w w':=by
 obtain⟨a,cap,rfl⟩:∃ a cap,v=.slice a ls.length cap:=by obtain ⟨a,cap,h,_⟩:=hv;exact⟨a,cap,h⟩
 have HV:=hide hv;clear hv
 go_enter Tryz.func71,Tryz.ntmps71
 go_wp2
 go_loopw [7,15] (fun u i wr=>∃ k:Nat,k<=ls.length/\i=.int .i64 k/\wr.ownsRow w.heap.size 3 1 u (gath ls f r k).length (Za2 (gath ls f r k))/\Below w.heap.size w wr) (fun _ i _=>ls.length-(intOf i).toNat)
 case atStart=>exact ⟨0,by omega,rfl,⟨by simp [gath,Za2],.inl ⟨rfl,by simp [gath]⟩⟩,(Below.refl _ _).alloc (Nat.le_refl _) _⟩
 case round=>
  obtain⟨k,hk,rfl,hown,hb⟩:=hrel;have hgl:=ZoF ls f r k;by_cases hlt:k<ls.length
  ·obtain ⟨l,hl⟩:∃ l,ls[k]? = some l:=⟨ls[k],List.getElem?_eq_getElem hlt⟩
   obtain⟨b,off,cap',hve,hbb,c0,c1,c2,c3⟩:=HV.out.cells k l hl;cases hve
   rw [<-hb.cell (p:=⟨b,off+k*4,none⟩) hbb] at c0;rw [<-hb.cell (p:=⟨b,off+k*4+1,none⟩) hbb] at c1;rw [<-hb.cell (p:=⟨b,off+k*4+2,none⟩) hbb] at c2;rw [<-hb.cell (p:=⟨b,off+k*4+3,none⟩) hbb] at c3;have HG:=hide (ZiP (f:=f) (r:=r) hl);have hbo:=ZkJ l;clear hl;obtain⟨la,lb,lc,lr⟩:=l;unfold Zou lkV at hbo;simp only [] at hbo c0 c1 c2 c3
   have HBO:=hide hbo;have OW:=hide hown;clear hbo hown;have hzr:=hb.size;generalize hg:gath ls f r k=g at OW hgl HG
   go_wp2_with fail
   refine (HBO.out _).mono ?_
   rintro e w1 ⟨rfl,b1⟩;have ow1:=Zaf (OW.out.alloc _) b1 (Nat.le_refl _);have B1:Below w.heap.size w w1:=(hb.alloc hb.size _).trans (b1.mono (by simp;omega))
   have OW1:=hide ow1;clear b1 ow1 c0 c1 c2 c3 OW
   go_wp2
   go_loopw [7,21] (fun u i wi=>∃ (j:Nat) (h:List Int),j<=2/\i=.int .i64 j/\h=(if j=0 then g else if j=1 then g++hit1 f r ⟨la,lb,lc,lr⟩ else g++hit1 f r ⟨la,lb,lc,lr⟩++hit2 f r ⟨la,lb,lc,lr⟩)/\wi.ownsRow w.heap.size 3 1 u h.length (Za2 h)/\Below w.heap.size w wi) (fun _ i _=>2-(intOf i).toNat)
   case atStart=>exact ⟨0,g,by omega,rfl,rfl,OW1.out,B1⟩
   case round=>
    obtain⟨wz,rfl⟩:∃ wz:World,wz=wr:=⟨_,rfl⟩;clear OW1 B1;obtain⟨j,h,hj,rfl,hh,hown,hb2⟩:=hrel;have hz2:=hb2.size;have hhl:h.length<=2*k+2:=by
     have e1:(hit1 f r ⟨la,lb,lc,lr⟩).length<=1:=by unfold hit1;split <;> simp
     have e2:(hit2 f r ⟨la,lb,lc,lr⟩).length<=1:=by unfold hit2;split <;> simp
     rw [hh]
     split
     ·omega
     ·split <;> simp only [List.length_append] <;> omega
    have HH:=hide hh;have OW:=hide hown;clear hh hown;obtain rfl | rfl | rfl:j=0\/j=1\/j=2:=by omega
    ·have i0:=fun W=>Zji W (.int .i64 la) (.int .i64 lb) (.int .i64 lc) (.int .i64 lr) (.int .i64 lb) (.int .i64 la) (.int .i64 lc) (.int .i64 lr)
     by_cases hA:la=f/\lr=r
     ·have e1:(la==f)=true:=by simp [hA.1]
      have e2:(lr==r)=true:=by simp [hA.2]
      have hn:h++[lb]=g++hit1 f r ⟨la,lb,lc,lr⟩:=by
       rw [HH.out];simp [hit1,hA]
      have HN:=hide hn;clear hn hA
      go_wp2_with (first
       | (at_builtin;refine Zbx _ rfl _ _ 26 rfl w.heap.size 3 Tryz.underlying26 Tryz.info3 u7 h lb rfl ((OW.out.alloc _).alloc _) ⟨wz.heap.size+1,0,none⟩ 1 rfl (Zny wz _ _ _) (by omega) (by simp;omega) ?_))
      intro v' w5 l' hl' hown' hgrow;have B5:Below w.heap.size w w5:=((hb2.alloc hb2.size _).alloc (by simp;omega) _).grown hgrow (by simp;omega) (fun k hk=>by have:=(OW.out.lt k hk).1;omega)
      have OW5:=hide hown';clear hown' hgrow
      go_wp2
      go_roundw
      case rel=>exact ⟨1,l',by omega,by go_num,by rw [hl'.out,HN.out];rfl,OW5.out,B5⟩
      case measure=>simp [intOf]
     by_cases hB:la=f
     ·have e1:(la==f)=true:=by simp [hB]
      have e2:(lr==r)=false:=by
       have:¬lr=r:=fun e=>hA ⟨hB,e⟩
       simpa using this
      clear hB;have hn:h=g++hit1 f r ⟨la,lb,lc,lr⟩:=by
       rw [HH.out];simp [hit1,hA]
      have HN:=hide hn;clear hn hA
      go_wp2
      go_roundw
      case rel=>exact ⟨1,h,by omega,by go_num,by rw [HN.out];rfl,OW.out.alloc _,hb2.alloc hb2.size _⟩
      case measure=>simp [intOf]
     ·have e1:(la==f)=false:=by simpa using hB
      clear hB;have hn:h=g++hit1 f r ⟨la,lb,lc,lr⟩:=by
       rw [HH.out];simp [hit1,hA]
      have HN:=hide hn;clear hn hA
      go_wp2
      go_roundw
      case rel=>exact ⟨1,h,by omega,by go_num,by rw [HN.out];rfl,OW.out.alloc _,hb2.alloc hb2.size _⟩
      case measure=>simp [intOf]
    ·have i0:=fun W=>Zjj W (.int .i64 la) (.int .i64 lb) (.int .i64 lc) (.int .i64 lr) (.int .i64 lb) (.int .i64 la) (.int .i64 lc) (.int .i64 lr)
     by_cases hA:lb=f/\lr=r
     ·have e1:(lb==f)=true:=by simp [hA.1]
      have e2:(lr==r)=true:=by simp [hA.2]
      have hn:h++[la]=g++hit1 f r ⟨la,lb,lc,lr⟩++hit2 f r ⟨la,lb,lc,lr⟩:=by
       rw [HH.out];simp [hit2,hA]
      have HN:=hide hn;clear hn hA
      go_wp2_with (first
       | (at_builtin;refine Zbx _ rfl _ _ 26 rfl w.heap.size 3 Tryz.underlying26 Tryz.info3 u7 h la rfl ((OW.out.alloc _).alloc _) ⟨wz.heap.size+1,0,none⟩ 1 rfl (Zny wz _ _ _) (by omega) (by simp;omega) ?_))
      intro v' w5 l' hl' hown' hgrow;have B5:Below w.heap.size w w5:=((hb2.alloc hb2.size _).alloc (by simp;omega) _).grown hgrow (by simp;omega) (fun k hk=>by have:=(OW.out.lt k hk).1;omega)
      have OW5:=hide hown';clear hown' hgrow
      go_wp2
      go_roundw
      case rel=>exact ⟨2,l',by omega,by go_num,by rw [hl'.out,HN.out];rfl,OW5.out,B5⟩
      case measure=>simp [intOf]
     by_cases hB:lb=f
     ·have e1:(lb==f)=true:=by simp [hB]
      have e2:(lr==r)=false:=by
       have:¬lr=r:=fun e=>hA ⟨hB,e⟩
       simpa using this
      clear hB;have hn:h=g++hit1 f r ⟨la,lb,lc,lr⟩++hit2 f r ⟨la,lb,lc,lr⟩:=by
       rw [HH.out];simp [hit2,hA]
      have HN:=hide hn;clear hn hA
      go_wp2
      go_roundw
      case rel=>exact ⟨2,h,by omega,by go_num,by rw [HN.out];rfl,OW.out.alloc _,hb2.alloc hb2.size _⟩
      case measure=>simp [intOf]
     ·have e1:(lb==f)=false:=by simpa using hB
      clear hB;have hn:h=g++hit1 f r ⟨la,lb,lc,lr⟩++hit2 f r ⟨la,lb,lc,lr⟩:=by
       rw [HH.out];simp [hit2,hA]
      have HN:=hide hn;clear hn hA
      go_wp2
      go_roundw
      case rel=>exact ⟨2,h,by omega,by go_num,by rw [HN.out];rfl,OW.out.alloc _,hb2.alloc hb2.size _⟩
      case measure=>simp [intOf]
    ·have hn:h=gath ls f r (k+1):=by rw [HG.out,HH.out];rfl
     have HN:=hide hn;clear hn
     go_wp2
     exact⟨⟨k+1,by omega,by go_num,by rw [<-HN.out];exact OW.out,hb2⟩,by simp [intOf];omega⟩
  ·have hk':k=ls.length:=by omega
   rw [hk'] at hown;have OW:=hide hown;clear hown hk'
   go_wp2
   go_ret
   exact⟨_,rfl,OW.out,hb⟩
def ZeB (ls:List Lk)(f:Int):List Int:=([0,1,2]:List Int).filter fun u=>decide (0<(ZfE ls f u).length)
def Zlp (ls:List Lk)(f:Int):Bool:=decide (1<(ZeB ls f).length)&&((ZeB ls f).head? == some 0)
theorem Zls (z:Int)(zs:List Int):Lib.compact (z::zs)≠[]:=by
 intro h;unfold Lib.compact Lib.compactUpTo at h;rw [List.map_eq_nil_iff,List.filter_eq_nil_iff] at h;exact h 0 (by simp) (Lib.keeps_lt_one _ 0 (by omega))
theorem ZkZ (ls:List Lk)(f r:Int):decide (0<(ZfE ls f r).length)=decide (0<(gath ls f r ls.length).length):=by
 unfold ZfE
 apply decide_eq_decide.2
 have h1:=Lib.compact_length_le ((gath ls f r ls.length).mergeSort fun x y=>decide (x<=y))
 rw [List.length_mergeSort] at h1
 constructor
 ·omega
 ·intro h
  have hm:0<((gath ls f r ls.length).mergeSort fun x y=>decide (x<=y)).length:=by rw [List.length_mergeSort];exact h
  generalize ((gath ls f r ls.length).mergeSort fun x y=>decide (x<=y))=zs at hm
  cases zs with
  | nil=>simp at hm
  | cons z zs=>
   cases hc:Lib.compact (z::zs) with
   | nil=>exact absurd hc (Zls z zs)
   | cons=>simp
theorem ZhC (ls:List Lk)(v:Int):ZeB ls v=Zbt (fun u=>decide (0<(ZfE ls v u).length)) 0 3:=by
 simp only [ZeB,Zbt,List.filter_cons,List.filter_nil,List.nil_append]
 repeat' split
 all_goals simp_all
theorem Zhb (n:Value)(v tv:Value)(ls:List Lk)(f:Int)(w:World)(hls:ls.length<=1048576)(hv:Zbf w v ls w.heap.size):
  Calls Tryz.prog 33 #[.agg #[n,v,tv],.int .i64 f] w fun e w'=>∃ x,e=.returned x/\w'.ownsRow w.heap.size 3 1 x (ZeB ls f).length (Za2 (ZeB ls f))/\Below w.heap.size w w':=by
 have HV:=hide hv;clear hv;rw [ZhC]
 go_enter Tryz.func33,Tryz.ntmps33
 go_wp2
 go_loopw [5,8] (fun x i wr=>∃ k:Nat,k<=3/\i=.int .i64 (0+(k:Int))/\Below w.heap.size w wr/\wr.heap[w.heap.size]? = some (.cells #[n,v,tv] 38)/\wr.ownsRow (w.heap.size+1) 3 1 x (Zbt (fun u=>decide (0<(ZfE ls f u).length)) 0 k).length (Za2 (Zbt (fun u=>decide (0<(ZfE ls f u).length)) 0 k))) (fun _ i _=>4-(intOf i).toNat)
 case atStart=>
  refine⟨0,by omega,rfl,Zan _ _,?_,?_⟩
  ·rw [Below.heap_alloc _ _ _ (show w.heap.size<(w.alloc (.cells #[n,v,tv] 38)).heap.size by simp),heap_alloc_new]
  ·have h0:=World.ownsRow_lit (base:=w.heap.size+1) (w.alloc (.cells #[n,v,tv] 38)) (#[]:Array Value) 0 (by simp) (by decide) (e:=3) (size:=1) rfl
   simpa [Zbt,Za2] using h0
 case round=>
  obtain⟨k,hk,rfl,hb,hx,hown⟩:=hrel;have c0:wr.cell? ⟨w.heap.size,0,none⟩=some n:=by rw [Zaa hx];rfl
  have c1:wr.cell? ⟨w.heap.size,1,none⟩=some v:=by rw [Zaa hx];rfl
  have c2:wr.cell? ⟨w.heap.size,2,none⟩=some tv:=by rw [Zaa hx];rfl
  have hxl:=Zab hx;have HX:=hide hx;have OW:=hide hown;clear hx hown;by_cases hlt:k<3
  ·go_wp2_with fail
   refine (Znh n v tv ls f _ wr hls (HV.out.then hb)).mono ?_
   rintro e w1 ⟨x1,rfl,hox,b1⟩;obtain⟨a1,cp1,rfl⟩:=Zdv hox;clear hox;have hown1:=Zaf OW.out b1 (Nat.le_refl _);have hx1:w1.heap[w.heap.size]? = some (.cells #[n,v,tv] 38):=by rw [b1.block _ hxl];exact HX.out
   have hb1:Below w.heap.size w w1:=hb.trans (b1.mono hb.size);have hz1:=b1.size;have hpl:=Zd2 (fun u=>decide (0<(ZfE ls f u).length)) 0 k
   have HX1:=hide hx1;obtain⟨l2,hl20⟩:∃ l2,l2=Zbt (fun u=>decide (0<(ZfE ls f u).length)) 0 (k+1):=⟨_,rfl⟩
   have HL20:=hide hl20;have hps:Hid (l2=Zbt (fun u=>decide (0<(ZfE ls f u).length)) 0 k++(if decide (0<(ZfE ls f (0+(k:Int))).length) then [0+(k:Int)] else [])):=hl20
   clear hl20;clear b1 hx1 c0 c1 c2 OW HX;generalize Zbt (fun u=>decide (0<(ZfE ls f u).length)) 0 k=l at hown1 hpl hps
   rw [Int.zero_add] at *;rw [ZkZ] at hps;generalize (gath ls f (k:Int) ls.length).length=c at hps |-;by_cases hc:0<(c:Int)
   ·have hc':0<c:=by omega
    have hl2:l2=l++[(k:Int)]:=by rw [hps.out];simp [hc']
    clear hc';have HL2:=hide hl2;clear hl2 hps
    go_wp2_with (first
     | (at_builtin;refine Zbx _ rfl _ _ 26 rfl (w.heap.size+1) 3 Tryz.underlying26 Tryz.info3 u5 l (k:Int) rfl (hown1.alloc _) ⟨w1.heap.size,0,none⟩ 1 rfl ?_ (by omega) (by simp;omega) ?_))
    ·rw [add_zero',World.cell?_alloc_at _ _ _ _ rfl];rfl
    intro v' w4 l' hl' hown' hgrow;have hb4:Below w.heap.size w w4:=(hb1.alloc (by omega) _).grown hgrow (by simp;omega) (fun k hk=>by have:=(hown1.lt k hk).1;omega)
    have hx4:w4.heap[w.heap.size]? = some (.cells #[n,v,tv] 38):=by
     rw [hgrow.block _ (by simp;omega) (fun h=>by have:=(hown1.lt _ h.symm).1;omega),Below.heap_alloc _ _ _ (by omega)]
     exact HX1.out
    have e:l'=l2:=by rw [hl'.out,HL2.out]
    subst e;have OW2:=hide hown';have HX4:=hide hx4;clear hgrow hown' hx4 hown1
    go_wp2
    go_roundw
    case rel=>exact ⟨k+1,by omega,by go_num,hb4,HX4.out,by rw [<-HL20.out];exact OW2.out⟩
    case measure=>simp [intOf];omega
   ·have hc':¬0<c:=by omega
    have hl2:l2=l:=by rw [hps.out];simp [hc']
    clear hc';subst hl2;have OW2:=hide hown1;clear hown1 hps
    go_wp2
    go_roundw
    case rel=>exact ⟨k+1,by omega,by go_num,hb1,HX1.out,by rw [<-HL20.out];exact OW2.out⟩
    case measure=>simp [intOf];omega
  ·have hk':k=3:=by omega
   subst hk'
   go_wp2
   go_ret
   exact⟨_,rfl,Zgm OW.out (by omega),hb⟩
theorem Zj3 (n:Value)(v tv:Value)(ls:List Lk)(f:Int)(w:World)(hls:ls.length<=1048576)(hv:Zbf w v ls w.heap.size):
  Calls Tryz.prog 34 #[.agg #[n,v,tv],.int .i64 f] w fun e w'=>e=.returned (.bool (Zlp ls f))/\Below w.heap.size w w':=by
 have HV:=hide hv;clear hv
 go_enter Tryz.func34,Tryz.ntmps34
 go_wp2_with fail
 refine (Zhb n v tv ls f _ hls (HV.out.then ((Below.refl _ _).alloc (Nat.le_refl _) _))).mono ?_
 rintro e w1 ⟨x,rfl,hox,b1⟩;have hb1:Below w.heap.size w w1:=((Below.refl w.heap.size w).alloc (Nat.le_refl _) _).trans (b1.mono (by simp))
 obtain⟨zs,hzs⟩:∃ zs,zs=ZeB ls f:=⟨_,rfl⟩;have hB:Zlp ls f=(decide (1<zs.length)&&(zs.head? == some 0)):=by rw [hzs];rfl
 have HB:=hide hB;rw [<-hzs] at hox;clear hB hzs b1;by_cases h1:1<zs.length
 ·obtain ⟨g,cap,rfl,hg,hl⟩:=Zde hox (by omega)
  obtain⟨z,zr,rfl⟩:∃ z zr,zs=z::zr:=by
   cases zs with
   | nil=>simp at h1
   | cons z zr=>exact ⟨z,zr,rfl⟩
  have c0:w1.cell? ⟨g,0,none⟩=some (.int .i64 z):=by rw [hox.cellAt 0 (by omega)];rfl
  have hb:(decide (1<(z::zr).length)&&((z::zr).head? == some 0))=(z==0):=by
   rw [decide_eq_true h1];simp
  have HB2:Hid (Zlp ls f=(z==0)):=HB.out.trans hb;generalize (z::zr).length=m at hox h1 hl |-;have h1':(1:Int)<(m:Int):=by omega
  have h0':(0:Int)<(m:Int):=by omega
  clear hox hb HB
  go_wp2
  go_ret
  exact⟨by rw [HB2.out];rfl,hb1⟩
 ·obtain ⟨a,cap,rfl⟩:=Zdv hox
  have hb:(decide (1<zs.length)&&(zs.head? == some 0))=false:=by rw [decide_eq_false h1];rfl
  have HB2:Hid (Zlp ls f=false):=HB.out.trans hb;have h1':¬(1:Int)<(zs.length:Int):=by omega
  clear hox hb HB
  go_wp2
  go_ret
  exact⟨by rw [HB2.out];rfl,hb1⟩
theorem Zit (ls:List Lk)(v:Int):Zcd ls v=Zbt (fun u=>decide (0<(ZdJ ls v u).length)) 0 3:=by
 simp only [Zcd,Zbt,List.filter_cons,List.filter_nil,List.nil_append]
 repeat' split
 all_goals simp_all
theorem Zhr (n:Value)(v tv:Value)(ls:List Lk)(f:Int)(w:World)(hls:ls.length<=1048576)(hv:Zbf w v ls w.heap.size):
  Calls Tryz.prog 30 #[.agg #[n,v,tv],.int .i64 f] w fun e w'=>∃ x,e=.returned x/\w'.ownsRow w.heap.size 3 1 x (Zcd ls f).length (Za2 (Zcd ls f))/\Below w.heap.size w w':=by
 have HV:=hide hv;clear hv;rw [Zit]
 go_enter Tryz.func30,Tryz.ntmps30
 go_wp2
 go_loopw [5,6] (fun x i wr=>∃ k:Nat,k<=3/\i=.int .i64 (0+(k:Int))/\Below w.heap.size w wr/\wr.heap[w.heap.size]? = some (.cells #[n,v,tv] 38)/\wr.ownsRow (w.heap.size+1) 3 1 x (Zbt (fun u=>decide (0<(ZdJ ls f u).length)) 0 k).length (Za2 (Zbt (fun u=>decide (0<(ZdJ ls f u).length)) 0 k))) (fun _ i _=>4-(intOf i).toNat)
 case atStart=>
  refine⟨0,by omega,rfl,Zan _ _,?_,?_⟩
  ·rw [Below.heap_alloc _ _ _ (show w.heap.size<(w.alloc (.cells #[n,v,tv] 38)).heap.size by simp),heap_alloc_new]
  ·have h0:=World.ownsRow_lit (base:=w.heap.size+1) (w.alloc (.cells #[n,v,tv] 38)) (#[]:Array Value) 0 (by simp) (by decide) (e:=3) (size:=1) rfl
   simpa [Zbt,Za2] using h0
 case round=>
  obtain⟨k,hk,rfl,hb,hx,hown⟩:=hrel;have c0:wr.cell? ⟨w.heap.size,0,none⟩=some n:=by rw [Zaa hx];rfl
  have c1:wr.cell? ⟨w.heap.size,1,none⟩=some v:=by rw [Zaa hx];rfl
  have c2:wr.cell? ⟨w.heap.size,2,none⟩=some tv:=by rw [Zaa hx];rfl
  have hxl:=Zab hx;have HX:=hide hx;have OW:=hide hown;clear hx hown;by_cases hlt:k<3
  ·go_wp2_with fail
   refine (Zn0 n v tv ls f _ wr hls (HV.out.then hb)).mono ?_
   rintro e w1 ⟨x1,rfl,hox,b1⟩;obtain⟨a1,cp1,rfl⟩:=Zdv hox;clear hox;have hown1:=Zaf OW.out b1 (Nat.le_refl _);have hx1:w1.heap[w.heap.size]? = some (.cells #[n,v,tv] 38):=by rw [b1.block _ hxl];exact HX.out
   have hb1:Below w.heap.size w w1:=hb.trans (b1.mono hb.size);have hz1:=b1.size;have hpl:=Zd2 (fun u=>decide (0<(ZdJ ls f u).length)) 0 k
   have HX1:=hide hx1;obtain⟨l2,hl20⟩:∃ l2,l2=Zbt (fun u=>decide (0<(ZdJ ls f u).length)) 0 (k+1):=⟨_,rfl⟩
   have HL20:=hide hl20;have hps:Hid (l2=Zbt (fun u=>decide (0<(ZdJ ls f u).length)) 0 k++(if decide (0<(ZdJ ls f (0+(k:Int))).length) then [0+(k:Int)] else [])):=hl20
   clear hl20;clear b1 hx1 c0 c1 c2 OW HX;generalize Zbt (fun u=>decide (0<(ZdJ ls f u).length)) 0 k=l at hown1 hpl hps
   rw [Int.zero_add] at *;generalize (ZdJ ls f (k:Int)).length=c at hps |-;by_cases hc:0<(c:Int)
   ·have hc':0<c:=by omega
    have hl2:l2=l++[(k:Int)]:=by rw [hps.out];simp [hc']
    clear hc';have HL2:=hide hl2;clear hl2 hps
    go_wp2_with (first
     | (at_builtin;refine Zbx _ rfl _ _ 26 rfl (w.heap.size+1) 3 Tryz.underlying26 Tryz.info3 u5 l (k:Int) rfl (hown1.alloc _) ⟨w1.heap.size,0,none⟩ 1 rfl ?_ (by omega) (by simp;omega) ?_))
    ·rw [add_zero',World.cell?_alloc_at _ _ _ _ rfl];rfl
    intro v' w4 l' hl' hown' hgrow;have hb4:Below w.heap.size w w4:=(hb1.alloc (by omega) _).grown hgrow (by simp;omega) (fun k hk=>by have:=(hown1.lt k hk).1;omega)
    have hx4:w4.heap[w.heap.size]? = some (.cells #[n,v,tv] 38):=by
     rw [hgrow.block _ (by simp;omega) (fun h=>by have:=(hown1.lt _ h.symm).1;omega),Below.heap_alloc _ _ _ (by omega)]
     exact HX1.out
    have e:l'=l2:=by rw [hl'.out,HL2.out]
    subst e;have OW2:=hide hown';have HX4:=hide hx4;clear hgrow hown' hx4 hown1
    go_wp2
    go_roundw
    case rel=>exact ⟨k+1,by omega,by go_num,hb4,HX4.out,by rw [<-HL20.out];exact OW2.out⟩
    case measure=>simp [intOf];omega
   ·have hc':¬0<c:=by omega
    have hl2:l2=l:=by rw [hps.out];simp [hc']
    clear hc';subst hl2;have OW2:=hide hown1;clear hown1 hps
    go_wp2
    go_roundw
    case rel=>exact ⟨k+1,by omega,by go_num,hb1,HX1.out,by rw [<-HL20.out];exact OW2.out⟩
    case measure=>simp [intOf];omega
  ·have hk':k=3:=by omega
   subst hk'
   go_wp2
   go_ret
   exact⟨_,rfl,Zgm OW.out (by omega),hb⟩
theorem Zkp (n:Value)(v tv:Value)(ls:List Lk)(f:Int)(w:World)(hls:ls.length<=1048576)(hv:Zbf w v ls w.heap.size):
  Calls Tryz.prog 31 #[.agg #[n,v,tv],.int .i64 f] w fun e w'=>e=.returned (.bool (ZfV ls f))/\Below w.heap.size w w':=by
 have HV:=hide hv;clear hv
 go_enter Tryz.func31,Tryz.ntmps31
 go_wp2_with fail
 refine (Zhr n v tv ls f _ hls (HV.out.then ((Below.refl _ _).alloc (Nat.le_refl _) _))).mono ?_
 rintro e w1 ⟨x,rfl,hox,b1⟩;have hb1:Below w.heap.size w w1:=((Below.refl w.heap.size w).alloc (Nat.le_refl _) _).trans (b1.mono (by simp))
 obtain⟨zs,hzs⟩:∃ zs,zs=Zcd ls f:=⟨_,rfl⟩;have hB:ZfV ls f=(decide (1<zs.length)&&(zs.head? == some 0)):=by rw [hzs];rfl
 have HB:=hide hB;rw [<-hzs] at hox;clear hB hzs b1;by_cases h1:1<zs.length
 ·obtain ⟨g,cap,rfl,hg,hl⟩:=Zde hox (by omega)
  obtain⟨z,zr,rfl⟩:∃ z zr,zs=z::zr:=by
   cases zs with
   | nil=>simp at h1
   | cons z zr=>exact ⟨z,zr,rfl⟩
  have c0:w1.cell? ⟨g,0,none⟩=some (.int .i64 z):=by rw [hox.cellAt 0 (by omega)];rfl
  have hb:(decide (1<(z::zr).length)&&((z::zr).head? == some 0))=(z==0):=by
   rw [decide_eq_true h1];simp
  have HB2:Hid (ZfV ls f=(z==0)):=HB.out.trans hb;generalize (z::zr).length=m at hox h1 hl |-;have h1':(1:Int)<(m:Int):=by omega
  have h0':(0:Int)<(m:Int):=by omega
  clear hox hb HB
  go_wp2
  go_ret
  exact⟨by rw [HB2.out];rfl,hb1⟩
 ·obtain ⟨a,cap,rfl⟩:=Zdv hox
  have hb:(decide (1<zs.length)&&(zs.head? == some 0))=false:=by rw [decide_eq_false h1];rfl
  have HB2:Hid (ZfV ls f=false):=HB.out.trans hb;have h1':¬(1:Int)<(zs.length:Int):=by omega
  clear hox hb HB
  go_wp2
  go_ret
  exact⟨by rw [HB2.out];rfl,hb1⟩
def ZlW (q:Int)(i:Nat):Lk:=⟨q+4*(i:Int),q+4*(i:Int)+1,q+4*(i:Int)+1+1,q+4*(i:Int)+1+1+1⟩
def Zfx (q:Int)(n:Nat):List Lk:=(List.range n).map (ZlW q)
theorem Zhh (q:Int)(n:Nat):(Zfx q n).length=n:=by simp [Zfx]
theorem ZlR {q:Int}{n:Nat}{ys:List Lk}(hl:ys.length=n)(h:∀ j,j<n->ys[j]? = some (ZlW q j)):ys=Zfx q n:=by
 apply List.ext_getElem?
 intro i;by_cases hi:i<n
 ·rw [h i hi]
  simp [Zfx,hi]
 ·rw [List.getElem?_eq_none (by omega),List.getElem?_eq_none (by rw [Zhh];omega)]
theorem ZhX (v:Value)(base n:Nat)(ns:List Lk)(q:Int)(w:World)(hn0:ns.length=n)(h1:w.ownsRow base 84 4 v n (flat lkE ns))(hn:n<=1048576)(hq:0<=q)(hq2:q<=1000000000):
  Calls Tryz.prog 115 #[v,.int .i64 q] w fun e w'=>e=.returned (.int .i64 (q+4*(n:Int)))/\w'.ownsRow base 84 4 v n (flat lkE (Zfx q n))/\w.grownBy w' v.ownBlock:=by
 by_cases h0:n=0
 ·subst h0
  obtain⟨a1,c1,rfl⟩:=Zac h1;have hnn:ns=[]:=List.length_eq_zero_iff.1 hn0;have H1:=hide h1;rw [hnn] at H1;clear h1 hn0 hnn
  go_enter Tryz.func115,Tryz.ntmps115
  go_wp2
  refine wp_loop_rounds 1 ?_
  rw [rounds_succ]
  go_wp2
  go_ret
  exact⟨by simp,H1.out,Zbb _ _⟩
 ·obtain ⟨g1,c1,rfl,hg1,hl1⟩:=Zb3 h1 (by omega)
  have H1:=hide h1;have HN0:=hide hn0;clear h1 h0 hn0
  go_enter Tryz.func115,Tryz.ntmps115
  go_wp2
  go_loopw [5,1] (fun i r wr=>∃ (k:Nat) (ys:List Lk),k<=n/\i=.int .i64 k/\r=.int .i64 (q+4*(k:Int))/\ys.length=n/\(∀ j,j<k->ys[j]? = some (ZlW q j))/\wr.ownsRow base 84 4 (.slice (some ⟨g1,0,none⟩) n c1) n (flat lkE ys)/\w.grownBy wr (some g1)) (fun i _ _=>n-(intOf i).toNat)
  case atStart=>exact ⟨0,ns,by omega,rfl,by simp,HN0.out,by omega,H1.out,Zbb _ _⟩
  case round=>
   clear H1;obtain⟨k,ys,hk,rfl,rfl,hyl,hys,hown,hnx⟩:=hrel;by_cases hlt:k<n
   ·have hki:(0:Int)<=(k:Int):=by omega
    have hkj:(k:Int)<(n:Int):=by omega
    obtain⟨u0,d0⟩:=ZaX hown (k*4) (by omega)
    obtain⟨u1,d1⟩:=ZaX hown (k*4+1) (by omega)
    obtain⟨u2,d2⟩:=ZaX hown (k*4+2) (by omega)
    obtain⟨u3,d3⟩:=ZaX hown (k*4+3) (by omega)
    have f0:=hown.frozenAt (k*4);have f1:=hown.frozenAt (k*4+1);have f2:=hown.frozenAt (k*4+2);have f3:=hown.frozenAt (k*4+3);have st:=((((hown.stored (k*4) (.int .i64 (q+4*(k:Int)))).1.stored (k*4+1) (.int .i64 (q+4*(k:Int)+1))).1.stored (k*4+2) (.int .i64 (q+4*(k:Int)+1+1))).1.stored (k*4+3) (.int .i64 (q+4*(k:Int)+1+1+1))).1;have e1:(((((flat lkE ys).set (k*4) (.int .i64 (q+4*(k:Int)))).set (k*4+1) (.int .i64 (q+4*(k:Int)+1))).set (k*4+2) (.int .i64 (q+4*(k:Int)+1+1))).set (k*4+3) (.int .i64 (q+4*(k:Int)+1+1+1)))=flat lkE (ys.set k (ZlW q k)):=ZbQ Zgc ys k (ZlW q k) (by omega)
    rw [e1] at st;have ST:=hide st;have HYL:=hide hyl;have HYS:=hide hys;clear hown st e1 hyl hys
    go_wp2
    refine⟨⟨k+1,ys.set k (ZlW q k),by omega,by go_num,by go_num,by simp [HYL.out],?_,ST.out,Zai (Zai (Zai (Zai hnx (Zaj _ _ _ _)) (Zaj _ _ _ _)) (Zaj _ _ _ _)) (Zaj _ _ _ _)⟩,by simp [intOf];omega⟩
    intro j hj;by_cases e:j=k
    ·subst e
     rw [List.getElem?_set_self (by rw [HYL.out];exact hlt)]
    ·rw [List.getElem?_set_ne (by omega)]
     exact HYS.out j (by omega)
   ·have hkn:k=n:=by omega
    have hm:ys=Zfx q n:=ZlR hyl (by rw [<-hkn];exact hys)
    have OW:=hide hown;have HM:=hide hm;have KN:=hide hkn;clear hkn hown hm hyl hys
    go_wp2
    go_ret
    exact⟨Zcn (by rw [KN.out]),by rw [<-HM.out];exact OW.out,hnx⟩
def ZlX (q:Int)(i:Nat):Th:=⟨q+4*(i:Int),q+4*(i:Int)+1,q+4*(i:Int)+1+1,(q+4*(i:Int)+1+1+1)%3==0⟩
def Zfy (q:Int)(n:Nat):List Th:=(List.range n).map (ZlX q)
theorem Zhi (q:Int)(n:Nat):(Zfy q n).length=n:=by simp [Zfy]
theorem ZlS {q:Int}{n:Nat}{ys:List Th}(hl:ys.length=n)(h:∀ j,j<n->ys[j]? = some (ZlX q j)):ys=Zfy q n:=by
 apply List.ext_getElem?
 intro i;by_cases hi:i<n
 ·rw [h i hi]
  simp [Zfy,hi]
 ·rw [List.getElem?_eq_none (by omega),List.getElem?_eq_none (by rw [Zhi];omega)]
theorem ZgO (v:Value)(base n:Nat)(ns:List Th)(q:Int)(w:World)(hn0:ns.length=n)(h1:w.ownsRow base 123 4 v n (flat thE ns))(hn:n<=1048576)(hq:0<=q)(hq2:q<=1000000000):
  Calls Tryz.prog 116 #[v,.int .i64 q] w fun e w'=>e=.returned (.int .i64 (q+4*(n:Int)))/\w'.ownsRow base 123 4 v n (flat thE (Zfy q n))/\w.grownBy w' v.ownBlock:=by
 by_cases h0:n=0
 ·subst h0
  obtain⟨a1,c1,rfl⟩:=Zac h1;have hnn:ns=[]:=List.length_eq_zero_iff.1 hn0;have H1:=hide h1;rw [hnn] at H1;clear h1 hn0 hnn
  go_enter Tryz.func116,Tryz.ntmps116
  go_wp2
  refine wp_loop_rounds 1 ?_
  rw [rounds_succ]
  go_wp2
  go_ret
  exact⟨by simp,H1.out,Zbb _ _⟩
 ·obtain ⟨g1,c1,rfl,hg1,hl1⟩:=Zb3 h1 (by omega)
  have H1:=hide h1;have HN0:=hide hn0;clear h1 h0 hn0
  go_enter Tryz.func116,Tryz.ntmps116
  go_wp2
  go_loopw [5,1] (fun i r wr=>∃ (k:Nat) (ys:List Th),k<=n/\i=.int .i64 k/\r=.int .i64 (q+4*(k:Int))/\ys.length=n/\(∀ j,j<k->ys[j]? = some (ZlX q j))/\wr.ownsRow base 123 4 (.slice (some ⟨g1,0,none⟩) n c1) n (flat thE ys)/\w.grownBy wr (some g1)) (fun i _ _=>n-(intOf i).toNat)
  case atStart=>exact ⟨0,ns,by omega,rfl,by simp,HN0.out,by omega,H1.out,Zbb _ _⟩
  case round=>
   clear H1;obtain⟨k,ys,hk,rfl,rfl,hyl,hys,hown,hnx⟩:=hrel;by_cases hlt:k<n
   ·have hki:(0:Int)<=(k:Int):=by omega
    have hkj:(k:Int)<(n:Int):=by omega
    obtain⟨u0,d0⟩:=ZaX hown (k*4) (by omega)
    obtain⟨u1,d1⟩:=ZaX hown (k*4+1) (by omega)
    obtain⟨u2,d2⟩:=ZaX hown (k*4+2) (by omega)
    obtain⟨u3,d3⟩:=ZaX hown (k*4+3) (by omega)
    have f0:=hown.frozenAt (k*4);have f1:=hown.frozenAt (k*4+1);have f2:=hown.frozenAt (k*4+2);have f3:=hown.frozenAt (k*4+3);have st:=((((hown.stored (k*4) (.int .i64 (q+4*(k:Int)))).1.stored (k*4+1) (.int .i64 (q+4*(k:Int)+1))).1.stored (k*4+2) (.int .i64 (q+4*(k:Int)+1+1))).1.stored (k*4+3) (.bool ((q+4*(k:Int)+1+1+1)%3==0))).1;have e1:(((((flat thE ys).set (k*4) (.int .i64 (q+4*(k:Int)))).set (k*4+1) (.int .i64 (q+4*(k:Int)+1))).set (k*4+2) (.int .i64 (q+4*(k:Int)+1+1))).set (k*4+3) (.bool ((q+4*(k:Int)+1+1+1)%3==0)))=flat thE (ys.set k (ZlX q k)):=ZbQ Zdz ys k (ZlX q k) (by omega)
    rw [e1] at st;have ST:=hide st;have HYL:=hide hyl;have HYS:=hide hys;clear hown st e1 hyl hys
    go_wp2
    refine⟨⟨k+1,ys.set k (ZlX q k),by omega,by go_num,by go_num,by simp [HYL.out],?_,ST.out,Zai (Zai (Zai (Zai hnx (Zaj _ _ _ _)) (Zaj _ _ _ _)) (Zaj _ _ _ _)) (Zaj _ _ _ _)⟩,by simp [intOf];omega⟩
    intro j hj;by_cases e:j=k
    ·subst e
     rw [List.getElem?_set_self (by rw [HYL.out];exact hlt)]
    ·rw [List.getElem?_set_ne (by omega)]
     exact HYS.out j (by omega)
   ·have hkn:k=n:=by omega
    have hm:ys=Zfy q n:=ZlS hyl (by rw [<-hkn];exact hys)
    have OW:=hide hown;have HM:=hide hm;have KN:=hide hkn;clear hkn hown hm hyl hys
    go_wp2
    go_ret
    exact⟨Zcn (by rw [KN.out]),by rw [<-HM.out];exact OW.out,hnx⟩
def Zlh (v:Value)(ps:List RP)(k:Nat):Prop:=v.ownBlock=some k\/∃ p∈ps,p.2.ownBlock=some k
structure FrameS (S:Nat->Prop) (w w':World):Prop where
 os:w'.os=w.os
 tape:w'.tape=w.tape
 output:w'.output=w.output
 size:w.heap.size<=w'.heap.size
 block:∀ k,k<w.heap.size->¬S k->w'.heap[k]? = w.heap[k]?
theorem FrameS.refl (S:Nat->Prop)(w:World):FrameS S w w:=⟨rfl,rfl,rfl,Nat.le_refl _,fun _ _ _=>rfl⟩
theorem FrameS.trans {S:Nat->Prop}{a b c:World}(h:FrameS S a b)(k:FrameS S b c):FrameS S a c:=
 ⟨k.os.trans h.os,k.tape.trans h.tape,k.output.trans h.output,Nat.le_trans h.size k.size,fun i hi hr=>(k.block i (Nat.lt_of_lt_of_le hi h.size) hr).trans (h.block i hi hr)⟩
theorem FrameS.grown {S:Nat->Prop}{a b:World}{row:Option Nat}(g:a.grownBy b row)(hr:∀ k,row=some k->S k):FrameS S a b:=
 ⟨g.os,g.tape,g.output,g.size,fun k hk hh=>g.block k hk (fun e=>hh (hr k e.symm))⟩
theorem FrameS.mono {S T:Nat->Prop}{a b:World}(h:FrameS S a b)(hs:∀ k,S k->T k):FrameS T a b:=⟨h.os,h.tape,h.output,h.size,fun k hk hh=>h.block k hk (fun e=>hh (hs k e))⟩
theorem FrameS.frame {S:Nat->Prop}{lo hi:Nat}{a b:World}(h:FrameS S a b)(hs:∀ k,S k->lo<=k/\k<hi):Frame lo hi a b:=⟨h.os,h.tape,h.output,h.size,fun k hk hh=>h.block k hk (fun e=>by have:=hs k e;omega)⟩
theorem RecsOwn.blk {W:World}{lo hi:Nat}{v:Value}{ps:List RP}(h:RecsOwn W lo hi v ps)(k:Nat)(hk:Zlh v ps k):lo<=k/\k<hi/\k<W.heap.size:=by
 rcases hk with e | ⟨p,hp,e⟩
 ·exact ⟨(h.row.lt k e).1,h.top k e,(h.row.lt k e).2⟩
 ·exact ⟨((h.nears p hp).1.lt k e).1,(h.nears p hp).2 k e,((h.nears p hp).1.lt k e).2⟩
theorem ZfD (v:Value)(lo hi:Nat)(ps:List RP)(c:Int)(w:World)(h:RecsOwn w lo hi v ps)(hn:tot ps<=1048576)(hc:0<=c)(hc2:c<=10000000):
  Calls Tryz.prog 73 #[v,.int .i64 c] w fun e w'=>e=.returned (.int .i64 (mkE c ps))/\RecsOwn w' lo hi v (mkL c ps)/\FrameS (Zlh v ps) w w':=by
 have hnl:=Zca ps;by_cases h0:ps.length=0
 ·have hps:ps=[]:=List.length_eq_zero_iff.1 h0
  subst hps;obtain⟨a1,c1,rfl⟩:=Zac h.row;have H1:=hide h;clear h
  go_enter Tryz.func73,Tryz.ntmps73
  go_wp2
  refine wp_loop_rounds 1 ?_
  rw [rounds_succ]
  go_wp2
  go_ret
  exact⟨rfl,H1.out,FrameS.refl _ _⟩
 ·obtain ⟨g,cap,rfl,hg1,hl1⟩:=Zb3 h.row (by omega)
  have H1:=hide h;have HG:=hide (h.top g rfl);clear h h0
  go_enter Tryz.func73,Tryz.ntmps73
  go_wp2
  go_loopw [5,1] (fun i r wr=>∃ (k:Nat),k<=ps.length/\i=.int .i64 k/\r=.int .i64 (mkE c (ps.take k))/\RecsOwn wr lo hi (.slice (some ⟨g,0,none⟩) ps.length cap) (mkL c (ps.take k)++ps.drop k)/\FrameS (Zlh (.slice (some ⟨g,0,none⟩) ps.length cap) ps) w wr) (fun i _ _=>ps.length-(intOf i).toNat)
  case atStart=>exact ⟨0,by omega,rfl,rfl,H1.out,FrameS.refl _ _⟩
  case round=>
   clear H1;obtain⟨k,hk,rfl,rfl,hown,hnx⟩:=hrel;by_cases hlt:k<ps.length
   ·obtain ⟨p,hp⟩:∃ p,ps[k]? = some p:=⟨ps[k],List.getElem?_eq_getElem hlt⟩
    have hki:(0:Int)<=(k:Int):=by omega
    have hkj:(k:Int)<(ps.length:Int):=by omega
    have ht1:=ZmD ps k;have ht2:=Znv c (ps.take k);have hpl:=Zez (List.mem_of_getElem? hp);obtain⟨z,hz⟩:∃ z,z=mkE c (ps.take k):=⟨_,rfl⟩;rw [<-hz] at ht2 |-;have hz0:0<=z:=by omega
    have hz2:z<=100000000:=by omega
    obtain⟨xs,hxs⟩:∃ xs,xs=mkL c (ps.take k)++ps.drop k:=⟨_,rfl⟩;rw [<-hxs] at hown;have hxl:xs.length=ps.length:=by rw [hxs];simp [Zgd];omega
    have hxk:xs[k]? = some p:=by
     rw [hxs,List.getElem?_append_right (by rw [Zgd,List.length_take];omega),Zgd,List.length_take,Nat.min_eq_left (by omega),Nat.sub_self,List.getElem?_drop,Nat.add_zero]
     exact hp
    have hstep:xs.set k (mkR z p)=mkL c (ps.take (k+1))++ps.drop (k+1):=by
     have ed:ps.drop k=p::ps.drop (k+1):=by
      obtain⟨h1,e1⟩:=List.getElem?_eq_some_iff.1 hp;rw [List.drop_eq_getElem_cons h1,e1]
     rw [hxs,ZoO c hp, <-hz,List.set_append_right _ _ (by rw [Zgd,List.length_take];omega),Zgd,List.length_take,Nat.min_eq_left (by omega),Nat.sub_self,ed,List.set_cons_zero]
     simp
    have hnext:mkE c (ps.take (k+1))=nxR z p:=by rw [ZoN c hp,hz]
    have hrow:=hown.row;rw [hxl] at hrow;have hex:∀ r,r<8->∃ u,wr.cell? ⟨g,k*8+r,none⟩=some u:=fun r hr=>ZaX hrow _ (by omega)
    obtain⟨u0,d0⟩:=hex 0 (by omega)
    obtain⟨u1,d1⟩:=hex 1 (by omega)
    obtain⟨u2,d2⟩:=hex 2 (by omega)
    obtain⟨u3,d3⟩:=hex 3 (by omega)
    obtain⟨u4,d4⟩:=hex 4 (by omega)
    obtain⟨u6,d6⟩:=hex 6 (by omega)
    obtain⟨u7,d7⟩:=hex 7 (by omega)
    rw [Nat.add_zero] at d0;have d5:wr.cell? ⟨g,k*8+5,none⟩=some p.2:=by
     rw [hrow.cellAt _ (by omega),ZbF Zdq xs k 5 p hxk (by omega)]
     rfl
    have f0:=hrow.frozenAt (k*8);have f1:=hrow.frozenAt (k*8+1);have f2:=hrow.frozenAt (k*8+2);have f3:=hrow.frozenAt (k*8+3);have f4:=hrow.frozenAt (k*8+4);have f5:=hrow.frozenAt (k*8+5);have f6:=hrow.frozenAt (k*8+6);have f7:=hrow.frozenAt (k*8+7);have hnear:=(hown.nears p (List.mem_of_getElem? hxk)).1;obtain⟨na,nc,hpn⟩:=Zac hnear;rw [hpn] at d5;have hzr:w.heap.size<=wr.heap.size:=hnx.size;obtain⟨curg,hcurg⟩:∃ cur,wr.heap[g]? = some (.cells cur 128 (0,0)):=by
     rcases hrow.2 with ⟨h0,_⟩ | ⟨g',cap',cur',hv',_,hh',_⟩
     ·cases h0
     ·cases hv';exact⟨cur',hh'⟩
    have hgne:some g≠p.2.ownBlock:=Zap hnear hcurg (by decide)
    rw [hpn] at hnear hgne;have row5:=((((hrow.stored (k*8) (.int .i64 z)).1.stored (k*8+1) (.int .i64 (z+1))).1.stored (k*8+2) (.int .i64 (z+1+1))).1.stored (k*8+3) (.int .i64 (z+1+1+1))).1.stored (k*8+4) (.int .i64 (z+1+1+1+1)) |>.1;have gr5:=Zmg wr g (k*8) z;have near5:(set5 wr g (k*8) z).ownsRow lo 225 2 (.slice na p.1.near.length nc) p.1.near.length (flat nrE p.1.near):=Zal hnear (fun j hj=>gr5.block j (hnear.lt j hj).2 (fun e=>hgne (by rw [hj,e])))
    have HMN:=hide (ZhY (.slice na p.1.near.length nc) lo p.1.near.length p.1.near (z+1+1+1+1+1) (set5 wr g (k*8) z) rfl near5 (by omega) (by omega) (by omega))
    have HOWN:=hide hown;have HROW5:=hide row5;have HGR5:=hide gr5;have HXL:=hide hxl;have HXK:=hide hxk;have HSTEP:=hide hstep;have HNEXT:=hide hnext;have HPN:=hide hpn;have HPM:=hide (List.mem_of_getElem? hp);have HGNE:=hide hgne;have HZ:=hide hz;have HTK:=hide ht2;clear hown hrow hxl hxk hstep hnext hpn hnear hex hcurg hxs hz hp row5 gr5 near5 hgne ht2 ht1
    go_wp2_with fail
    refine HMN.out.mono ?_
    rintro e w6 ⟨rfl,near6,gr6⟩;have row6:w6.ownsRow lo 128 8 (.slice (some ⟨g,0,none⟩) ps.length cap) ps.length _:=Zal HROW5.out (fun j hj=>gr6.block j (HROW5.out.lt j hj).2 (fun e=>HGNE.out (by cases hj;exact e)))
    obtain⟨x6,e6⟩:=ZaX row6 (k*8+6) (by omega)
    obtain⟨x7,e7⟩:=ZaX row6 (k*8+7) (by omega)
    have t6:=row6.frozenAt (k*8+6);have t7:=row6.frozenAt (k*8+7);have row8:=(row6.stored (k*8+6) (.int .i64 (mkR z p).1.cost)).1.stored (k*8+7) (.bool (mkR z p).1.far) |>.1;have e8:=set7 (q:=mkR z p) HXK.out rfl;have row8':((w6.setCell ⟨g,k*8+6,none⟩ (.int .i64 (mkR z p).1.cost)).setCell ⟨g,k*8+7,none⟩ (.bool (mkR z p).1.far)).ownsRow lo 128 8 (.slice (some ⟨g,0,none⟩) ps.length cap) ps.length (flat encP (xs.set k (mkR z p))):=by
     rw [<-e8];exact row8
    have gr8:w6.grownBy ((w6.setCell ⟨g,k*8+6,none⟩ (.int .i64 (mkR z p).1.cost)).setCell ⟨g,k*8+7,none⟩ (.bool (mkR z p).1.far)) (some g):=Zai (Zaj _ _ _ _) (Zaj _ _ _ _);have near8:=Zal near6 (W':=(w6.setCell ⟨g,k*8+6,none⟩ (.int .i64 (mkR z p).1.cost)).setCell ⟨g,k*8+7,none⟩ (.bool (mkR z p).1.far)) (fun j hj=>gr8.block j (near6.lt j hj).2 (fun e=>HGNE.out (by rw [hj,e])))
    have fr:FrameS (Zlh (.slice (some ⟨g,0,none⟩) ps.length cap) ps) wr ((w6.setCell ⟨g,k*8+6,none⟩ (.int .i64 (mkR z p).1.cost)).setCell ⟨g,k*8+7,none⟩ (.bool (mkR z p).1.far)):=
     ((FrameS.grown HGR5.out (fun j hj=>.inl hj)).trans (FrameS.grown gr6 (fun j hj=>.inr ⟨p,HPM.out,by rw [HPN.out];exact hj⟩))).trans (FrameS.grown gr8 (fun j hj=>.inl hj))
    have fin:=HOWN.out.turn (W8:=(w6.setCell ⟨g,k*8+6,none⟩ (.int .i64 (mkR z p).1.cost)).setCell ⟨g,k*8+7,none⟩ (.bool (mkR z p).1.far)) (q:=mkR z p) HXL.out HXK.out rfl row8' (by
      have h9:=near8
      show World.ownsRow _ lo 225 2 p.2 (ZhZ _ _).length (flat nrE (ZhZ _ _))
      rw [HPN.out,Zi6];exact h9) (fun j h1 h2 h3=>by
      have g5:=HGR5.out.size;have g6:=gr6.size;rw [gr8.block j (by omega) (by simp;omega),gr6.block j (by omega) (by rw [<-HPN.out];exact h3),HGR5.out.block j h1 (by simp;omega)])
    rw [HSTEP.out] at fin;have FIN:=hide fin;have FR:=hide fr;clear row6 row8 e8 row8' gr8 near8 fr fin near6 gr6 HOWN HROW5 HMN HGR5
    go_wp2
    refine⟨⟨k+1,by omega,by go_num,?_,FIN.out,hnx.trans FR.out⟩,by simp [intOf];omega⟩
    rw [HNEXT.out]
    rfl
   ·have hkn:k=ps.length:=by omega
    have KN:=hide hkn;have OW:=hide hown;clear hkn hown
    go_wp2
    go_ret
    have h1:=OW.out;rw [KN.out,List.take_length,List.drop_length,List.append_nil] at h1;exact⟨Zcn (by rw [KN.out,List.take_length]),h1,hnx⟩
def totD (xs:List RecD):Nat:=(xs.map (fun x=>1+x.near.length)).sum
theorem tot_D (ps:List RP):tot ps=totD (fsts ps):=by simp [tot,totD,fsts,List.map_map,Function.comp_def]
theorem Zjy {ps qs:List RP}(h:fsts ps=fsts qs):tot ps=tot qs:=by rw [tot_D,tot_D,h]
theorem Zhl {w:World}{base size n:Nat}{e:TypeId}{v:Value}{xs:List Value}(h:w.ownsRow base e size v n xs):some w.heap.size≠v.ownBlock:=fun e=>by have:=(h.lt _ e.symm).2;omega
theorem Zke (n:Int)(v1 v2:Value)(base:Nat)(ls:List Lk)(ts:List Th)(c:Int)(w:World)(h1:w.ownsRow base 84 4 v1 ls.length (flat lkE ls))(h2:w.ownsRow base 123 4 v2 ts.length (flat thE ts))(hn:ls.length<=1048576)(hm:ts.length<=1048576)(hc:0<=c)(hc2:c<=10000000):
  Calls Tryz.prog 72 #[.agg #[.int .i64 n,v1,v2],.int .i64 c] w fun e w'=>e=.returned (.int .i64 (c+4*(ls.length:Int)+4*(ts.length:Int)))/\w'.ownsRow base 84 4 v1 ls.length (flat lkE (Zfx c ls.length))/\w'.ownsRow base 123 4 v2 ts.length (flat thE (Zfy (c+4*(ls.length:Int)) ts.length))/\FrameS (fun k=>v1.ownBlock=some k\/v2.ownBlock=some k) w w':=by
 obtain⟨a1,c1,rfl⟩:=Zac h1;obtain⟨a2,c2,rfl⟩:=Zac h2;have BA:=(Below.refl w.heap.size w).alloc (Nat.le_refl _) (.cells #[.int .i64 n,.slice a1 ls.length c1,.slice a2 ts.length c2] 38);have g0:=heap_alloc_new w (.cells #[.int .i64 n,.slice a1 ls.length c1,.slice a2 ts.length c2] 38);have HM1:=hide (ZhX _ base ls.length ls c _ rfl (h1.alloc (.cells #[.int .i64 n,.slice a1 ls.length c1,.slice a2 ts.length c2] 38)) hn hc (by omega))
 have N1:=Zhl h1;have N2:=Zhl h2;have H1:=hide h1;have H2:=hide (h2.alloc (.cells #[.int .i64 n,.slice a1 ls.length c1,.slice a2 ts.length c2] 38));have H2':=hide h2;have G0:=hide g0;clear h1 h2 g0
 go_enter Tryz.func72,Tryz.ntmps72
 go_wp2_with fail
 obtain⟨w0,hw0⟩:∃ W,W=w.alloc (.cells #[.int .i64 n,.slice a1 ls.length c1,.slice a2 ts.length c2] 38):=⟨_,rfl⟩;rw [<-hw0] at BA G0 HM1 H2 |-;clear hw0;refine HM1.out.mono ?_
 rintro e w1 ⟨rfl,o1,gr1⟩;have g1:=(gr1.block _ (Zab G0.out) N1).trans G0.out;have hx:∀ k,(Value.slice a1 ls.length c1).ownBlock=some k->(Value.slice a2 ts.length c2).ownBlock≠some k:=fun k hk e=>by
  rcases H1.out.2 with ⟨h,_⟩ | ⟨g',cap',cur',hv',_,hh',_⟩
  ·rw [h] at hk;simp [Value.ownBlock] at hk
  ·rw [hv'] at hk
   simp [Value.ownBlock] at hk
   subst hk;exact Zap H2'.out hh' (by decide) e.symm
 have o2:=Zal (W':=w1) H2.out (fun k hk=>gr1.block k (H2.out.lt k hk).2 (fun e=>hx k e.symm hk))
 have F1:FrameS (fun k=>(Value.slice a1 ls.length c1).ownBlock=some k\/(Value.slice a2 ts.length c2).ownBlock=some k) w w1:=⟨gr1.os.trans BA.os,gr1.tape.trans BA.tape,gr1.output.trans BA.output,Nat.le_trans BA.size gr1.size,fun k hk hs=>(gr1.block k (Nat.lt_of_lt_of_le hk BA.size) (fun e=>hs (.inl e.symm))).trans (BA.block k hk)⟩
 have s2:=Zaa g1 2;simp at s2
 have HM2:=hide (ZgO _ base ts.length ts (c+4*(ls.length:Int)) w1 rfl o2 hm (by omega) (by omega))
 have O1:=hide o1;have HX:=hide hx;clear g1 o1 o2 hx HM1 gr1
 go_wp2_with fail
 refine HM2.out.mono ?_
 rintro e w2 ⟨rfl,o2,gr2⟩;have F2:=F1.trans (FrameS.grown gr2 (fun k hk=>.inr hk))
 have o1:=Zal (W':=w2) O1.out (fun k hk=>gr2.block k (O1.out.lt k hk).2 (fun e=>HX.out k hk e.symm))
 have O2:=hide o2;have O3:=hide o1;clear o1 o2 gr2 s2 HM2
 go_wp2
 go_ret
 exact⟨rfl,O3.out,O2.out,F2⟩
def Zhz (v1 v2 v3 v4:Value)(ps:List RP)(k:Nat):Prop:=(v1.ownBlock=some k\/v2.ownBlock=some k)\/v3.ownBlock=some k\/Zlh v4 ps k
def ZkY (c:Int)(x:SelfD):SelfD:=⟨x.id,x.boot,⟨x.net.n,Zfx c x.net.ls.length,Zfy (c+4*(x.net.ls.length:Int)) x.net.ts.length⟩,ZcA (c+4*(x.net.ls.length:Int)+4*(x.net.ts.length:Int)) x.heard.length⟩
def mkAt (c:Int)(x:SelfD):Int:=c+4*(x.net.ls.length:Int)+4*(x.net.ts.length:Int)+(x.heard.length:Int)
theorem SelfOwn.blk {W:World}{lo hi m1 m2:Nat}{v1 v2 v3 v4:Value}{x:SelfD}{ps:List RP}(h:SelfOwn W lo hi v1 v2 v3 v4 x ps m1 m2)(k:Nat)(hk:Zhz v1 v2 v3 v4 ps k):lo<=k/\k<hi/\k<W.heap.size:=by
 have h1:=h.o1;have h2:=h.o2;have h3:=h.o3
 rcases hk with (e | e) | e | e
 ·have a:=h.links.lt k e;have b:=h.ltop k e;omega
 ·have a:=h.things.lt k e;have b:=h.ttop k e;omega
 ·have a:=h.heard.row.lt k e;have b:=h.heard.top k e;omega
 ·have a:=h.store.blk k e;omega
theorem ZhW (v:Value)(l:List Int)(lo hi:Nat)(q:Int)(w:World)(h:IntsOwn w lo hi v l)(hn:l.length<=1048576)(hq:0<=q)(hq2:q<=1000000000):
  Calls Tryz.prog 38 #[v,.int .i64 q] w fun e w'=>e=.returned (.int .i64 (q+(l.length:Int)))/\IntsOwn w' lo hi v (ZcA q l.length)/\w.grownBy w' v.ownBlock:=by
 refine (Zi2 v lo l q w h.row hn hq hq2).mono ?_
 rintro e w' ⟨rfl,ho,hg⟩;exact⟨rfl,⟨by rw [Za9];exact ho,h.top⟩,hg⟩
theorem Zi4 (v1 v2 v3 v4:Value)(x:SelfD)(ps:List RP)(lo hi m1 m2:Nat)(c:Int)(w:World)(h:SelfOwn w lo hi v1 v2 v3 v4 x ps m1 m2)(hhi:hi<=w.heap.size)(ht:totS x ps<=1048576)(hc:0<=c)(hc2:c<=1000000):
  Calls Tryz.prog 36 #[Zfp x v1 v2 v3 v4,.int .i64 c] w fun e w'=>e=.returned (.int .i64 (mkE (mkAt c x) ps))/\SelfOwn w' lo hi v1 v2 v3 v4 (ZkY c x) (mkL (mkAt c x) ps) m1 m2/\FrameS (Zhz v1 v2 v3 v4 ps) w w':=by
 obtain⟨⟨a1,c1,rfl⟩,⟨a2,c2,rfl⟩,⟨a3,c3,rfl⟩,⟨a4,c4,rfl⟩⟩:=h.in.shapes;have hlL:x.net.ls.length<=1048576:=by unfold totS at ht;omega
 have hlT:x.net.ts.length<=1048576:=by unfold totS at ht;omega
 have hlH:x.heard.length<=1048576:=by unfold totS at ht;omega
 have hlR:tot ps<=1048576:=by unfold totS at ht;omega
 have htt:(x.net.ls.length:Int)+(x.net.ts.length:Int)+(x.heard.length:Int)+(tot ps:Int)<=1048576:=by unfold totS at ht;omega
 have BA:=(Below.refl w.heap.size w).alloc (Nat.le_refl _) (.cells #[.int .i64 x.id,.int .i64 x.boot,.int .i64 x.net.n,.slice a1 x.net.ls.length c1,.slice a2 x.net.ts.length c2,.slice a3 x.heard.length c3,.slice a4 ps.length c4] 41);have g0:=heap_alloc_new w (.cells #[.int .i64 x.id,.int .i64 x.boot,.int .i64 x.net.n,.slice a1 x.net.ls.length c1,.slice a2 x.net.ts.length c2,.slice a3 x.heard.length c3,.slice a4 ps.length c4] 41);have HM1:=hide (Zke x.net.n _ _ lo x.net.ls x.net.ts c _ (h.links.alloc (.cells #[.int .i64 x.id,.int .i64 x.boot,.int .i64 x.net.n,.slice a1 x.net.ls.length c1,.slice a2 x.net.ts.length c2,.slice a3 x.heard.length c3,.slice a4 ps.length c4] 41)) (h.things.alloc _) hlL hlT hc (by omega))
 have HB:=hide (fun k=>h.blk k)
 have H:=hide h;have G0:=hide g0;clear h g0
 go_enter Tryz.func36,Tryz.ntmps36
 go_wp2_with fail
 obtain⟨w0,hw0⟩:∃ W,W=w.alloc (.cells #[.int .i64 x.id,.int .i64 x.boot,.int .i64 x.net.n,.slice a1 x.net.ls.length c1,.slice a2 x.net.ts.length c2,.slice a3 x.heard.length c3,.slice a4 ps.length c4] 41):=⟨_,rfl⟩;rw [<-hw0] at BA G0 HM1 |-;clear hw0;refine HM1.out.mono ?_
 rintro e w1 ⟨rfl,o1,o2,f1⟩;have bas:=BA.size;have f1s:=f1.size;have oo1:=H.out.o1;have oo2:=H.out.o2;have oo3:=H.out.o3;have nb1:¬((Value.slice a1 x.net.ls.length c1).ownBlock=some w.heap.size\/(Value.slice a2 x.net.ts.length c2).ownBlock=some w.heap.size):=fun e=>by have:=(HB.out _ (.inl e)).2.2;omega
 have g1:=(f1.block _ (Zab G0.out) nb1).trans G0.out;have F1:FrameS (Zhz (.slice a1 x.net.ls.length c1) (.slice a2 x.net.ts.length c2) (.slice a3 x.heard.length c3) (.slice a4 ps.length c4) ps) w w1:=⟨f1.os.trans BA.os,f1.tape.trans BA.tape,f1.output.trans BA.output,Nat.le_trans BA.size f1.size,fun k hk hs=>(f1.block k (Nat.lt_of_lt_of_le hk BA.size) (fun e=>hs (.inl e))).trans (BA.block k hk)⟩
 have low:∀ k,((Value.slice a1 x.net.ls.length c1).ownBlock=some k\/(Value.slice a2 x.net.ts.length c2).ownBlock=some k)->k<m1:=fun k e=>by
  rcases e with e | e
  ·exact H.out.ltop k e
  ·exact H.out.ttop k e
 have i1:=H.out.heard.keep (W':=w1) (fun k h1 _ h3=>(f1.block k (by omega) (fun e=>by have:=low k e;omega)).trans (BA.block k h3))
 have r1:=H.out.store.keep (W':=w1) (fun k h1 _ h3=>(f1.block k (by omega) (fun e=>by have:=low k e;omega)).trans (BA.block k h3))
 have s5:=Zaa g1 5;simp at s5
 have HM2:=hide (ZhW _ x.heard m1 m2 (c+4*(x.net.ls.length:Int)+4*(x.net.ts.length:Int)) w1 i1 hlH (by omega) (by omega))
 have O1:=hide o1;have O2:=hide o2;have R1:=hide r1;have G1:=hide g1;have LOW:=hide low;clear o1 o2 f1 i1 r1 g1 low nb1 HM1 G0
 go_wp2_with fail
 refine HM2.out.mono ?_
 rintro e w2 ⟨rfl,i2,f2⟩;have f2s:=f2.size;have hb3:∀ k,(Value.slice a3 x.heard.length c3).ownBlock=some k->m1<=k/\k<m2:=fun k e=>⟨(H.out.heard.row.lt k e).1,H.out.heard.top k e⟩
 have g2:=(f2.block _ (Zab G1.out) (fun e=>by have:=hb3 _ e.symm;omega)).trans G1.out
 have o1:=Zal (W':=w2) O1.out (fun k hk=>f2.block k (O1.out.lt k hk).2 (fun e=>by have:=hb3 _ e.symm;have:=LOW.out k (.inl hk);omega))
 have o2:=Zal (W':=w2) O2.out (fun k hk=>f2.block k (O2.out.lt k hk).2 (fun e=>by have:=hb3 _ e.symm;have:=LOW.out k (.inr hk);omega))
 have r2:=R1.out.keep (W':=w2) (fun k h1 _ h3=>f2.block k h3 (fun e=>by have:=hb3 _ e.symm;omega))
 have F2:=F1.trans (FrameS.grown f2 (fun k hk=>.inr (.inl hk)))
 have s6:=Zaa g2 6;simp at s6
 have HM3:=hide (ZfD _ m2 hi ps (mkAt c x) w2 r2 hlR (by unfold mkAt;omega) (by unfold mkAt;omega))
 have HAT:=hide (show c+4*(x.net.ls.length:Int)+4*(x.net.ts.length:Int)+(x.heard.length:Int)=mkAt c x from rfl)
 have P1:=hide o1;have P2:=hide o2;have I2:=hide i2;clear o1 o2 i2 r2 g2 f2 hb3 HM2 s5 O1 O2 R1 F1 G1;rw [HAT.out]
 go_wp2_with fail
 refine HM3.out.mono ?_
 rintro e w3 ⟨rfl,r3,f3⟩;have hb4:∀ k,Zlh (.slice a4 ps.length c4) ps k->m2<=k:=fun k e=>(H.out.store.blk k e).1
 have F3:=F2.trans (f3.mono (fun k hk=>.inr (.inr hk)))
 have fin:SelfOwn w3 lo hi (.slice a1 x.net.ls.length c1) (.slice a2 x.net.ts.length c2) (.slice a3 x.heard.length c3) (.slice a4 ps.length c4) (ZkY c x) (mkL (mkAt c x) ps) m1 m2:=
  {o1:=oo1
   o2:=oo2
   o3:=oo3
   links:=by
    have h:=Zal (W':=w3) P1.out (fun k hk=>f3.block k (P1.out.lt k hk).2 (fun e=>by have:=hb4 _ e;have:=LOW.out k (.inl hk);omega))
    simp only [ZkY]
    rw [Zhh];exact h
   ltop:=H.out.ltop
   things:=by
    have h:=Zal (W':=w3) P2.out (fun k hk=>f3.block k (P2.out.lt k hk).2 (fun e=>by have:=hb4 _ e;have:=LOW.out k (.inr hk);omega))
    simp only [ZkY]
    rw [Zhi];exact h
   ttop:=H.out.ttop
   heard:=I2.out.keep (W':=w3) (fun k _ h2 h3=>f3.block k h3 (fun e=>by have:=hb4 _ e;omega))
   store:=r3 }
 have FIN:=hide fin;have FF:=hide F3;clear fin F3 r3 f3 hb4 s6 HM3 P1 P2 I2 F2
 go_wp2
 go_ret
 exact⟨rfl,FIN.out,FF.out⟩

end Go.Proofs.YtnndlmodjkplnaaGreatDoor
