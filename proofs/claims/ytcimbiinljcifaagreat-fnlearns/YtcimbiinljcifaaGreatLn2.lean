/-
  PutL PutT Cur CurL CurX ListKit IsIn
-/
import Derived.Test.YtcimbiinljcifaaGreatLn1
import Derived.Deep.RegionHeld3
import Derived.Deep.QuietTactic
import Derived.BigQuiet
namespace Go.Proofs.YtcimbiinljcifaaGreat
open Go.RowKit
set_option linter.unusedSimpArgs false
set_option linter.unusedVariables false
set_option maxRecDepth 100000
set_option maxHeartbeats 8000000
theorem Zia (l:Lk):∀ u∈lkE l,u.oneCell'=true:=by
 intro u hu;simp only [lkE,List.mem_cons,List.not_mem_nil,or_false] at hu
 rcases hu with rfl | rfl | rfl | rfl <;> rfl
theorem ZeO {α:Type}{p:α->Bool}{ls:List α}{k:Nat}{x:α}(h:ls[k]? = some x)(hp:p x=true):(ls.take (k+1)).filter p=(ls.take k).filter p++[x]:=by
 obtain⟨hk,e⟩:=List.getElem?_eq_some_iff.1 h;rw [List.take_succ_eq_append_getElem hk,List.filter_append,e];simp [hp]
theorem ZgJ {α:Type}{p:α->Bool}{ls:List α}{k:Nat}{x:α}(h:ls[k]? = some x)(hp:p x=false):(ls.take (k+1)).filter p=(ls.take k).filter p:=by
 obtain⟨hk,e⟩:=List.getElem?_eq_some_iff.1 h;rw [List.take_succ_eq_append_getElem hk,List.filter_append,e];simp [hp]
theorem ZeN {α:Type}(p:α->Bool)(ls:List α)(k:Nat):((ls.take k).filter p).length<=ls.length:=by
 have h1:=List.length_filter_le p (ls.take k);have h2:=List.length_take_le k ls;have h3:(ls.take k).length<=ls.length:=by simp;omega
 omega
def Zeq (ls:List Lk)(l:Lk):List Lk:=ls.filter (fun x=>Zbi x l)++[l]++ls.filter (fun x=>Zbi l x)
theorem Zbc {w w':World}{base size:Nat}{e:TypeId}{v:Value}{n:Nat}{xs:List Value}(hown:w.ownsRow base e size v n xs)(hg:w.grownBy w' v.ownBlock){b:Nat}(hb:b<base)(hbw:b<w.heap.size):w'.heap[b]? = w.heap[b]? :=
 hg.block b hbw (fun he=>by have:=(hown.lt b he.symm).1;omega)
theorem Zd5 (v:Value)(ls:List Lk)(l:Lk)(w:World)(hls:ls.length<=1000)(hv:Za0 w v ls w.heap.size):
  Calls Tryz.prog 97 #[v,lkV l] w fun e w'=>∃ x,e=.returned x/\w'.ownsRow (w.heap.size+1) 127 4 x (Zeq ls l).length (flat lkE (Zeq ls l))/\Below w.heap.size w w':=by
 obtain⟨a,cap,rfl⟩:=hv.shape;have HV:=hide hv;clear hv;obtain⟨la,lb,lc,lr⟩:=l;unfold lkV;simp only []
 go_enter Tryz.func97,Tryz.ntmps97
 go_wp2
 go_loopw [5,6] (fun u i wr=>∃ k:Nat,k<=ls.length/\i=.int .i64 k/\wr.ownsRow (w.heap.size+1) 127 4 u ((ls.take k).filter (fun x=>Zbi x ⟨la,lb,lc,lr⟩)).length (flat lkE ((ls.take k).filter (fun x=>Zbi x ⟨la,lb,lc,lr⟩)))/\Below w.heap.size w wr/\wr.heap[w.heap.size]? = some (.cells #[.int .i64 la,.int .i64 lb,.int .i64 lc,.int .i64 lr] 127)) (fun _ i _=>ls.length-(intOf i).toNat)
 case atStart=>
  refine⟨0,by omega,rfl,?_,?_,?_⟩
  ·have h:=World.ownsRow_lit (base:=w.heap.size+1) (e:=127) (size:=4) (w.alloc (.cells #[.int .i64 la,.int .i64 lb,.int .i64 lc,.int .i64 lr] 127)) #[] 0 (by simp) (by decide) rfl
   simpa [flat] using h
  ·exact ((Below.refl _ _).alloc (Nat.le_refl _) _).alloc (by simp) _
  ·rw [Below.heap_alloc _ _ _ (by simp),heap_alloc_new]
 case round=>
  obtain⟨k,hk,rfl,hown,hb,hx⟩:=hrel;have hfl:=ZeN (fun x=>Zbi x ⟨la,lb,lc,lr⟩) ls k
  have hxl:=Zab hx;by_cases hlt:k<ls.length
  ·obtain ⟨x,hl⟩:∃ l,ls[k]? = some l:=⟨ls[k],List.getElem?_eq_getElem hlt⟩
   obtain⟨b,off,cap',hve,hbb,c0,c1,c2,c3⟩:=HV.out.cells k x hl;cases hve
   have d0:=c0;have d1:=c1;have d2:=c2;have d3:=c3;rw [<-hb.cell (p:=⟨b,off+k*4,none⟩) hbb] at c0;rw [<-hb.cell (p:=⟨b,off+k*4+1,none⟩) hbb] at c1;rw [<-hb.cell (p:=⟨b,off+k*4+2,none⟩) hbb] at c2;rw [<-hb.cell (p:=⟨b,off+k*4+3,none⟩) hbb] at c3;have g0:=Zaa hx 0;have g1:=Zaa hx 1;have g2:=Zaa hx 2;have g3:=Zaa hx 3;simp at g0 g1 g2 g3
   have hzr:=hb.size;have hbr:b<wr.heap.size:=by omega
   have hki:(0:Int)<=(k:Int):=by omega
   have hkj:(k:Int)<(ls.length:Int):=by omega
   obtain⟨q,hq⟩:∃ q,q=Zbi x ⟨la,lb,lc,lr⟩:=⟨_,rfl⟩;have hah:=Zes x ⟨la,lb,lc,lr⟩;rw [<-hq] at hah;unfold lkV at hah;have HAH:=hide hah;have OW:=hide hown;have HX:=hide hx;have HL:=hide hl;have HQ:=hide hq;have D0:=hide d0;have D1:=hide d1;have D2:=hide d2;have D3:=hide d3;clear hah hown hx hl hq d0 d1 d2 d3
   go_wp2
   go_region_held3 (fun W=>W.cell? ⟨b,off+k*4,none⟩=some (.int .i64 x.a)/\W.cell? ⟨b,off+k*4+1,none⟩=some (.int .i64 x.b)/\W.cell? ⟨b,off+k*4+2,none⟩=some (.int .i64 x.c)/\W.cell? ⟨b,off+k*4+3,none⟩=some (.int .i64 x.r)/\W.cell? ⟨w.heap.size,0,none⟩=some (.int .i64 la)/\W.cell? ⟨w.heap.size,1,none⟩=some (.int .i64 lb)/\W.cell? ⟨w.heap.size,2,none⟩=some (.int .i64 lc)/\W.cell? ⟨w.heap.size,3,none⟩=some (.int .i64 lr)) (first | go_keep | (refine ⟨?_,?_,?_,?_,?_,?_,?_,?_⟩ <;> (rw [hbc.cell (by assumption)];assumption))) (first | (go_at_call 109;refine (HAH.out _).mono ?_;rintro e w1 ⟨rfl,hbc⟩))
   have B1:Below w.heap.size w w1:=hb.drew.trans (hbc.mono hb.size);have hx1:w1.heap[w.heap.size]? = some (.cells #[.int .i64 la,.int .i64 lb,.int .i64 lc,.int .i64 lr] 127):=by rw [hbc.block _ hxl];exact HX.out
   have hown1:=Zah OW.out.drew hbc (Nat.le_refl _);have c0:=D0.out;have c1:=D1.out;have c2:=D2.out;have c3:=D3.out;rw [<-B1.cell (p:=⟨b,off+k*4,none⟩) hbb] at c0;rw [<-B1.cell (p:=⟨b,off+k*4+1,none⟩) hbb] at c1;rw [<-B1.cell (p:=⟨b,off+k*4+2,none⟩) hbb] at c2;rw [<-B1.cell (p:=⟨b,off+k*4+3,none⟩) hbb] at c3;have hxl1:=Zab hx1;have HX1:=hide hx1;have OW1:=hide hown1;clear hx1 hown1 hbc;cases q
   ·have hs:=ZgJ (p:=fun x=>Zbi x ⟨la,lb,lc,lr⟩) HL.out HQ.out.symm
    have HS:=hide hs;clear hs
    go_wp2
    go_roundw
    case rel=>exact ⟨k+1,by omega,by go_num,by rw [HS.out];exact OW1.out,B1,HX1.out⟩
    case measure=>simp [intOf];omega
   ·have hs:=ZeO (p:=fun x=>Zbi x ⟨la,lb,lc,lr⟩) HL.out HQ.out.symm
    have HS:=hide hs;clear hs
    go_wp2_with (first
     | (at_builtin;refine ZaU Zff (by omega) Zia (by omega) _ rfl _ _ 24 rfl (w.heap.size+1) 127 Tryz.underlying24 (lkV lk0) rfl Tryz.infoLk u5 _ x rfl (OW1.out.alloc _) ⟨w1.heap.size,0,none⟩ 1 rfl (Zar (cs:=lkE x)) (by omega) (by simp;omega) ?_))
    intro v' w2 l' hl' hown' hgrow;have B2:Below w.heap.size w w2:=(B1.alloc B1.size _).grown hgrow (by simp;omega) (fun k hk=>by have:=(OW1.out.lt k hk).1;omega)
    have hx2:w2.heap[w.heap.size]? = some (.cells #[.int .i64 la,.int .i64 lb,.int .i64 lc,.int .i64 lr] 127):=by rw [Zbc (OW1.out.alloc _) hgrow (by omega) (by simp;omega),Below.heap_alloc _ _ _ hxl1];exact HX1.out
    have HX2:=hide hx2;have OW2:=hide hown';clear hx2 hown' hgrow
    go_wp2
    go_roundw
    case rel=>exact ⟨k+1,by omega,by go_num,by rw [HS.out, <-hl'.out];exact OW2.out,B2,HX2.out⟩
    case measure=>simp [intOf];omega
  ·have hk':k=ls.length:=by omega
   rw [hk',List.take_length] at hown;have g0:=Zaa hx 0;have g1:=Zaa hx 1;have g2:=Zaa hx 2;have g3:=Zaa hx 3;simp at g0 g1 g2 g3
   have hzr:=hb.size;have hfl2:(ls.filter (fun x=>Zbi x ⟨la,lb,lc,lr⟩)).length<=ls.length:=List.length_filter_le _ _
   have OW:=hide hown;have HX:=hide hx;clear hown hx hk';obtain⟨wo,rfl⟩:∃ wo:World,wo=wr:=⟨_,rfl⟩
   go_wp2_with (first
    | (at_builtin;refine ZaU Zff (by omega) Zia (by omega) _ rfl _ _ 24 rfl (w.heap.size+1) 127 Tryz.underlying24 (lkV lk0) rfl Tryz.infoLk u5 _ ⟨la,lb,lc,lr⟩ rfl (OW.out.alloc _) ⟨wo.heap.size,0,none⟩ 1 rfl (Zar (cs:=lkE ⟨la,lb,lc,lr⟩)) (by omega) (by simp;omega) ?_))
   intro v' w2 l' hl' hown' hgrow;have B2:Below w.heap.size w w2:=(hb.alloc hb.size _).grown hgrow (by simp;omega) (fun k hk=>by have:=(OW.out.lt k hk).1;omega)
   have hx2:w2.heap[w.heap.size]? = some (.cells #[.int .i64 la,.int .i64 lb,.int .i64 lc,.int .i64 lr] 127):=by rw [Zbc (OW.out.alloc _) hgrow (by omega) (by simp;omega),Below.heap_alloc _ _ _ hxl];exact HX.out
   have hll:l'.length<=ls.length+1:=by rw [hl'.out];simp;omega
   have HX2:=hide hx2;have OW2:=hide hown';clear hx2 hown' hgrow hlt
   go_wp2
   go_loopw [5,7] (fun u i wr=>∃ k:Nat,k<=ls.length/\i=.int .i64 k/\wr.ownsRow (w.heap.size+1) 127 4 u (l'++(ls.take k).filter (fun x=>Zbi ⟨la,lb,lc,lr⟩ x)).length (flat lkE (l'++(ls.take k).filter (fun x=>Zbi ⟨la,lb,lc,lr⟩ x)))/\Below w.heap.size w wr/\wr.heap[w.heap.size]? = some (.cells #[.int .i64 la,.int .i64 lb,.int .i64 lc,.int .i64 lr] 127)) (fun _ i _=>ls.length-(intOf i).toNat)
   case atStart=>exact ⟨0,by omega,rfl,by simpa using OW2.out,B2,HX2.out⟩
   case round=>
    clear OW2 HX2 B2 OW HX hb g0 g1 g2 g3 hzr hxl;obtain⟨k,hk,rfl,hown,hb,hx⟩:=hrel;have hfl:=ZeN (fun x=>Zbi ⟨la,lb,lc,lr⟩ x) ls k
    have hfl3:(l'++(ls.take k).filter (fun x=>Zbi ⟨la,lb,lc,lr⟩ x)).length<=2*ls.length+1:=by rw [List.length_append];omega
    have hxl:=Zab hx;by_cases hlt:k<ls.length
    ·obtain ⟨x,hl⟩:∃ l,ls[k]? = some l:=⟨ls[k],List.getElem?_eq_getElem hlt⟩
     obtain⟨b,off,cap',hve,hbb,c0,c1,c2,c3⟩:=HV.out.cells k x hl;cases hve
     have d0:=c0;have d1:=c1;have d2:=c2;have d3:=c3;rw [<-hb.cell (p:=⟨b,off+k*4,none⟩) hbb] at c0;rw [<-hb.cell (p:=⟨b,off+k*4+1,none⟩) hbb] at c1;rw [<-hb.cell (p:=⟨b,off+k*4+2,none⟩) hbb] at c2;rw [<-hb.cell (p:=⟨b,off+k*4+3,none⟩) hbb] at c3;have g0:=Zaa hx 0;have g1:=Zaa hx 1;have g2:=Zaa hx 2;have g3:=Zaa hx 3;simp at g0 g1 g2 g3
     have hzr:=hb.size;have hbr:b<wr.heap.size:=by omega
     have hki:(0:Int)<=(k:Int):=by omega
     have hkj:(k:Int)<(ls.length:Int):=by omega
     obtain⟨q,hq⟩:∃ q,q=Zbi ⟨la,lb,lc,lr⟩ x:=⟨_,rfl⟩;have hah:=Zes ⟨la,lb,lc,lr⟩ x;rw [<-hq] at hah;unfold lkV at hah;have HAH:=hide hah;have OW:=hide hown;have HX:=hide hx;have HL:=hide hl;have HQ:=hide hq;have D0:=hide d0;have D1:=hide d1;have D2:=hide d2;have D3:=hide d3;clear hah hown hx hl hq d0 d1 d2 d3
     go_wp2
     go_region_held3 (fun W=>W.cell? ⟨b,off+k*4,none⟩=some (.int .i64 x.a)/\W.cell? ⟨b,off+k*4+1,none⟩=some (.int .i64 x.b)/\W.cell? ⟨b,off+k*4+2,none⟩=some (.int .i64 x.c)/\W.cell? ⟨b,off+k*4+3,none⟩=some (.int .i64 x.r)/\W.cell? ⟨w.heap.size,0,none⟩=some (.int .i64 la)/\W.cell? ⟨w.heap.size,1,none⟩=some (.int .i64 lb)/\W.cell? ⟨w.heap.size,2,none⟩=some (.int .i64 lc)/\W.cell? ⟨w.heap.size,3,none⟩=some (.int .i64 lr)) (first | go_keep | (refine ⟨?_,?_,?_,?_,?_,?_,?_,?_⟩ <;> (rw [hbc.cell (by assumption)];assumption))) (first | (go_at_call 109;refine (HAH.out _).mono ?_;rintro e w1 ⟨rfl,hbc⟩))
     have B1:Below w.heap.size w w1:=hb.drew.trans (hbc.mono hb.size);have hx1:w1.heap[w.heap.size]? = some (.cells #[.int .i64 la,.int .i64 lb,.int .i64 lc,.int .i64 lr] 127):=by rw [hbc.block _ hxl];exact HX.out
     have hown1:=Zah OW.out.drew hbc (Nat.le_refl _);have c0:=D0.out;have c1:=D1.out;have c2:=D2.out;have c3:=D3.out;rw [<-B1.cell (p:=⟨b,off+k*4,none⟩) hbb] at c0;rw [<-B1.cell (p:=⟨b,off+k*4+1,none⟩) hbb] at c1;rw [<-B1.cell (p:=⟨b,off+k*4+2,none⟩) hbb] at c2;rw [<-B1.cell (p:=⟨b,off+k*4+3,none⟩) hbb] at c3;have hxl1:=Zab hx1;have HX1:=hide hx1;have OW1:=hide hown1;clear hx1 hown1 hbc;cases q
     ·have hs:=ZgJ (p:=fun x=>Zbi ⟨la,lb,lc,lr⟩ x) HL.out HQ.out.symm
      have HS:=hide hs;clear hs
      go_wp2
      go_roundw
      case rel=>exact ⟨k+1,by omega,by go_num,by rw [HS.out];exact OW1.out,B1,HX1.out⟩
      case measure=>simp [intOf];omega
     ·have hs:=ZeO (p:=fun x=>Zbi ⟨la,lb,lc,lr⟩ x) HL.out HQ.out.symm
      have HS:=hide hs;clear hs
      go_wp2_with (first
       | (at_builtin;refine ZaU Zff (by omega) Zia (by omega) _ rfl _ _ 24 rfl (w.heap.size+1) 127 Tryz.underlying24 (lkV lk0) rfl Tryz.infoLk u5 _ x rfl (OW1.out.alloc _) ⟨w1.heap.size,0,none⟩ 1 rfl (Zar (cs:=lkE x)) (by omega) (by simp;omega) ?_))
      intro v' w2 l2 hl2 hown' hgrow;have B2:Below w.heap.size w w2:=(B1.alloc B1.size _).grown hgrow (by simp;omega) (fun k hk=>by have:=(OW1.out.lt k hk).1;omega)
      have hx2:w2.heap[w.heap.size]? = some (.cells #[.int .i64 la,.int .i64 lb,.int .i64 lc,.int .i64 lr] 127):=by rw [Zbc (OW1.out.alloc _) hgrow (by omega) (by simp;omega),Below.heap_alloc _ _ _ hxl1];exact HX1.out
      have HX2:=hide hx2;have OW2:=hide hown';clear hx2 hown' hgrow
      go_wp2
      go_roundw
      case rel=>exact ⟨k+1,by omega,by go_num,by rw [HS.out];first | (rw [<-hl2.out];exact OW2.out) | (rw [<-List.append_assoc, <-hl2.out];exact OW2.out),B2,HX2.out⟩
      case measure=>simp [intOf];omega
    ·have hk':k=ls.length:=by omega
     rw [hk',List.take_length] at hown;have OW:=hide hown;clear hown hk'
     go_wp2
     go_ret
     exact⟨_,rfl,by unfold Zeq;rw [<-hl'.out];exact OW.out,hb⟩
theorem Ziu (l:Th):∀ u∈thE l,u.oneCell'=true:=by
 intro u hu;simp only [thE,List.mem_cons,List.not_mem_nil,or_false] at hu
 rcases hu with rfl | rfl | rfl | rfl <;> rfl
def putT (ls:List Th)(l:Th):List Th:=ls.filter (fun x=>Zbj x l)++[l]++ls.filter (fun x=>Zbj l x)
theorem ZlC (v:Value)(ls:List Th)(l:Th)(w:World)(hls:ls.length<=1000)(hv:Zbf w v ls w.heap.size):
  Calls Tryz.prog 98 #[v,thV l] w fun e w'=>∃ x,e=.returned x/\w'.ownsRow (w.heap.size+1) 131 4 x (putT ls l).length (flat thE (putT ls l))/\Below w.heap.size w w':=by
 obtain⟨a,cap,rfl⟩:=hv.shape;have HV:=hide hv;clear hv;obtain⟨la,lb,lc,lr⟩:=l;unfold thV;simp only []
 go_enter Tryz.func98,Tryz.ntmps98
 go_wp2
 go_loopw [5,6] (fun u i wr=>∃ k:Nat,k<=ls.length/\i=.int .i64 k/\wr.ownsRow (w.heap.size+1) 131 4 u ((ls.take k).filter (fun x=>Zbj x ⟨la,lb,lc,lr⟩)).length (flat thE ((ls.take k).filter (fun x=>Zbj x ⟨la,lb,lc,lr⟩)))/\Below w.heap.size w wr/\wr.heap[w.heap.size]? = some (.cells #[.int .i64 la,.int .i64 lb,.int .i64 lc,.bool lr] 131)) (fun _ i _=>ls.length-(intOf i).toNat)
 case atStart=>
  refine⟨0,by omega,rfl,?_,?_,?_⟩
  ·have h:=World.ownsRow_lit (base:=w.heap.size+1) (e:=131) (size:=4) (w.alloc (.cells #[.int .i64 la,.int .i64 lb,.int .i64 lc,.bool lr] 131)) #[] 0 (by simp) (by decide) rfl
   simpa [flat] using h
  ·exact ((Below.refl _ _).alloc (Nat.le_refl _) _).alloc (by simp) _
  ·rw [Below.heap_alloc _ _ _ (by simp),heap_alloc_new]
 case round=>
  obtain⟨k,hk,rfl,hown,hb,hx⟩:=hrel;have hfl:=ZeN (fun x=>Zbj x ⟨la,lb,lc,lr⟩) ls k
  have hxl:=Zab hx;by_cases hlt:k<ls.length
  ·obtain ⟨x,hl⟩:∃ l,ls[k]? = some l:=⟨ls[k],List.getElem?_eq_getElem hlt⟩
   obtain⟨b,off,cap',hve,hbb,c0,c1,c2,c3⟩:=HV.out.cells k x hl;cases hve
   have d0:=c0;have d1:=c1;have d2:=c2;have d3:=c3;rw [<-hb.cell (p:=⟨b,off+k*4,none⟩) hbb] at c0;rw [<-hb.cell (p:=⟨b,off+k*4+1,none⟩) hbb] at c1;rw [<-hb.cell (p:=⟨b,off+k*4+2,none⟩) hbb] at c2;rw [<-hb.cell (p:=⟨b,off+k*4+3,none⟩) hbb] at c3;have g0:=Zaa hx 0;have g1:=Zaa hx 1;have g2:=Zaa hx 2;have g3:=Zaa hx 3;simp at g0 g1 g2 g3
   have hzr:=hb.size;have hbr:b<wr.heap.size:=by omega
   have hki:(0:Int)<=(k:Int):=by omega
   have hkj:(k:Int)<(ls.length:Int):=by omega
   obtain⟨q,hq⟩:∃ q,q=Zbj x ⟨la,lb,lc,lr⟩:=⟨_,rfl⟩;have hah:=Zet x ⟨la,lb,lc,lr⟩;rw [<-hq] at hah;unfold thV at hah;have HAH:=hide hah;have OW:=hide hown;have HX:=hide hx;have HL:=hide hl;have HQ:=hide hq;have D0:=hide d0;have D1:=hide d1;have D2:=hide d2;have D3:=hide d3;clear hah hown hx hl hq d0 d1 d2 d3
   go_wp2
   go_region_held3 (fun W=>W.cell? ⟨b,off+k*4,none⟩=some (.int .i64 x.o)/\W.cell? ⟨b,off+k*4+1,none⟩=some (.int .i64 x.k)/\W.cell? ⟨b,off+k*4+2,none⟩=some (.int .i64 x.c)/\W.cell? ⟨b,off+k*4+3,none⟩=some (.bool x.f)/\W.cell? ⟨w.heap.size,0,none⟩=some (.int .i64 la)/\W.cell? ⟨w.heap.size,1,none⟩=some (.int .i64 lb)/\W.cell? ⟨w.heap.size,2,none⟩=some (.int .i64 lc)/\W.cell? ⟨w.heap.size,3,none⟩=some (.bool lr)) (first | go_keep | (refine ⟨?_,?_,?_,?_,?_,?_,?_,?_⟩ <;> (rw [hbc.cell (by assumption)];assumption))) (first | (go_at_call 110;refine (HAH.out _).mono ?_;rintro e w1 ⟨rfl,hbc⟩))
   have B1:Below w.heap.size w w1:=hb.drew.trans (hbc.mono hb.size);have hx1:w1.heap[w.heap.size]? = some (.cells #[.int .i64 la,.int .i64 lb,.int .i64 lc,.bool lr] 131):=by rw [hbc.block _ hxl];exact HX.out
   have hown1:=Zah OW.out.drew hbc (Nat.le_refl _);have c0:=D0.out;have c1:=D1.out;have c2:=D2.out;have c3:=D3.out;rw [<-B1.cell (p:=⟨b,off+k*4,none⟩) hbb] at c0;rw [<-B1.cell (p:=⟨b,off+k*4+1,none⟩) hbb] at c1;rw [<-B1.cell (p:=⟨b,off+k*4+2,none⟩) hbb] at c2;rw [<-B1.cell (p:=⟨b,off+k*4+3,none⟩) hbb] at c3;have hxl1:=Zab hx1;have HX1:=hide hx1;have OW1:=hide hown1;clear hx1 hown1 hbc;cases q
   ·have hs:=ZgJ (p:=fun x=>Zbj x ⟨la,lb,lc,lr⟩) HL.out HQ.out.symm
    have HS:=hide hs;clear hs
    go_wp2
    go_roundw
    case rel=>exact ⟨k+1,by omega,by go_num,by rw [HS.out];exact OW1.out,B1,HX1.out⟩
    case measure=>simp [intOf];omega
   ·have hs:=ZeO (p:=fun x=>Zbj x ⟨la,lb,lc,lr⟩) HL.out HQ.out.symm
    have HS:=hide hs;clear hs
    go_wp2_with (first
     | (at_builtin;refine ZaU ZfD (by omega) Ziu (by omega) _ rfl _ _ 25 rfl (w.heap.size+1) 131 Tryz.underlying25 (thV th0) rfl Tryz.infoTh u5 _ x rfl (OW1.out.alloc _) ⟨w1.heap.size,0,none⟩ 1 rfl (Zar (cs:=thE x)) (by omega) (by simp;omega) ?_))
    intro v' w2 l' hl' hown' hgrow;have B2:Below w.heap.size w w2:=(B1.alloc B1.size _).grown hgrow (by simp;omega) (fun k hk=>by have:=(OW1.out.lt k hk).1;omega)
    have hx2:w2.heap[w.heap.size]? = some (.cells #[.int .i64 la,.int .i64 lb,.int .i64 lc,.bool lr] 131):=by rw [Zbc (OW1.out.alloc _) hgrow (by omega) (by simp;omega),Below.heap_alloc _ _ _ hxl1];exact HX1.out
    have HX2:=hide hx2;have OW2:=hide hown';clear hx2 hown' hgrow
    go_wp2
    go_roundw
    case rel=>exact ⟨k+1,by omega,by go_num,by rw [HS.out, <-hl'.out];exact OW2.out,B2,HX2.out⟩
    case measure=>simp [intOf];omega
  ·have hk':k=ls.length:=by omega
   rw [hk',List.take_length] at hown;have g0:=Zaa hx 0;have g1:=Zaa hx 1;have g2:=Zaa hx 2;have g3:=Zaa hx 3;simp at g0 g1 g2 g3
   have hzr:=hb.size;have hfl2:(ls.filter (fun x=>Zbj x ⟨la,lb,lc,lr⟩)).length<=ls.length:=List.length_filter_le _ _
   have OW:=hide hown;have HX:=hide hx;clear hown hx hk';obtain⟨wo,rfl⟩:∃ wo:World,wo=wr:=⟨_,rfl⟩
   go_wp2_with (first
    | (at_builtin;refine ZaU ZfD (by omega) Ziu (by omega) _ rfl _ _ 25 rfl (w.heap.size+1) 131 Tryz.underlying25 (thV th0) rfl Tryz.infoTh u5 _ ⟨la,lb,lc,lr⟩ rfl (OW.out.alloc _) ⟨wo.heap.size,0,none⟩ 1 rfl (Zar (cs:=thE ⟨la,lb,lc,lr⟩)) (by omega) (by simp;omega) ?_))
   intro v' w2 l' hl' hown' hgrow;have B2:Below w.heap.size w w2:=(hb.alloc hb.size _).grown hgrow (by simp;omega) (fun k hk=>by have:=(OW.out.lt k hk).1;omega)
   have hx2:w2.heap[w.heap.size]? = some (.cells #[.int .i64 la,.int .i64 lb,.int .i64 lc,.bool lr] 131):=by rw [Zbc (OW.out.alloc _) hgrow (by omega) (by simp;omega),Below.heap_alloc _ _ _ hxl];exact HX.out
   have hll:l'.length<=ls.length+1:=by rw [hl'.out];simp;omega
   have HX2:=hide hx2;have OW2:=hide hown';clear hx2 hown' hgrow hlt
   go_wp2
   go_loopw [5,7] (fun u i wr=>∃ k:Nat,k<=ls.length/\i=.int .i64 k/\wr.ownsRow (w.heap.size+1) 131 4 u (l'++(ls.take k).filter (fun x=>Zbj ⟨la,lb,lc,lr⟩ x)).length (flat thE (l'++(ls.take k).filter (fun x=>Zbj ⟨la,lb,lc,lr⟩ x)))/\Below w.heap.size w wr/\wr.heap[w.heap.size]? = some (.cells #[.int .i64 la,.int .i64 lb,.int .i64 lc,.bool lr] 131)) (fun _ i _=>ls.length-(intOf i).toNat)
   case atStart=>exact ⟨0,by omega,rfl,by simpa using OW2.out,B2,HX2.out⟩
   case round=>
    clear OW2 HX2 B2 OW HX hb g0 g1 g2 g3 hzr hxl;obtain⟨k,hk,rfl,hown,hb,hx⟩:=hrel;have hfl:=ZeN (fun x=>Zbj ⟨la,lb,lc,lr⟩ x) ls k
    have hfl3:(l'++(ls.take k).filter (fun x=>Zbj ⟨la,lb,lc,lr⟩ x)).length<=2*ls.length+1:=by rw [List.length_append];omega
    have hxl:=Zab hx;by_cases hlt:k<ls.length
    ·obtain ⟨x,hl⟩:∃ l,ls[k]? = some l:=⟨ls[k],List.getElem?_eq_getElem hlt⟩
     obtain⟨b,off,cap',hve,hbb,c0,c1,c2,c3⟩:=HV.out.cells k x hl;cases hve
     have d0:=c0;have d1:=c1;have d2:=c2;have d3:=c3;rw [<-hb.cell (p:=⟨b,off+k*4,none⟩) hbb] at c0;rw [<-hb.cell (p:=⟨b,off+k*4+1,none⟩) hbb] at c1;rw [<-hb.cell (p:=⟨b,off+k*4+2,none⟩) hbb] at c2;rw [<-hb.cell (p:=⟨b,off+k*4+3,none⟩) hbb] at c3;have g0:=Zaa hx 0;have g1:=Zaa hx 1;have g2:=Zaa hx 2;have g3:=Zaa hx 3;simp at g0 g1 g2 g3
     have hzr:=hb.size;have hbr:b<wr.heap.size:=by omega
     have hki:(0:Int)<=(k:Int):=by omega
     have hkj:(k:Int)<(ls.length:Int):=by omega
     obtain⟨q,hq⟩:∃ q,q=Zbj ⟨la,lb,lc,lr⟩ x:=⟨_,rfl⟩;have hah:=Zet ⟨la,lb,lc,lr⟩ x;rw [<-hq] at hah;unfold thV at hah;have HAH:=hide hah;have OW:=hide hown;have HX:=hide hx;have HL:=hide hl;have HQ:=hide hq;have D0:=hide d0;have D1:=hide d1;have D2:=hide d2;have D3:=hide d3;clear hah hown hx hl hq d0 d1 d2 d3
     go_wp2
     go_region_held3 (fun W=>W.cell? ⟨b,off+k*4,none⟩=some (.int .i64 x.o)/\W.cell? ⟨b,off+k*4+1,none⟩=some (.int .i64 x.k)/\W.cell? ⟨b,off+k*4+2,none⟩=some (.int .i64 x.c)/\W.cell? ⟨b,off+k*4+3,none⟩=some (.bool x.f)/\W.cell? ⟨w.heap.size,0,none⟩=some (.int .i64 la)/\W.cell? ⟨w.heap.size,1,none⟩=some (.int .i64 lb)/\W.cell? ⟨w.heap.size,2,none⟩=some (.int .i64 lc)/\W.cell? ⟨w.heap.size,3,none⟩=some (.bool lr)) (first | go_keep | (refine ⟨?_,?_,?_,?_,?_,?_,?_,?_⟩ <;> (rw [hbc.cell (by assumption)];assumption))) (first | (go_at_call 110;refine (HAH.out _).mono ?_;rintro e w1 ⟨rfl,hbc⟩))
     have B1:Below w.heap.size w w1:=hb.drew.trans (hbc.mono hb.size);have hx1:w1.heap[w.heap.size]? = some (.cells #[.int .i64 la,.int .i64 lb,.int .i64 lc,.bool lr] 131):=by rw [hbc.block _ hxl];exact HX.out
     have hown1:=Zah OW.out.drew hbc (Nat.le_refl _);have c0:=D0.out;have c1:=D1.out;have c2:=D2.out;have c3:=D3.out;rw [<-B1.cell (p:=⟨b,off+k*4,none⟩) hbb] at c0;rw [<-B1.cell (p:=⟨b,off+k*4+1,none⟩) hbb] at c1;rw [<-B1.cell (p:=⟨b,off+k*4+2,none⟩) hbb] at c2;rw [<-B1.cell (p:=⟨b,off+k*4+3,none⟩) hbb] at c3;have hxl1:=Zab hx1;have HX1:=hide hx1;have OW1:=hide hown1;clear hx1 hown1 hbc;cases q
     ·have hs:=ZgJ (p:=fun x=>Zbj ⟨la,lb,lc,lr⟩ x) HL.out HQ.out.symm
      have HS:=hide hs;clear hs
      go_wp2
      go_roundw
      case rel=>exact ⟨k+1,by omega,by go_num,by rw [HS.out];exact OW1.out,B1,HX1.out⟩
      case measure=>simp [intOf];omega
     ·have hs:=ZeO (p:=fun x=>Zbj ⟨la,lb,lc,lr⟩ x) HL.out HQ.out.symm
      have HS:=hide hs;clear hs
      go_wp2_with (first
       | (at_builtin;refine ZaU ZfD (by omega) Ziu (by omega) _ rfl _ _ 25 rfl (w.heap.size+1) 131 Tryz.underlying25 (thV th0) rfl Tryz.infoTh u5 _ x rfl (OW1.out.alloc _) ⟨w1.heap.size,0,none⟩ 1 rfl (Zar (cs:=thE x)) (by omega) (by simp;omega) ?_))
      intro v' w2 l2 hl2 hown' hgrow;have B2:Below w.heap.size w w2:=(B1.alloc B1.size _).grown hgrow (by simp;omega) (fun k hk=>by have:=(OW1.out.lt k hk).1;omega)
      have hx2:w2.heap[w.heap.size]? = some (.cells #[.int .i64 la,.int .i64 lb,.int .i64 lc,.bool lr] 131):=by rw [Zbc (OW1.out.alloc _) hgrow (by omega) (by simp;omega),Below.heap_alloc _ _ _ hxl1];exact HX1.out
      have HX2:=hide hx2;have OW2:=hide hown';clear hx2 hown' hgrow
      go_wp2
      go_roundw
      case rel=>exact ⟨k+1,by omega,by go_num,by rw [HS.out];first | (rw [<-hl2.out];exact OW2.out) | (rw [<-List.append_assoc, <-hl2.out];exact OW2.out),B2,HX2.out⟩
      case measure=>simp [intOf];omega
    ·have hk':k=ls.length:=by omega
     rw [hk',List.take_length] at hown;have OW:=hide hown;clear hown hk'
     go_wp2
     go_ret
     exact⟨_,rfl,by unfold putT;rw [<-hl'.out];exact OW.out,hb⟩
def Code (w:World)(a:Option Addr)(len p:Nat):Prop:=
 len<=1048576/\(len=0\/∃ b off,a=some ⟨b,off,none⟩/\b<p/\∀ i,i<len->∃ x:Nat,x<256/\w.cell? ⟨b,off+i,none⟩=some (.int .u8 (x:Int)))
def Cur (w:World)(p:Nat)(a:Option Addr)(len cap:Nat):Prop:=
 (∃ (i:Nat) (h:Int),i<=len/\w.heap[p]? = some (.cells #[.slice a len cap,.int .i64 (i:Int),.int .i64 h] 95 (0,0)))/\Code w a len p
theorem ZlU (n:Int):0<=bits .and .i64 n 255/\bits .and .i64 n 255<=255:=by
 have key:(BitVec.ofInt 64 n &&& BitVec.ofInt 64 255).toNat<=255:=by
  rw [BitVec.toNat_and];exact Nat.le_trans Nat.and_le_right (by decide)
 have e:bits .and .i64 n 255=IntKind.i64.wrap ((BitVec.ofInt 64 n &&& BitVec.ofInt 64 255).toNat:Nat):=rfl;rw [e,IntKind.wrap_i64];omega
theorem Code.grown {w w':World}{a:Option Addr}{len p:Nat}{row:Option Nat}(h:Code w a len p)(hg:w.grownBy w' row)(hr:∀ b,b<p->some b≠row):Code w' a len p:=by
 refine⟨h.1,?_⟩
 rcases h.2 with h0 | ⟨b,off,ha,hb,hx⟩
 ·exact .inl h0
 ·refine .inr ⟨b,off,ha,hb,fun i hi=>?_⟩
  obtain⟨x,h1,h2⟩:=hx i hi;exact⟨x,h1,hg.cell h2 (hr b hb)⟩
theorem Cur.grown {w w':World}{p:Nat}{a:Option Addr}{len cap:Nat}{row:Option Nat}(h:Cur w p a len cap)(hg:w.grownBy w' row)(hr:∀ b,b<=p->some b≠row):Cur w' p a len cap:=by
 obtain⟨⟨i,hh,hi,e⟩,hc⟩:=h;refine⟨⟨i,hh,hi,?_⟩,hc.grown hg (fun b hb=>hr b (by omega))⟩
 have hlt:p<w.heap.size:=by
  rcases Nat.lt_or_ge p w.heap.size with hl | hl
  ·exact hl
  ·rw [Array.getElem?_eq_none hl] at e;cases e
 rw [hg.block p hlt (hr p (Nat.le_refl _))];exact e
theorem Cur.end {w W2:World}{p:Nat}{a:Option Addr}{len cap:Nat}(hc:Code w a len p)(hg:w.grownBy W2 (some p))(i:Nat)(h:Int)(hi:i<=len)
  (hh:W2.heap[p]? = some (.cells #[.slice a len cap,.int .i64 (i:Int),.int .i64 h] 95 (0,0))):Cur W2 p a len cap/\w.grownBy W2 (some p):=
 ⟨⟨⟨i,h,hi,hh⟩,hc.grown hg (fun b hb=>by simp;omega)⟩,hg⟩
theorem ZdT (p:Nat)(a:Option Addr)(len cap:Nat)(w:World)(hc:Cur w p a len cap):
  Calls Tryz.prog 62 #[.pointer (some ⟨p,0,none⟩)] w fun e w'=>∃ x:Int,e=.returned (.int .i64 x)/\0<=x/\x<=255/\Cur w' p a len cap/\w.grownBy w' (some p):=by
 obtain⟨⟨i,h,hi,hh⟩,hlen,hcode⟩:=hc;have c0:=Zaa hh 0;have c1:=Zaa hh 1;have c2:=Zaa hh 2;have f1:=Zae hh 1;have f2:=Zae hh 2;simp at c0 c1 c2
 have HH:=hide hh;have HC:=hide hcode;clear hh hcode
 go_enter Tryz.func62,Tryz.ntmps62
 go_wp2
 generalize wrap64 (wrap64 (h*6364136223846793005)+1442695040888963407)=h2;have hh2:(w.setCell ⟨p,2,none⟩ (.int .i64 h2)).heap[p]? = some (.cells #[.slice a len cap,.int .i64 (i:Int),.int .i64 h2] 95 (0,0)):=by
  rw [heap_setCell_same w p 2 _ _ _ HH.out];rfl
 have hg1:w.grownBy (w.setCell ⟨p,2,none⟩ (.int .i64 h2)) (some p):=⟨rfl,rfl,rfl,by simp,fun k _ hk=>heap_setCell_other w ⟨p,2,none⟩ k _ (fun e=>hk (by simp [e]))⟩
 generalize w.setCell ⟨p,2,none⟩ (.int .i64 h2)=W1 at hh2 hg1 |-;have d0:=Zaa hh2 0;have d1:=Zaa hh2 1;have d2:=Zaa hh2 2;have e1:=Zae hh2 1;simp at d0 d1 d2
 have HH2:=hide hh2;clear hh2 c0 c1 c2 f1 f2;have hbx:=ZlU (bits .xor .i64 (h2 / 8589934592) (h2 / 35184372088832));by_cases hil:i<len
 ·have hil2:(i:Int)<(len:Int):=by omega
  have hcell:∃ b off,a=some ⟨b,off,none⟩/\b≠p/\∃ x:Nat,x<256/\W1.cell? ⟨b,off+i,none⟩=some (.int .u8 (x:Int)):=by
   rcases HC.out with h0 | ⟨b,off,ha,hb,hx⟩
   ·omega
   ·obtain ⟨x,hx1,hx2⟩:=hx i hil
    exact⟨b,off,ha,by omega,x,hx1,hg1.cell hx2 (by simp;omega)⟩
  obtain⟨b,off,ha,hbp,x,hx,d3⟩:=hcell;subst ha
  go_quiet (fail)
  go_wp2
  generalize bits .and .i64 (bits .xor .i64 (h2 / 8589934592) (h2 / 35184372088832)) 255=x0 at hbx |-;obtain⟨hb0,hb1⟩:=hbx
  go_quiet (fail)
  go_wp2
  go_quiet (fail)
  go_wp2
  go_ret
  have hbz:=ZlU (x0+(x:Int));exact⟨_,rfl,hbz.1,hbz.2,Cur.end ⟨hlen,HC.out⟩ (Zaj hg1 (Zaj (ZdA W1 _ _) (Zag _ p 1 _))) (i+1) h2 (by omega) (heap_setCell_same (W1.drewN _) p 1 _ _ _ HH2.out)⟩
 ·have hil2:¬(i:Int)<(len:Int):=by omega
  go_quiet (fail)
  go_wp2
  generalize bits .and .i64 (bits .xor .i64 (h2 / 8589934592) (h2 / 35184372088832)) 255=x0 at hbx |-;obtain⟨hb0,hb1⟩:=hbx
  go_quiet (fail)
  go_wp2
  go_ret
  exact⟨_,rfl,hb0,hb1,Cur.end ⟨hlen,HC.out⟩ (Zaj hg1 (Zaj (ZdA W1 _ _) (ZdA _ _ _))) i h2 hi HH2.out⟩
theorem ZaB (p:Nat)(a:Option Addr)(len cap:Nat)(n:Int)(w:World)(hc:Cur w p a len cap)(hn:0<n)(hn2:n<=1000000000000):
  Calls Tryz.prog 26 #[.pointer (some ⟨p,0,none⟩),.int .i64 n] w fun e w'=>∃ x:Int,e=.returned (.int .i64 x)/\0<=x/\x<n/\Cur w' p a len cap/\w.grownBy w' (some p):=by
 by_cases h256:n<=256
 ·go_enter Tryz.func26,Tryz.ntmps26
  go_wp2_with fail
  refine (ZdT p a len cap _ hc).mono ?_
  rintro e w1 ⟨x,rfl,h0,h1,hc1,hg1⟩;have hr0:=Int.emod_nonneg x (show n≠0 by omega)
  have hr1:=Int.emod_lt_of_pos x hn;have htm:x.tmod n=x%n:=Int.tmod_eq_emod_of_nonneg h0;have HG:=hide hg1;have HC:=hide hc1;clear hc1 hg1 hc
  go_wp2
  go_ret
  exact⟨_,rfl,hr0,hr1,HC.out,HG.out⟩
 ·go_enter Tryz.func26,Tryz.ntmps26
  go_wp2_with fail
  refine (ZdT p a len cap _ hc).mono ?_
  rintro e w1 ⟨x,rfl,hx0,hx1,hc1,hg1⟩;have HG1:=hide hg1;clear hc hg1
  go_wp2_with fail
  refine (ZdT p a len cap _ hc1).mono ?_
  rintro e w2 ⟨y,rfl,hy0,hy1,hc2,hg2⟩;have HG2:=hide hg2;clear hc1 hg2
  go_wp2_with fail
  refine (ZdT p a len cap _ hc2).mono ?_
  rintro e w3 ⟨z,rfl,hz0,hz1,hc3,hg3⟩;have HG3:=hide hg3;clear hc2 hg3
  go_wp2_with fail
  refine (ZdT p a len cap _ hc3).mono ?_
  rintro e w4 ⟨u,rfl,hu0,hu1,hc4,hg4⟩;have HG4:=hide hg4;have HC4:=hide hc4;clear hc3 hg4 hc4;have hr0:=Int.emod_nonneg (x*16777216+y*65536+z*256+u) (show n≠0 by omega)
  have hr1:=Int.emod_lt_of_pos (x*16777216+y*65536+z*256+u) hn;have htm:(x*16777216+y*65536+z*256+u).tmod n=(x*16777216+y*65536+z*256+u)%n:=Int.tmod_eq_emod_of_nonneg (by omega)
  go_wp2
  go_ret
  exact⟨_,rfl,hr0,hr1,HC4.out,Zaj HG1.out (Zaj HG2.out (Zaj HG3.out HG4.out))⟩
theorem ZaQ {w:World}{p:Nat}{a:Option Addr}{len cap:Nat}(h:Cur w p a len cap):p<w.heap.size:=by
 obtain⟨⟨i,hh,hi,e⟩,_⟩:=h
 rcases Nat.lt_or_ge p w.heap.size with hl | hl
 ·exact hl
 ·rw [Array.getElem?_eq_none hl] at e;cases e
theorem Zkk (a:Option Addr)(len cap:Nat)(w:World)(hc:Code w a len w.heap.size):
  Calls Tryz.prog 25 #[.slice a len cap] w fun e w'=>e=.returned (.pointer (some ⟨w.heap.size,0,none⟩))/\Cur w' w.heap.size a len cap/\Below w.heap.size w w':=by
 have hlen:=hc.1;have HC:=hide hc;clear hc;have fin:∀ h:Int,Cur (w.alloc (.cells #[.slice a len cap,.int .i64 0,.int .i64 h] 95)) w.heap.size a len cap:=fun h=>
  ⟨⟨0,h,by omega,heap_alloc_new w _⟩,HC.out.grown (row:=none) ⟨rfl,rfl,rfl,by simp,fun k hk _=>Below.heap_alloc _ _ _ hk⟩ (fun b _=>by simp)⟩
 have FIN:=hide fin;clear fin;by_cases h0:len=0
 ·subst h0
  go_enter Tryz.func25,Tryz.ntmps25
  go_wp2
  refine wp_loop_rounds 1 ?_
  rw [rounds_succ]
  go_wp2
  go_ret
  exact⟨rfl,FIN.out _,(Below.refl _ _).alloc (Nat.le_refl _) _⟩
 ·obtain ⟨b,off,ha,hb,hx⟩:∃ b off,a=some ⟨b,off,none⟩/\b<w.heap.size/\∀ i,i<len->∃ x:Nat,x<256/\w.cell? ⟨b,off+i,none⟩=some (.int .u8 (x:Int)):=by
   rcases HC.out.2 with h | h
   ·exact absurd h h0
   ·exact h
  subst ha;have HX:=hide hx;clear hx
  go_enter Tryz.func25,Tryz.ntmps25
  go_wp2
  go_loop [3,4] (fun h i=>∃ (k:Nat) (z:Int),k<=len/\i=.int .i64 k/\h=.int .i64 z) (fun _ i=>len-(intOf i).toNat)
  case atStart=>exact ⟨0,_,by omega,rfl,rfl⟩
  case round=>
   obtain⟨k,z,hk,rfl,rfl⟩:=hrel;by_cases hlt:k<len
   ·obtain ⟨x,hx1,hx2⟩:=HX.out k hlt
    have hki:(k:Int)<(len:Int):=by omega
    by_cases h4:(k:Int)<4000
    ·go_wp2
     go_round
     case rel=>exact ⟨k+1,_,by omega,by go_num,rfl⟩
     case measure=>simp [intOf];omega
    ·go_wp2
     go_ret
     exact⟨rfl,FIN.out _,(Below.refl _ _).alloc (Nat.le_refl _) _⟩
   ·go_wp2
    go_ret
    exact⟨rfl,FIN.out _,(Below.refl _ _).alloc (Nat.le_refl _) _⟩
theorem ZaX {w:World}{p:Nat}{a:Option Addr}{len cap:Nat}(h:Cur w p a len cap)(o:Obj):Cur (w.alloc o) p a len cap:=
 h.grown (row:=none) ⟨rfl,rfl,rfl,by simp,fun k hk _=>Below.heap_alloc _ _ _ hk⟩ (fun b _=>by simp)
theorem ZjT (a:Option Addr)(len cap:Nat)(w:World):Calls Tryz.prog 5 #[.slice a len cap] w fun e w'=>e=.returned (.bool (decide ((1048576:Int)<(len:Int))))/\w=w':=by
 go_enter Tryz.func5,Tryz.ntmps5
 go_wp2
 go_ret
 exact⟨rfl,rfl⟩
theorem ZfT {w w':World}{a:Option Addr}{len:Nat}(h:Code w a len w.heap.size)(hb:Below w.heap.size w w'):Code w' a len w'.heap.size:=by
 refine⟨h.1,?_⟩
 rcases h.2 with h0 | ⟨b,off,ha,hb1,hx⟩
 ·exact .inl h0
 ·refine .inr ⟨b,off,ha,by have:=hb.size;omega,fun i hi=>?_⟩
  obtain⟨x,h1,h2⟩:=hx i hi;exact⟨x,h1,by rw [hb.cell (p:=⟨b,off+i,none⟩) hb1];exact h2⟩
theorem Zc2 (p:Nat)(a:Option Addr)(len cap:Nat)(n:Int)(w:World)(hc:Cur w p a len cap)(hn:0<n)(hn2:n<=1000000000000):
  Calls Tryz.prog 59 #[.pointer (some ⟨p,0,none⟩),.int .i64 n] w fun e w'=>∃ x:Bool,e=.returned (.bool x)/\Cur w' p a len cap/\w.grownBy w' (some p):=by
 go_enter Tryz.func59,Tryz.ntmps59
 go_wp2_with fail
 refine (ZaB p a len cap n _ hc hn hn2).mono ?_
 rintro e w1 ⟨x,rfl,h0,h1,hc1,hg1⟩;have HG:=hide hg1;have HC:=hide hc1;clear hc1 hg1 hc
 go_wp2
 go_ret
 exact⟨_,rfl,HC.out,HG.out⟩
theorem Zco (R:Int->Prop)(p:Nat)(a:Option Addr)(len cap:Nat)(g n:Nat)(w:World)(hc:Cur w p a len cap)(hn:0<n)(hn2:n<=1000)(hg:g≠p)(hz:∀ k,k<n->∃ z:Int,R z/\w.cell? ⟨g,k,none⟩=some (.int .i64 z)):
  Calls Tryz.prog 63 #[.pointer (some ⟨p,0,none⟩),.slice (some ⟨g,0,none⟩) n n] w fun e w'=>∃ x:Int,e=.returned (.int .i64 x)/\R x/\Cur w' p a len cap/\w.grownBy w' (some p):=by
 have HZ:=hide hz;have HC:=hide hc;clear hz hc
 go_enter Tryz.func63,Tryz.ntmps63
 go_wp2_with fail
 refine (ZaB p a len cap _ _ HC.out (by omega) (by omega)).mono ?_
 rintro e w1 ⟨x,rfl,h0,h1,hc1,hg1⟩;obtain⟨z,hR,hz⟩:=HZ.out x.toNat (by omega)
 have hz1:=hg1.cell hz (by simp;exact hg)
 have hxn:x<(n:Int):=h1;have HR:=hide hR;have HG:=hide hg1;have HC1:=hide hc1;clear hg1 hc1 hz hR
 go_wp2
 go_ret
 exact⟨_,rfl,HR.out,HC1.out,HG.out⟩
def ZbA {α:Type}(ord:α->α->Int)(ls:List α):Nat->Bool
 | 0=>true
 | k+1=>match ls[k]?,ls[k+1]? with
  | some p,some l=>decide (ord p l<0)
  | _,_=>true
theorem Za6 {α:Type}{ord:α->α->Int}{ls:List α}{j:Nat}{p l:α}(hp:ls[j]? = some p)(hl:ls[j+1]? = some l):ZbA ord ls (j+1)=decide (ord p l<0):=by
 simp only [ZbA,hp,hl]
def ascB {α:Type}(ord:α->α->Int)(ls:List α):Bool:=(List.range ls.length).all (ZbA ord ls)
theorem ZaF {n k:Nat}{p:Nat->Bool}(hk:k<n)(h:p k=false):(List.range n).all p=false:=by
 cases e:(List.range n).all p with
 | false=>rfl
 | true=>rw [List.all_eq_true.1 e k (List.mem_range.2 hk)] at h;cases h
theorem ZaG {n:Nat}{p:Nat->Bool}(h:∀ j,j<n->p j=true):(List.range n).all p=true:=List.all_eq_true.2 fun j hj=>h j (List.mem_range.1 hj)
theorem ZaC {k:Nat}{p:Nat->Bool}(h:∀ j,j<k->p j=true)(hk:p k=true):∀ j,j<k+1->p j=true:=fun j hj=>by
 by_cases e:j=k
 ·subst e;exact hk
 ·exact h j (by omega)
def okAt {α:Type}(ok:α->Bool)(ls:List α)(k:Nat):Bool:=match ls[k]? with
 | some l=>ok l
 | none=>true
theorem Zbh {α:Type}{ok:α->Bool}{ls:List α}{k:Nat}{l:α}(h:ls[k]? = some l):okAt ok ls k=ok l:=by simp only [okAt,h]
def Zbl {α:Type}(ok:α->Bool)(ls:List α):Bool:=(List.range ls.length).all (okAt ok ls)
theorem ZaZ (x a b:Int)(w:World):Calls Tryz.prog 37 #[.int .i64 x,.int .i64 a,.int .i64 b] w fun e w'=>e=.returned (.bool (inB x a b))/\w=w':=by
 by_cases h1:a<=x <;> by_cases h2:x<=b
 all_goals
  go_enter Tryz.func37,Tryz.ntmps37
  go_wp2
  go_ret
  exact⟨by simp [inB,h1,h2],rfl⟩
def cmpN (a b:Int):Int:=if a<b then -1 else if b<a then 1 else 0
theorem Za5 {a b:Int}:cmpN a b=0↔a=b:=by unfold cmpN;split <;> (try split) <;> omega
theorem ZdU {a b:Int}:cmpN a b<0↔a<b:=by unfold cmpN;split <;> (try split) <;> omega
theorem ZhH {a b:Int}(h:b=a):Ending.returned (.int .i64 a)=.returned (.int .i64 b):=by rw [h]
theorem Zhq (a:Int)(w:World):Calls Tryz.prog 135 #[.int .i64 a] w fun e w'=>e=.returned (.bool false)/\w=w':=by
 go_enter Tryz.func135,Tryz.ntmps135
 go_wp2
 go_ret
 exact⟨by simp,rfl⟩
theorem Zbw (a b:Int)(w:World):Calls Tryz.prog 119 #[.int .i64 a,.int .i64 b] w fun e w'=>e=.returned (.int .i64 (cmpN a b))/\w=w':=by
 go_enter Tryz.func119,Tryz.ntmps119
 go_wp2_with fail
 refine (Zhq a _).mono ?_
 rintro e w1 ⟨rfl,rfl⟩
 go_wp2_with fail
 refine (Zhq b _).mono ?_
 rintro e w1 ⟨rfl,rfl⟩
 go_wp2
 all_goals go_ret
 all_goals refine ⟨ZhH ?_,rfl⟩
 all_goals (unfold cmpN;grind)
end Go.Proofs.YtcimbiinljcifaaGreat
