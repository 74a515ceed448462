/-
  PutT Cur CurL CurX NetSt
-/
import Derived.Test.YtgdgkgmjpnbbcaaGreatOn23
import Derived.Deep.RegionHeld3
import Derived.Test.YtgdgkgmjpnbbcaaGreatOn1
import Derived.Deep.QuietTactic
import Derived.BigQuiet
import Derived.Test.YtgdgkgmjpnbbcaaGreatOn19
namespace Go.Proofs.YtgdgkgmjpnbbcaaGreat
open Go.RowKit
set_option linter.unusedSimpArgs false
set_option linter.unusedVariables false
set_option maxRecDepth 100000
set_option maxHeartbeats 8000000
theorem Zj7 (l:Th):∀ u∈thE l,u.oneCell'=true:=by
 intro u hu;simp only [thE,List.mem_cons,List.not_mem_nil,or_false] at hu
 rcases hu with rfl | rfl | rfl | rfl <;> rfl
def putT (ls:List Th)(l:Th):List Th:=ls.filter (fun x=>ZbE x l)++[l]++ls.filter (fun x=>ZbE l x)
theorem Zog (v:Value)(ls:List Th)(l:Th)(w:World)(hls:ls.length<=1000)(hv:Zbv w v ls w.heap.size):
  Calls Tryz.prog 47 #[v,thV l] w fun e w'=>∃ x,e=.returned x/\w'.ownsRow (w.heap.size+1) 46 4 x (putT ls l).length (flat thE (putT ls l))/\Below w.heap.size w w':=by
 obtain⟨a,cap,rfl⟩:=hv.shape;have HV:=hide hv;clear hv;obtain⟨la,lb,lc,lr⟩:=l;unfold thV;simp only []
 go_enter Tryz.func47,Tryz.ntmps47
 go_wp2
 go_loopw [5,6] (fun u i wr=>∃ k:Nat,k<=ls.length/\i=.int .i64 k/\wr.ownsRow (w.heap.size+1) 46 4 u ((ls.take k).filter (fun x=>ZbE x ⟨la,lb,lc,lr⟩)).length (flat thE ((ls.take k).filter (fun x=>ZbE x ⟨la,lb,lc,lr⟩)))/\Below w.heap.size w wr/\wr.heap[w.heap.size]? = some (.cells #[.int .i64 la,.int .i64 lb,.int .i64 lc,.bool lr] 46)) (fun _ i _=>ls.length-(intOf i).toNat)
 case atStart=>
  refine⟨0,by omega,rfl,?_,?_,?_⟩
  ·have h:=World.ownsRow_lit (base:=w.heap.size+1) (e:=46) (size:=4) (w.alloc (.cells #[.int .i64 la,.int .i64 lb,.int .i64 lc,.bool lr] 46)) #[] 0 (by simp) (by decide) rfl
   simpa [flat] using h
  ·exact ((Below.refl _ _).alloc (Nat.le_refl _) _).alloc (by simp) _
  ·rw [Below.heap_alloc _ _ _ (by simp),heap_alloc_new]
 case round=>
  obtain⟨k,hk,rfl,hown,hb,hx⟩:=hrel;have hfl:=Zf6 (fun x=>ZbE x ⟨la,lb,lc,lr⟩) ls k
  have hxl:=Zab hx;by_cases hlt:k<ls.length
  ·obtain ⟨x,hl⟩:∃ l,ls[k]? = some l:=⟨ls[k],List.getElem?_eq_getElem hlt⟩
   obtain⟨b,off,cap',hve,hbb,c0,c1,c2,c3⟩:=HV.out.cells k x hl;cases hve
   have d0:=c0;have d1:=c1;have d2:=c2;have d3:=c3;rw [<-hb.cell (p:=⟨b,off+k*4,none⟩) hbb] at c0;rw [<-hb.cell (p:=⟨b,off+k*4+1,none⟩) hbb] at c1;rw [<-hb.cell (p:=⟨b,off+k*4+2,none⟩) hbb] at c2;rw [<-hb.cell (p:=⟨b,off+k*4+3,none⟩) hbb] at c3;have g0:=Zaa hx 0;have g1:=Zaa hx 1;have g2:=Zaa hx 2;have g3:=Zaa hx 3;simp at g0 g1 g2 g3
   have hzr:=hb.size;have hbr:b<wr.heap.size:=by omega
   have hki:(0:Int)<=(k:Int):=by omega
   have hkj:(k:Int)<(ls.length:Int):=by omega
   obtain⟨q,hq⟩:∃ q,q=ZbE x ⟨la,lb,lc,lr⟩:=⟨_,rfl⟩;have hah:=ZfL x ⟨la,lb,lc,lr⟩;rw [<-hq] at hah;unfold thV at hah;have HAH:=hide hah;have OW:=hide hown;have HX:=hide hx;have HL:=hide hl;have HQ:=hide hq;have D0:=hide d0;have D1:=hide d1;have D2:=hide d2;have D3:=hide d3;clear hah hown hx hl hq d0 d1 d2 d3
   go_wp2
   go_region_held3 (fun W=>W.cell? ⟨b,off+k*4,none⟩=some (.int .i64 x.o)/\W.cell? ⟨b,off+k*4+1,none⟩=some (.int .i64 x.k)/\W.cell? ⟨b,off+k*4+2,none⟩=some (.int .i64 x.c)/\W.cell? ⟨b,off+k*4+3,none⟩=some (.bool x.f)/\W.cell? ⟨w.heap.size,0,none⟩=some (.int .i64 la)/\W.cell? ⟨w.heap.size,1,none⟩=some (.int .i64 lb)/\W.cell? ⟨w.heap.size,2,none⟩=some (.int .i64 lc)/\W.cell? ⟨w.heap.size,3,none⟩=some (.bool lr)) (first | go_keep | (refine ⟨?_,?_,?_,?_,?_,?_,?_,?_⟩ <;> (rw [hbc.cell (by assumption)];assumption))) (first | (go_at_call 50;refine (HAH.out _).mono ?_;rintro e w1 ⟨rfl,hbc⟩))
   have B1:Below w.heap.size w w1:=hb.drew.trans (hbc.mono hb.size);have hx1:w1.heap[w.heap.size]? = some (.cells #[.int .i64 la,.int .i64 lb,.int .i64 lc,.bool lr] 46):=by rw [hbc.block _ hxl];exact HX.out
   have hown1:=Zaf OW.out.drew hbc (Nat.le_refl _);have c0:=D0.out;have c1:=D1.out;have c2:=D2.out;have c3:=D3.out;rw [<-B1.cell (p:=⟨b,off+k*4,none⟩) hbb] at c0;rw [<-B1.cell (p:=⟨b,off+k*4+1,none⟩) hbb] at c1;rw [<-B1.cell (p:=⟨b,off+k*4+2,none⟩) hbb] at c2;rw [<-B1.cell (p:=⟨b,off+k*4+3,none⟩) hbb] at c3;have hxl1:=Zab hx1;have HX1:=hide hx1;have OW1:=hide hown1;clear hx1 hown1 hbc;cases q
   ·have hs:=ZhV (p:=fun x=>ZbE x ⟨la,lb,lc,lr⟩) HL.out HQ.out.symm
    have HS:=hide hs;clear hs
    go_wp2
    go_roundw
    case rel=>exact ⟨k+1,by omega,by go_num,by rw [HS.out];exact OW1.out,B1,HX1.out⟩
    case measure=>simp [intOf];omega
   ·have hs:=Zf7 (p:=fun x=>ZbE x ⟨la,lb,lc,lr⟩) HL.out HQ.out.symm
    have HS:=hide hs;clear hs
    go_wp2_with (first
     | (at_builtin;refine Za9 Zig (by omega) Zj7 (by omega) _ rfl _ _ 25 rfl (w.heap.size+1) 46 Tryz.underlying25 (thV th0) rfl Tryz.infoTh u5 _ x rfl (OW1.out.alloc _) ⟨w1.heap.size,0,none⟩ 1 rfl (Zap (cs:=thE x)) (by omega) (by simp;omega) ?_))
    intro v' w2 l' hl' hown' hgrow;have B2:Below w.heap.size w w2:=(B1.alloc B1.size _).grown hgrow (by simp;omega) (fun k hk=>by have:=(OW1.out.lt k hk).1;omega)
    have hx2:w2.heap[w.heap.size]? = some (.cells #[.int .i64 la,.int .i64 lb,.int .i64 lc,.bool lr] 46):=by rw [Zbq (OW1.out.alloc _) hgrow (by omega) (by simp;omega),Below.heap_alloc _ _ _ hxl1];exact HX1.out
    have HX2:=hide hx2;have OW2:=hide hown';clear hx2 hown' hgrow
    go_wp2
    go_roundw
    case rel=>exact ⟨k+1,by omega,by go_num,by rw [HS.out, <-hl'.out];exact OW2.out,B2,HX2.out⟩
    case measure=>simp [intOf];omega
  ·have hk':k=ls.length:=by omega
   rw [hk',List.take_length] at hown;have g0:=Zaa hx 0;have g1:=Zaa hx 1;have g2:=Zaa hx 2;have g3:=Zaa hx 3;simp at g0 g1 g2 g3
   have hzr:=hb.size;have hfl2:(ls.filter (fun x=>ZbE x ⟨la,lb,lc,lr⟩)).length<=ls.length:=List.length_filter_le _ _
   have OW:=hide hown;have HX:=hide hx;clear hown hx hk';obtain⟨wo,rfl⟩:∃ wo:World,wo=wr:=⟨_,rfl⟩
   go_wp2_with (first
    | (at_builtin;refine Za9 Zig (by omega) Zj7 (by omega) _ rfl _ _ 25 rfl (w.heap.size+1) 46 Tryz.underlying25 (thV th0) rfl Tryz.infoTh u5 _ ⟨la,lb,lc,lr⟩ rfl (OW.out.alloc _) ⟨wo.heap.size,0,none⟩ 1 rfl (Zap (cs:=thE ⟨la,lb,lc,lr⟩)) (by omega) (by simp;omega) ?_))
   intro v' w2 l' hl' hown' hgrow;have B2:Below w.heap.size w w2:=(hb.alloc hb.size _).grown hgrow (by simp;omega) (fun k hk=>by have:=(OW.out.lt k hk).1;omega)
   have hx2:w2.heap[w.heap.size]? = some (.cells #[.int .i64 la,.int .i64 lb,.int .i64 lc,.bool lr] 46):=by rw [Zbq (OW.out.alloc _) hgrow (by omega) (by simp;omega),Below.heap_alloc _ _ _ hxl];exact HX.out
   have hll:l'.length<=ls.length+1:=by rw [hl'.out];simp;omega
   have HX2:=hide hx2;have OW2:=hide hown';clear hx2 hown' hgrow hlt
   go_wp2
   go_loopw [5,7] (fun u i wr=>∃ k:Nat,k<=ls.length/\i=.int .i64 k/\wr.ownsRow (w.heap.size+1) 46 4 u (l'++(ls.take k).filter (fun x=>ZbE ⟨la,lb,lc,lr⟩ x)).length (flat thE (l'++(ls.take k).filter (fun x=>ZbE ⟨la,lb,lc,lr⟩ x)))/\Below w.heap.size w wr/\wr.heap[w.heap.size]? = some (.cells #[.int .i64 la,.int .i64 lb,.int .i64 lc,.bool lr] 46)) (fun _ i _=>ls.length-(intOf i).toNat)
   case atStart=>exact ⟨0,by omega,rfl,by simpa using OW2.out,B2,HX2.out⟩
   case round=>
    clear OW2 HX2 B2 OW HX hb g0 g1 g2 g3 hzr hxl;obtain⟨k,hk,rfl,hown,hb,hx⟩:=hrel;have hfl:=Zf6 (fun x=>ZbE ⟨la,lb,lc,lr⟩ x) ls k
    have hfl3:(l'++(ls.take k).filter (fun x=>ZbE ⟨la,lb,lc,lr⟩ x)).length<=2*ls.length+1:=by rw [List.length_append];omega
    have hxl:=Zab hx;by_cases hlt:k<ls.length
    ·obtain ⟨x,hl⟩:∃ l,ls[k]? = some l:=⟨ls[k],List.getElem?_eq_getElem hlt⟩
     obtain⟨b,off,cap',hve,hbb,c0,c1,c2,c3⟩:=HV.out.cells k x hl;cases hve
     have d0:=c0;have d1:=c1;have d2:=c2;have d3:=c3;rw [<-hb.cell (p:=⟨b,off+k*4,none⟩) hbb] at c0;rw [<-hb.cell (p:=⟨b,off+k*4+1,none⟩) hbb] at c1;rw [<-hb.cell (p:=⟨b,off+k*4+2,none⟩) hbb] at c2;rw [<-hb.cell (p:=⟨b,off+k*4+3,none⟩) hbb] at c3;have g0:=Zaa hx 0;have g1:=Zaa hx 1;have g2:=Zaa hx 2;have g3:=Zaa hx 3;simp at g0 g1 g2 g3
     have hzr:=hb.size;have hbr:b<wr.heap.size:=by omega
     have hki:(0:Int)<=(k:Int):=by omega
     have hkj:(k:Int)<(ls.length:Int):=by omega
     obtain⟨q,hq⟩:∃ q,q=ZbE ⟨la,lb,lc,lr⟩ x:=⟨_,rfl⟩;have hah:=ZfL ⟨la,lb,lc,lr⟩ x;rw [<-hq] at hah;unfold thV at hah;have HAH:=hide hah;have OW:=hide hown;have HX:=hide hx;have HL:=hide hl;have HQ:=hide hq;have D0:=hide d0;have D1:=hide d1;have D2:=hide d2;have D3:=hide d3;clear hah hown hx hl hq d0 d1 d2 d3
     go_wp2
     go_region_held3 (fun W=>W.cell? ⟨b,off+k*4,none⟩=some (.int .i64 x.o)/\W.cell? ⟨b,off+k*4+1,none⟩=some (.int .i64 x.k)/\W.cell? ⟨b,off+k*4+2,none⟩=some (.int .i64 x.c)/\W.cell? ⟨b,off+k*4+3,none⟩=some (.bool x.f)/\W.cell? ⟨w.heap.size,0,none⟩=some (.int .i64 la)/\W.cell? ⟨w.heap.size,1,none⟩=some (.int .i64 lb)/\W.cell? ⟨w.heap.size,2,none⟩=some (.int .i64 lc)/\W.cell? ⟨w.heap.size,3,none⟩=some (.bool lr)) (first | go_keep | (refine ⟨?_,?_,?_,?_,?_,?_,?_,?_⟩ <;> (rw [hbc.cell (by assumption)];assumption))) (first | (go_at_call 50;refine (HAH.out _).mono ?_;rintro e w1 ⟨rfl,hbc⟩))
     have B1:Below w.heap.size w w1:=hb.drew.trans (hbc.mono hb.size);have hx1:w1.heap[w.heap.size]? = some (.cells #[.int .i64 la,.int .i64 lb,.int .i64 lc,.bool lr] 46):=by rw [hbc.block _ hxl];exact HX.out
     have hown1:=Zaf OW.out.drew hbc (Nat.le_refl _);have c0:=D0.out;have c1:=D1.out;have c2:=D2.out;have c3:=D3.out;rw [<-B1.cell (p:=⟨b,off+k*4,none⟩) hbb] at c0;rw [<-B1.cell (p:=⟨b,off+k*4+1,none⟩) hbb] at c1;rw [<-B1.cell (p:=⟨b,off+k*4+2,none⟩) hbb] at c2;rw [<-B1.cell (p:=⟨b,off+k*4+3,none⟩) hbb] at c3;have hxl1:=Zab hx1;have HX1:=hide hx1;have OW1:=hide hown1;clear hx1 hown1 hbc;cases q
     ·have hs:=ZhV (p:=fun x=>ZbE ⟨la,lb,lc,lr⟩ x) HL.out HQ.out.symm
      have HS:=hide hs;clear hs
      go_wp2
      go_roundw
      case rel=>exact ⟨k+1,by omega,by go_num,by rw [HS.out];exact OW1.out,B1,HX1.out⟩
      case measure=>simp [intOf];omega
     ·have hs:=Zf7 (p:=fun x=>ZbE ⟨la,lb,lc,lr⟩ x) HL.out HQ.out.symm
      have HS:=hide hs;clear hs
      go_wp2_with (first
       | (at_builtin;refine Za9 Zig (by omega) Zj7 (by omega) _ rfl _ _ 25 rfl (w.heap.size+1) 46 Tryz.underlying25 (thV th0) rfl Tryz.infoTh u5 _ x rfl (OW1.out.alloc _) ⟨w1.heap.size,0,none⟩ 1 rfl (Zap (cs:=thE x)) (by omega) (by simp;omega) ?_))
      intro v' w2 l2 hl2 hown' hgrow;have B2:Below w.heap.size w w2:=(B1.alloc B1.size _).grown hgrow (by simp;omega) (fun k hk=>by have:=(OW1.out.lt k hk).1;omega)
      have hx2:w2.heap[w.heap.size]? = some (.cells #[.int .i64 la,.int .i64 lb,.int .i64 lc,.bool lr] 46):=by rw [Zbq (OW1.out.alloc _) hgrow (by omega) (by simp;omega),Below.heap_alloc _ _ _ hxl1];exact HX1.out
      have HX2:=hide hx2;have OW2:=hide hown';clear hx2 hown' hgrow
      go_wp2
      go_roundw
      case rel=>exact ⟨k+1,by omega,by go_num,by rw [HS.out];first | (rw [<-hl2.out];exact OW2.out) | (rw [<-List.append_assoc, <-hl2.out];exact OW2.out),B2,HX2.out⟩
      case measure=>simp [intOf];omega
    ·have hk':k=ls.length:=by omega
     rw [hk',List.take_length] at hown;have OW:=hide hown;clear hown hk'
     go_wp2
     go_ret
     exact⟨_,rfl,by unfold putT;rw [<-hl'.out];exact OW.out,hb⟩
def Code (w:World)(a:Option Addr)(len p:Nat):Prop:=
 len<=1048576/\(len=0\/∃ b off,a=some ⟨b,off,none⟩/\b<p/\∀ i,i<len->∃ x:Nat,x<256/\w.cell? ⟨b,off+i,none⟩=some (.int .u8 (x:Int)))
def Cur (w:World)(p:Nat)(a:Option Addr)(len cap:Nat):Prop:=
 (∃ (i:Nat) (h:Int),i<=len/\w.heap[p]? = some (.cells #[.slice a len cap,.int .i64 (i:Int),.int .i64 h] 89 (0,0)))/\Code w a len p
theorem ZoF (n:Int):0<=bits .and .i64 n 255/\bits .and .i64 n 255<=255:=by
 have key:(BitVec.ofInt 64 n &&& BitVec.ofInt 64 255).toNat<=255:=by
  rw [BitVec.toNat_and];exact Nat.le_trans Nat.and_le_right (by decide)
 have e:bits .and .i64 n 255=IntKind.i64.wrap ((BitVec.ofInt 64 n &&& BitVec.ofInt 64 255).toNat:Nat):=rfl;rw [e,IntKind.wrap_i64];omega
theorem Code.grown {w w':World}{a:Option Addr}{len p:Nat}{row:Option Nat}(h:Code w a len p)(hg:w.grownBy w' row)(hr:∀ b,b<p->some b≠row):Code w' a len p:=by
 refine⟨h.1,?_⟩
 rcases h.2 with h0 | ⟨b,off,ha,hb,hx⟩
 ·exact .inl h0
 ·refine .inr ⟨b,off,ha,hb,fun i hi=>?_⟩
  obtain⟨x,h1,h2⟩:=hx i hi;exact⟨x,h1,hg.cell h2 (hr b hb)⟩
theorem Cur.grown {w w':World}{p:Nat}{a:Option Addr}{len cap:Nat}{row:Option Nat}(h:Cur w p a len cap)(hg:w.grownBy w' row)(hr:∀ b,b<=p->some b≠row):Cur w' p a len cap:=by
 obtain⟨⟨i,hh,hi,e⟩,hc⟩:=h;refine⟨⟨i,hh,hi,?_⟩,hc.grown hg (fun b hb=>hr b (by omega))⟩
 have hlt:p<w.heap.size:=by
  rcases Nat.lt_or_ge p w.heap.size with hl | hl
  ·exact hl
  ·rw [Array.getElem?_eq_none hl] at e;cases e
 rw [hg.block p hlt (hr p (Nat.le_refl _))];exact e
theorem Cur.end {w W2:World}{p:Nat}{a:Option Addr}{len cap:Nat}(hc:Code w a len p)(hg:w.grownBy W2 (some p))(i:Nat)(h:Int)(hi:i<=len)
  (hh:W2.heap[p]? = some (.cells #[.slice a len cap,.int .i64 (i:Int),.int .i64 h] 89 (0,0))):Cur W2 p a len cap/\w.grownBy W2 (some p):=
 ⟨⟨⟨i,h,hi,hh⟩,hc.grown hg (fun b hb=>by simp;omega)⟩,hg⟩
theorem ZeT (p:Nat)(a:Option Addr)(len cap:Nat)(w:World)(hc:Cur w p a len cap):
  Calls Tryz.prog 85 #[.pointer (some ⟨p,0,none⟩)] w fun e w'=>∃ x:Int,e=.returned (.int .i64 x)/\0<=x/\x<=255/\Cur w' p a len cap/\w.grownBy w' (some p):=by
 obtain⟨⟨i,h,hi,hh⟩,hlen,hcode⟩:=hc;have c0:=Zaa hh 0;have c1:=Zaa hh 1;have c2:=Zaa hh 2;have f1:=Zae hh 1;have f2:=Zae hh 2;simp at c0 c1 c2
 have HH:=hide hh;have HC:=hide hcode;clear hh hcode
 go_enter Tryz.func85,Tryz.ntmps85
 go_wp2
 generalize wrap64 (wrap64 (h*6364136223846793005)+1442695040888963407)=h2;have hh2:(w.setCell ⟨p,2,none⟩ (.int .i64 h2)).heap[p]? = some (.cells #[.slice a len cap,.int .i64 (i:Int),.int .i64 h2] 89 (0,0)):=by
  rw [heap_setCell_same w p 2 _ _ _ HH.out];rfl
 have hg1:w.grownBy (w.setCell ⟨p,2,none⟩ (.int .i64 h2)) (some p):=⟨rfl,rfl,rfl,by simp,fun k _ hk=>heap_setCell_other w ⟨p,2,none⟩ k _ (fun e=>hk (by simp [e]))⟩
 generalize w.setCell ⟨p,2,none⟩ (.int .i64 h2)=W1 at hh2 hg1 |-;have d0:=Zaa hh2 0;have d1:=Zaa hh2 1;have d2:=Zaa hh2 2;have e1:=Zae hh2 1;simp at d0 d1 d2
 have HH2:=hide hh2;clear hh2 c0 c1 c2 f1 f2;have hbx:=ZoF (bits .xor .i64 (h2 / 8589934592) (h2 / 35184372088832));by_cases hil:i<len
 ·have hil2:(i:Int)<(len:Int):=by omega
  have hcell:∃ b off,a=some ⟨b,off,none⟩/\b≠p/\∃ x:Nat,x<256/\W1.cell? ⟨b,off+i,none⟩=some (.int .u8 (x:Int)):=by
   rcases HC.out with h0 | ⟨b,off,ha,hb,hx⟩
   ·omega
   ·obtain ⟨x,hx1,hx2⟩:=hx i hil
    exact⟨b,off,ha,by omega,x,hx1,hg1.cell hx2 (by simp;omega)⟩
  obtain⟨b,off,ha,hbp,x,hx,d3⟩:=hcell;subst ha
  go_quiet (fail)
  go_wp2
  generalize bits .and .i64 (bits .xor .i64 (h2 / 8589934592) (h2 / 35184372088832)) 255=x0 at hbx |-;obtain⟨hb0,hb1⟩:=hbx
  go_quiet (fail)
  go_wp2
  go_quiet (fail)
  go_wp2
  go_ret
  have hbz:=ZoF (x0+(x:Int));exact⟨_,rfl,hbz.1,hbz.2,Cur.end ⟨hlen,HC.out⟩ (Zai hg1 (Zai (Zex W1 _ _) (Zal _ p 1 _))) (i+1) h2 (by omega) (heap_setCell_same (W1.drewN _) p 1 _ _ _ HH2.out)⟩
 ·have hil2:¬(i:Int)<(len:Int):=by omega
  go_quiet (fail)
  go_wp2
  generalize bits .and .i64 (bits .xor .i64 (h2 / 8589934592) (h2 / 35184372088832)) 255=x0 at hbx |-;obtain⟨hb0,hb1⟩:=hbx
  go_quiet (fail)
  go_wp2
  go_ret
  exact⟨_,rfl,hb0,hb1,Cur.end ⟨hlen,HC.out⟩ (Zai hg1 (Zai (Zex W1 _ _) (Zex _ _ _))) i h2 hi HH2.out⟩
theorem Zby (p:Nat)(a:Option Addr)(len cap:Nat)(n:Int)(w:World)(hc:Cur w p a len cap)(hn:0<n)(hn2:n<=1000000000000):
  Calls Tryz.prog 44 #[.pointer (some ⟨p,0,none⟩),.int .i64 n] w fun e w'=>∃ x:Int,e=.returned (.int .i64 x)/\0<=x/\x<n/\Cur w' p a len cap/\w.grownBy w' (some p):=by
 by_cases h256:n<=256
 ·go_enter Tryz.func44,Tryz.ntmps44
  go_wp2_with fail
  refine (ZeT p a len cap _ hc).mono ?_
  rintro e w1 ⟨x,rfl,h0,h1,hc1,hg1⟩;have hr0:=Int.emod_nonneg x (show n≠0 by omega)
  have hr1:=Int.emod_lt_of_pos x hn;have htm:x.tmod n=x%n:=Int.tmod_eq_emod_of_nonneg h0;have HG:=hide hg1;have HC:=hide hc1;clear hc1 hg1 hc
  go_wp2
  go_ret
  exact⟨_,rfl,hr0,hr1,HC.out,HG.out⟩
 ·go_enter Tryz.func44,Tryz.ntmps44
  go_wp2_with fail
  refine (ZeT p a len cap _ hc).mono ?_
  rintro e w1 ⟨x,rfl,hx0,hx1,hc1,hg1⟩;have HG1:=hide hg1;clear hc hg1
  go_wp2_with fail
  refine (ZeT p a len cap _ hc1).mono ?_
  rintro e w2 ⟨y,rfl,hy0,hy1,hc2,hg2⟩;have HG2:=hide hg2;clear hc1 hg2
  go_wp2_with fail
  refine (ZeT p a len cap _ hc2).mono ?_
  rintro e w3 ⟨z,rfl,hz0,hz1,hc3,hg3⟩;have HG3:=hide hg3;clear hc2 hg3
  go_wp2_with fail
  refine (ZeT p a len cap _ hc3).mono ?_
  rintro e w4 ⟨u,rfl,hu0,hu1,hc4,hg4⟩;have HG4:=hide hg4;have HC4:=hide hc4;clear hc3 hg4 hc4;have hr0:=Int.emod_nonneg (x*16777216+y*65536+z*256+u) (show n≠0 by omega)
  have hr1:=Int.emod_lt_of_pos (x*16777216+y*65536+z*256+u) hn;have htm:(x*16777216+y*65536+z*256+u).tmod n=(x*16777216+y*65536+z*256+u)%n:=Int.tmod_eq_emod_of_nonneg (by omega)
  go_wp2
  go_ret
  exact⟨_,rfl,hr0,hr1,HC4.out,Zai HG1.out (Zai HG2.out (Zai HG3.out HG4.out))⟩
theorem Zcc {w:World}{p:Nat}{a:Option Addr}{len cap:Nat}(h:Cur w p a len cap):p<w.heap.size:=by
 obtain⟨⟨i,hh,hi,e⟩,_⟩:=h
 rcases Nat.lt_or_ge p w.heap.size with hl | hl
 ·exact hl
 ·rw [Array.getElem?_eq_none hl] at e;cases e
theorem Zo3 (a:Option Addr)(len cap:Nat)(w:World)(hc:Code w a len w.heap.size):
  Calls Tryz.prog 14 #[.slice a len cap] w fun e w'=>e=.returned (.pointer (some ⟨w.heap.size,0,none⟩))/\Cur w' w.heap.size a len cap/\Below w.heap.size w w':=by
 have hlen:=hc.1;have HC:=hide hc;clear hc;have fin:∀ h:Int,Cur (w.alloc (.cells #[.slice a len cap,.int .i64 0,.int .i64 h] 89)) w.heap.size a len cap:=fun h=>
  ⟨⟨0,h,by omega,heap_alloc_new w _⟩,HC.out.grown (row:=none) ⟨rfl,rfl,rfl,by simp,fun k hk _=>Below.heap_alloc _ _ _ hk⟩ (fun b _=>by simp)⟩
 have FIN:=hide fin;clear fin;by_cases h0:len=0
 ·subst h0
  go_enter Tryz.func14,Tryz.ntmps14
  go_wp2
  refine wp_loop_rounds 1 ?_
  rw [rounds_succ]
  go_wp2
  go_ret
  exact⟨rfl,FIN.out _,(Below.refl _ _).alloc (Nat.le_refl _) _⟩
 ·obtain ⟨b,off,ha,hb,hx⟩:∃ b off,a=some ⟨b,off,none⟩/\b<w.heap.size/\∀ i,i<len->∃ x:Nat,x<256/\w.cell? ⟨b,off+i,none⟩=some (.int .u8 (x:Int)):=by
   rcases HC.out.2 with h | h
   ·exact absurd h h0
   ·exact h
  subst ha;have HX:=hide hx;clear hx
  go_enter Tryz.func14,Tryz.ntmps14
  go_wp2
  go_loop [3,4] (fun h i=>∃ (k:Nat) (z:Int),k<=len/\i=.int .i64 k/\h=.int .i64 z) (fun _ i=>len-(intOf i).toNat)
  case atStart=>exact ⟨0,_,by omega,rfl,rfl⟩
  case round=>
   obtain⟨k,z,hk,rfl,rfl⟩:=hrel;by_cases hlt:k<len
   ·obtain ⟨x,hx1,hx2⟩:=HX.out k hlt
    have hki:(k:Int)<(len:Int):=by omega
    by_cases h4:(k:Int)<4000
    ·go_wp2
     go_round
     case rel=>exact ⟨k+1,_,by omega,by go_num,rfl⟩
     case measure=>simp [intOf];omega
    ·go_wp2
     go_ret
     exact⟨rfl,FIN.out _,(Below.refl _ _).alloc (Nat.le_refl _) _⟩
   ·go_wp2
    go_ret
    exact⟨rfl,FIN.out _,(Below.refl _ _).alloc (Nat.le_refl _) _⟩
theorem Zb9 {w:World}{p:Nat}{a:Option Addr}{len cap:Nat}(h:Cur w p a len cap)(o:Obj):Cur (w.alloc o) p a len cap:=
 h.grown (row:=none) ⟨rfl,rfl,rfl,by simp,fun k hk _=>Below.heap_alloc _ _ _ hk⟩ (fun b _=>by simp)
theorem ZlU (a:Option Addr)(len cap:Nat)(w:World):Calls Tryz.prog 4 #[.slice a len cap] w fun e w'=>e=.returned (.bool (decide ((1048576:Int)<(len:Int))))/\w=w':=by
 go_enter Tryz.func4,Tryz.ntmps4
 go_wp2
 go_ret
 exact⟨rfl,rfl⟩
theorem ZkW {w w':World}{a:Option Addr}{len:Nat}(h:Code w a len w.heap.size)(hb:Below w.heap.size w w'):Code w' a len w'.heap.size:=by
 refine⟨h.1,?_⟩
 rcases h.2 with h0 | ⟨b,off,ha,hb1,hx⟩
 ·exact .inl h0
 ·refine .inr ⟨b,off,ha,by have:=hb.size;omega,fun i hi=>?_⟩
  obtain⟨x,h1,h2⟩:=hx i hi;exact⟨x,h1,by rw [hb.cell (p:=⟨b,off+i,none⟩) hb1];exact h2⟩
theorem Zh7 (p:Nat)(a:Option Addr)(len cap:Nat)(n:Int)(w:World)(hc:Cur w p a len cap)(hn:0<n)(hn2:n<=1000000000000):
  Calls Tryz.prog 16 #[.pointer (some ⟨p,0,none⟩),.int .i64 n] w fun e w'=>∃ x:Bool,e=.returned (.bool x)/\Cur w' p a len cap/\w.grownBy w' (some p):=by
 go_enter Tryz.func16,Tryz.ntmps16
 go_wp2_with fail
 refine (Zby p a len cap n _ hc hn hn2).mono ?_
 rintro e w1 ⟨x,rfl,h0,h1,hc1,hg1⟩;have HG:=hide hg1;have HC:=hide hc1;clear hc1 hg1 hc
 go_wp2
 go_ret
 exact⟨_,rfl,HC.out,HG.out⟩
theorem ZdZ (R:Int->Prop)(p:Nat)(a:Option Addr)(len cap:Nat)(g n:Nat)(w:World)(hc:Cur w p a len cap)(hn:0<n)(hn2:n<=1000)(hg:g≠p)(hz:∀ k,k<n->∃ z:Int,R z/\w.cell? ⟨g,k,none⟩=some (.int .i64 z)):
  Calls Tryz.prog 45 #[.pointer (some ⟨p,0,none⟩),.slice (some ⟨g,0,none⟩) n n] w fun e w'=>∃ x:Int,e=.returned (.int .i64 x)/\R x/\Cur w' p a len cap/\w.grownBy w' (some p):=by
 have HZ:=hide hz;have HC:=hide hc;clear hz hc
 go_enter Tryz.func45,Tryz.ntmps45
 go_wp2_with fail
 refine (Zby p a len cap _ _ HC.out (by omega) (by omega)).mono ?_
 rintro e w1 ⟨x,rfl,h0,h1,hc1,hg1⟩;obtain⟨z,hR,hz⟩:=HZ.out x.toNat (by omega)
 have hz1:=hg1.cell hz (by simp;exact hg)
 have hxn:x<(n:Int):=h1;have HR:=hide hR;have HG:=hide hg1;have HC1:=hide hc1;clear hg1 hc1 hz hR
 go_wp2
 go_ret
 exact⟨_,rfl,HR.out,HC1.out,HG.out⟩
end Go.Proofs.YtgdgkgmjpnbbcaaGreat
namespace Go.Proofs.YtgdgkgmjpnbbcaaGreat
open Go.RowKit

theorem Zg7 (a b:Lk):ZbC a b=true↔(a.a<b.a\/(a.a=b.a/\(a.b<b.b\/(a.b=b.b/\a.r<b.r)))):=by
 simp [ZbC]

theorem ZhB (a b:Th):ZbE a b=true↔(a.k<b.k\/(a.k=b.k/\a.o<b.o)):=by
 simp [ZbE]

def Zkc (n:Int)(ls:List Lk):Prop:=(∀ x∈ls,ZbG n x=true)/\ls.Pairwise (fun x y=>ZbC x y=true)

def Zkd (n:Int)(ts:List Th):Prop:=(∀ x∈ts,Zd4 n x=true)/\ts.Pairwise (fun x y=>ZbE x y=true)

theorem Zfr {α:Type}{p q:α->Bool}(h:∀ x,p x=true->q x=true->False):∀ ls:List α,(ls.filter p).length+(ls.filter q).length<=ls.length
 | []=>by simp
 | x::xs=>by
  have ih:=Zfr h xs;have hx:=h x;cases hp:p x <;> cases hq:q x <;> simp_all <;> omega

theorem Zff (ls:List Lk)(l:Lk):(ZfF ls l).length<=ls.length+1:=by
 have h:=Zfr (p:=fun x=>ZbC x l) (q:=fun x=>ZbC l x) (fun x h1 h2=>by
  simp only [Zg7] at h1 h2;omega) ls
 unfold ZfF;simp only [List.length_append,List.length_cons,List.length_nil]
 omega

theorem Zoh (ls:List Th)(l:Th):(putT ls l).length<=ls.length+1:=by
 have h:=Zfr (p:=fun x=>ZbE x l) (q:=fun x=>ZbE l x) (fun x h1 h2=>by
  simp only [ZhB] at h1 h2;omega) ls
 unfold putT;simp only [List.length_append,List.length_cons,List.length_nil]
 omega

theorem Zds {n:Int}{ls:List Lk}{l:Lk}(h:Zkc n ls)(hl:ZbG n l=true):Zkc n (ZfF ls l):=by
 refine⟨?_,?_⟩
 ·intro x hx
  simp only [ZfF,List.mem_append,List.mem_filter,List.mem_cons,List.not_mem_nil,or_false] at hx
  rcases hx with (⟨h1,_⟩ | rfl) | ⟨h1,_⟩
  ·exact h.1 x h1
  ·exact hl
  ·exact h.1 x h1
 ·unfold ZfF
  refine List.pairwise_append.2 ⟨List.pairwise_append.2 ⟨h.2.filter _,List.pairwise_singleton _ _,?_⟩,h.2.filter _,?_⟩
  ·intro x hx y hy
   simp only [List.mem_filter,List.mem_cons,List.not_mem_nil,or_false] at hx hy
   rw [hy];exact hx.2
  ·intro x hx y hy
   simp only [List.mem_append,List.mem_filter,List.mem_cons,List.not_mem_nil,or_false] at hx hy
   rcases hx with ⟨_,h1⟩ | rfl
   ·have h2:=hy.2
    simp only [Zg7] at h1 h2 |-
    omega
   ·exact hy.2

theorem Zlr {n:Int}{ls:List Th}{l:Th}(h:Zkd n ls)(hl:Zd4 n l=true):Zkd n (putT ls l):=by
 refine⟨?_,?_⟩
 ·intro x hx
  simp only [putT,List.mem_append,List.mem_filter,List.mem_cons,List.not_mem_nil,or_false] at hx
  rcases hx with (⟨h1,_⟩ | rfl) | ⟨h1,_⟩
  ·exact h.1 x h1
  ·exact hl
  ·exact h.1 x h1
 ·unfold putT
  refine List.pairwise_append.2 ⟨List.pairwise_append.2 ⟨h.2.filter _,List.pairwise_singleton _ _,?_⟩,h.2.filter _,?_⟩
  ·intro x hx y hy
   simp only [List.mem_filter,List.mem_cons,List.not_mem_nil,or_false] at hx hy
   rw [hy];exact hx.2
  ·intro x hx y hy
   simp only [List.mem_append,List.mem_filter,List.mem_cons,List.not_mem_nil,or_false] at hx hy
   rcases hx with ⟨_,h1⟩ | rfl
   ·have h2:=hy.2
    simp only [ZhB] at h1 h2 |-
    omega
   ·exact hy.2

theorem Zkf {α:Type}{ok:α->Bool}{ls:List α}(h:∀ x∈ls,ok x=true):Zce ok ls=true:=Zbf fun j hj=>by
 rw [Zcz (List.getElem?_eq_getElem hj)];exact h _ (List.getElem_mem hj)

theorem ZlM {α:Type}{ord:α->α->Int}{ls:List α}(h:ls.Pairwise (fun x y=>ord x y<0)):ascB ord ls=true:=Zbf fun j hj=>by
 match j,hj with
 | 0,_=>rfl
 | j+1,hj=>
  rw [ZbF (List.getElem?_eq_getElem (by omega)) (List.getElem?_eq_getElem hj)]
  exact decide_eq_true (List.pairwise_iff_getElem.1 h j (j+1) (by omega) hj (by omega))

theorem Zms {n:Int}{ls:List Lk}(h:Zkc n ls)(hl:ls.length<=12):Zer n ls=true:=by
 unfold Zer;rw [decide_eq_true hl,Zkf h.1,ZlM (h.2.imp fun hxy=>by rw [Zis] at hxy;exact of_decide_eq_true hxy)]
 rfl

theorem ZlE {n:Int}{ls:List Th}(h:Zkd n ls)(hl:ls.length<=4):Zdf n ls=true:=by
 unfold Zdf;rw [decide_eq_true hl,Zkf h.1,ZlM (h.2.imp fun hxy=>by rw [Zjh] at hxy;exact of_decide_eq_true hxy)]
 rfl

theorem Ze1 {x a b:Int}(h1:a<=x)(h2:x<=b):inB x a b=true:=by simp [inB,h1,h2]

theorem ZdS {n a b c r:Int}(hn:1<=n/\n<=6)(ha:1<=a)(hab:a<b)(hb:b<=n)(hc:1<=c/\c<=1000)(hr:0<=r/\r<=2):ZbG n ⟨a,b,c,r⟩=true:=by
 unfold ZbG;simp only []
 rw [Ze1 hn.1 hn.2,Ze1 ha (by omega),Ze1 (by omega) hb,Ze1 hc.1 hc.2,Ze1 hr.1 hr.2,decide_eq_true hab]
 rfl

theorem Zpl {n o k c:Int}{f:Bool}(ho:1<=o/\o<=n)(hk:1<=k/\k<=9)(hc:1<=c/\c<=1000):Zd4 n ⟨o,k,c,f⟩=true:=by
 unfold Zd4;simp only []
 rw [Ze1 ho.1 ho.2,Ze1 hk.1 hk.2,Ze1 hc.1 hc.2]
 rfl

structure NetSt (w wr:World) (p B0 z:Nat) (a:Option Addr) (len cap:Nat) (N:Int) (v1 v2:Value) (ls:List Lk) (ts:List Th):Prop where
 cur:Cur wr p a len cap
 bel:Below p w wr
 new:w.heap.size<=B0
 gro:w.grownBy wr (some p)
 box:wr.heap[z]? = some (.cells #[.int .i64 N,v1,v2] 27)
 res:wr.heap[B0]? = some (.cells #[.int .i64 0,.slice none 0 0,.slice none 0 0] 27)
 o1:wr.ownsRow (z+1) 32 4 v1 ls.length (flat lkE ls)
 o2:wr.ownsRow (z+1) 46 4 v2 ts.length (flat thE ts)

theorem ZcQ {w w':World}{base size p:Nat}{e:TypeId}{v:Value}{n:Nat}{xs:List Value}(h:w.ownsRow base e size v n xs)(hg:w.grownBy w' (some p))(hp:p<base):w'.ownsRow base e size v n xs:=h.kept hg (by
 rcases h.2 with ⟨e,_⟩ | ⟨g,cp,cur,e,hb,_⟩
 ·exact .inl (by rw [e];rfl)
 ·refine .inr ?_
  rw [e];intro h;simp [Value.ownBlock] at h
  omega)

theorem Zgt {w w':World}(hb:Below w.heap.size w w'):w.grownBy w' none:=⟨hb.os,hb.tape,hb.output,hb.size,fun k hk _=>hb.block k hk⟩

section
variable {w wr w':World} {p B0 z:Nat} {a:Option Addr} {len cap:Nat} {N:Int} {v1 v2:Value} {ls:List Lk} {ts:List Th}

theorem NetSt.grown (h:NetSt w wr p B0 z a len cap N v1 v2 ls ts)(hc:Cur w' p a len cap)(hg:wr.grownBy w' (some p))(hp:p<B0)(hz:B0<z):NetSt w w' p B0 z a len cap N v1 v2 ls ts where
 cur:=hc
 bel:=h.bel.grown hg (by have:=Zcc h.cur;omega) (fun k hk=>by simp at hk;omega)
 new:=h.new
 gro:=Zai h.gro hg
 box:=by rw [hg.block z (Zab h.box) (by simp;omega)];exact h.box
 res:=by rw [hg.block B0 (Zab h.res) (by simp;omega)];exact h.res
 o1:=ZcQ h.o1 hg (by omega)
 o2:=ZcQ h.o2 hg (by omega)

theorem NetSt.below (h:NetSt w wr p B0 z a len cap N v1 v2 ls ts)(hb:Below wr.heap.size wr w'):NetSt w w' p B0 z a len cap N v1 v2 ls ts where
 cur:=h.cur.grown (Zgt hb) (fun b _=>by simp)
 bel:=h.bel.trans (hb.mono (by have:=Zcc h.cur;omega))
 new:=h.new
 gro:=Zai h.gro ⟨hb.os,hb.tape,hb.output,hb.size,fun k hk _=>hb.block k hk⟩
 box:=by rw [hb.block z (Zab h.box)];exact h.box
 res:=by rw [hb.block B0 (Zab h.res)];exact h.res
 o1:=Zaf h.o1 hb (Nat.le_refl _)
 o2:=Zaf h.o2 hb (Nat.le_refl _)

theorem NetSt.alloc (h:NetSt w wr p B0 z a len cap N v1 v2 ls ts)(o:Obj):NetSt w (wr.alloc o) p B0 z a len cap N v1 v2 ls ts:=h.below ((Below.refl _ _).alloc (Nat.le_refl _) _)

theorem NetSt.put1 (h:NetSt w wr p B0 z a len cap N v1 v2 ls ts)(hb:Below wr.heap.size wr w'){v':Value}{ls':List Lk}(ho:w'.ownsRow (wr.heap.size+1) 32 4 v' ls'.length (flat lkE ls'))(hp:p<B0)(hz:B0<z):NetSt w (w'.setCell ⟨z,1,none⟩ v') p B0 z a len cap N v' v2 ls' ts:=
 have h2:=h.below hb;have hzl:=Zab h.box
 {cur:=h2.cur.grown (Zal w' z 1 v') (fun b hb=>by simp;omega)
  bel:=h2.bel.setCell (by show p<=z;omega) _
  new:=h.new
  gro:=⟨h2.gro.os,h2.gro.tape,h2.gro.output,by have:=h2.gro.size;simpa using this,fun b hb hne=>by rw [heap_setCell_other w' ⟨z,1,none⟩ _ _ (by show b≠z;have:=h.new;omega)];exact h2.gro.block b hb hne⟩
  box:=heap_setCell_same _ _ 1 _ _ v' h2.box
  res:=by rw [heap_setCell_other w' ⟨z,1,none⟩ _ _ (by show B0≠z;omega)];exact h2.res
  o1:=ZaH (Zah ho (by omega)) (by omega)
  o2:=ZaH h2.o2 (by omega) }

theorem NetSt.put2 (h:NetSt w wr p B0 z a len cap N v1 v2 ls ts)(hb:Below wr.heap.size wr w'){v':Value}{ts':List Th}(ho:w'.ownsRow (wr.heap.size+1) 46 4 v' ts'.length (flat thE ts'))(hp:p<B0)(hz:B0<z):NetSt w (w'.setCell ⟨z,2,none⟩ v') p B0 z a len cap N v1 v' ls ts':=
 have h2:=h.below hb;have hzl:=Zab h.box
 {cur:=h2.cur.grown (Zal w' z 2 v') (fun b hb=>by simp;omega)
  bel:=h2.bel.setCell (by show p<=z;omega) _
  new:=h.new
  gro:=⟨h2.gro.os,h2.gro.tape,h2.gro.output,by have:=h2.gro.size;simpa using this,fun b hb hne=>by rw [heap_setCell_other w' ⟨z,2,none⟩ _ _ (by show b≠z;have:=h.new;omega)];exact h2.gro.block b hb hne⟩
  box:=heap_setCell_same _ _ 2 _ _ v' h2.box
  res:=by rw [heap_setCell_other w' ⟨z,2,none⟩ _ _ (by show B0≠z;omega)];exact h2.res
  o1:=ZaH h2.o1 (by omega)
  o2:=ZaH (Zah ho (by omega)) (by omega) }

theorem NetSt.c0 (h:NetSt w wr p B0 z a len cap N v1 v2 ls ts):wr.cell? ⟨z,0,none⟩=some (.int .i64 N):=by rw [Zaa h.box];rfl

theorem NetSt.c1 (h:NetSt w wr p B0 z a len cap N v1 v2 ls ts):wr.cell? ⟨z,1,none⟩=some v1:=by rw [Zaa h.box];rfl

theorem NetSt.c2 (h:NetSt w wr p B0 z a len cap N v1 v2 ls ts):wr.cell? ⟨z,2,none⟩=some v2:=by rw [Zaa h.box];rfl

theorem NetSt.drew (h:NetSt w wr p B0 z a len cap N v1 v2 ls ts):NetSt w wr.drew p B0 z a len cap N v1 v2 ls ts:=h.below (Below.refl _ _).drew
end
end Go.Proofs.YtgdgkgmjpnbbcaaGreat
