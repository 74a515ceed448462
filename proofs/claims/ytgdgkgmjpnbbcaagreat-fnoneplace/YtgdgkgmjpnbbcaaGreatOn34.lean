/-
  WOutI DelI InsA InsWA InsB
-/
import Derived.Test.YtgdgkgmjpnbbcaaGreatOn11
import Derived.Test.YtgdgkgmjpnbbcaaGreatOn12
import Derived.Test.YtgdgkgmjpnbbcaaGreatOn33
import Derived.Test.YtgdgkgmjpnbbcaaGreatOn10
import Derived.Test.YtgdgkgmjpnbbcaaGreatOn17
import Derived.Lib.SliceRun
import Derived.Test.YtgdgkgmjpnbbcaaGreatOn2
import Derived.Shelf.Spec.SlicesInsertGrow
namespace Go.Proofs.YtgdgkgmjpnbbcaaGreat
open Go.RowKit
set_option linter.unusedSimpArgs false
set_option linter.unusedVariables false
set_option maxRecDepth 100000
set_option maxHeartbeats 8000000
def OutK (xs:List RecD)(area src:Int)(k:Nat)(ds:List WayD):Prop:=∀ d,d∈ds↔∃ r∈xs.take k,ZcA xs area src r d
theorem OutK.quiet {xs:List RecD}{area src:Int}{k:Nat}{ds:List WayD}{r:RecD}(h:OutK xs area src k ds)(hr:xs[k]? = some r)(hn:∀ d,¬ZcA xs area src r d):OutK xs area src (k+1) ds:=by
 obtain⟨hk,e⟩:=List.getElem?_eq_some_iff.1 hr;intro d;rw [h d,List.take_succ_eq_append_getElem hk,e]
 constructor
 ·rintro ⟨x,hx,ht⟩
  exact⟨x,List.mem_append.2 (.inl hx),ht⟩
 ·rintro ⟨x,hx,ht⟩
  rcases List.mem_append.1 hx with h1 | h1
  ·exact ⟨x,h1,ht⟩
  ·have:x=r:=by simpa using h1
   subst this;exact absurd ht (hn d)
theorem OutK.more {xs:List RecD}{area src:Int}{k:Nat}{ds:List WayD}{r:RecD}{d0:WayD}(h:OutK xs area src k ds)(hr:xs[k]? = some r)(hd:ZcA xs area src r d0):OutK xs area src (k+1) (ds++[d0]):=by
 obtain⟨hk,e⟩:=List.getElem?_eq_some_iff.1 hr;intro d;rw [List.mem_append,h d,List.take_succ_eq_append_getElem hk,e]
 constructor
 ·rintro (⟨x,hx,ht⟩ | h1)
  ·exact ⟨x,List.mem_append.2 (.inl hx),ht⟩
  ·have:d=d0:=by simpa using h1
   subst this;exact⟨r,List.mem_append.2 (.inr (by simp)),hd⟩
 ·rintro ⟨x,hx,ht⟩
  rcases List.mem_append.1 hx with h1 | h1
  ·exact .inl ⟨x,h1,ht⟩
  ·have:x=r:=by simpa using h1
   subst this;obtain⟨_,_,_,v,h4,_,rfl⟩:=ht;obtain⟨_,_,_,v',h4',_,rfl⟩:=hd;rw [h4] at h4';cases h4'
   exact .inr (by simp)
theorem Zjn {xs:List RecD}{a src:Int}{ps:List WP}(h:Zag ps=Zbm xs a src):totW ps<=42:=by
 have hw:=ZbA xs a src;refine ZeZ ?_ (fun d hd=>(hw.2 d (by rw [<-h];exact hd)).1.len)
 have:=Zci hw.1 (fun d hd=>(hw.2 d hd).1.node)
 rw [<-h] at this
 simpa [Zag] using this
theorem ZoD (W:World)(lo:Nat):WaysOwn W lo W.heap.size (.slice none 0 0) []:=⟨World.ownsRow_nil _ _ _ _,fun k hk=>by simp [Value.ownBlock] at hk,by simp,by simp⟩
theorem Zka (v:Value)(ps:List RP)(hi:Nat)(area src:Int)(w:World)(hv:RecsIn w hi v ps)(hhi:hi<=w.heap.size)(hn:tot ps<=1048576):
  Calls Tryz.prog 67 #[v,.int .i64 area,.int .i64 src] w fun e w'=>∃ x qs,e=.returned x/\OutK (fsts ps) area src ps.length (Zag qs)/\qs.length<=ps.length/\WaysOwn w' w.heap.size w'.heap.size x qs/\Below w.heap.size w w':=by
 have hnl:=ZbI ps;obtain⟨a1,c1,rfl⟩:=Zac hv.row;have HWI:=hide (Zey (.slice a1 ps.length c1) ps hi area src w hv hhi hn);have HV:=hide hv;clear hv
 go_enter Tryz.func67,Tryz.ntmps67
 go_wp2_with fail
 refine HWI.out.mono ?_
 rintro e w1 ⟨uw,ws,rfl,hws0,how,b1⟩;obtain⟨wsa,wsc,rfl⟩:=Zac how.row;have hws:=hws0.eq;have hwt:totW ws<=1048576:=by have:=Zjn hws;omega
 have hb1:=b1.size;have HWT:=hide (fun (z:Int) (W:World) (hb:Below w1.heap.size w1 W)=>by
  have h:=Zeb (.slice wsa ws.length wsc) ws w.heap.size w1.heap.size z W (how.below hb (Nat.le_refl _)) hb.size hwt;rw [hws] at h;exact h)
 clear hws0 how HWI hws hwt
 go_wp2
 go_loopw [19,8] (fun i o wr=>∃ (k:Nat) (x:Value) (qs:List WP),k<=ps.length/\i=.int .i64 (k:Int)/\o=x/\WaysOwn wr w1.heap.size wr.heap.size x qs/\Hid (OutK (fsts ps) area src k (Zag qs))/\qs.length<=k/\Below w1.heap.size w1 wr) (fun i _ _=>ps.length-(intOf i).toNat)
 case atStart=>exact ⟨0,_,[],by omega,rfl,rfl,ZoD _ _,hide (fun d=>by simp [Zag]),by simp,Below.refl _ _⟩
 case round=>
  obtain⟨k,x,qs,hk,rfl,rfl,hown,HM,hql,hnx⟩:=hrel;obtain⟨xa,xc,rfl⟩:=Zac hown.row;have hsz:=hnx.size;have BW:Below w.heap.size w wr:=b1.trans (hnx.mono hb1);by_cases hlt:k<ps.length
  ·obtain ⟨p,hp⟩:∃ p,ps[k]? = some p:=⟨ps[k],List.getElem?_eq_getElem hlt⟩
   obtain⟨bb,off,cap',hve,hbb,c0,c1,c2,c3,c4,c5,c6,c7,hnr⟩:=HV.out.at.cells k p hp;cases hve
   obtain⟨pa,pc,hpn⟩:=ZaB.shape hnr;rw [hpn] at c5;rw [<-BW.cell (p:=⟨bb,off+k*8,none⟩) (Nat.lt_of_lt_of_le hbb hhi)] at c0;rw [<-BW.cell (p:=⟨bb,off+k*8+1,none⟩) (Nat.lt_of_lt_of_le hbb hhi)] at c1;rw [<-BW.cell (p:=⟨bb,off+k*8+2,none⟩) (Nat.lt_of_lt_of_le hbb hhi)] at c2;rw [<-BW.cell (p:=⟨bb,off+k*8+3,none⟩) (Nat.lt_of_lt_of_le hbb hhi)] at c3;rw [<-BW.cell (p:=⟨bb,off+k*8+4,none⟩) (Nat.lt_of_lt_of_le hbb hhi)] at c4;rw [<-BW.cell (p:=⟨bb,off+k*8+5,none⟩) (Nat.lt_of_lt_of_le hbb hhi)] at c5;rw [<-BW.cell (p:=⟨bb,off+k*8+6,none⟩) (Nat.lt_of_lt_of_le hbb hhi)] at c6;rw [<-BW.cell (p:=⟨bb,off+k*8+7,none⟩) (Nat.lt_of_lt_of_le hbb hhi)] at c7;have HPP:=hide (Zbo hp);have hpm:p.1∈fsts ps:=List.mem_of_getElem? (Zbo hp);have BAL:Below wr.heap.size wr (wr.alloc (.cells #[.int .i64 p.1.area,.int .i64 p.1.kind,.int .i64 p.1.owner,.int .i64 p.1.key,.int .i64 p.1.seq,.slice pa p.1.near.length pc,.int .i64 p.1.cost,.bool p.1.far] 59)):=(Below.refl _ _).alloc (Nat.le_refl _) _;have hxl:=heap_alloc_new wr (.cells #[.int .i64 p.1.area,.int .i64 p.1.kind,.int .i64 p.1.owner,.int .i64 p.1.key,.int .i64 p.1.seq,.slice pa p.1.near.length pc,.int .i64 p.1.cost,.bool p.1.far] 59);obtain⟨wl,hwl⟩:∃ W,W=(wr.alloc (.cells #[.int .i64 p.1.area,.int .i64 p.1.kind,.int .i64 p.1.owner,.int .i64 p.1.key,.int .i64 p.1.seq,.slice pa p.1.near.length pc,.int .i64 p.1.cost,.bool p.1.far] 59)):=⟨_,rfl⟩;rw [<-hwl] at BAL hxl;have hki:(0:Int)<=(k:Int):=by omega
   have hkj:(k:Int)<(ps.length:Int):=by omega
   clear hp hnr hpn;by_cases hK:p.1.kind=2
   case neg=>
    have hd:(p.1.kind != 2)=true:=by simpa using hK
    have HhK:=hide hK;clear hK;have HN:=hide (show OutK (fsts ps) area src (k+1) (Zag qs) from HM.out.quiet HPP.out (fun d ht=>HhK.out ht.1))
    have N1:=hide ((hown.below BAL (Nat.le_refl _)).wide (Nat.le_refl _) BAL.size);have N2:=hide (hnx.trans (BAL.mono hnx.size));rw [hwl] at N1 N2;clear hown HM HPP HWT BAL hwl
    go_wp2
    go_roundw
    case rel=>exact ⟨k+1,_,qs,by omega,by go_num,rfl,N1.out,HN,by omega,N2.out⟩
    case measure=>simp [intOf];omega
   have hdK:(p.1.kind != 2)=false:=by simpa using hK
   have HhK:=hide hK;clear hK;by_cases hA:p.1.area=area
   case neg=>
    have hd:(p.1.area != area)=true:=by simpa using hA
    have HhA:=hide hA;clear hA;have HN:=hide (show OutK (fsts ps) area src (k+1) (Zag qs) from HM.out.quiet HPP.out (fun d ht=>HhA.out ht.2.1))
    have N1:=hide ((hown.below BAL (Nat.le_refl _)).wide (Nat.le_refl _) BAL.size);have N2:=hide (hnx.trans (BAL.mono hnx.size));rw [hwl] at N1 N2;clear hown HM HPP HWT BAL hwl
    go_wp2
    go_roundw
    case rel=>exact ⟨k+1,_,qs,by omega,by go_num,rfl,N1.out,HN,by omega,N2.out⟩
    case measure=>simp [intOf];omega
   have hdA:(p.1.area != area)=false:=by simpa using hA
   have HhA:=hide hA;clear hA;by_cases hO:p.1.owner=src
   case pos=>
    have hd:(p.1.owner==src)=true:=by simpa using hO
    have HhO:=hide hO;clear hO;have HN:=hide (show OutK (fsts ps) area src (k+1) (Zag qs) from HM.out.quiet HPP.out (fun d ht=>ht.2.2.1 HhO.out))
    have N1:=hide ((hown.below BAL (Nat.le_refl _)).wide (Nat.le_refl _) BAL.size);have N2:=hide (hnx.trans (BAL.mono hnx.size));rw [hwl] at N1 N2;clear hown HM HPP HWT BAL hwl
    go_wp2
    go_roundw
    case rel=>exact ⟨k+1,_,qs,by omega,by go_num,rfl,N1.out,HN,by omega,N2.out⟩
    case measure=>simp [intOf];omega
   have hdO:(p.1.owner==src)=false:=by simpa using hO
   have HhO:=hide hO;clear hO;have hfd:=ZbU (Zbm (fsts ps) area src) p.1.owner;have HW:=HWT.out p.1.owner wl (hnx.trans (BAL.mono hsz));obtain⟨D,hD⟩:∃ D,D=ZaY (Zbm (fsts ps) area src) p.1.owner:=⟨_,rfl⟩;obtain⟨FB,hFB⟩:∃ F,F=Za3 (Zbm (fsts ps) area src) p.1.owner:=⟨_,rfl⟩;rw [<-hD, <-hFB] at HW hfd;have hsl:=BAL.size;have hx2:=Zaa hxl 2;simp at hx2
   rw [hwl] at hx2;have HXL:=hide hxl;have HWW:=hide HW;have HFD:=hide hfd;have HOW:=hide hown;have HBL:=hide BAL;unfold wayC at HWW;clear HW hfd hD hFB hown hxl BAL
   go_wp2_with fail
   rw [<-hwl];clear hwl hx2;refine HWW.out.mono ?_
   rintro e w3 ⟨du,rfl,hdu,b3⟩;obtain⟨da,dc,rfl⟩:=Zac hdu;have hb3:=b3.size;have hxl3:=(b3.block _ (Zab HXL.out)).trans HXL.out;have hwl3:=Zab HXL.out;have B3:Below wr.heap.size wr w3:=HBL.out.trans (b3.mono hsl);have hx4:=heap_alloc_new w3 (.cells #[.int .i64 D.to,.int .i64 D.cost,.slice da D.hops.length dc] 48);have B4:Below wr.heap.size wr (w3.alloc (.cells #[.int .i64 D.to,.int .i64 D.cost,.slice da D.hops.length dc] 48)):=B3.trans (((Below.refl w3.heap.size w3).alloc (Nat.le_refl _) _).mono (by omega))
   have hxl4:=(((Below.refl w3.heap.size w3).alloc (Nat.le_refl _) (.cells #[.int .i64 D.to,.int .i64 D.cost,.slice da D.hops.length dc] 48)).block _ (Zab hxl3)).trans hxl3;have d1:=Zaa hx4 1;have d2:=Zaa hx4 2;have r3:=Zaa hxl4 3;have r6:=Zaa hxl4 6;simp at d1 d2 r3 r6
   have HB4:=hide B4;have HDU:=hide hdu;have hsz4:(w3.alloc (.cells #[.int .i64 D.to,.int .i64 D.cost,.slice da D.hops.length dc] 48)).heap.size=w3.heap.size+1:=by simp
   have HSZ4:=hide hsz4;clear hdu b3 hxl3 hx4 hxl4 B3 B4 HWW HXL HBL hsz4;cases FB
   ·have HN:=hide (show OutK (fsts ps) area src (k+1) (Zag qs) from HM.out.quiet HPP.out (fun d ht=>by
     obtain⟨_,_,_,v,h4,_⟩:=ht
     rcases HFD.out with ⟨h1,_⟩ | ⟨_,h2⟩
     ·cases h1
     ·rw [h2] at h4;cases h4))
    have N1:=hide ((HOW.out.below HB4.out (Nat.le_refl _)).wide (Nat.le_refl _) HB4.out.size);have N2:=hide (hnx.trans (HB4.out.mono hsz));clear HM HPP HFD HWT HOW HB4 HDU HSZ4 d1 d2 r3 r6
    go_wp2
    go_roundw
    case rel=>exact ⟨k+1,_,qs,by omega,by go_num,rfl,N1.out,HN,by omega,N2.out⟩
    case measure=>simp [intOf];omega
   ·have hfound:ZaQ (Zbm (fsts ps) area src) p.1.owner=some D:=by
     rcases HFD.out with ⟨_,h2⟩ | ⟨h1,_⟩
     ·exact h2
     ·cases h1
    have hDm:=(ZaM hfound).1;have hDg:=(ZbA (fsts ps) area src).2 D hDm;have hrb:=ZfI (ZcM hDm).1 hpm HhK.out;have hD0:=hDg.1.cost;have hDc:=hDg.2;have hD6:=hDg.1.len;by_cases hsum:D.cost+p.1.cost<60000
    ·have htell:ZcA (fsts ps) area src p.1 ⟨p.1.key,D.cost+p.1.cost,D.hops⟩:=⟨HhK.out,HhA.out,HhO.out,D,hfound,hsum,rfl⟩
     have HN:=hide (HM.out.more HPP.out htell);have BN:Below (w3.alloc (.cells #[.int .i64 D.to,.int .i64 D.cost,.slice da D.hops.length dc] 48)).heap.size (w3.alloc (.cells #[.int .i64 D.to,.int .i64 D.cost,.slice da D.hops.length dc] 48)) ((w3.alloc (.cells #[.int .i64 D.to,.int .i64 D.cost,.slice da D.hops.length dc] 48)).alloc (.cells #[.int .i64 p.1.key,.int .i64 (D.cost+p.1.cost),.slice da D.hops.length dc] 48)):=(Below.refl _ _).alloc (Nat.le_refl _) _;have BT:Below wr.heap.size wr ((w3.alloc (.cells #[.int .i64 D.to,.int .i64 D.cost,.slice da D.hops.length dc] 48)).alloc (.cells #[.int .i64 p.1.key,.int .i64 (D.cost+p.1.cost),.slice da D.hops.length dc] 48)):=HB4.out.trans (BN.mono HB4.out.size);have OW:=hide (((Zaf HOW.out.row HB4.out (Nat.le_refl _))).alloc (.cells #[.int .i64 p.1.key,.int .i64 (D.cost+p.1.cost),.slice da D.hops.length dc] 48));have hdu2:((w3.alloc (.cells #[.int .i64 D.to,.int .i64 D.cost,.slice da D.hops.length dc] 48)).alloc (.cells #[.int .i64 p.1.key,.int .i64 (D.cost+p.1.cost),.slice da D.hops.length dc] 48)).ownsRow wl.heap.size 3 1 (.slice da D.hops.length dc) D.hops.length (flat intE D.hops):=(HDU.out.alloc _).alloc _;have HHO:=hide (show Zbu ((w3.alloc (.cells #[.int .i64 D.to,.int .i64 D.cost,.slice da D.hops.length dc] 48)).alloc (.cells #[.int .i64 p.1.key,.int .i64 (D.cost+p.1.cost),.slice da D.hops.length dc] 48)) wr.heap.size ((w3.alloc (.cells #[.int .i64 D.to,.int .i64 D.cost,.slice da D.hops.length dc] 48)).alloc (.cells #[.int .i64 p.1.key,.int .i64 (D.cost+p.1.cost),.slice da D.hops.length dc] 48)).heap.size (⟨p.1.key,D.cost+p.1.cost,D.hops⟩,.slice da D.hops.length dc) from ⟨Zah hdu2 hsl,fun j hj=>(hdu2.lt j hj).2⟩)
     have HBT:=hide BT;have hq2:=hql;clear htell hfound hDm hDg HM HPP HFD HWT HB4 HDU BN BT hdu2
     go_wp2_with (first
      | (at_builtin;refine ZaG Zbd (by omega) (by omega) _ rfl _ _ 41 rfl w1.heap.size 48 Tryz.underlying41 (.agg (wayC Zbg (.slice none 0 0))) rfl Tryz.infoWay _ qs (⟨p.1.key,D.cost+p.1.cost,D.hops⟩,.slice da D.hops.length dc) (Zc3 _ _ _ _) rfl OW.out ⟨w3.heap.size+1,0,none⟩ 1 rfl (fun j u hj=>by
        have h:=Zap (w:=(w3.alloc (.cells #[.int .i64 D.to,.int .i64 D.cost,.slice da D.hops.length dc] 48))) (cs:=encW ((⟨p.1.key,D.cost+p.1.cost,D.hops⟩:WayD),Value.slice da D.hops.length dc)) (t:=48) j u hj;rw [HSZ4.out] at h;exact h) (by omega) (by simp;omega) ?_))
     intro v' w6 hown' hgrow;have N1:=hide (HOW.out.push HBT.out hsz HHO.out (by simpa using hown') hgrow)
     have N2:=hide ((hnx.trans (HBT.out.mono hsz)).grown hgrow (by have:=HBT.out.size;omega) (fun j hj=>(HOW.out.row.lt j hj).1))
     have HN2:=hide (show OutK (fsts ps) area src (k+1) (Zag (qs++[((⟨p.1.key,D.cost+p.1.cost,D.hops⟩:WayD),Value.slice da D.hops.length dc)])) by
      have e:Zag (qs++[((⟨p.1.key,D.cost+p.1.cost,D.hops⟩:WayD),Value.slice da D.hops.length dc)])=Zag qs++[⟨p.1.key,D.cost+p.1.cost,D.hops⟩]:=by simp [Zag]
      rw [e];exact HN.out)
     obtain⟨va,vc,rfl⟩:=Zac hown';clear hown' hgrow HOW OW HHO HBT HN HSZ4
     go_wp2
     go_roundw
     case rel=>exact ⟨k+1,_,qs++[((⟨p.1.key,D.cost+p.1.cost,D.hops⟩:WayD),Value.slice da D.hops.length dc)],by omega,by go_num,rfl,N1.out,HN2,by simp;omega,N2.out⟩
     case measure=>simp [intOf];omega
    ·have HN:=hide (show OutK (fsts ps) area src (k+1) (Zag qs) from HM.out.quiet HPP.out (fun d ht=>by
      obtain⟨_,_,_,v,h4,h5,_⟩:=ht;rw [hfound] at h4;cases h4
      exact hsum h5))
     have N1:=hide ((HOW.out.below HB4.out (Nat.le_refl _)).wide (Nat.le_refl _) HB4.out.size);have N2:=hide (hnx.trans (HB4.out.mono hsz));clear HM HPP HFD HWT HOW HB4 HDU HSZ4 hfound hDm hDg
     go_wp2
     go_roundw
     case rel=>exact ⟨k+1,_,qs,by omega,by go_num,rfl,N1.out,HN,by omega,N2.out⟩
     case measure=>simp [intOf];omega
  ·have hkn:¬(k:Int)<(ps.length:Int):=by omega
   have hkk:k=ps.length:=by omega
   have HE:=hide (show OutK (fsts ps) area src ps.length (Zag qs) by rw [<-hkk];exact HM.out)
   have HO:=hide (hown.wide (lo':=w.heap.size) hb1 (Nat.le_refl _));have hq2:qs.length<=ps.length:=by omega
   have HB:=hide BW;clear hown HM hkk hnx BW
   go_wp2
   go_ret
   first
    | exact ⟨_,qs,rfl,HE.out,hq2,HO.out,HB.out⟩
    | exact ⟨_,rfl,qs,HE.out,hq2,HO.out,HB.out⟩
theorem ZhT (x:Int)(w:World):Calls Tryz.prog 99 #[.int .i64 x] w fun e w'=>e=.returned (.bool (x != 0))/\w=w':=by
 go_enter Tryz.func99,Tryz.ntmps99
 go_wp2
 go_ret
 exact⟨rfl,rfl⟩
theorem ZkK {Z R:List Int}{k:Nat}{y:Int}(h:(Z++R)[k]? = some y)(hZ:∀ z∈Z,z=0)(hR:∀ z∈R,z≠0):(k<Z.length/\y=0)\/(Z.length<=k/\y≠0):=by
 rcases Nat.lt_or_ge k Z.length with h1 | h1
 ·rw [List.getElem?_append_left h1] at h
  exact .inl ⟨h1,hZ y (List.mem_of_getElem? h)⟩
 ·rw [List.getElem?_append_right h1] at h
  exact .inr ⟨h1,hR y (List.mem_of_getElem? h)⟩
theorem Zk5 (v:Value)(Z R:List Int)(w:World)(hn:(Z++R).length<=1048576)(hZ:∀ z∈Z,z=0)(hR:∀ z∈R,z≠0)(hv:ZaP w v (Z++R) w.heap.size):
  Calls Tryz.prog 118 #[v,.func (.func 99) #[] #[]] w fun e w'=>e=.returned (.int .i64 (if R=[] then -1 else (Z.length:Int)))/\w=w':=by
 obtain⟨a,cap,rfl⟩:=hv.shape;have HV:=hide hv;clear hv;obtain⟨L,hL⟩:∃ L,L=Z++R:=⟨_,rfl⟩;rw [<-hL] at HV hn |-;have HLE:=hide hL;have HSP:=hide (fun (k:Nat) (y:Int) (h:L[k]? = some y)=>ZkK (by rw [<-hL];exact h) hZ hR)
 obtain⟨res,hres⟩:∃ r:Int,r=if R=[] then -1 else (Z.length:Int):=⟨_,rfl⟩
 rw [<-hres];have HRES:=hide hres;clear hL hres
 go_enter Tryz.func118,Tryz.ntmps118
 go_wp2
 go_loop [8] (fun i=>∃ k:Nat,k<=L.length/\i=.int .i64 k/\k<=Z.length) (fun i=>L.length-(intOf i).toNat)
 case atStart=>exact ⟨0,by omega,rfl,by omega⟩
 case round=>
  obtain⟨k,hk,rfl,hkz⟩:=hrel;by_cases hlt:k<L.length
  ·obtain ⟨y,hy⟩:∃ y,L[k]? = some y:=⟨L[k],List.getElem?_eq_getElem hlt⟩
   obtain⟨b,off,cap',hve,hbb,c0⟩:=HV.out.cell k y hy;cases hve
   have hki:(0:Int)<=(k:Int):=by omega
   have hkj:(k:Int)<(L.length:Int):=by omega
   rcases HSP.out k y hy with ⟨h1,h2⟩ | ⟨h1,h2⟩
   ·have hd:(y != 0)=false:=by simpa using h2
    clear hy h2
    go_wp2_with fail
    refine (ZhT _ _).mono ?_
    rintro e w1 ⟨rfl,rfl⟩;rw [hd]
    go_wp2
    go_round
    case rel=>exact ⟨k+1,by omega,by go_num,by omega⟩
    case measure=>simp [intOf];omega
   ·have hd:(y != 0)=true:=by simpa using h2
    have hkz2:(k:Int)=res:=by
     rw [HRES.out,if_neg (fun e=>by have:=congrArg List.length HLE.out;rw [List.length_append,e] at this;simp at this;omega)]
     omega
    clear hy h2;have HKZ:=hide hkz2;clear hkz2
    go_wp2_with fail
    refine (ZhT _ _).mono ?_
    rintro e w1 ⟨rfl,rfl⟩;rw [hd]
    go_wp2
    go_ret
    exact⟨Zgb HKZ.out,rfl⟩
  ·have hRE:(-1:Int)=res:=by
    have h1:=congrArg List.length HLE.out;rw [List.length_append] at h1;rw [HRES.out,if_pos (List.length_eq_zero_iff.1 (by omega))]
   have HRR:=hide hRE;clear hRE
   go_wp2
   go_ret
   exact⟨Zgb HRR.out,rfl⟩
theorem Zfc {base g n cap:Nat}{e:TypeId}:∀ (vs:List Value) (o:Nat) (w:World) (xs:List Value),w.ownsRow base e 1 (.slice (some ⟨g,0,none⟩) n cap) n xs->∃ ys,(w.setCells g o vs).ownsRow base e 1 (.slice (some ⟨g,0,none⟩) n cap) n ys/\ys.take o=xs.take o
 | [],_,_,xs,h=>⟨xs,h,rfl⟩
 | v::vs,o,w,xs,h=>by
  obtain⟨ys,h1,h2⟩:=Zfc vs (o+1) (w.setCell ⟨g,o,none⟩ v) (xs.set o v) (h.stored o v).1;refine⟨ys,h1,?_⟩
  have h3:=congrArg (List.take o) h2;rw [List.take_take,List.take_take,Nat.min_eq_left (by omega),List.take_set_of_le (Nat.le_refl _)] at h3
  exact h3
theorem Zeq {g:Nat}:∀ (vs:List Value) (o:Nat) (w:World),w.grownBy (w.setCells g o vs) (some g)
 | [],_,_=>⟨rfl,rfl,rfl,Nat.le_refl _,fun _ _ _=>rfl⟩
 | v::vs,o,w=>Zai (Zal w g o v) (Zeq vs (o+1) _)
theorem ZmJ {w:World}{base g n cap m:Nat}{e:TypeId}{xs:List Value}(h:w.ownsRow base e 1 (.slice (some ⟨g,0,none⟩) n cap) n xs)(hm:m<=n):w.ownsRow base e 1 (.slice (some ⟨g,0,none⟩) m cap) m (xs.take m):=by
 have hl:=h.1
 rcases h.2 with ⟨h0,_⟩ | ⟨g',cap',cur,hv,hb,hh,hnc,hcm,hcs,htk⟩
 ·cases h0
 ·cases hv
  refine⟨by rw [List.length_take];omega,.inr ⟨g,cap,cur,rfl,hb,hh,by omega,hcm,hcs,?_⟩⟩
  rw [<-htk,List.take_take,Nat.min_eq_left (by omega),Nat.mul_one]
theorem Zk2 (l:List Int)(k:Nat):(flat intE l).take k=flat intE (l.take k):=by
 rw [Zcq,Zcq];simp [ZbH]
theorem Znw (v:Value)(Z R:List Int)(lo:Nat)(w:World)(hn:(Z++R).length<=1048576)(hZ:∀ z∈Z,z=0)(hR:∀ z∈R,z≠0)(hv:IntsOwn w lo w.heap.size v (Z++R)):
  Calls Tryz.prog 98 #[v,.func (.func 99) #[] #[]] w fun e w'=>∃ x,e=.returned x/\IntsOwn w' lo w'.heap.size x Z/\w.grownBy w' v.ownBlock:=by
 have HI:=hide (Zk5 v Z R w hn hZ hR hv.at);by_cases hRE:R=[]
 ·subst hRE
  rw [if_pos rfl] at HI;rw [List.append_nil] at hv;obtain⟨a,cap,rfl⟩:=Zac hv.row;have HV:=hide hv;clear hv
  go_enter Tryz.func98,Tryz.ntmps98
  go_wp2_with fail
  refine HI.out.mono ?_
  rintro e w1 ⟨rfl,rfl⟩
  go_wp2
  go_ret
  exact⟨_,rfl,HV.out,ZcL _ _⟩
 ·rw [if_neg hRE] at HI
  have hRl:0<R.length:=List.length_pos_iff.2 hRE;have hlen:(Z++R).length=Z.length+R.length:=List.length_append;obtain⟨g,cap,rfl,hg1,hg2⟩:=Zj0 hv.row (by omega)
  have hcl:∀ ty,(Builtin.clear_ #[37] ty #[.slice (some ⟨g,Z.length,none⟩) ((Z++R).length-Z.length) (cap-Z.length)]).run Tryz.prog w=.ok (.tuple #[]) (w.setCells g Z.length (List.replicate ((Z++R).length-Z.length) (.int .i64 0))):=fun ty=>
   Lib.run_clear_slice w 37 3 ty (.int .i64 0) Tryz.underlying37 (fun W=>by
    obtain⟨i0,hi,hz0,hz1,hz2⟩:=info_parts Tryz.info3;simp [zeroValue,typeInfo,hi,hz0]) rfl rfl g Z.length _ _ (by omega) (fun j hj=>by
     obtain⟨u,hu⟩:=ZbZ hv.row (Z.length+j) (by omega)
     rw [hu];rfl) (fun j _=>hv.row.frozenAt _)
  have hcap:(Z++R).length<=cap:=by
   rcases hv.row.2 with ⟨h0,_⟩ | ⟨g',cap',cur,hv',_,_,hnc,_⟩
   ·cases h0
   ·cases hv';exact hnc
  have hcap2:cap<=9223372036854775807:=by
   rcases hv.row.2 with ⟨h0,_⟩ | ⟨g',cap',cur,hv',_,_,_,hcm,_⟩
   ·cases h0
   ·cases hv';unfold maxLen at hcm;omega
  have hfin:IntsOwn (w.setCells g Z.length (List.replicate ((Z++R).length-Z.length) (.int .i64 0))) lo (w.setCells g Z.length (List.replicate ((Z++R).length-Z.length) (.int .i64 0))).heap.size (.slice (some ⟨g,0,none⟩) Z.length cap) Z:=by
   obtain⟨ys,h1,h2⟩:=Zfc (List.replicate ((Z++R).length-Z.length) (.int .i64 0)) Z.length w _ hv.row;have h3:=ZmJ h1 (show Z.length<=(Z++R).length by omega)
   rw [h2,Zk2,List.take_left] at h3;exact IntsOwn.of h3
  have HF:=hide hfin;have HG:=hide (Zeq (g:=g) (List.replicate ((Z++R).length-Z.length) (.int .i64 0)) Z.length w);have HV:=hide hv.at;have HSP:=hide (fun (k:Nat) (y:Int) (h:(Z++R)[k]? = some y)=>ZkK h hZ hR)
  obtain⟨L,hL⟩:∃ L,L=Z++R:=⟨_,rfl⟩;rw [<-hL] at HI HF HG HV HSP hcl hcap hlen hn |-;clear hv hfin hL hZ hR hRE;have hzn:((Z.length:Int) == -1)=false:=by simp <;> omega
  have hzl:Z.length<=L.length:=by omega
  have hzi:(Z.length:Int)<=(L.length:Int):=by omega
  have hzc:¬(cap=Z.length):=by omega
  have hzc2:Z.length<=cap:=by omega
  have HLN:=hide hlen;clear hlen
  go_enter Tryz.func98,Tryz.ntmps98
  go_wp2_with fail
  refine HI.out.mono ?_
  rintro e w1 ⟨rfl,rfl⟩
  go_wp2
  go_loopw [6,5] (fun i f wr=>∃ j:Nat,Z.length+1<=j/\j<=L.length/\i=.int .i64 (j:Int)/\f=.int .i64 (Z.length:Int)/\wr=w) (fun i _ _=>L.length-(intOf i).toNat)
  case atStart=>exact ⟨Z.length+1,by omega,by have:=HLN.out;omega,by go_num,rfl,rfl⟩
  case round=>
   obtain⟨j,hj0,hj,rfl,rfl,rfl⟩:=hrel;by_cases hlt:j<L.length
   ·obtain ⟨y,hy⟩:∃ y,L[j]? = some y:=⟨L[j],List.getElem?_eq_getElem hlt⟩
    obtain⟨b,off,cap',hve,hbb,c0⟩:=HV.out.cell j y hy;cases hve
    simp only [Nat.zero_add] at c0
    have hki:(0:Int)<=(j:Int):=by omega
    have hkj:(j:Int)<(L.length:Int):=by omega
    have hd:(y != 0)=true:=by
     rcases HSP.out j y hy with ⟨h1,h2⟩ | ⟨h1,h2⟩
     ·omega
     ·simpa using h2
    clear hy
    go_wp2_with fail
    refine (ZhT _ _).mono ?_
    rintro e w1 ⟨rfl,rfl⟩;rw [hd]
    go_wp2
    go_roundw
    case rel=>exact ⟨j+1,by omega,by omega,by go_num,rfl,trivial⟩
    case measure=>simp [intOf];omega
   ·have hjn:¬(j:Int)<(L.length:Int):=by omega
    clear HV HSP HI
    go_wp2
    go_ret
    exact⟨_,rfl,HF.out,HG.out⟩
def Zc6 (l:List Int)(border:Bool):List Int:=if border then (if (0:Int)∈l then [0] else []) else Zc2 l 3
theorem ZfV {l:List Int}{border:Bool}{a:Int}:a∈Zc6 l border↔(a∈l/\0<=a/\a<3)/\(border=true->a=0):=by
 unfold Zc6;cases border
 ·simp only [Bool.false_eq_true,if_false,false_implies,and_true]
  exact ZgJ
 ·simp only [if_true,true_implies]
  constructor
  ·intro h
   split at h
   ·rename_i h0
    have:a=0:=by simpa using h
    subst this;exact⟨⟨h0,by omega,by omega⟩,rfl⟩
   ·simp at h
  ·rintro ⟨⟨h1,_,_⟩,rfl⟩
   rw [if_pos h1];simp
theorem Zi3 (l:List Int)(border:Bool):(Zc6 l border).length<=3:=by
 unfold Zc6
 split
 ·split <;> simp
 ·exact Zd0 l 3
theorem Zlm (l:List Int):∃ R,Zc2 l 3=(if (0:Int)∈l then [0] else [])++R/\(∀ z∈R,z≠0)/\∀ z∈(if (0:Int)∈l then [(0:Int)] else []),z=0:=by
 refine⟨(if decide ((1:Int)∈l) then [1] else [])++(if decide ((2:Int)∈l) then [2] else []),?_,?_,?_⟩
 ·show (([]++_)++_)++_=_
  simp [List.append_assoc]
 ·intro z hz
  rcases List.mem_append.1 hz with h | h
  ·split at h
   ·have:z=1:=by simpa using h
    omega
   ·simp at h
  ·split at h
   ·have:z=2:=by simpa using h
    omega
   ·simp at h
 ·intro z hz
  split at hz
  ·simpa using hz
  ·simp at hz
theorem Ziw (v:Value)(l:List Int)(border:Bool)(hi:Nat)(w:World)(hn:l.length<=1048576)(hv:ZaP w v l hi)(hhi:hi<=w.heap.size):
  Calls Tryz.prog 66 #[v,.bool border] w fun e w'=>∃ x,e=.returned x/\IntsOwn w' w.heap.size w'.heap.size x (Zc6 l border)/\Below w.heap.size w w':=by
 obtain⟨a,cap,rfl⟩:=hv.shape;have HR:=hide (ZkI (.slice a l.length cap) l hi w hn hv hhi);clear hv;unfold Zc6;cases border
 ·simp only [Bool.false_eq_true,if_false]
  obtain⟨L,hL⟩:∃ L,L=Zc2 l 3:=⟨_,rfl⟩;rw [<-hL] at HR |-;have HLL:=hide hL;clear hL
  go_enter Tryz.func66,Tryz.ntmps66
  go_wp2_with fail
  refine HR.out.mono ?_
  rintro e w1 ⟨x,rfl,ho,b1⟩;obtain⟨xa,xc,rfl⟩:=Zac ho.row;have HO:=hide ho;clear ho
  go_wp2
  go_ret
  exact⟨_,rfl,HO.out,b1⟩
 ·simp only [if_true]
  obtain⟨R,hre,hR,hZ⟩:=Zlm l;obtain⟨Z,hZe⟩:∃ Z,Z=(if (0:Int)∈l then [(0:Int)] else []):=⟨_,rfl⟩
  rw [<-hZe] at hre hZ |-;have hl3:(Z++R).length<=3:=by rw [<-hre];exact Zd0 l 3
  rw [hre] at HR;have HDD:=hide (fun x W (ho:IntsOwn W w.heap.size W.heap.size x (Z++R))=>Znw x Z R w.heap.size W (by omega) hZ hR ho)
  obtain⟨L,hL⟩:∃ L,L=Z++R:=⟨_,rfl⟩;rw [<-hL] at HR HDD;clear hre hZe hL hl3 hZ hR
  go_enter Tryz.func66,Tryz.ntmps66
  go_wp2_with fail
  refine HR.out.mono ?_
  rintro e w1 ⟨x,rfl,ho,b1⟩;have HD:=hide (HDD.out x w1 ho);clear HDD;obtain⟨xa,xc,rfl⟩:=Zac ho.row;have HO:=hide ho;clear ho
  go_wp2_with fail
  refine HD.out.mono ?_
  rintro e w2 ⟨y,rfl,ho2,hg⟩;have HO2:=hide ho2;have HB:=hide (b1.grown hg b1.size (fun k hk=>(HO.out.row.lt k hk).1))
  obtain⟨ya,yc,rfl⟩:=Zac ho2.row;clear ho2 hg
  go_wp2
  go_ret
  exact⟨_,rfl,HO2.out,HB.out⟩
theorem Zbr {P:Program}(w:World)(dT sT ty elem:TypeId)(g o dLen dCap:Nat)(a:Addr)(sLen sCap sz:Nat)(cur:Array Value)(t:TypeId)(cs:List Value)
  (hu:P.underlying dT=some (.slice elem)) (hs:(P.info? elem).map (·.size)=some sz)
  (hg:w.heap[g]? = some (.cells cur t (0,0))) (hn:cs.length=Nat.min sLen dLen*sz)
  (hsrc:∀ j v,cs[j]? = some v->w.cell? (a.add j)=some v) (hfit:o+cs.length<=cur.size) (h1:∀ v∈cs,v.oneCell'=true):
  (Builtin.copy_ #[dT,sT] ty #[.slice (some ⟨g,o,none⟩) dLen dCap,.slice (some a) sLen sCap]).run P w =
   .ok (goInt (Nat.min sLen dLen)) (w.setRow g (cur.toList.take o++cs++cur.toList.drop (o+cs.length)).toArray):=by
 have hl:=run_loadCells_list (P:=P) w a cs hsrc;have hst:=run_storeCells_at P g o t cs 0 cur w hg (by simpa using hfit) h1
 cases hq:P.info? elem with
 | none=>simp [hq] at hs
 | some i=>
  have hi:i.size=sz:=by simpa [hq] using hs
  simp [Builtin.copy_,run_underlying hu,Builtin.lenOf,Builtin.firstCells,sizeOf,typeInfo,hq,hi, <-hn,hl,hst]
theorem ZfP {P:Program}(w:World)(t t2 ty e:TypeId)(i:TypeInfo)(ht:P.underlying t=some (.slice e))(ht2:P.underlying t2=some (.slice e))(hi:P.info? e=some i)(b:Option Addr)(n c:Nat)(x:Value):
  (Builtin.append_ #[t,t2] ty #[.slice b n c,x]).run P w=(Builtin.append_ #[t,t] ty #[.slice b n c,x]).run P w:=by
 simp [Builtin.append_,run_underlying ht,run_underlying ht2,sizeOf,typeInfo,hi]
theorem Zph (cur D R:List Value)(a d:Nat)(hD:D.length=d)(hR:R.length=8)(hc:a+8+d<=cur.length):
  ((cur.take (a+8)++D++cur.drop (a+8+D.length)).take a++R++(cur.take (a+8)++D++cur.drop (a+8+D.length)).drop (a+R.length))=cur.take a++R++D++cur.drop (a+8+d):=by
 have e1:(cur.take (a+8)++D++cur.drop (a+8+D.length)).take a=cur.take a:=by
  rw [List.append_assoc,List.take_append_of_le_length (by simp;omega),List.take_take,Nat.min_eq_left (by omega)]
 have e2:(cur.take (a+8)++D++cur.drop (a+8+D.length)).drop (a+R.length)=D++cur.drop (a+8+d):=by
  rw [hR,List.append_assoc,List.drop_append_of_le_length (by simp;omega),List.drop_of_length_le (by simp;omega),List.nil_append,hD]
 rw [e1,e2,List.append_assoc,List.append_assoc,List.append_assoc]
theorem ZcI {A B C D:List Value}{n:Nat}(h:A.length+B.length+C.length=n):(A++B++C++D).take n=A++B++C:=by
 rw [List.take_append_of_le_length (by simp;omega),List.take_of_length_le (by simp;omega)]
theorem ZiL (ps:List RP)(i:Nat)(h:i<=ps.length):(flat encP ps).take (i*8)=flat encP (ps.take i):=by
 conv=>lhs;rw [<-List.take_append_drop i ps,ZaD]
 have e:(flat encP (ps.take i)).length=i*8:=by rw [ZaX Zbb,List.length_take,Nat.min_eq_left h]
 rw [<-e,List.take_left]
theorem ZiK (ps:List RP)(i:Nat)(h:i<=ps.length):(flat encP ps).drop (i*8)=flat encP (ps.drop i):=by
 conv=>lhs;rw [<-List.take_append_drop i ps,ZaD]
 have e:(flat encP (ps.take i)).length=i*8:=by rw [ZaX Zbb,List.length_take,Nat.min_eq_left h]
 rw [<-e,List.drop_left]
theorem ZnA (r:RP):flat encP [r]=encP r:=by simp [flat]
theorem ZhW (ps:List RP)(r:RP)(i:Nat):flat encP (ps.take i++[r]++ps.drop i)=flat encP (ps.take i)++encP r++flat encP (ps.drop i):=by
 rw [ZaD,ZaD,ZnA]
theorem ZjK (ps:List RP)(r:RP)(i:Nat)(h:i<=ps.length):(ps.take i++[r]++ps.drop i).length=ps.length+1:=by
 simp
 omega
theorem ZfT (ps:List RP)(h:∀ p∈ps,∃ a n c,p.2=.slice a n c):∀ u∈flat encP ps,u.oneCell'=true:=by
 intro u hu;simp only [flat,List.mem_flatMap] at hu
 obtain⟨p,hp,hu⟩:=hu;obtain⟨a,n,c,e⟩:=h p hp;obtain⟨x,v⟩:=p;simp only at e
 subst e;exact Zca x a n c u hu
theorem Zon (cur D R:List Value)(a d:Nat)(hD:D.length=d)(hR:R.length=3)(hc:a+3+d<=cur.length):
  ((cur.take (a+3)++D++cur.drop (a+3+D.length)).take a++R++(cur.take (a+3)++D++cur.drop (a+3+D.length)).drop (a+R.length))=cur.take a++R++D++cur.drop (a+3+d):=by
 have e1:(cur.take (a+3)++D++cur.drop (a+3+D.length)).take a=cur.take a:=by
  rw [List.append_assoc,List.take_append_of_le_length (by simp;omega),List.take_take,Nat.min_eq_left (by omega)]
 have e2:(cur.take (a+3)++D++cur.drop (a+3+D.length)).drop (a+R.length)=D++cur.drop (a+3+d):=by
  rw [hR,List.append_assoc,List.drop_append_of_le_length (by simp;omega),List.drop_of_length_le (by simp;omega),List.nil_append,hD]
 rw [e1,e2,List.append_assoc,List.append_assoc,List.append_assoc]
theorem Zhf (ps:List WP)(i:Nat)(h:i<=ps.length):(flat encW ps).take (i*3)=flat encW (ps.take i):=by
 conv=>lhs;rw [<-List.take_append_drop i ps,ZaD]
 have e:(flat encW (ps.take i)).length=i*3:=by rw [ZaX Zbd,List.length_take,Nat.min_eq_left h]
 rw [<-e,List.take_left]
theorem Zhe (ps:List WP)(i:Nat)(h:i<=ps.length):(flat encW ps).drop (i*3)=flat encW (ps.drop i):=by
 conv=>lhs;rw [<-List.take_append_drop i ps,ZaD]
 have e:(flat encW (ps.take i)).length=i*3:=by rw [ZaX Zbd,List.length_take,Nat.min_eq_left h]
 rw [<-e,List.drop_left]
theorem Zl5 (r:WP):flat encW [r]=encW r:=by simp [flat]
theorem Zgr (ps:List WP)(r:WP)(i:Nat):flat encW (ps.take i++[r]++ps.drop i)=flat encW (ps.take i)++encW r++flat encW (ps.drop i):=by
 rw [ZaD,ZaD,Zl5]
theorem Zh1 (ps:List WP)(r:WP)(i:Nat)(h:i<=ps.length):(ps.take i++[r]++ps.drop i).length=ps.length+1:=by
 simp
 omega
theorem ZeY (ps:List WP)(h:∀ p∈ps,∃ a n c,p.2=.slice a n c):∀ u∈flat encW ps,u.oneCell'=true:=by
 intro u hu;simp only [flat,List.mem_flatMap] at hu
 obtain⟨p,hp,hu⟩:=hu;obtain⟨a,n,c,e⟩:=h p hp;obtain⟨x,v⟩:=p;simp only at e
 subst e;exact Zc3 x a n c u hu
theorem add8 (g o j:Nat):(⟨g,o,none⟩:Addr).add j=⟨g,o+j,none⟩:=by
 simp only [Addr.add]
 split <;> simp_all
end Go.Proofs.YtgdgkgmjpnbbcaaGreat
