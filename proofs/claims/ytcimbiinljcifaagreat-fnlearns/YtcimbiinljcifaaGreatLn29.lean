/-
  WithinT
-/
import Derived.Test.YtcimbiinljcifaaGreatLn28
namespace Go.Proofs.YtcimbiinljcifaaGreat
open Go.RowKit
set_option linter.unusedSimpArgs false
set_option linter.unusedVariables false
set_option maxRecDepth 100000
set_option maxHeartbeats 8000000
theorem ZfB (v u:Value)(ps:List RP)(al:List Int)(hi:Nat)(src:Int)(w:World)(hv:RecsIn w hi v ps)(ha:Za9 w u al hi)(hhi:hi<=w.heap.size)(hn:tot ps<=1048576)(hal:al.length<=1048576):
  Calls Tryz.prog 138 #[v,u,.int .i64 src] w fun e w'=>∃ x qs,e=.returned x/\Za4 (ZaS (fsts ps) al src) (ZaH qs)/\WaysOwn w' w.heap.size w'.heap.size x qs/\Below w.heap.size w w':=by
 obtain⟨a1,c1,rfl⟩:=Zac hv.row;obtain⟨a2,c2,rfl⟩:=ha.shape;have LIT:=Zg1 w w.heap.size (Nat.le_refl _);have hs1:(w.alloc (.cells #[] 183)).heap.size=w.heap.size+1:=by simp
 have B1:Below w.heap.size w (w.alloc (.cells #[] 183)):=(Below.refl _ _).alloc (Nat.le_refl _) _;obtain⟨w1,hw1⟩:∃ W,W=w.alloc (.cells #[] 183):=⟨_,rfl⟩;rw [<-hw1] at LIT hs1 B1;have LS:=ZkP w1 w1.heap.size (Nat.le_refl _);have B0:Below w1.heap.size w1 (w1.alloc (.cells #[] 178)):=(Below.refl _ _).alloc (Nat.le_refl _) _;obtain⟨w0,hw0⟩:∃ W,W=w1.alloc (.cells #[] 178):=⟨_,rfl⟩;rw [<-hw0] at LS B0;have HWI:=hide (fun area W (hb:Below w.heap.size w W)=>ZdN (.slice a1 ps.length c1) ps hi area src W (hv.below hb hhi) (Nat.le_trans hhi hb.size) hn)
 have HA:=hide ha;clear hv ha;have HLIT:=hide LIT;have HLS:=hide LS;clear LIT LS;have HS1:=hide hs1;clear hs1
 go_enter Tryz.func138,Tryz.ntmps138
 go_wp2
 rw [<-hw1, <-hw0,show w.heap.size+1=w1.heap.size from HS1.out.symm]
 clear hw1 hw0
 go_loopw [9,8] (fun i o wr=>∃ (k:Nat) (y:Value) (ls:List LP),k<=al.length/\i=.int .i64 (k:Int)/\o=y/\WLs wr w1.heap.size wr.heap.size y ls/\Hid (Zbr (fsts ps) src (al.take k) ls)/\Below w1.heap.size w1 wr) (fun i _ _=>al.length-(intOf i).toNat)
 case atStart=>exact ⟨0,_,[],by omega,rfl,rfl,HLS.out,hide (by simp [Zbr]),B0⟩
 case round=>
  obtain⟨k,y,ls,hk,rfl,rfl,hls,HAW,hnx⟩:=hrel;clear HLS B0;obtain⟨ya,yc,rfl⟩:=Zac hls.row;have hlen:ls.length=k:=by have:=HAW.out.len;rw [List.length_take,Nat.min_eq_left hk] at this;exact this
  have BW:Below w.heap.size w wr:=B1.trans (hnx.mono B1.size);have hws:=BW.size;by_cases hlt:k<al.length
  ·obtain ⟨area,har⟩:∃ a,al[k]? = some a:=⟨al[k],List.getElem?_eq_getElem hlt⟩
   obtain⟨b,off,cap',hve,hbb,c0⟩:=HA.out.cell k area har;cases hve
   rw [<-BW.cell (p:=⟨b,off+k,none⟩) (by show b<w.heap.size;omega)] at c0
   have hki:(0:Int)<=(k:Int):=by omega
   have hkj:(k:Int)<(al.length:Int):=by omega
   have HLS:=hide hls;have HAR:=hide har;have HLEN:=hide hlen;clear hls har hlen
   go_wp2_with fail
   refine (HWI.out area _ BW).mono ?_
   rintro e w2 ⟨uw,ws,rfl,hws2,how,b2⟩;obtain⟨wsa,wsc,rfl⟩:=Zac how.row;have hb2:=b2.size;have HWE:=hide (hws2.eq);have BA:Below w2.heap.size w2 (w2.alloc (.cells #[.slice wsa ws.length wsc] 178)):=(Below.refl _ _).alloc (Nat.le_refl _) _;have OWA:=hide ((Zah HLS.out.row b2 (Nat.le_refl _)).alloc (.cells #[.slice wsa ws.length wsc] 178));have HOW:=hide how;clear hws2 how
   go_wp2_with (first
    | (at_builtin;refine Zbd Ze5 (by omega) (by omega) _ rfl _ _ 194 rfl w1.heap.size 178 Tryz.underlying194 (.slice none 0 0) rfl Tryz.infoWayS _ ls (.slice wsa ws.length wsc,ws) (fun q hq=>by simp [ZgH] at hq;subst hq;rfl) rfl OWA.out ⟨w2.heap.size,0,none⟩ 1 rfl (Zar (cs:=ZgH (.slice wsa ws.length wsc,ws))) (by have:=HLEN.out;omega) (by simp;have:=hnx.size;omega) ?_))
   intro v' w4 hown' hgrow hat;have BB:Below wr.heap.size wr (w2.alloc (.cells #[.slice wsa ws.length wsc] 178)):=b2.trans (BA.mono hb2);have N1:=hide (HLS.out.push BB ((HOW.out.below BA (Nat.le_refl _)).wide hnx.size BA.size) (by simpa using hown') hgrow)
   have N2:=hide (HAW.out.push (p:=(.slice wsa ws.length wsc,ws)) HAR.out HWE.out);have N3:=hide ((hnx.trans (BB.mono hnx.size)).grown hgrow (by have:=BB.size;have:=hnx.size;omega) (fun j hj=>(HLS.out.row.lt j hj).1))
   obtain⟨va,vc,rfl⟩:=Zac hown';clear hown' hgrow hat BB OWA HOW HLS BA b2
   go_wp2
   go_roundw
   case rel=>exact ⟨k+1,_,ls++[(.slice wsa ws.length wsc,ws)],by omega,by go_num,rfl,N1.out,N2,N3.out⟩
   case measure=>simp [intOf];omega
  ·have hkn:¬(k:Int)<(al.length:Int):=by omega
   have HAL:=hide (show Zbr (fsts ps) src al ls by have h:=HAW.out;rw [List.take_of_length_le (by omega)] at h;exact h)
   have HO:=hide ((HLIT.out.below hnx (Nat.le_refl _)).wide (Nat.le_refl _) hnx.size);have HLS:=hide hls
   rename World=>wb
   have hwb:=hnx.size;clear hls HAW hlen HLIT hnx
   go_wp2
   go_loopw [10,7] (fun i o wr=>∃ (t:Nat) (x:Value) (qs:List WP),1<=t/\t<=7/\i=.int .i64 (t:Int)/\o=x/\WaysOwn wr w.heap.size wr.heap.size x qs/\Hid (Za4 (fun to d=>to<(t:Int)/\ZaS (fsts ps) al src to d) (ZaH qs))/\Off x w1.heap.size wb.heap.size/\WLs wr w1.heap.size wb.heap.size (.slice ya ls.length yc) ls/\Below w.heap.size w wr/\wb.heap.size<=wr.heap.size) (fun i _ _=>8-(intOf i).toNat)
   case atStart=>exact ⟨1,_,[],by omega,by omega,rfl,rfl,HO.out,hide (ZdB (fun to d ⟨h1,h2⟩=>by have h3:=(Zbk h2);have:=h3.1.node;rw [h3.2] at this;omega)),fun b hb=>by simp [Value.ownBlock] at hb;have:=HS1.out;omega,HLS.out,BW,Nat.le_refl _⟩
   case round=>
    obtain⟨t,x,qs,ht1,ht7,rfl,rfl,hown,HB,hoff,hls,hnx,hsz⟩:=hrel;clear HO HLS BW hws;obtain⟨xa,xc,rfl⟩:=Zac hown.row
    rename World=>wt
    by_cases ht:t<=6
    ·have ht6:(t:Int)<=6:=by omega
     have HOWN:=hide hown;have HLS:=hide hls;have HOFF:=hide hoff;have hq6:qs.length<=6:=by
      have h:=Zgw HB.out.1 (fun d hd=>(HB.out.good (fun to d h=>Zbk h.2) d hd).node)
      simpa [ZaH] using h
     have BXZ:BoxSt wt (wt.alloc (.cells #[.int .i64 0,.int .i64 0,.slice none 0 0] 183)) wt.heap.size Zcu (.slice none 0 0):=⟨heap_alloc_new _ _,World.ownsRow_nil _ _ _ _,(Below.refl _ _).alloc (Nat.le_refl _) _,by simp [Zcu]⟩
     obtain⟨wz,hwz⟩:∃ W,W=wt.alloc (.cells #[.int .i64 0,.int .i64 0,.slice none 0 0] 183):=⟨_,rfl⟩;rw [<-hwz] at BXZ;have HBX:=hide BXZ;clear hown hls hoff BXZ
     go_wp2
     rw [<-hwz];clear hwz
     go_loopw [13,12] (fun i f wr=>∃ (k:Nat) (F:Bool) (b:WayD) (bv:Value),k<=al.length/\i=.int .i64 (k:Int)/\f=.bool F/\BoxSt wt wr wt.heap.size b bv/\Hid (ZaI (t:Int) (ZaS (fsts ps) (al.take k) src (t:Int)) (if F then some b else none))) (fun i _ _=>al.length-(intOf i).toNat)
     case atStart=>exact ⟨0,false,_,_,by omega,rfl,rfl,HBX.out,hide (fun d ⟨_,a,h,_⟩=>by simp at h)⟩
     case round=>
      obtain⟨k,F,b,bv,hk,rfl,rfl,hbx,HBO⟩:=hrel;clear HBX;have BWR:Below w.heap.size w wr:=hnx.trans (hbx.bel.mono hnx.size);have hzlt:=Zab hbx.box;obtain⟨bva,bvc,rfl⟩:=Zac hbx.own;by_cases hlt:k<al.length
      ·obtain ⟨area,har⟩:∃ a,al[k]? = some a:=⟨al[k],List.getElem?_eq_getElem hlt⟩
       obtain⟨p,hp,hpw⟩:=HAL.out.at har;have hls2:=HLS.out.below hbx.bel hsz;obtain⟨g,cap',hve,cg,hgb,hgw⟩:=hls2.cell hp;cases hve
       have hpo:=hls2.ways p (List.mem_of_getElem? hp);obtain⟨pa,pc,hpn⟩:=Zac hpo.row;rw [hpn] at cg;have hki:(0:Int)<=(k:Int):=by omega
       have hkj:(k:Int)<(al.length:Int):=by omega
       have hkl:(k:Int)<(ls.length:Int):=by rw [HAL.out.len];omega
       have HWT:=Zch p.1 p.2 w1.heap.size wb.heap.size (t:Int) wr hpo (by omega) (by have:=Zg2 hpw;omega)
       rw [hpn] at HWT;have HBN:=hide (ZhW ZkH har HBO.out);rw [<-hpw] at HBN;have hfd:=ZcS (ZaH p.2) (t:Int);obtain⟨D,hD⟩:∃ D,D=ZbX (ZaH p.2) (t:Int):=⟨_,rfl⟩;obtain⟨FB,hFB⟩:∃ F,F=ZbD (ZaH p.2) (t:Int):=⟨_,rfl⟩;rw [<-hD, <-hFB] at HWT hfd;have hD6:D.hops.length<=6:=by
        rcases hfd with ⟨_,h2⟩ | ⟨h1,h2⟩
        ·have hm:=(Zbp h2).1
         rw [hpw] at hm;exact ((Zcs (fsts ps) area src).2 D hm).1.len
        ·rw [hD]
         unfold ZbX;unfold Zcc at h2;rw [h2];simp [Zcu]
       have HW:=hide HWT;have HFD:=hide hfd;have HBX:=hide hbx;unfold wayC at HW;clear HWT hfd hbx hls2 hpo hp hpw hpn har hD hFB
       go_wp2_with fail
       refine HW.out.mono ?_
       rintro e w3 ⟨du,rfl,hdu,b3⟩;obtain⟨da,dc,rfl⟩:=Zac hdu;have hb3:=b3.size;have hbx3:=HBX.out.below b3;have BA:Below w3.heap.size w3 (w3.alloc (.cells #[.int .i64 D.to,.int .i64 D.cost,.slice da D.hops.length dc] 183)):=(Below.refl _ _).alloc (Nat.le_refl _) _;have hx4:=heap_alloc_new w3 (.cells #[.int .i64 D.to,.int .i64 D.cost,.slice da D.hops.length dc] 183);obtain⟨w4,hw4⟩:∃ W,W=w3.alloc (.cells #[.int .i64 D.to,.int .i64 D.cost,.slice da D.hops.length dc] 183):=⟨_,rfl⟩;rw [<-hw4] at BA hx4;have hbx4:=hbx3.below BA;have hdu4:=Zah hdu BA (Nat.le_refl _);have hs4:=BA.size;have hl4:=Zab hx4;have d0:=Zaa hx4 0;have d1:=Zaa hx4 1;have d2:=Zaa hx4 2;simp at d0 d1 d2
       have hzb:=hbx4.box;unfold wayC at hzb;have e0:=Zaa hzb 0;have e1:=Zaa hzb 1;have e2:=Zaa hzb 2;simp at e0 e1 e2
       have fd:=Zae hx4;have fe:=Zae hzb;have HX4:=hide hx4;have HDU:=hide hdu4;have HB4:=hide hbx4;have hlast:Below w3.heap.size w3 w4:=BA;clear hdu b3 hbx3 hbx4 hdu4 hx4 hzb BA HBX HW;cases FB
       ·have HN:=hide (show ZaI (t:Int) (ZaS (fsts ps) (al.take (k+1)) src (t:Int)) (if F then some b else none) by
         have h:=HBN.out
         rcases HFD.out with ⟨h1,_⟩ | ⟨_,h2⟩
         ·cases h1
         ·rw [h2] at h;exact h)
        rw [hw4] at HB4;clear HX4 HDU HBN HFD hw4 d0 d1 d2 e0 e1 e2 fd fe hlast
        go_wp2
        go_roundw
        case rel=>exact ⟨k+1,F,b,_,by omega,by go_num,rfl,HB4.out,HN⟩
        case measure=>simp [intOf];omega
       ·have hfound:Zcc (ZaH p.2) (t:Int)=some D:=by
         rcases HFD.out with ⟨_,h2⟩ | ⟨h1,_⟩
         ·exact h2
         ·cases h1
        cases F
        ·have HN:=hide (show ZaI (t:Int) (ZaS (fsts ps) (al.take (k+1)) src (t:Int)) (if true then some D else none) by
          have h:=HBN.out;rw [hfound] at h;exact h)
         have HF:=hide (HB4.out.put rfl (Zal (b0:=wt.heap.size+1) HDU.out (by omega)) hD6)
         rw [hw4] at HF d0 d1 d2 e0 e1 e2 fd fe;clear HX4 HDU HBN HFD HB4 hw4 hfound hlast
         go_wp2
         go_roundw
         case rel=>exact ⟨k+1,true,D,_,by omega,by go_num,rfl,HF.out,HN⟩
         case measure=>simp [intOf];omega
        ·have HTG:=Zi2 b D (.slice bva b.hops.length bvc) (.slice da D.hops.length dc) wt.heap.size wr.heap.size w4 HB4.out.own HDU.out (by have:=HB4.out.len;omega) (by omega)
         unfold wayC at HTG;obtain⟨E,hE⟩:∃ E,E=togD b D:=⟨_,rfl⟩;rw [<-hE] at HTG;have hE6:E.hops.length<=6:=by rw [hE];exact ZkI HB4.out.len hD6 (by omega)
         have HN:=hide (show ZaI (t:Int) (ZaS (fsts ps) (al.take (k+1)) src (t:Int)) (if true then some E else none) by
          have h:=HBN.out;rw [hfound] at h;rw [hE];exact h)
         have HT:=hide HTG;rw [hw4] at d0 d1 d2 e0 e1 e2 fd fe;clear HTG HBN HFD hfound hE HDU
         go_wp2_with fail
         rw [<-hw4];refine HT.out.mono ?_
         rintro e w5 ⟨eu,rfl,heu,b5⟩;obtain⟨ea,ec,rfl⟩:=Zac heu;have hb5:=b5.size;have hx5:=(b5.block _ hl4).trans HX4.out;have hbx5:=HB4.out.below b5;have hzb5:=hbx5.box;unfold wayC at hzb5;clear d0 d1 d2 e0 e1 e2 fd fe;have d0:=Zaa hx5 0;have d1:=Zaa hx5 1;have d2:=Zaa hx5 2;simp at d0 d1 d2
         have e0:=Zaa hzb5 0;have e1:=Zaa hzb5 1;have e2:=Zaa hzb5 2;simp at e0 e1 e2
         have fd:=Zae hx5;have fe:=Zae hzb5;have hg14:=ZbH w5 w3.heap.size E (.slice ea E.hops.length ec);have HF:=hide ((hbx5.other hg14 (by omega) hx5 rfl).put rfl (Zal (b0:=wt.heap.size+1) (Zf7 heu hg14 (by omega)) (by omega)) hE6)
         have hne:wt.heap.size≠w3.heap.size:=by omega
         clear HX4 HB4 HT hx5 hbx5 hzb5 heu b5 hg14 hw4 hlast
         go_wp2
         go_roundw
         case rel=>exact ⟨k+1,true,E,_,by omega,by go_num,rfl,HF.out,HN⟩
         case measure=>simp [intOf];omega
      ·have hkn:¬(k:Int)<(al.length:Int):=by omega
       have HBT:=hide (show ZaI (t:Int) (ZaS (fsts ps) al src (t:Int)) (if F then some b else none) by
        have h:=HBO.out;rw [List.take_of_length_le (by omega)] at h
        exact h)
       cases F
       ·have N1:=hide ((HOWN.out.below hbx.bel (Nat.le_refl _)).wide (Nat.le_refl _) hbx.bel.size)
        have N2:=hide (show Za4 (fun to d=>to<((t+1:Nat):Int)/\ZaS (fsts ps) al src to d) (ZaH qs) from by
         have h:=HB.out.skip HBT.out;rw [show ((t+1:Nat):Int)=(t:Int)+1 by omega]
         exact h)
        have N3:=hide (HLS.out.below hbx.bel hsz);have hszr:wb.heap.size<=wr.heap.size:=by have:=hbx.bel.size;omega
        clear hbx HBO HBT
        go_wp2
        go_roundw
        case rel=>exact ⟨t+1,_,qs,by omega,by omega,by go_num,rfl,N1.out,N2,HOFF.out,N3.out,BWR,hszr⟩
        case measure=>simp [intOf];omega
       ·have hzb:=hbx.box
        unfold wayC at hzb;have e0:=Zaa hzb 0;have e1:=Zaa hzb 1;have e2:=Zaa hzb 2;simp at e0 e1 e2
        have N2:=hide (show Za4 (fun to d=>to<((t+1:Nat):Int)/\ZaS (fsts ps) al src to d) (ZaH (qs++[(b,.slice bva b.hops.length bvc)])) from by
         have h:=HB.out.push HBT.out;rw [show ((t+1:Nat):Int)=(t:Int)+1 by omega]
         have e:ZaH (qs++[(b,.slice bva b.hops.length bvc)])=ZaH qs++[b]:=by simp [ZaH]
         rw [e];exact h)
        have BA:Below wr.heap.size wr (wr.alloc (.cells #[.int .i64 b.to,.int .i64 b.cost,.slice bva b.hops.length bvc] 183)):=(Below.refl _ _).alloc (Nat.le_refl _) _;have BT:Below wt.heap.size wt (wr.alloc (.cells #[.int .i64 b.to,.int .i64 b.cost,.slice bva b.hops.length bvc] 183)):=hbx.bel.trans (BA.mono (by omega))
        have OW:=hide ((Zah HOWN.out.row hbx.bel (Nat.le_refl _)).alloc (.cells #[.int .i64 b.to,.int .i64 b.cost,.slice bva b.hops.length bvc] 183));have HHO:=hide (show Zcd (wr.alloc (.cells #[.int .i64 b.to,.int .i64 b.cost,.slice bva b.hops.length bvc] 183)) wt.heap.size (wr.alloc (.cells #[.int .i64 b.to,.int .i64 b.cost,.slice bva b.hops.length bvc] 183)).heap.size (b,.slice bva b.hops.length bvc) from ⟨hbx.own.alloc _,fun k hk=>((hbx.own.alloc _).lt k hk).2⟩)
        have HLS2:=hide (HLS.out.below BT hsz);have hws:=hnx.size;clear hbx HBO HBT hzb
        go_wp2_with (first
         | (at_builtin;refine Zbd ZeM (by omega) (by omega) _ rfl _ _ 178 rfl w.heap.size 183 Tryz.underlying178 (.agg (wayC Zcu (.slice none 0 0))) rfl Tryz.infoWay _ qs (b,.slice bva b.hops.length bvc) (ZgI _ _ _ _) rfl OW.out ⟨wr.heap.size,0,none⟩ 1 rfl (Zar (cs:=encW (b,.slice bva b.hops.length bvc))) (by omega) (by simp;omega) ?_))
        intro v' w6 hown' hgrow hat;have N1:=hide (HOWN.out.push BT hws HHO.out (by simpa using hown') hgrow)
        have N3:=hide (HLS2.out.keep (HOFF.out.kept hgrow));have N4:=hide ((hnx.trans (BT.mono hws)).grown hgrow (by have:=BT.size;omega) (fun j hj=>(HOWN.out.row.lt j hj).1))
        have N5:=hide (HOFF.out.next (x':=v') (B:=wb.heap.size) (fun j hj=>by
         rcases hat with h1 | h1
         ·exact .inl (by rw [<-h1];exact hj)
         ·right
          rw [h1] at hj;simp at hj
          omega) (Nat.le_refl _))
        have hszr:wb.heap.size<=w6.heap.size:=by have:=BT.size;have:=hgrow.size;omega
        obtain⟨va,vc,rfl⟩:=Zac hown';clear hown' hgrow hat BT OW HHO HLS2 BA
        go_wp2
        go_roundw
        case rel=>exact ⟨t+1,_,qs++[(b,.slice bva b.hops.length bvc)],by omega,by omega,by go_num,rfl,N1.out,N2,N5.out,N3.out,N4.out,hszr⟩
        case measure=>simp [intOf];omega
    ·have ht6:¬(t:Int)<=6:=by omega
     have htt:(t:Int)=7:=by omega
     have HE:=hide (show Za4 (ZaS (fsts ps) al src) (ZaH qs) from HB.out.congr (fun to d=>⟨fun h=>h.2,fun h=>⟨by have h3:=Zbk h;have:=h3.1.node;rw [h3.2] at this;omega,h⟩⟩))
     have HO:=hide hown;have HN:=hide hnx;clear hown hnx HB hoff hls htt
     go_wp2
     go_ret
     first
      | exact ⟨_,qs,rfl,HE.out,HO.out,HN.out⟩
      | exact ⟨_,rfl,qs,HE.out,HO.out,HN.out⟩
end Go.Proofs.YtcimbiinljcifaaGreat
