/-
  BeyondT WOutI
-/
import Derived.Test.YtadokhjefnkajaaGreatIe14
import Derived.Test.YtadokhjefnkajaaGreatIe38
import Derived.Test.YtadokhjefnkajaaGreatIe37
import Derived.Test.YtadokhjefnkajaaGreatIe16
import Derived.Test.YtadokhjefnkajaaGreatIe39
import Derived.Test.YtadokhjefnkajaaGreatIe19
namespace Go.Proofs.YtadokhjefnkajaaGreat
open Go.RowKit
set_option linter.unusedSimpArgs false
set_option linter.unusedVariables false
set_option maxRecDepth 100000
set_option maxHeartbeats 8000000
theorem Zks {xs:List RecD}{al:List Int}{src:Int}{ds:List WayD}(h:ZaR (Zau xs al src) ds)(to:Int):(Zbs ds to=true/\∃ y,Zau xs al src to y)\/(Zbs ds to=false/\∀ y,¬Zau xs al src to y):=by
 have hb:=h.2 to
 rcases Zcp ds to with ⟨h1,h2⟩ | ⟨h1,h2⟩
 ·rw [h2] at hb
  obtain⟨_,⟨y,hy,_⟩,_⟩:=hb;exact .inl ⟨h1,y,hy⟩
 ·rw [h2] at hb
  exact .inr ⟨h1,hb⟩
theorem ZfS {S:Int->WayD->Prop}{qs:List WP}(h:ZaR S (Zal qs))(hS:∀ to w,S to w->GoodW w/\w.to=to):totW qs<=42:=
 ZfG (by have h2:=Zc2 h.1 (fun d hd=>(h.good hS d hd).node);simpa [Zal] using h2) (fun d hd=>(h.good hS d hd).len)
theorem ZfR {to:Int}{S T:WayD->Prop}{E:WayD}{fv:Value}(h:Zfx to S E fv)(e:∀ d,S d↔T d):Zfx to T E fv:=by
 obtain⟨F,h1,h2⟩:=h;exact⟨F,h1,h2.congr e⟩
theorem Zkd (v u:Value)(ps:List RP)(al:List Int)(hi:Nat)(border:Bool)(src:Int)(w:World)(hv:RecsIn w hi v ps)(ha:ZaM w u al hi)(hhi:hi<=w.heap.size)(hn:tot ps<=1048576)(hal:al.length<=1048576):
  Calls Tryz.prog 183 #[v,u,.bool border,.int .i64 src] w fun e w'=>∃ x qs,e=.returned x/\ZaR (Zbq (fsts ps) al border src) (Zal qs)/\WaysOwn w' w.heap.size w'.heap.size x qs/\Below w.heap.size w w':=by
 obtain⟨a1,c1,rfl⟩:=Zac hv.row;obtain⟨a2,c2,rfl⟩:=ha.shape;have LIT:=Ze5 w w.heap.size (Nat.le_refl _);have hs1:(w.alloc (.cells #[] 194)).heap.size=w.heap.size+1:=by simp
 have B1:Below w.heap.size w (w.alloc (.cells #[] 194)):=(Below.refl _ _).alloc (Nat.le_refl _) _;obtain⟨w1,hw1⟩:∃ W,W=w.alloc (.cells #[] 194):=⟨_,rfl⟩;rw [<-hw1] at LIT hs1 B1;have HWN:=hide (ZgA (.slice a1 ps.length c1) (.slice a2 al.length c2) ps al hi src w1 (hv.below B1 hhi) (ZaE.later ha B1 hhi) (Nat.le_trans hhi B1.size) hn hal);have HSK:=hide (fun W (hb:Below w.heap.size w W)=>ZdL (.slice a1 ps.length c1) ps W hn (Zbn.more ((hv.below hb hhi).at) (Nat.le_trans hhi hb.size)))
 have HWI:=hide (fun area W (hb:Below w.heap.size w W)=>Zew (.slice a1 ps.length c1) ps hi area src W (hv.below hb hhi) (Nat.le_trans hhi hb.size) hn)
 have HL7:=hide (fun (uw:Value) (ws:List WP) (lo2 hi2 lo:Nat) (area to:Int) (b0:WayD) (bv0:Value) (F0:Bool) (W:World) (S0:WayD->Prop) (hb:Below w.heap.size w W) hw hh2 hws hst hbo hS0 hb0 hlo hl0=>Zo5 (.slice a1 ps.length c1) uw ps ws hi lo2 hi2 lo area src to b0 bv0 F0 W S0 (hv.below hb hhi) (Nat.le_trans hhi hb.size) hn hw hh2 hws hst hbo hS0 hb0 hlo hl0)
 have HA:=hide ha;clear hv ha;have HLIT:=hide LIT;have HS1:=hide hs1;clear LIT hs1;obtain⟨SB,hSB⟩:∃ b,b=ZaI (fsts ps):=⟨_,rfl⟩;rw [<-hSB] at HSK;have HSB:=hide hSB;clear hSB
 go_enter Tryz.func183,Tryz.ntmps183
 go_wp2_with fail
 rw [<-hw1];clear hw1;refine HWN.out.mono ?_
 rintro e wn ⟨un,ns,rfl,hbn,hon,bn⟩;obtain⟨nsa,nsc,rfl⟩:=Zac hon.row;have hbns:=bn.size;have hB1s:=B1.size;have BWN:Below w.heap.size w wn:=B1.trans (bn.mono hB1s);have HLN:=hide ((HLIT.out.below bn (Nat.le_refl _)));have hnt:totW ns<=1048576:=by have:=ZfS hbn (fun to d h=>Zbc h);omega
 have HNT:=hide (fun (z:Int) (W:World) (hw:WaysOwn W w1.heap.size wn.heap.size (.slice nsa ns.length nsc) ns) (hh:wn.heap.size<=W.heap.size)=>ZcD (.slice nsa ns.length nsc) ns w1.heap.size wn.heap.size z W hw hh hnt)
 have HON:=hide hon;have HHAS:=hide (fun to=>Zks hbn to)
 clear HWN HLIT bn hbn hon hnt
 go_wp2_with fail
 refine (HSK.out _ BWN).mono ?_
 rintro e ws0 ⟨rfl,bs⟩;have hbs:=bs.size;have BWS:Below w.heap.size w ws0:=BWN.trans (bs.mono BWN.size);have BN0:Below w1.heap.size w1 w1:=Below.refl _ _;cases SB
 ·have HE:=hide (show ZaR (Zbq (fsts ps) al border src) (Zal []) from ZcK (fun to d ⟨_,a,_,_,h⟩=>by have:=(Zgm h).1;rw [<-HSB.out] at this;cases this))
  have HO:=hide ((HLN.out.below bs (by omega)).wide (Nat.le_refl _) (show w1.heap.size<=ws0.heap.size by omega))
  have HN:=hide BWS;clear HLN HNT HHAS HWI HL7 HSK bs BWS BWN HON
  go_wp2
  go_ret
  first
   | exact ⟨_,[],rfl,HE.out,HO.out,HN.out⟩
   | exact ⟨_,rfl,[],HE.out,HO.out,HN.out⟩
 have LS:=ZnX ws0 ws0.heap.size (Nat.le_refl _);have B0:Below ws0.heap.size ws0 (ws0.alloc (.cells #[] 188)):=(Below.refl _ _).alloc (Nat.le_refl _) _;obtain⟨w0,hw0⟩:∃ W,W=ws0.alloc (.cells #[] 188):=⟨_,rfl⟩;rw [<-hw0] at LS B0;have HLS:=hide LS;have HLO:=hide ((HLN.out.below bs (by omega)))
 have HBS:=hide bs;clear LS HSK HLN bs
 go_wp2
 rw [<-hw0];clear hw0
 go_loopw [12,11] (fun i o wr=>∃ (k:Nat) (y:Value) (ls:List LP),k<=al.length/\i=.int .i64 (k:Int)/\o=y/\WLs wr ws0.heap.size wr.heap.size y ls/\Hid (ZbG (fsts ps) src (al.take k) ls)/\Below ws0.heap.size ws0 wr) (fun i _ _=>al.length-(intOf i).toNat)
 case atStart=>exact ⟨0,_,[],by omega,rfl,rfl,HLS.out,hide (by simp [ZbG]),B0⟩
 case round=>
  obtain⟨k,y,ls,hk,rfl,rfl,hls,HAW,hnx⟩:=hrel;clear HLS B0;obtain⟨ya,yc,rfl⟩:=Zac hls.row;have hlen:ls.length=k:=by have:=HAW.out.len;rw [List.length_take,Nat.min_eq_left hk] at this;exact this
  have BW:Below w.heap.size w wr:=BWS.trans (hnx.mono BWS.size);have hws:=BW.size;by_cases hlt:k<al.length
  ·obtain ⟨area,har⟩:∃ a,al[k]? = some a:=⟨al[k],List.getElem?_eq_getElem hlt⟩
   obtain⟨b,off,cap',hve,hbb,c0⟩:=HA.out.cell k area har;cases hve
   rw [<-BW.cell (p:=⟨b,off+k,none⟩) (by show b<w.heap.size;omega)] at c0
   have hki:(0:Int)<=(k:Int):=by omega
   have hkj:(k:Int)<(al.length:Int):=by omega
   have HLS:=hide hls;have HAR:=hide har;have HLEN:=hide hlen;clear hls har hlen
   go_wp2_with fail
   refine (HWI.out area _ BW).mono ?_
   rintro e w2 ⟨uw,ws,rfl,hws2,how,b2⟩;obtain⟨wsa,wsc,rfl⟩:=Zac how.row;have hb2:=b2.size;have HWE:=hide (hws2.eq);have BA:Below w2.heap.size w2 (w2.alloc (.cells #[.slice wsa ws.length wsc] 188)):=(Below.refl _ _).alloc (Nat.le_refl _) _;have OWA:=hide ((Zae HLS.out.row b2 (Nat.le_refl _)).alloc (.cells #[.slice wsa ws.length wsc] 188));have HOW:=hide how;clear hws2 how
   go_wp2_with (first
    | (at_builtin;refine Zbp Zf0 (by omega) (by omega) _ rfl _ _ 248 rfl ws0.heap.size 188 Tryz.underlying248 (.slice none 0 0) rfl Tryz.infoWayS _ ls (.slice wsa ws.length wsc,ws) (fun q hq=>by simp [ZhJ] at hq;subst hq;rfl) rfl OWA.out ⟨w2.heap.size,0,none⟩ 1 rfl (Zay (cs:=ZhJ (.slice wsa ws.length wsc,ws))) (by have:=HLEN.out;omega) (by simp;have:=hnx.size;omega) ?_))
   intro v' w4 hown' hgrow hat;have BB:Below wr.heap.size wr (w2.alloc (.cells #[.slice wsa ws.length wsc] 188)):=b2.trans (BA.mono hb2);have N1:=hide (HLS.out.push BB ((HOW.out.below BA (Nat.le_refl _)).wide hnx.size BA.size) (by simpa using hown') hgrow)
   have N2:=hide (HAW.out.push (p:=(.slice wsa ws.length wsc,ws)) HAR.out HWE.out);have N3:=hide ((hnx.trans (BB.mono hnx.size)).grown hgrow (by have:=BB.size;have:=hnx.size;omega) (fun j hj=>(HLS.out.row.lt j hj).1))
   obtain⟨va,vc,rfl⟩:=Zac hown';clear hown' hgrow hat BB OWA HOW HLS BA b2
   go_wp2
   go_roundw
   case rel=>exact ⟨k+1,_,ls++[(.slice wsa ws.length wsc,ws)],by omega,by go_num,rfl,N1.out,N2,N3.out⟩
   case measure=>simp [intOf];omega
  ·have hkn:¬(k:Int)<(al.length:Int):=by omega
   have HAL:=hide (show ZbG (fsts ps) src al ls by have h:=HAW.out;rw [List.take_of_length_le (by omega)] at h;exact h)
   have HO:=hide ((HLO.out.below hnx (by omega)).wide (Nat.le_refl _) (show w1.heap.size<=wr.heap.size by have:=hnx.size;omega))
   have HLS:=hide hls
   rename World=>wb
   have hwb:=hnx.size;have HNB:=hide (HON.out.below (HBS.out.trans (hnx.mono hbs)) (Nat.le_refl _));clear hls HAW hlen HLO hnx HBS HON
   go_wp2
   go_loopw [13,9] (fun i o wr=>∃ (t:Nat) (x:Value) (qs:List WP),1<=t/\t<=7/\i=.int .i64 (t:Int)/\o=x/\WaysOwn wr w.heap.size wr.heap.size x qs/\Hid (ZaR (fun to d=>to<(t:Int)/\Zbq (fsts ps) al border src to d) (Zal qs))/\Off x w1.heap.size wb.heap.size/\WLs wr ws0.heap.size wb.heap.size (.slice ya ls.length yc) ls/\Below w.heap.size w wr/\WaysOwn wr w1.heap.size wn.heap.size (.slice nsa ns.length nsc) ns/\wb.heap.size<=wr.heap.size) (fun i _ _=>8-(intOf i).toNat)
   case atStart=>exact ⟨1,_,[],by omega,by omega,rfl,rfl,HO.out,hide (ZcK (fun to d ⟨h1,h2⟩=>by have h3:=(ZbM h2);have:=h3.1.node;rw [h3.2] at this;omega)),fun b hb=>by simp [Value.ownBlock] at hb;have:=HS1.out;omega,HLS.out,BW,HNB.out,Nat.le_refl _⟩
   case round=>
    obtain⟨t,x,qs,ht1,ht7,rfl,rfl,hown,HB,hoff,hls,hnx,hfr,hsz⟩:=hrel;clear HO HLS BW hws HNB;obtain⟨xa,xc,rfl⟩:=Zac hown.row
    rename World=>wt
    by_cases ht:t<=6
    ·have ht6:(t:Int)<=6:=by omega
     have HOWN:=hide hown;have HLS:=hide hls;have HOFF:=hide hoff;have HFR:=hide hfr;have hq6:qs.length<=6:=by
      have h:=Zc2 HB.out.1 (fun d hd=>(HB.out.good (fun to d h=>ZbM h.2) d hd).node)
      simpa [Zal] using h
     have HNW:=hide (HNT.out (t:Int) wt hfr (by omega))
     have hh:=HHAS.out (t:Int);obtain⟨D,hD⟩:∃ D,D=ZbD (Zal ns) (t:Int):=⟨_,rfl⟩;obtain⟨FB,hFB⟩:∃ F,F=Zbs (Zal ns) (t:Int):=⟨_,rfl⟩;rw [<-hD, <-hFB] at HNW;rw [<-hFB] at hh;have HH:=hide hh;unfold wayC at HNW;clear hown hls hoff hfr hh hD hFB
     go_wp2_with fail
     refine HNW.out.mono ?_
     rintro e w3 ⟨du,rfl,hdu,b3⟩;obtain⟨da,dc,rfl⟩:=Zac hdu;have hb3:=b3.size;have B4:Below wt.heap.size wt (w3.alloc (.cells #[.int .i64 D.to,.int .i64 D.cost,.slice da D.hops.length dc] 194)):=b3.trans (((Below.refl w3.heap.size w3).alloc (Nat.le_refl _) _).mono hb3);have hs4:(w3.alloc (.cells #[.int .i64 D.to,.int .i64 D.cost,.slice da D.hops.length dc] 194)).heap.size=w3.heap.size+1:=by simp
     obtain⟨w4,hw4⟩:∃ W,W=w3.alloc (.cells #[.int .i64 D.to,.int .i64 D.cost,.slice da D.hops.length dc] 194):=⟨_,rfl⟩;rw [<-hw4] at B4 hs4;have HS4:=hide hs4;have hB4:=B4.size;have HB4:=hide B4;clear hdu b3 HNW B4 hs4;cases FB
     case true=>
      have hyes:∃ y,Zau (fsts ps) al src (t:Int) y:=by
       rcases HH.out with ⟨_,h2⟩ | ⟨h1,_⟩
       ·exact h2
       ·cases h1
      have N1:=hide ((HOWN.out.below HB4.out (Nat.le_refl _)).wide (Nat.le_refl _) HB4.out.size);have N2:=hide (show ZaR (fun to d=>to<((t+1:Nat):Int)/\Zbq (fsts ps) al border src to d) (Zal qs) from by
       have h:=HB.out.skip (S:=Zbq (fsts ps) al border src) (t:=(t:Int)) (fun d hd=>by obtain ⟨y,hy⟩:=hyes;exact hd.1 y hy)
       rw [show ((t+1:Nat):Int)=(t:Int)+1 by omega]
       exact h)
      have N3:=hide (HLS.out.below HB4.out hsz);have N4:=hide (hnx.trans (HB4.out.mono hnx.size));have N5:=hide (HFR.out.below HB4.out (by omega))
      have hszr:wb.heap.size<=w4.heap.size:=by omega
      rw [hw4] at N1 N3 N4 N5 hszr;clear HB4 HS4 hyes HH HOWN HLS HFR hw4
      go_wp2
      go_roundw
      case rel=>exact ⟨t+1,_,qs,by omega,by omega,by go_num,rfl,N1.out,N2,HOFF.out,N3.out,N4.out,N5.out,hszr⟩
      case measure=>simp [intOf];omega
     have hno:∀ y,¬Zau (fsts ps) al src (t:Int) y:=by
      rcases HH.out with ⟨h1,_⟩ | ⟨_,h2⟩
      ·cases h1
      ·exact h2
     have HNO:=hide hno;have BXZ:BoxT (w4.alloc (.cells #[.int .i64 0,.int .i64 0,.slice none 0 0] 194)) w4.heap.size w4.heap.size Zbt (.slice none 0 0):=⟨heap_alloc_new _ _,World.ownsRow_nil _ _ _ _,by simp [Zbt]⟩
     have BWZ:Below w4.heap.size w4 (w4.alloc (.cells #[.int .i64 0,.int .i64 0,.slice none 0 0] 194)):=(Below.refl _ _).alloc (Nat.le_refl _) _;obtain⟨wz,hwz⟩:∃ W,W=w4.alloc (.cells #[.int .i64 0,.int .i64 0,.slice none 0 0] 194):=⟨_,rfl⟩;rw [<-hwz] at BXZ BWZ;have HBX:=hide BXZ;have hlow:wt.heap.size<=w4.heap.size:=hB4;clear BXZ hno HH
     go_wp2
     rw [<-hw4,show w3.heap.size+1=w4.heap.size from HS4.out.symm, <-hwz]
     clear hwz hw4
     go_loopw [18,17] (fun i f wr=>∃ (k:Nat) (b:WayD) (bv:Value),k<=al.length/\i=.int .i64 (k:Int)/\BoxT wr w4.heap.size w4.heap.size b bv/\Zfx (t:Int) (Zgz (fsts ps) (al.take k) border src (t:Int)) b f/\Below w4.heap.size w4 wr) (fun i _ _=>al.length-(intOf i).toNat)
     case atStart=>exact ⟨0,_,_,by omega,rfl,HBX.out,Zfx.of (F:=false) (fun d ⟨a,h,_⟩=>by simp at h),BWZ⟩
     case round=>
      obtain⟨k,b,bv,hk,rfl,hbx,hbv,hbel⟩:=hrel;clear HBX BWZ;obtain⟨F,hf,HBO0⟩:=hbv
      rename_i fv0
      subst hf;have HBO:=hide HBO0;clear HBO0;have B4R:Below wt.heap.size wt wr:=HB4.out.trans (hbel.mono hlow);have BWR:Below w.heap.size w wr:=hnx.trans (B4R.mono hnx.size);have hzlt:=Zab hbx.box;obtain⟨bva,bvc,rfl⟩:=Zac hbx.own;have hzb:=hbx.box;unfold wayC at hzb;have e0:=Zaa hzb 0;have e1:=Zaa hzb 1;have e2:=Zaa hzb 2;simp at e0 e1 e2
      by_cases hlt:k<al.length
      ·obtain ⟨area,har⟩:∃ a,al[k]? = some a:=⟨al[k],List.getElem?_eq_getElem hlt⟩
       obtain⟨ba,boff,bcap,hvea,hbba,ca⟩:=HA.out.cell k area har;cases hvea
       rw [<-BWR.cell (p:=⟨ba,boff+k,none⟩) (by show ba<w.heap.size;omega)] at ca
       obtain⟨p,hp,hpw⟩:=HAL.out.at har;have hls2:=HLS.out.below B4R hsz;obtain⟨g,cap',hve,cg,hgb,hgw⟩:=hls2.cell hp;cases hve
       have hpo:=hls2.ways p (List.mem_of_getElem? hp);have hki:(0:Int)<=(k:Int):=by omega
       have hkj:(k:Int)<(al.length:Int):=by omega
       have hkl:(k:Int)<(ls.length:Int):=by rw [HAL.out.len];omega
       have HAR:=hide har;have hskip:Zix border area\/¬Zix border area:=Classical.em _
       rcases hskip with hby | hby
       case inr=>
        have hbt:border=true:=by
         cases border
         ·exact absurd (fun h=>by cases h) hby
         ·rfl
        have hne:area≠0:=fun h=>hby (fun _=>h)
        have hd:(area != 0)=true:=by simpa using hne
        have HN:=hide (show Zfx (t:Int) (Zgz (fsts ps) (al.take (k+1)) border src (t:Int)) b (.bool F) from Zfx.of (HBO.out.congr (fun d=>by
         rw [Zhh HAR.out];exact⟨.inl,by rintro (h | ⟨h,_⟩);exact h;exact absurd h hby⟩)))
        have N1:=hide hbx;subst hbt;clear hbx hby hne HBO hzb e0 e1 e2 hp hpw hls2 hpo har
        go_wp2
        go_roundw
        case rel=>exact ⟨k+1,b,_,by omega,by go_num,N1.out,HN.out,hbel⟩
        case measure=>simp [intOf];omega
       have BD:Below wr.heap.size wr wr.drew:=(Below.refl _ _).drew;have HCL:=hide (HL7.out p.1 p.2 ws0.heap.size wb.heap.size w4.heap.size area (t:Int) b (.slice bva b.hops.length bvc) F wr.drew (Zgz (fsts ps) (al.take k) border src (t:Int)) (BWR.trans (BD.mono BWR.size)) (hpo.below BD (by omega)) (by show wb.heap.size<=wr.heap.size;omega) hpw HSB.out.symm HBO.out (fun d h=>Zl5 h) (Zae hbx.own BD (Nat.le_refl _)) (by show w4.heap.size<=wr.heap.size;omega) hbx.len)
       unfold wayC at HCL;have HST:=hide (show ∀ d,(Zgz (fsts ps) (al.take k) border src (t:Int) d\/outS (fsts ps) (fsts ps) area src (t:Int) d)↔Zgz (fsts ps) (al.take (k+1)) border src (t:Int) d from fun d=>by
        rw [Zhh HAR.out];exact⟨by rintro (h | h);exact .inl h;exact .inr ⟨hby,h⟩,by rintro (h | ⟨_,h⟩);exact .inl h;exact .inr h⟩)
       have HBXX:=hide hbx;have HBEL:=hide hbel;have hgz:g≠w4.heap.size:=by omega
       have hbz:ba≠w4.heap.size:=by omega
       have hgr2:g<wr.heap.size:=hgw;have hbr2:ba<wr.heap.size:=by omega
       have hS0:wr.drew.cell? ⟨g,k,none⟩=some p.1/\wr.drew.cell? ⟨ba,boff+k,none⟩=some (.int .i64 area):=⟨cg,ca⟩;have e0':wr.drew.cell? ⟨w4.heap.size,0,none⟩=some (.int .i64 b.to):=e0;have e1':wr.drew.cell? ⟨w4.heap.size,1,none⟩=some (.int .i64 b.cost):=e1;have e2':wr.drew.cell? ⟨w4.heap.size,2,none⟩=some (.slice bva b.hops.length bvc):=e2;have harm:∀ (bd:Bool),bd=border->True:=fun _ _=>trivial
       have hda:border=false\/(border=true/\(area != 0)=false):=by
        cases border
        ·exact .inl rfl
        ·exact .inr ⟨rfl,by simpa using hby rfl⟩
       clear hbx hby HBO hp hpw hls2 hpo har hzb e0 e1 e2 BD hbel harm
       rcases hda with hbd | ⟨hbd,hdz⟩
       ·subst hbd
        go_wp2_with fail
        refine wp_region_noPanic ?_
        refine Zag (S:=fun W=>W.cell? ⟨g,k,none⟩=some p.1/\W.cell? ⟨ba,boff+k,none⟩=some (.int .i64 area)) (by kernel_rfl) 19 rfl hS0 ?_
        intro ops hops hSS;refine Zmp _ _ _ _ _ _ _ _ _ _ _ _ _ _ _ _ _ _ _ _ _ _ _ _ _ _ _ _ _ _ _ _ _ _ _ _ _ _ _ _ _ _ _ _ _ _ _ _ _ _ _ _ _ _ _ _ _ _ _ _ _ _ _ _ _ _ _ _ _ _ _ _ _ _ _ _ _ _ _ _ _ _ _ _ _ _ wr.drew _ p.1 (.bool F) g ls.length yc ba boff al.length c2 w4.heap.size k area src (t:Int) b bva b.hops.length bvc (fun W E u fv=>Zfx (t:Int) (Zgz (fsts ps) (al.take (k+1)) false src (t:Int)) E fv/\(∃ l,W.ownsRow w4.heap.size 3 1 u l (flat intE E.hops)/\l=E.hops.length)/\E.hops.length<=6/\Below wr.heap.size wr W) _ ops hops (fun _ _ _ _ h=>h) hki hkl hkj hSS e0' e1' e2' hgz hbz (hide (HCL.out.mono ?_)) ?_ ?_ ?_ ?_
        ·rintro e w5 ⟨E,u5,fv5,rfl,hb5,ho5,hl5,bl5⟩
         obtain⟨ua,uc,rfl⟩:=Zac ho5;exact⟨E,ua,E.hops.length,uc,fv5,rfl,ZfR hb5 HST.out,⟨_,ho5,rfl⟩,hl5,((Below.refl _ _).drew).trans bl5⟩
        ·rintro W E u5 fv5 ⟨_,_,_,hb⟩
         exact⟨(hb.cell (p:=⟨g,k,none⟩) hgr2).trans hS0.1,(hb.cell (p:=⟨ba,boff+k,none⟩) hbr2).trans hS0.2⟩
        ·rintro W E u5 fv5 ⟨_,_,_,hb⟩
         have hx:=(HBXX.out.below hb).box;unfold wayC at hx;have y0:=Zaa hx 0;have y1:=Zaa hx 1;have y2:=Zaa hx 2;simp at y0 y1 y2
         exact⟨_,_,_,y0,y1,y2⟩
        ·rintro W E u5 fv5 ⟨_,_,_,hb⟩ j
         exact Zaf (HBXX.out.below hb).box j
        ·rintro W E ua ul uc fv5 ⟨hbv5,⟨l,ho5,hl5⟩,h6,hb⟩
         refine NoPanic.normal ?_
         subst hl5;obtain⟨ua2,uc2,he2⟩:=Zac ho5;cases he2
         have N1:=hide ((HBXX.out.below hb).put (d:=E) ho5 h6);have N2:=hide hbv5;have hwr:w4.heap.size<=wr.heap.size:=by omega
         have N3:=hide (((HBEL.out.trans (hb.mono hwr)).grown (Za2 W w4.heap.size E (.slice ua E.hops.length uc)) (by have:=hb.size;omega) (fun j hj=>by simp at hj;omega)))
         clear hops ops hSS HCL HBXX HBEL hbv5 ho5 hb hS0 e0' e1' e2'
         go_wp2
         go_roundw
         case rel=>exact ⟨k+1,E,_,by omega,by go_num,N1.out,N2.out,N3.out⟩
         case measure=>simp [intOf];omega
       ·subst hbd
        go_wp2_with fail
        refine wp_region_noPanic ?_
        refine Zag (S:=fun W=>W.cell? ⟨g,k,none⟩=some p.1/\W.cell? ⟨ba,boff+k,none⟩=some (.int .i64 area)) (by kernel_rfl) 19 rfl hS0 ?_
        intro ops hops hSS;refine Zmp _ _ _ _ _ _ _ _ _ _ _ _ _ _ _ _ _ _ _ _ _ _ _ _ _ _ _ _ _ _ _ _ _ _ _ _ _ _ _ _ _ _ _ _ _ _ _ _ _ _ _ _ _ _ _ _ _ _ _ _ _ _ _ _ _ _ _ _ _ _ _ _ _ _ _ _ _ _ _ _ _ _ _ _ _ _ wr.drew _ p.1 (.bool F) g ls.length yc ba boff al.length c2 w4.heap.size k area src (t:Int) b bva b.hops.length bvc (fun W E u fv=>Zfx (t:Int) (Zgz (fsts ps) (al.take (k+1)) true src (t:Int)) E fv/\(∃ l,W.ownsRow w4.heap.size 3 1 u l (flat intE E.hops)/\l=E.hops.length)/\E.hops.length<=6/\Below wr.heap.size wr W) _ ops hops (fun _ _ _ _ h=>h) hki hkl hkj hSS e0' e1' e2' hgz hbz (hide (HCL.out.mono ?_)) ?_ ?_ ?_ ?_
        ·rintro e w5 ⟨E,u5,fv5,rfl,hb5,ho5,hl5,bl5⟩
         obtain⟨ua,uc,rfl⟩:=Zac ho5;exact⟨E,ua,E.hops.length,uc,fv5,rfl,ZfR hb5 HST.out,⟨_,ho5,rfl⟩,hl5,((Below.refl _ _).drew).trans bl5⟩
        ·rintro W E u5 fv5 ⟨_,_,_,hb⟩
         exact⟨(hb.cell (p:=⟨g,k,none⟩) hgr2).trans hS0.1,(hb.cell (p:=⟨ba,boff+k,none⟩) hbr2).trans hS0.2⟩
        ·rintro W E u5 fv5 ⟨_,_,_,hb⟩
         have hx:=(HBXX.out.below hb).box;unfold wayC at hx;have y0:=Zaa hx 0;have y1:=Zaa hx 1;have y2:=Zaa hx 2;simp at y0 y1 y2
         exact⟨_,_,_,y0,y1,y2⟩
        ·rintro W E u5 fv5 ⟨_,_,_,hb⟩ j
         exact Zaf (HBXX.out.below hb).box j
        ·rintro W E ua ul uc fv5 ⟨hbv5,⟨l,ho5,hl5⟩,h6,hb⟩
         refine NoPanic.normal ?_
         subst hl5;obtain⟨ua2,uc2,he2⟩:=Zac ho5;cases he2
         have N1:=hide ((HBXX.out.below hb).put (d:=E) ho5 h6);have N2:=hide hbv5;have hwr:w4.heap.size<=wr.heap.size:=by omega
         have N3:=hide (((HBEL.out.trans (hb.mono hwr)).grown (Za2 W w4.heap.size E (.slice ua E.hops.length uc)) (by have:=hb.size;omega) (fun j hj=>by simp at hj;omega)))
         clear hops ops hSS HCL HBXX HBEL hbv5 ho5 hb hS0 e0' e1' e2'
         go_wp2
         go_roundw
         case rel=>exact ⟨k+1,E,_,by omega,by go_num,N1.out,N2.out,N3.out⟩
         case measure=>simp [intOf];omega
      ·have hkn:¬(k:Int)<(al.length:Int):=by omega
       have HBT:=hide (show ZaQ (t:Int) (Zbq (fsts ps) al border src (t:Int)) (if F then some b else none) by
        have h:=HBO.out;rw [List.take_of_length_le (by omega)] at h
        exact h.congr (fun d=>⟨fun h=>⟨HNO.out,h⟩,fun h=>h.2⟩))
       cases F
       ·have N1:=hide ((HOWN.out.below B4R (Nat.le_refl _)).wide (Nat.le_refl _) B4R.size)
        have N2:=hide (show ZaR (fun to d=>to<((t+1:Nat):Int)/\Zbq (fsts ps) al border src to d) (Zal qs) from by
         have h:=HB.out.skip HBT.out;rw [show ((t+1:Nat):Int)=(t:Int)+1 by omega]
         exact h)
        have N3:=hide (HLS.out.below B4R hsz);have N5:=hide (HFR.out.below B4R (by omega))
        have hszr:wb.heap.size<=wr.heap.size:=by have:=B4R.size;omega
        clear hbx HBO HBT hzb e0 e1 e2
        go_wp2
        go_roundw
        case rel=>exact ⟨t+1,_,qs,by omega,by omega,by go_num,rfl,N1.out,N2,HOFF.out,N3.out,BWR,N5.out,hszr⟩
        case measure=>simp [intOf];omega
       ·have N2:=hide (show ZaR (fun to d=>to<((t+1:Nat):Int)/\Zbq (fsts ps) al border src to d) (Zal (qs++[(b,.slice bva b.hops.length bvc)])) from by
         have h:=HB.out.push HBT.out;rw [show ((t+1:Nat):Int)=(t:Int)+1 by omega]
         have e:Zal (qs++[(b,.slice bva b.hops.length bvc)])=Zal qs++[b]:=by simp [Zal]
         rw [e];exact h)
        have BA:Below wr.heap.size wr (wr.alloc (.cells #[.int .i64 b.to,.int .i64 b.cost,.slice bva b.hops.length bvc] 194)):=(Below.refl _ _).alloc (Nat.le_refl _) _;have BT:Below wt.heap.size wt (wr.alloc (.cells #[.int .i64 b.to,.int .i64 b.cost,.slice bva b.hops.length bvc] 194)):=B4R.trans (BA.mono (by omega))
        have OW:=hide ((Zae HOWN.out.row B4R (Nat.le_refl _)).alloc (.cells #[.int .i64 b.to,.int .i64 b.cost,.slice bva b.hops.length bvc] 194));have HHO:=hide (show Zbv (wr.alloc (.cells #[.int .i64 b.to,.int .i64 b.cost,.slice bva b.hops.length bvc] 194)) wt.heap.size (wr.alloc (.cells #[.int .i64 b.to,.int .i64 b.cost,.slice bva b.hops.length bvc] 194)).heap.size (b,.slice bva b.hops.length bvc) from ⟨Zaj (hbx.own.alloc _) hlow,fun k hk=>((hbx.own.alloc _).lt k hk).2⟩)
        have HLS2:=hide (HLS.out.below BT hsz);have HNS2:=hide (HFR.out.below BT (by omega))
        have hws:=hnx.size;clear hbx HBO HBT hzb
        go_wp2_with (first
         | (at_builtin;refine Zbp Zbg (by omega) (by omega) _ rfl _ _ 188 rfl w.heap.size 194 Tryz.underlying188 (.agg (wayC Zbt (.slice none 0 0))) rfl Tryz.infoWay _ qs (b,.slice bva b.hops.length bvc) (Zdi _ _ _ _) rfl OW.out ⟨wr.heap.size,0,none⟩ 1 rfl (Zay (cs:=encW (b,.slice bva b.hops.length bvc))) (by omega) (by simp;omega) ?_))
        intro v' w6 hown' hgrow hat;have N1:=hide (HOWN.out.push BT hws HHO.out (by simpa using hown') hgrow)
        have N3:=hide (HLS2.out.keep (fun j h1 h2 h3=>HOFF.out.kept hgrow j (by omega) h2 h3))
        have N6:=hide (HNS2.out.keep (fun j h1 h2 h3=>HOFF.out.kept hgrow j h1 (by omega) h3))
        have N4:=hide ((hnx.trans (BT.mono hws)).grown hgrow (by have:=BT.size;omega) (fun j hj=>(HOWN.out.row.lt j hj).1))
        have N5:=hide (HOFF.out.next (x':=v') (B:=wb.heap.size) (fun j hj=>by
         rcases hat with h1 | h1
         ·exact .inl (by rw [<-h1];exact hj)
         ·right
          rw [h1] at hj;simp at hj
          omega) (Nat.le_refl _))
        have hszr:wb.heap.size<=w6.heap.size:=by have:=BT.size;have:=hgrow.size;omega
        obtain⟨va,vc,rfl⟩:=Zac hown';clear hown' hgrow hat BT OW HHO HLS2 HNS2 BA
        go_wp2
        go_roundw
        case rel=>exact ⟨t+1,_,qs++[(b,.slice bva b.hops.length bvc)],by omega,by omega,by go_num,rfl,N1.out,N2,N5.out,N3.out,N4.out,N6.out,hszr⟩
        case measure=>simp [intOf];omega
    ·have ht6:¬(t:Int)<=6:=by omega
     have HE:=hide (show ZaR (Zbq (fsts ps) al border src) (Zal qs) from HB.out.congr (fun to d=>⟨fun h=>h.2,fun h=>⟨by have h3:=ZbM h;have:=h3.1.node;rw [h3.2] at this;omega,h⟩⟩))
     have HO:=hide hown;have HN:=hide hnx;clear hown hnx HB hoff hls hfr
     go_wp2
     go_ret
     first
      | exact ⟨_,qs,rfl,HE.out,HO.out,HN.out⟩
      | exact ⟨_,rfl,qs,HE.out,HO.out,HN.out⟩
def OutK (xs:List RecD)(area src:Int)(k:Nat)(ds:List WayD):Prop:=∀ d,d∈ds↔∃ r∈xs.take k,Zcm xs area src r d
theorem OutK.quiet {xs:List RecD}{area src:Int}{k:Nat}{ds:List WayD}{r:RecD}(h:OutK xs area src k ds)(hr:xs[k]? = some r)(hn:∀ d,¬Zcm xs area src r d):OutK xs area src (k+1) ds:=by
 obtain⟨hk,e⟩:=List.getElem?_eq_some_iff.1 hr;intro d;rw [h d,List.take_succ_eq_append_getElem hk,e]
 constructor
 ·rintro ⟨x,hx,ht⟩
  exact⟨x,List.mem_append.2 (.inl hx),ht⟩
 ·rintro ⟨x,hx,ht⟩
  rcases List.mem_append.1 hx with h1 | h1
  ·exact ⟨x,h1,ht⟩
  ·have:x=r:=by simpa using h1
   subst this;exact absurd ht (hn d)
theorem OutK.more {xs:List RecD}{area src:Int}{k:Nat}{ds:List WayD}{r:RecD}{d0:WayD}(h:OutK xs area src k ds)(hr:xs[k]? = some r)(hd:Zcm xs area src r d0):OutK xs area src (k+1) (ds++[d0]):=by
 obtain⟨hk,e⟩:=List.getElem?_eq_some_iff.1 hr;intro d;rw [List.mem_append,h d,List.take_succ_eq_append_getElem hk,e]
 constructor
 ·rintro (⟨x,hx,ht⟩ | h1)
  ·exact ⟨x,List.mem_append.2 (.inl hx),ht⟩
  ·have:d=d0:=by simpa using h1
   subst this;exact⟨r,List.mem_append.2 (.inr (by simp)),hd⟩
 ·rintro ⟨x,hx,ht⟩
  rcases List.mem_append.1 hx with h1 | h1
  ·exact .inl ⟨x,h1,ht⟩
  ·have:x=r:=by simpa using h1
   subst this;obtain⟨_,_,_,v,h4,_,rfl⟩:=ht;obtain⟨_,_,_,v',h4',_,rfl⟩:=hd;rw [h4] at h4';cases h4'
   exact .inr (by simp)
theorem Zjo {xs:List RecD}{a src:Int}{ps:List WP}(h:Zal ps=ZbE xs a src):totW ps<=42:=by
 have hw:=ZbF xs a src;refine ZfG ?_ (fun d hd=>(hw.2 d (by rw [<-h];exact hd)).1.len)
 have:=Zc2 hw.1 (fun d hd=>(hw.2 d hd).1.node)
 rw [<-h] at this
 simpa [Zal] using this
theorem Zpf (W:World)(lo:Nat):WaysOwn W lo W.heap.size (.slice none 0 0) []:=⟨World.ownsRow_nil _ _ _ _,fun k hk=>by simp [Value.ownBlock] at hk,by simp,by simp⟩
theorem Zko (v:Value)(ps:List RP)(hi:Nat)(area src:Int)(w:World)(hv:RecsIn w hi v ps)(hhi:hi<=w.heap.size)(hn:tot ps<=1048576):
  Calls Tryz.prog 215 #[v,.int .i64 area,.int .i64 src] w fun e w'=>∃ x qs,e=.returned x/\OutK (fsts ps) area src ps.length (Zal qs)/\qs.length<=ps.length/\WaysOwn w' w.heap.size w'.heap.size x qs/\Below w.heap.size w w':=by
 have hnl:=Zbh ps;obtain⟨a1,c1,rfl⟩:=Zac hv.row;have HWI:=hide (Zei (.slice a1 ps.length c1) ps hi area src w hv hhi hn);have HV:=hide hv;clear hv
 go_enter Tryz.func215,Tryz.ntmps215
 go_wp2_with fail
 refine HWI.out.mono ?_
 rintro e w1 ⟨uw,ws,rfl,hws0,how,b1⟩;obtain⟨wsa,wsc,rfl⟩:=Zac how.row;have hws:=hws0.eq;have hwt:totW ws<=1048576:=by have:=Zjo hws;omega
 have hb1:=b1.size;have HWT:=hide (fun (z:Int) (W:World) (hb:Below w1.heap.size w1 W)=>by
  have h:=Zff (.slice wsa ws.length wsc) ws w.heap.size w1.heap.size z W (how.below hb (Nat.le_refl _)) hb.size hwt;rw [hws] at h;exact h)
 clear hws0 how HWI hws hwt
 go_wp2
 go_loopw [19,8] (fun i o wr=>∃ (k:Nat) (x:Value) (qs:List WP),k<=ps.length/\i=.int .i64 (k:Int)/\o=x/\WaysOwn wr w1.heap.size wr.heap.size x qs/\Hid (OutK (fsts ps) area src k (Zal qs))/\qs.length<=k/\Below w1.heap.size w1 wr) (fun i _ _=>ps.length-(intOf i).toNat)
 case atStart=>exact ⟨0,_,[],by omega,rfl,rfl,Zpf _ _,hide (fun d=>by simp [Zal]),by simp,Below.refl _ _⟩
 case round=>
  obtain⟨k,x,qs,hk,rfl,rfl,hown,HM,hql,hnx⟩:=hrel;obtain⟨xa,xc,rfl⟩:=Zac hown.row;have hsz:=hnx.size;have BW:Below w.heap.size w wr:=b1.trans (hnx.mono hb1);by_cases hlt:k<ps.length
  ·obtain ⟨p,hp⟩:∃ p,ps[k]? = some p:=⟨ps[k],List.getElem?_eq_getElem hlt⟩
   obtain⟨bb,off,cap',hve,hbb,c0,c1,c2,c3,c4,c5,c6,c7,hnr⟩:=HV.out.at.cells k p hp;cases hve
   obtain⟨pa,pc,hpn⟩:=ZaC.shape hnr;rw [hpn] at c5;rw [<-BW.cell (p:=⟨bb,off+k*8,none⟩) (Nat.lt_of_lt_of_le hbb hhi)] at c0;rw [<-BW.cell (p:=⟨bb,off+k*8+1,none⟩) (Nat.lt_of_lt_of_le hbb hhi)] at c1;rw [<-BW.cell (p:=⟨bb,off+k*8+2,none⟩) (Nat.lt_of_lt_of_le hbb hhi)] at c2;rw [<-BW.cell (p:=⟨bb,off+k*8+3,none⟩) (Nat.lt_of_lt_of_le hbb hhi)] at c3;rw [<-BW.cell (p:=⟨bb,off+k*8+4,none⟩) (Nat.lt_of_lt_of_le hbb hhi)] at c4;rw [<-BW.cell (p:=⟨bb,off+k*8+5,none⟩) (Nat.lt_of_lt_of_le hbb hhi)] at c5;rw [<-BW.cell (p:=⟨bb,off+k*8+6,none⟩) (Nat.lt_of_lt_of_le hbb hhi)] at c6;rw [<-BW.cell (p:=⟨bb,off+k*8+7,none⟩) (Nat.lt_of_lt_of_le hbb hhi)] at c7;have HPP:=hide (Zbw hp);have hpm:p.1∈fsts ps:=List.mem_of_getElem? (Zbw hp);have BAL:Below wr.heap.size wr (wr.alloc (.cells #[.int .i64 p.1.area,.int .i64 p.1.kind,.int .i64 p.1.owner,.int .i64 p.1.key,.int .i64 p.1.seq,.slice pa p.1.near.length pc,.int .i64 p.1.cost,.bool p.1.far] 39)):=(Below.refl _ _).alloc (Nat.le_refl _) _;have hxl:=heap_alloc_new wr (.cells #[.int .i64 p.1.area,.int .i64 p.1.kind,.int .i64 p.1.owner,.int .i64 p.1.key,.int .i64 p.1.seq,.slice pa p.1.near.length pc,.int .i64 p.1.cost,.bool p.1.far] 39);obtain⟨wl,hwl⟩:∃ W,W=(wr.alloc (.cells #[.int .i64 p.1.area,.int .i64 p.1.kind,.int .i64 p.1.owner,.int .i64 p.1.key,.int .i64 p.1.seq,.slice pa p.1.near.length pc,.int .i64 p.1.cost,.bool p.1.far] 39)):=⟨_,rfl⟩;rw [<-hwl] at BAL hxl;have hki:(0:Int)<=(k:Int):=by omega
   have hkj:(k:Int)<(ps.length:Int):=by omega
   clear hp hnr hpn;by_cases hK:p.1.kind=2
   case neg=>
    have hd:(p.1.kind != 2)=true:=by simpa using hK
    have HhK:=hide hK;clear hK;have HN:=hide (show OutK (fsts ps) area src (k+1) (Zal qs) from HM.out.quiet HPP.out (fun d ht=>HhK.out ht.1))
    have N1:=hide ((hown.below BAL (Nat.le_refl _)).wide (Nat.le_refl _) BAL.size);have N2:=hide (hnx.trans (BAL.mono hnx.size));rw [hwl] at N1 N2;clear hown HM HPP HWT BAL hwl
    go_wp2
    go_roundw
    case rel=>exact ⟨k+1,_,qs,by omega,by go_num,rfl,N1.out,HN,by omega,N2.out⟩
    case measure=>simp [intOf];omega
   have hdK:(p.1.kind != 2)=false:=by simpa using hK
   have HhK:=hide hK;clear hK;by_cases hA:p.1.area=area
   case neg=>
    have hd:(p.1.area != area)=true:=by simpa using hA
    have HhA:=hide hA;clear hA;have HN:=hide (show OutK (fsts ps) area src (k+1) (Zal qs) from HM.out.quiet HPP.out (fun d ht=>HhA.out ht.2.1))
    have N1:=hide ((hown.below BAL (Nat.le_refl _)).wide (Nat.le_refl _) BAL.size);have N2:=hide (hnx.trans (BAL.mono hnx.size));rw [hwl] at N1 N2;clear hown HM HPP HWT BAL hwl
    go_wp2
    go_roundw
    case rel=>exact ⟨k+1,_,qs,by omega,by go_num,rfl,N1.out,HN,by omega,N2.out⟩
    case measure=>simp [intOf];omega
   have hdA:(p.1.area != area)=false:=by simpa using hA
   have HhA:=hide hA;clear hA;by_cases hO:p.1.owner=src
   case pos=>
    have hd:(p.1.owner==src)=true:=by simpa using hO
    have HhO:=hide hO;clear hO;have HN:=hide (show OutK (fsts ps) area src (k+1) (Zal qs) from HM.out.quiet HPP.out (fun d ht=>ht.2.2.1 HhO.out))
    have N1:=hide ((hown.below BAL (Nat.le_refl _)).wide (Nat.le_refl _) BAL.size);have N2:=hide (hnx.trans (BAL.mono hnx.size));rw [hwl] at N1 N2;clear hown HM HPP HWT BAL hwl
    go_wp2
    go_roundw
    case rel=>exact ⟨k+1,_,qs,by omega,by go_num,rfl,N1.out,HN,by omega,N2.out⟩
    case measure=>simp [intOf];omega
   have hdO:(p.1.owner==src)=false:=by simpa using hO
   have HhO:=hide hO;clear hO;have hfd:=Zcp (ZbE (fsts ps) area src) p.1.owner;have HW:=HWT.out p.1.owner wl (hnx.trans (BAL.mono hsz));obtain⟨D,hD⟩:∃ D,D=ZbD (ZbE (fsts ps) area src) p.1.owner:=⟨_,rfl⟩;obtain⟨FB,hFB⟩:∃ F,F=Zbs (ZbE (fsts ps) area src) p.1.owner:=⟨_,rfl⟩;rw [<-hD, <-hFB] at HW hfd;have hsl:=BAL.size;have hx2:=Zaa hxl 2;simp at hx2
   rw [hwl] at hx2;have HXL:=hide hxl;have HWW:=hide HW;have HFD:=hide hfd;have HOW:=hide hown;have HBL:=hide BAL;unfold wayC at HWW;clear HW hfd hD hFB hown hxl BAL
   go_wp2_with fail
   rw [<-hwl];clear hwl hx2;refine HWW.out.mono ?_
   rintro e w3 ⟨du,rfl,hdu,b3⟩;obtain⟨da,dc,rfl⟩:=Zac hdu;have hb3:=b3.size;have hxl3:=(b3.block _ (Zab HXL.out)).trans HXL.out;have hwl3:=Zab HXL.out;have B3:Below wr.heap.size wr w3:=HBL.out.trans (b3.mono hsl);have hx4:=heap_alloc_new w3 (.cells #[.int .i64 D.to,.int .i64 D.cost,.slice da D.hops.length dc] 194);have B4:Below wr.heap.size wr (w3.alloc (.cells #[.int .i64 D.to,.int .i64 D.cost,.slice da D.hops.length dc] 194)):=B3.trans (((Below.refl w3.heap.size w3).alloc (Nat.le_refl _) _).mono (by omega))
   have hxl4:=(((Below.refl w3.heap.size w3).alloc (Nat.le_refl _) (.cells #[.int .i64 D.to,.int .i64 D.cost,.slice da D.hops.length dc] 194)).block _ (Zab hxl3)).trans hxl3;have d1:=Zaa hx4 1;have d2:=Zaa hx4 2;have r3:=Zaa hxl4 3;have r6:=Zaa hxl4 6;simp at d1 d2 r3 r6
   have HB4:=hide B4;have HDU:=hide hdu;have hsz4:(w3.alloc (.cells #[.int .i64 D.to,.int .i64 D.cost,.slice da D.hops.length dc] 194)).heap.size=w3.heap.size+1:=by simp
   have HSZ4:=hide hsz4;clear hdu b3 hxl3 hx4 hxl4 B3 B4 HWW HXL HBL hsz4;cases FB
   ·have HN:=hide (show OutK (fsts ps) area src (k+1) (Zal qs) from HM.out.quiet HPP.out (fun d ht=>by
     obtain⟨_,_,_,v,h4,_⟩:=ht
     rcases HFD.out with ⟨h1,_⟩ | ⟨_,h2⟩
     ·cases h1
     ·rw [h2] at h4;cases h4))
    have N1:=hide ((HOW.out.below HB4.out (Nat.le_refl _)).wide (Nat.le_refl _) HB4.out.size);have N2:=hide (hnx.trans (HB4.out.mono hsz));clear HM HPP HFD HWT HOW HB4 HDU HSZ4 d1 d2 r3 r6
    go_wp2
    go_roundw
    case rel=>exact ⟨k+1,_,qs,by omega,by go_num,rfl,N1.out,HN,by omega,N2.out⟩
    case measure=>simp [intOf];omega
   ·have hfound:Zbu (ZbE (fsts ps) area src) p.1.owner=some D:=by
     rcases HFD.out with ⟨_,h2⟩ | ⟨h1,_⟩
     ·exact h2
     ·cases h1
    have hDm:=(Za0 hfound).1;have hDg:=(ZbF (fsts ps) area src).2 D hDm;have hrb:=Zd2 (ZcF hDm).1 hpm HhK.out;have hD0:=hDg.1.cost;have hDc:=hDg.2;have hD6:=hDg.1.len;by_cases hsum:D.cost+p.1.cost<60000
    ·have htell:Zcm (fsts ps) area src p.1 ⟨p.1.key,D.cost+p.1.cost,D.hops⟩:=⟨HhK.out,HhA.out,HhO.out,D,hfound,hsum,rfl⟩
     have HN:=hide (HM.out.more HPP.out htell);have BN:Below (w3.alloc (.cells #[.int .i64 D.to,.int .i64 D.cost,.slice da D.hops.length dc] 194)).heap.size (w3.alloc (.cells #[.int .i64 D.to,.int .i64 D.cost,.slice da D.hops.length dc] 194)) ((w3.alloc (.cells #[.int .i64 D.to,.int .i64 D.cost,.slice da D.hops.length dc] 194)).alloc (.cells #[.int .i64 p.1.key,.int .i64 (D.cost+p.1.cost),.slice da D.hops.length dc] 194)):=(Below.refl _ _).alloc (Nat.le_refl _) _;have BT:Below wr.heap.size wr ((w3.alloc (.cells #[.int .i64 D.to,.int .i64 D.cost,.slice da D.hops.length dc] 194)).alloc (.cells #[.int .i64 p.1.key,.int .i64 (D.cost+p.1.cost),.slice da D.hops.length dc] 194)):=HB4.out.trans (BN.mono HB4.out.size);have OW:=hide (((Zae HOW.out.row HB4.out (Nat.le_refl _))).alloc (.cells #[.int .i64 p.1.key,.int .i64 (D.cost+p.1.cost),.slice da D.hops.length dc] 194));have hdu2:((w3.alloc (.cells #[.int .i64 D.to,.int .i64 D.cost,.slice da D.hops.length dc] 194)).alloc (.cells #[.int .i64 p.1.key,.int .i64 (D.cost+p.1.cost),.slice da D.hops.length dc] 194)).ownsRow wl.heap.size 3 1 (.slice da D.hops.length dc) D.hops.length (flat intE D.hops):=(HDU.out.alloc _).alloc _;have HHO:=hide (show Zbv ((w3.alloc (.cells #[.int .i64 D.to,.int .i64 D.cost,.slice da D.hops.length dc] 194)).alloc (.cells #[.int .i64 p.1.key,.int .i64 (D.cost+p.1.cost),.slice da D.hops.length dc] 194)) wr.heap.size ((w3.alloc (.cells #[.int .i64 D.to,.int .i64 D.cost,.slice da D.hops.length dc] 194)).alloc (.cells #[.int .i64 p.1.key,.int .i64 (D.cost+p.1.cost),.slice da D.hops.length dc] 194)).heap.size (⟨p.1.key,D.cost+p.1.cost,D.hops⟩,.slice da D.hops.length dc) from ⟨Zaj hdu2 hsl,fun j hj=>(hdu2.lt j hj).2⟩)
     have HBT:=hide BT;have hq2:=hql;clear htell hfound hDm hDg HM HPP HFD HWT HB4 HDU BN BT hdu2
     go_wp2_with (first
      | (at_builtin;refine ZaL Zbg (by omega) (by omega) _ rfl _ _ 188 rfl w1.heap.size 194 Tryz.underlying188 (.agg (wayC Zbt (.slice none 0 0))) rfl Tryz.infoWay _ qs (⟨p.1.key,D.cost+p.1.cost,D.hops⟩,.slice da D.hops.length dc) (Zdi _ _ _ _) rfl OW.out ⟨w3.heap.size+1,0,none⟩ 1 rfl (fun j u hj=>by
        have h:=Zay (w:=(w3.alloc (.cells #[.int .i64 D.to,.int .i64 D.cost,.slice da D.hops.length dc] 194))) (cs:=encW ((⟨p.1.key,D.cost+p.1.cost,D.hops⟩:WayD),Value.slice da D.hops.length dc)) (t:=194) j u hj;rw [HSZ4.out] at h;exact h) (by omega) (by simp;omega) ?_))
     intro v' w6 hown' hgrow;have N1:=hide (HOW.out.push HBT.out hsz HHO.out (by simpa using hown') hgrow)
     have N2:=hide ((hnx.trans (HBT.out.mono hsz)).grown hgrow (by have:=HBT.out.size;omega) (fun j hj=>(HOW.out.row.lt j hj).1))
     have HN2:=hide (show OutK (fsts ps) area src (k+1) (Zal (qs++[((⟨p.1.key,D.cost+p.1.cost,D.hops⟩:WayD),Value.slice da D.hops.length dc)])) by
      have e:Zal (qs++[((⟨p.1.key,D.cost+p.1.cost,D.hops⟩:WayD),Value.slice da D.hops.length dc)])=Zal qs++[⟨p.1.key,D.cost+p.1.cost,D.hops⟩]:=by simp [Zal]
      rw [e];exact HN.out)
     obtain⟨va,vc,rfl⟩:=Zac hown';clear hown' hgrow HOW OW HHO HBT HN HSZ4
     go_wp2
     go_roundw
     case rel=>exact ⟨k+1,_,qs++[((⟨p.1.key,D.cost+p.1.cost,D.hops⟩:WayD),Value.slice da D.hops.length dc)],by omega,by go_num,rfl,N1.out,HN2,by simp;omega,N2.out⟩
     case measure=>simp [intOf];omega
    ·have HN:=hide (show OutK (fsts ps) area src (k+1) (Zal qs) from HM.out.quiet HPP.out (fun d ht=>by
      obtain⟨_,_,_,v,h4,h5,_⟩:=ht;rw [hfound] at h4;cases h4
      exact hsum h5))
     have N1:=hide ((HOW.out.below HB4.out (Nat.le_refl _)).wide (Nat.le_refl _) HB4.out.size);have N2:=hide (hnx.trans (HB4.out.mono hsz));clear HM HPP HFD HWT HOW HB4 HDU HSZ4 hfound hDm hDg
     go_wp2
     go_roundw
     case rel=>exact ⟨k+1,_,qs,by omega,by go_num,rfl,N1.out,HN,by omega,N2.out⟩
     case measure=>simp [intOf];omega
  ·have hkn:¬(k:Int)<(ps.length:Int):=by omega
   have hkk:k=ps.length:=by omega
   have HE:=hide (show OutK (fsts ps) area src ps.length (Zal qs) by rw [<-hkk];exact HM.out)
   have HO:=hide (hown.wide (lo':=w.heap.size) hb1 (Nat.le_refl _));have hq2:qs.length<=ps.length:=by omega
   have HB:=hide BW;clear hown HM hkk hnx BW
   go_wp2
   go_ret
   first
    | exact ⟨_,qs,rfl,HE.out,hq2,HO.out,HB.out⟩
    | exact ⟨_,rfl,qs,HE.out,hq2,HO.out,HB.out⟩
end Go.Proofs.YtadokhjefnkajaaGreat
