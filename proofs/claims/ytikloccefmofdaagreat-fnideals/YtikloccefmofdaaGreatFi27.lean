/-
  Parts.
-/
import Derived.Test.YtikloccefmofdaaGreatFi26
namespace Go.Proofs.YtikloccefmofdaaGreat
open Go.RowKit
set_option linter.unusedSimpArgs false
set_option linter.unusedVariables false
set_option maxRecDepth 100000
set_option maxHeartbeats 8000000
variable {src:Int}{xs:List RecD}{bs qs:List RtD}{ds:List WayD}{b q:RtD}{d:WayD}
theorem ZlV {al:List Int}(h:ZaE (Zaq xs al src) ds)(to:Int):(Zbk ds to=true/\∃ y,Zaq xs al src to y)\/(Zbk ds to=false/\∀ y,¬Zaq xs al src to y):=by
 have hb:=h.2 to;rcases Zcb ds to with ⟨h1,h2⟩ | ⟨h1,h2⟩
 ·rw [h2] at hb;obtain⟨_,⟨y,hy,_⟩,_⟩:=hb;exact .inl ⟨h1,y,hy⟩
 ·rw [h2] at hb;exact .inr ⟨h1,hb⟩
theorem ZgZ {S:Int->WayD->Prop}{qs:List WP}(h:ZaE S (Zaj qs))(hS:∀ to w,S to w->GoodW w/\w.to=to):totW qs<=42:=
 ZgJ (by have h2:=Zdr h.1 (fun d hd=>(h.good hS d hd).node);simpa [Zaj] using h2) (fun d hd=>(h.good hS d hd).len)
theorem ZgY {to:Int}{S T:WayD->Prop}{E:WayD}{fv:Value}(h:Zgz to S E fv)(e:∀ d,S d↔T d):Zgz to T E fv:=by
 obtain⟨F,h1,h2⟩:=h;exact⟨F,h1,h2.congr e⟩
theorem ZlE (v u:Value)(ps:List RP)(al:List Int)(hi:Nat)(border:Bool)(src:Int)(w:World)(hv:RecsIn w hi v ps)(ha:ZaI w u al hi)(hhi:hi<=w.heap.size)(hn:tot ps<=1048576)(hal:al.length<=1048576):
  Calls Tryz.prog 90 #[v,u,.bool border,.int .i64 src] w fun e w'=>∃ x qs,e=.returned x/\ZaE (Zbw (fsts ps) al border src) (Zaj qs)/\WaysOwn w' w.heap.size w'.heap.size x qs/\Below w.heap.size w w':=by
 obtain⟨a1,c1,rfl⟩:=Zac hv.row;obtain⟨a2,c2,rfl⟩:=ha.shape;have LIT:=Zf0 w w.heap.size (YA _);have hs1:(w.alloc (.cells #[] 108)).heap.size=w.heap.size+1:=by simp
 have B1:Below w.heap.size w (w.alloc (.cells #[] 108)):=(YAC _ _).alloc (YA _) _;obtain⟨w1,hw1⟩:∃ W,W=w.alloc (.cells #[] 108):=⟨_,rfl⟩;rw [<-hw1] at LIT hs1 B1;have HWN:=hide (ZhC (.slice a1 ps.length c1) (.slice a2 al.length c2) ps al hi src w1 (hv.below B1 hhi) (Zav.later ha B1 hhi) (YAK hhi B1.size) hn hal);have HSK:=hide (fun W (hb:Below w.heap.size w W)=>Zdn (.slice a1 ps.length c1) ps W hn (Zbu.more ((hv.below hb hhi).at) (YAK hhi hb.size)));have HWI:=hide (fun area W (hb:Below w.heap.size w W)=>Zfi (.slice a1 ps.length c1) ps hi area src W (hv.below hb hhi) (YAK hhi hb.size) hn);have HL7:=hide (fun (uw:Value) (ws:List WP) (lo2 hi2 lo:Nat) (area to:Int) (b0:WayD) (bv0:Value) (F0:Bool) (W:World) (S0:WayD->Prop) (hb:Below w.heap.size w W) hw hh2 hws hst hbo hS0 hb0 hlo hl0=>Zre (.slice a1 ps.length c1) uw ps ws hi lo2 hi2 lo area src to b0 bv0 F0 W S0 (hv.below hb hhi) (YAK hhi hb.size) hn hw hh2 hws hst hbo hS0 hb0 hlo hl0);have HA:=hide ha;clear hv ha;have HLIT:=hide LIT;have HS1:=hide hs1;clear LIT hs1;obtain⟨SB,hSB⟩:∃ b,b=Zax (fsts ps):=⟨_,rfl⟩;rw [<-hSB] at HSK;have HSB:=hide hSB;clear hSB
 go_enter Tryz.func90,Tryz.ntmps90
 go_wp2_with fail
 rw [<-hw1];clear hw1;refine HWN.out.mono ?_;rintro e wn ⟨un,ns,rfl,hbn,hon,bn⟩;obtain⟨nsa,nsc,rfl⟩:=Zac hon.row;have hbns:=bn.size;have hB1s:=B1.size;have BWN:Below w.heap.size w wn:=B1.trans (bn.mono hB1s);have HLN:=hide ((HLIT.out.below bn (YA _)));have hnt:totW ns<=1048576:=by have:=ZgZ hbn (fun to d h=>Za1 h);omega
 have HNT:=hide (fun (z:Int) (W:World) (hw:WaysOwn W w1.heap.size wn.heap.size (.slice nsa ns.length nsc) ns) (hh:wn.heap.size<=W.heap.size)=>ZcT (.slice nsa ns.length nsc) ns w1.heap.size wn.heap.size z W hw hh hnt);have HON:=hide hon;have HHAS:=hide (fun to=>ZlV hbn to);clear HWN HLIT bn hbn hon hnt
 go_wp2_with fail
 refine (HSK.out _ BWN).mono ?_;rintro e ws0 ⟨rfl,bs⟩;have hbs:=bs.size;have BWS:Below w.heap.size w ws0:=BWN.trans (bs.mono BWN.size);have BN0:Below w1.heap.size w1 w1:=YAC _ _;cases SB
 ·have HE:=hide (show ZaE (Zbw (fsts ps) al border src) (Zaj []) from Zct (fun to d ⟨_,a,_,_,h⟩=>by have:=(Zhn h).1;rw [<-HSB.out] at this;cases this));have HO:=hide ((HLN.out.below bs (by omega)).wide (YA _) (show w1.heap.size<=ws0.heap.size by omega));have HN:=hide BWS;clear HLN HNT HHAS HWI HL7 HSK bs BWS BWN HON;go_wp2;go_ret
  first
   | exact ⟨_,[],rfl,HE.out,HO.out,HN.out⟩
   | exact ⟨_,rfl,[],HE.out,HO.out,HN.out⟩
 have LS:=ZpS ws0 ws0.heap.size (YA _);have B0:Below ws0.heap.size ws0 (ws0.alloc (.cells #[] 102)):=(YAC _ _).alloc (YA _) _;obtain⟨w0,hw0⟩:∃ W,W=ws0.alloc (.cells #[] 102):=⟨_,rfl⟩;rw [<-hw0] at LS B0;have HLS:=hide LS;have HLO:=hide ((HLN.out.below bs (by omega)));have HBS:=hide bs;clear LS HSK HLN bs;go_wp2;rw [<-hw0];clear hw0
 go_loopw [12,11] (fun i o wr=>∃ (k:Nat) (y:Value) (ls:List LP),k<=al.length/\i=.int .i64 (k:Int)/\o=y/\WLs wr ws0.heap.size wr.heap.size y ls/\Hid (ZbN (fsts ps) src (al.take k) ls)/\Below ws0.heap.size ws0 wr) (fun i _ _=>al.length-(intOf i).toNat)
 case atStart=>exact ⟨0,_,[],by omega,rfl,rfl,HLS.out,hide (by simp [ZbN]),B0⟩
 case round=>
  obtain⟨k,y,ls,hk,rfl,rfl,hls,HAW,hnx⟩:=hrel;clear HLS B0;obtain⟨ya,yc,rfl⟩:=Zac hls.row;have hlen:ls.length=k:=by have:=HAW.out.len;rw [YAV,YAQ hk] at this;exact this
  have BW:Below w.heap.size w wr:=BWS.trans (hnx.mono BWS.size);have hws:=BW.size;by_cases hlt:k<al.length
  ·obtain ⟨area,har⟩:∃ a,al[k]? = some a:=⟨al[k],YAA hlt⟩;obtain⟨b,off,cap',hve,hbb,c0⟩:=HA.out.cell k area har;cases hve;replace c0:=(BW.cell (by show b<w.heap.size;omega)).trans c0;have hki:(0:Int)<=(k:Int):=by omega
   have hkj:(k:Int)<(al.length:Int):=by omega
   have HLS:=hide hls;have HAR:=hide har;have HLEN:=hide hlen;clear hls har hlen
   go_wp2_with fail
   refine (HWI.out area _ BW).mono ?_;rintro e w2 ⟨uw,ws,rfl,hws2,how,b2⟩;obtain⟨wsa,wsc,rfl⟩:=Zac how.row;have hb2:=b2.size;have HWE:=hide (hws2.eq);have BA:Below w2.heap.size w2 (w2.alloc (.cells #[.slice wsa ws.length wsc] 102)):=(YAC _ _).alloc (YA _) _;have OWA:=hide ((Zad HLS.out.row b2 (YA _)).alloc (.cells #[.slice wsa ws.length wsc] 102));have HOW:=hide how;clear hws2 how
   go_wp2_with (first
    | (at_builtin;refine ZaZ Zg7 (by omega) (by omega) _ rfl _ _ 137 rfl ws0.heap.size 102 Tryz.underlying137 (.slice none 0 0) rfl Tryz.infoWayS _ ls (.slice wsa ws.length wsc,ws) (fun q hq=>by simp [ZiX] at hq;subst hq;rfl) rfl OWA.out ⟨w2.heap.size,0,none⟩ 1 rfl (Zan (cs:=ZiX (.slice wsa ws.length wsc,ws))) (by have:=HLEN.out;omega) (by simp;have:=hnx.size;omega) ?_))
   intro v' w4 hown' hgrow hat;have BB:Below wr.heap.size wr (w2.alloc (.cells #[.slice wsa ws.length wsc] 102)):=b2.trans (BA.mono hb2);have N1:=hide (HLS.out.push BB ((HOW.out.below BA (YA _)).wide hnx.size BA.size) (by simpa using hown') hgrow);have N2:=hide (HAW.out.push (p:=(.slice wsa ws.length wsc,ws)) HAR.out HWE.out);have N3:=hide ((hnx.trans (BB.mono hnx.size)).grown hgrow (by have:=BB.size;have:=hnx.size;omega) (fun j hj=>(HLS.out.row.lt j hj).1));obtain⟨va,vc,rfl⟩:=Zac hown';clear hown' hgrow hat BB OWA HOW HLS BA b2;go_wp2;go_roundw
   case rel=>exact ⟨k+1,_,ls++[(.slice wsa ws.length wsc,ws)],by omega,by go_num,rfl,N1.out,N2,N3.out⟩
   case measure=>simp [intOf];omega
  ·have hkn:¬(k:Int)<(al.length:Int):=by omega
   have HAL:=hide (show ZbN (fsts ps) src al ls by have h:=HAW.out;rw [YAL (by omega)] at h;exact h);have HO:=hide ((HLO.out.below hnx (by omega)).wide (YA _) (show w1.heap.size<=wr.heap.size by have:=hnx.size;omega));have HLS:=hide hls
   rename World=>wb
   have hwb:=hnx.size;have HNB:=hide (HON.out.below (HBS.out.trans (hnx.mono hbs)) (YA _));clear hls HAW hlen HLO hnx HBS HON;go_wp2
   go_loopw [13,9] (fun i o wr=>∃ (t:Nat) (x:Value) (qs:List WP),1<=t/\t<=7/\i=.int .i64 (t:Int)/\o=x/\WaysOwn wr w.heap.size wr.heap.size x qs/\Hid (ZaE (fun to d=>to<(t:Int)/\Zbw (fsts ps) al border src to d) (Zaj qs))/\Off x w1.heap.size wb.heap.size/\WLs wr ws0.heap.size wb.heap.size (.slice ya ls.length yc) ls/\Below w.heap.size w wr/\WaysOwn wr w1.heap.size wn.heap.size (.slice nsa ns.length nsc) ns/\wb.heap.size<=wr.heap.size) (fun i _ _=>8-(intOf i).toNat)
   case atStart=>exact ⟨1,_,[],by omega,by omega,rfl,rfl,HO.out,hide (Zct (fun to d ⟨h1,h2⟩=>by have h3:=(Zby h2);have:=h3.1.node;rw [h3.2] at this;omega)),fun b hb=>by simp [Value.ownBlock] at hb;have:=HS1.out;omega,HLS.out,BW,HNB.out,YA _⟩
   case round=>
    obtain⟨t,x,qs,ht1,ht7,rfl,rfl,hown,HB,hoff,hls,hnx,hfr,hsz⟩:=hrel;clear HO HLS BW hws HNB;obtain⟨xa,xc,rfl⟩:=Zac hown.row
    rename World=>wt
    by_cases ht:t<=6
    ·have ht6:(t:Int)<=6:=by omega
     have HOWN:=hide hown;have HLS:=hide hls;have HOFF:=hide hoff;have HFR:=hide hfr;have hq6:qs.length<=6:=by
      have h:=Zdr HB.out.1 (fun d hd=>(HB.out.good (fun to d h=>Zby h.2) d hd).node);simpa [Zaj] using h
     have HNW:=hide (HNT.out (t:Int) wt hfr (by omega));have hh:=HHAS.out (t:Int);obtain⟨D,hD⟩:∃ D,D=Zbo (Zaj ns) (t:Int):=⟨_,rfl⟩;obtain⟨FB,hFB⟩:∃ F,F=Zbk (Zaj ns) (t:Int):=⟨_,rfl⟩;rw [<-hD, <-hFB] at HNW;rw [<-hFB] at hh;have HH:=hide hh;unfold wayC at HNW;clear hown hls hoff hfr hh hD hFB
     go_wp2_with fail
     refine HNW.out.mono ?_;rintro e w3 ⟨du,rfl,hdu,b3⟩;obtain⟨da,dc,rfl⟩:=Zac hdu;have hb3:=b3.size;have B4:Below wt.heap.size wt (w3.alloc (.cells #[.int .i64 D.to,.int .i64 D.cost,.slice da D.hops.length dc] 108)):=b3.trans (((YAC w3.heap.size w3).alloc (YA _) _).mono hb3);have hs4:(w3.alloc (.cells #[.int .i64 D.to,.int .i64 D.cost,.slice da D.hops.length dc] 108)).heap.size=w3.heap.size+1:=by simp
     obtain⟨w4,hw4⟩:∃ W,W=w3.alloc (.cells #[.int .i64 D.to,.int .i64 D.cost,.slice da D.hops.length dc] 108):=⟨_,rfl⟩;rw [<-hw4] at B4 hs4;have HS4:=hide hs4;have hB4:=B4.size;have HB4:=hide B4;clear hdu b3 HNW B4 hs4;cases FB
     case true=>
      have hyes:∃ y,Zaq (fsts ps) al src (t:Int) y:=by
       rcases HH.out with ⟨_,h2⟩ | ⟨h1,_⟩
       ·exact h2
       ·cases h1
      have N1:=hide ((HOWN.out.below HB4.out (YA _)).wide (YA _) HB4.out.size);have N2:=hide (show ZaE (fun to d=>to<((t+1:Nat):Int)/\Zbw (fsts ps) al border src to d) (Zaj qs) from by
       have h:=HB.out.skip (S:=Zbw (fsts ps) al border src) (t:=(t:Int)) (fun d hd=>by obtain ⟨y,hy⟩:=hyes;exact hd.1 y hy);rw [show ((t+1:Nat):Int)=(t:Int)+1 by omega];exact h)
      have N3:=hide (HLS.out.below HB4.out hsz);have N4:=hide (hnx.trans (HB4.out.mono hnx.size));have N5:=hide (HFR.out.below HB4.out (by omega));have hszr:wb.heap.size<=w4.heap.size:=by omega
      rw [hw4] at N1 N3 N4 N5 hszr;clear HB4 HS4 hyes HH HOWN HLS HFR hw4;go_wp2;go_roundw
      case rel=>exact ⟨t+1,_,qs,by omega,by omega,by go_num,rfl,N1.out,N2,HOFF.out,N3.out,N4.out,N5.out,hszr⟩
      case measure=>simp [intOf];omega
     have hno:∀ y,¬Zaq (fsts ps) al src (t:Int) y:=by
      rcases HH.out with ⟨h1,_⟩ | ⟨_,h2⟩
      ·cases h1
      ·exact h2
     have HNO:=hide hno;have BXZ:BoxT (w4.alloc (.cells #[.int .i64 0,.int .i64 0,.slice none 0 0] 108)) w4.heap.size w4.heap.size Zbl (.slice none 0 0):=⟨YAE _ _,YAZ _ _ _ _,by simp [Zbl]⟩;have BWZ:Below w4.heap.size w4 (w4.alloc (.cells #[.int .i64 0,.int .i64 0,.slice none 0 0] 108)):=(YAC _ _).alloc (YA _) _;obtain⟨wz,hwz⟩:∃ W,W=w4.alloc (.cells #[.int .i64 0,.int .i64 0,.slice none 0 0] 108):=⟨_,rfl⟩;rw [<-hwz] at BXZ BWZ;have HBX:=hide BXZ;have hlow:wt.heap.size<=w4.heap.size:=hB4;clear BXZ hno HH;go_wp2;rw [<-hw4,show w3.heap.size+1=w4.heap.size from HS4.out.symm, <-hwz];clear hwz hw4
     go_loopw [18,17] (fun i f wr=>∃ (k:Nat) (b:WayD) (bv:Value),k<=al.length/\i=.int .i64 (k:Int)/\BoxT wr w4.heap.size w4.heap.size b bv/\Zgz (t:Int) (Zhz (fsts ps) (al.take k) border src (t:Int)) b f/\Below w4.heap.size w4 wr) (fun i _ _=>al.length-(intOf i).toNat)
     case atStart=>exact ⟨0,_,_,by omega,rfl,HBX.out,Zgz.of (F:=false) (fun d ⟨a,h,_⟩=>by simp at h),BWZ⟩
     case round=>
      obtain⟨k,b,bv,hk,rfl,hbx,hbv,hbel⟩:=hrel;clear HBX BWZ;obtain⟨F,hf,HBO0⟩:=hbv
      rename_i fv0
      subst hf;have HBO:=hide HBO0;clear HBO0;have B4R:Below wt.heap.size wt wr:=HB4.out.trans (hbel.mono hlow);have BWR:Below w.heap.size w wr:=hnx.trans (B4R.mono hnx.size);have hzlt:=Zab hbx.box;obtain⟨bva,bvc,rfl⟩:=Zac hbx.own;have hzb:=hbx.box;unfold wayC at hzb;have e0:=Zaa hzb 0;have e1:=Zaa hzb 1;have e2:=Zaa hzb 2;simp at e0 e1 e2;by_cases hlt:k<al.length
      ·obtain ⟨area,har⟩:∃ a,al[k]? = some a:=⟨al[k],YAA hlt⟩;obtain⟨ba,boff,bcap,hvea,hbba,ca⟩:=HA.out.cell k area har;cases hvea;replace ca:=(BWR.cell (by show ba<w.heap.size;omega)).trans ca;obtain⟨p,hp,hpw⟩:=HAL.out.at har;have hls2:=HLS.out.below B4R hsz;obtain⟨g,cap',hve,cg,hgb,hgw⟩:=hls2.cell hp;cases hve;have hpo:=hls2.ways p (YAG hp);have hki:(0:Int)<=(k:Int):=by omega
       have hkj:(k:Int)<(al.length:Int):=by omega
       have hkl:(k:Int)<(ls.length:Int):=by rw [HAL.out.len];omega
       have HAR:=hide har;have hskip:ZjZ border area\/¬ZjZ border area:=Classical.em _;rcases hskip with hby | hby
       case inr=>
        have hbt:border=true:=by
         cases border
         ·exact absurd (fun h=>by cases h) hby
         ·rfl
        have hne:area≠0:=fun h=>hby (fun _=>h);have hd:(area != 0)=true:=by simpa using hne
        have HN:=hide (show Zgz (t:Int) (Zhz (fsts ps) (al.take (k+1)) border src (t:Int)) b (.bool F) from Zgz.of (HBO.out.congr (fun d=>by
         rw [Ziq HAR.out];exact⟨.inl,by rintro (h | ⟨h,_⟩);exact h;exact absurd h hby⟩)))
        have N1:=hide hbx;subst hbt;clear hbx hby hne HBO hzb e0 e1 e2 hp hpw hls2 hpo har;go_wp2;go_roundw
        case rel=>exact ⟨k+1,b,_,by omega,by go_num,N1.out,HN.out,hbel⟩
        case measure=>simp [intOf];omega
       have BD:Below wr.heap.size wr wr.drew:=(YAC _ _).drew;have HCL:=hide (HL7.out p.1 p.2 ws0.heap.size wb.heap.size w4.heap.size area (t:Int) b (.slice bva b.hops.length bvc) F wr.drew (Zhz (fsts ps) (al.take k) border src (t:Int)) (BWR.trans (BD.mono BWR.size)) (hpo.below BD (by omega)) (by show wb.heap.size<=wr.heap.size;omega) hpw HSB.out.symm HBO.out (fun d h=>ZnI h) (Zad hbx.own BD (YA _)) (by show w4.heap.size<=wr.heap.size;omega) hbx.len);unfold wayC at HCL;have HST:=hide (show ∀ d,(Zhz (fsts ps) (al.take k) border src (t:Int) d\/outS (fsts ps) (fsts ps) area src (t:Int) d)↔Zhz (fsts ps) (al.take (k+1)) border src (t:Int) d from fun d=>by
        rw [Ziq HAR.out];exact⟨by rintro (h | h);exact .inl h;exact .inr ⟨hby,h⟩,by rintro (h | ⟨_,h⟩);exact .inl h;exact .inr h⟩)
       have HBXX:=hide hbx;have HBEL:=hide hbel;have hgz:g≠w4.heap.size:=by omega
       have hbz:ba≠w4.heap.size:=by omega
       have hgr2:g<wr.heap.size:=hgw;have hbr2:ba<wr.heap.size:=by omega
       have hS0:wr.drew.cell? ⟨g,k,none⟩=some p.1/\wr.drew.cell? ⟨ba,boff+k,none⟩=some (.int .i64 area):=⟨cg,ca⟩;have e0':wr.drew.cell? ⟨w4.heap.size,0,none⟩=some (.int .i64 b.to):=e0;have e1':wr.drew.cell? ⟨w4.heap.size,1,none⟩=some (.int .i64 b.cost):=e1;have e2':wr.drew.cell? ⟨w4.heap.size,2,none⟩=some (.slice bva b.hops.length bvc):=e2;have harm:∀ (bd:Bool),bd=border->True:=fun _ _=>trivial;have hda:border=false\/(border=true/\(area != 0)=false):=by
        cases border
        ·exact .inl rfl
        ·exact .inr ⟨rfl,by simpa using hby rfl⟩
       clear hbx hby HBO hp hpw hls2 hpo har hzb e0 e1 e2 BD hbel harm;rcases hda with hbd | ⟨hbd,hdz⟩
       ·subst hbd
        go_wp2_with fail
        refine wp_region_noPanic ?_;refine Zag (S:=fun W=>W.cell? ⟨g,k,none⟩=some p.1/\W.cell? ⟨ba,boff+k,none⟩=some (.int .i64 area)) (by kernel_rfl) 19 rfl hS0 ?_;intro ops hops hSS;refine Zn7 _ _ _ _ _ _ _ _ _ _ _ _ _ _ _ _ _ _ _ _ _ _ _ _ _ _ _ _ _ _ _ _ _ _ _ _ _ _ _ _ _ _ _ _ _ _ _ _ _ _ _ _ _ _ _ _ _ _ _ _ _ _ _ _ _ _ _ _ _ _ _ _ _ _ _ _ _ _ _ _ _ _ _ _ _ _ wr.drew _ p.1 (.bool F) g ls.length yc ba boff al.length c2 w4.heap.size k area src (t:Int) b bva b.hops.length bvc (fun W E u fv=>Zgz (t:Int) (Zhz (fsts ps) (al.take (k+1)) false src (t:Int)) E fv/\(∃ l,W.ownsRow w4.heap.size 3 1 u l (flat intE E.hops)/\l=E.hops.length)/\E.hops.length<=6/\Below wr.heap.size wr W) _ ops hops (fun _ _ _ _ h=>h) hki hkl hkj hSS e0' e1' e2' hgz hbz (hide (HCL.out.mono ?_)) ?_ ?_ ?_ ?_
        ·rintro e w5 ⟨E,u5,fv5,rfl,hb5,ho5,hl5,bl5⟩;obtain⟨ua,uc,rfl⟩:=Zac ho5;exact⟨E,ua,E.hops.length,uc,fv5,rfl,ZgY hb5 HST.out,⟨_,ho5,rfl⟩,hl5,((YAC _ _).drew).trans bl5⟩
        ·rintro W E u5 fv5 ⟨_,_,_,hb⟩;exact⟨(hb.cell (p:=⟨g,k,none⟩) hgr2).trans hS0.1,(hb.cell (p:=⟨ba,boff+k,none⟩) hbr2).trans hS0.2⟩
        ·rintro W E u5 fv5 ⟨_,_,_,hb⟩;have hx:=(HBXX.out.below hb).box;unfold wayC at hx;have y0:=Zaa hx 0;have y1:=Zaa hx 1;have y2:=Zaa hx 2;simp at y0 y1 y2;exact⟨_,_,_,y0,y1,y2⟩
        ·rintro W E u5 fv5 ⟨_,_,_,hb⟩ j;exact Zae (HBXX.out.below hb).box j
        ·rintro W E ua ul uc fv5 ⟨hbv5,⟨l,ho5,hl5⟩,h6,hb⟩;refine NoPanic.normal ?_;subst hl5;obtain⟨ua2,uc2,he2⟩:=Zac ho5;cases he2;have N1:=hide ((HBXX.out.below hb).put (d:=E) ho5 h6);have N2:=hide hbv5;have hwr:w4.heap.size<=wr.heap.size:=by omega
         have N3:=hide (((HBEL.out.trans (hb.mono hwr)).grown (Za2 W w4.heap.size E (.slice ua E.hops.length uc)) (by have:=hb.size;omega) (fun j hj=>by simp at hj;omega)));clear hops ops hSS HCL HBXX HBEL hbv5 ho5 hb hS0 e0' e1' e2';go_wp2;go_roundw
         case rel=>exact ⟨k+1,E,_,by omega,by go_num,N1.out,N2.out,N3.out⟩
         case measure=>simp [intOf];omega
       ·subst hbd
        go_wp2_with fail
        refine wp_region_noPanic ?_;refine Zag (S:=fun W=>W.cell? ⟨g,k,none⟩=some p.1/\W.cell? ⟨ba,boff+k,none⟩=some (.int .i64 area)) (by kernel_rfl) 19 rfl hS0 ?_;intro ops hops hSS;refine Zn7 _ _ _ _ _ _ _ _ _ _ _ _ _ _ _ _ _ _ _ _ _ _ _ _ _ _ _ _ _ _ _ _ _ _ _ _ _ _ _ _ _ _ _ _ _ _ _ _ _ _ _ _ _ _ _ _ _ _ _ _ _ _ _ _ _ _ _ _ _ _ _ _ _ _ _ _ _ _ _ _ _ _ _ _ _ _ wr.drew _ p.1 (.bool F) g ls.length yc ba boff al.length c2 w4.heap.size k area src (t:Int) b bva b.hops.length bvc (fun W E u fv=>Zgz (t:Int) (Zhz (fsts ps) (al.take (k+1)) true src (t:Int)) E fv/\(∃ l,W.ownsRow w4.heap.size 3 1 u l (flat intE E.hops)/\l=E.hops.length)/\E.hops.length<=6/\Below wr.heap.size wr W) _ ops hops (fun _ _ _ _ h=>h) hki hkl hkj hSS e0' e1' e2' hgz hbz (hide (HCL.out.mono ?_)) ?_ ?_ ?_ ?_
        ·rintro e w5 ⟨E,u5,fv5,rfl,hb5,ho5,hl5,bl5⟩;obtain⟨ua,uc,rfl⟩:=Zac ho5;exact⟨E,ua,E.hops.length,uc,fv5,rfl,ZgY hb5 HST.out,⟨_,ho5,rfl⟩,hl5,((YAC _ _).drew).trans bl5⟩
        ·rintro W E u5 fv5 ⟨_,_,_,hb⟩;exact⟨(hb.cell (p:=⟨g,k,none⟩) hgr2).trans hS0.1,(hb.cell (p:=⟨ba,boff+k,none⟩) hbr2).trans hS0.2⟩
        ·rintro W E u5 fv5 ⟨_,_,_,hb⟩;have hx:=(HBXX.out.below hb).box;unfold wayC at hx;have y0:=Zaa hx 0;have y1:=Zaa hx 1;have y2:=Zaa hx 2;simp at y0 y1 y2;exact⟨_,_,_,y0,y1,y2⟩
        ·rintro W E u5 fv5 ⟨_,_,_,hb⟩ j;exact Zae (HBXX.out.below hb).box j
        ·rintro W E ua ul uc fv5 ⟨hbv5,⟨l,ho5,hl5⟩,h6,hb⟩;refine NoPanic.normal ?_;subst hl5;obtain⟨ua2,uc2,he2⟩:=Zac ho5;cases he2;have N1:=hide ((HBXX.out.below hb).put (d:=E) ho5 h6);have N2:=hide hbv5;have hwr:w4.heap.size<=wr.heap.size:=by omega
         have N3:=hide (((HBEL.out.trans (hb.mono hwr)).grown (Za2 W w4.heap.size E (.slice ua E.hops.length uc)) (by have:=hb.size;omega) (fun j hj=>by simp at hj;omega)));clear hops ops hSS HCL HBXX HBEL hbv5 ho5 hb hS0 e0' e1' e2';go_wp2;go_roundw
         case rel=>exact ⟨k+1,E,_,by omega,by go_num,N1.out,N2.out,N3.out⟩
         case measure=>simp [intOf];omega
      ·have hkn:¬(k:Int)<(al.length:Int):=by omega
       have HBT:=hide (show ZaN (t:Int) (Zbw (fsts ps) al border src (t:Int)) (if F then some b else none) by
        have h:=HBO.out;rw [YAL (by omega)] at h;exact h.congr (fun d=>⟨fun h=>⟨HNO.out,h⟩,fun h=>h.2⟩))
       cases F
       ·have N1:=hide ((HOWN.out.below B4R (YA _)).wide (YA _) B4R.size);have N2:=hide (show ZaE (fun to d=>to<((t+1:Nat):Int)/\Zbw (fsts ps) al border src to d) (Zaj qs) from by
         have h:=HB.out.skip HBT.out;rw [show ((t+1:Nat):Int)=(t:Int)+1 by omega];exact h)
        have N3:=hide (HLS.out.below B4R hsz);have N5:=hide (HFR.out.below B4R (by omega));have hszr:wb.heap.size<=wr.heap.size:=by have:=B4R.size;omega
        clear hbx HBO HBT hzb e0 e1 e2;go_wp2;go_roundw
        case rel=>exact ⟨t+1,_,qs,by omega,by omega,by go_num,rfl,N1.out,N2,HOFF.out,N3.out,BWR,N5.out,hszr⟩
        case measure=>simp [intOf];omega
       ·have N2:=hide (show ZaE (fun to d=>to<((t+1:Nat):Int)/\Zbw (fsts ps) al border src to d) (Zaj (qs++[(b,.slice bva b.hops.length bvc)])) from by
         have h:=HB.out.push HBT.out;rw [show ((t+1:Nat):Int)=(t:Int)+1 by omega];have e:Zaj (qs++[(b,.slice bva b.hops.length bvc)])=Zaj qs++[b]:=by simp [Zaj]
         rw [e];exact h)
        have BA:Below wr.heap.size wr (wr.alloc (.cells #[.int .i64 b.to,.int .i64 b.cost,.slice bva b.hops.length bvc] 108)):=(YAC _ _).alloc (YA _) _;have BT:Below wt.heap.size wt (wr.alloc (.cells #[.int .i64 b.to,.int .i64 b.cost,.slice bva b.hops.length bvc] 108)):=B4R.trans (BA.mono (by omega));have OW:=hide ((Zad HOWN.out.row B4R (YA _)).alloc (.cells #[.int .i64 b.to,.int .i64 b.cost,.slice bva b.hops.length bvc] 108));have HHO:=hide (show ZbA (wr.alloc (.cells #[.int .i64 b.to,.int .i64 b.cost,.slice bva b.hops.length bvc] 108)) wt.heap.size (wr.alloc (.cells #[.int .i64 b.to,.int .i64 b.cost,.slice bva b.hops.length bvc] 108)).heap.size (b,.slice bva b.hops.length bvc) from ⟨Zaf (hbx.own.alloc _) hlow,fun k hk=>((hbx.own.alloc _).lt k hk).2⟩);have HLS2:=hide (HLS.out.below BT hsz);have HNS2:=hide (HFR.out.below BT (by omega));have hws:=hnx.size;clear hbx HBO HBT hzb
        go_wp2_with (first
         | (at_builtin;refine ZaZ Zbg (by omega) (by omega) _ rfl _ _ 102 rfl w.heap.size 108 Tryz.underlying102 (.agg (wayC Zbl (.slice none 0 0))) rfl Tryz.infoWay _ qs (b,.slice bva b.hops.length bvc) (Zdh _ _ _ _) rfl OW.out ⟨wr.heap.size,0,none⟩ 1 rfl (Zan (cs:=encW (b,.slice bva b.hops.length bvc))) (by omega) (by simp;omega) ?_))
        intro v' w6 hown' hgrow hat;have N1:=hide (HOWN.out.push BT hws HHO.out (by simpa using hown') hgrow);have N3:=hide (HLS2.out.keep (fun j h1 h2 h3=>HOFF.out.kept hgrow j (by omega) h2 h3));have N6:=hide (HNS2.out.keep (fun j h1 h2 h3=>HOFF.out.kept hgrow j h1 (by omega) h3));have N4:=hide ((hnx.trans (BT.mono hws)).grown hgrow (by have:=BT.size;omega) (fun j hj=>(HOWN.out.row.lt j hj).1));have N5:=hide (HOFF.out.next (x':=v') (B:=wb.heap.size) (fun j hj=>by
         rcases hat with h1 | h1
         ·exact .inl (by rw [<-h1];exact hj)
         ·right;rw [h1] at hj;simp at hj;omega) (YA _))
        have hszr:wb.heap.size<=w6.heap.size:=by have:=BT.size;have:=hgrow.size;omega
        obtain⟨va,vc,rfl⟩:=Zac hown';clear hown' hgrow hat BT OW HHO HLS2 HNS2 BA;go_wp2;go_roundw
        case rel=>exact ⟨t+1,_,qs++[(b,.slice bva b.hops.length bvc)],by omega,by omega,by go_num,rfl,N1.out,N2,N5.out,N3.out,N4.out,N6.out,hszr⟩
        case measure=>simp [intOf];omega
    ·have ht6:¬(t:Int)<=6:=by omega
     have HE:=hide (show ZaE (Zbw (fsts ps) al border src) (Zaj qs) from HB.out.congr (fun to d=>⟨fun h=>h.2,fun h=>⟨by have h3:=Zby h;have:=h3.1.node;rw [h3.2] at this;omega,h⟩⟩));have HO:=hide hown;have HN:=hide hnx;clear hown hnx HB hoff hls hfr;go_wp2;go_ret
     first
      | exact ⟨_,qs,rfl,HE.out,HO.out,HN.out⟩
      | exact ⟨_,rfl,qs,HE.out,HO.out,HN.out⟩
def OutK (xs:List RecD)(area src:Int)(k:Nat)(ds:List WayD):Prop:=∀ d,d∈ds↔∃ r∈xs.take k,Zcz xs area src r d
theorem OutK.quiet {area:Int}{k:Nat}{r:RecD}(h:OutK xs area src k ds)(hr:xs[k]? = some r)(hn:∀ d,¬Zcz xs area src r d):OutK xs area src (k+1) ds:=by
 obtain⟨hk,e⟩:=YAD.1 hr;intro d;rw [h d,YAI hk,e];constructor
 ·rintro ⟨x,hx,ht⟩;exact⟨x,YAF.2 (.inl hx),ht⟩
 ·rintro ⟨x,hx,ht⟩;rcases YAF.1 hx with h1 | h1
  ·exact ⟨x,h1,ht⟩
  ·have:x=r:=by simpa using h1
   subst this;exact absurd ht (hn d)
theorem OutK.more {area:Int}{k:Nat}{r:RecD}{d0:WayD}(h:OutK xs area src k ds)(hr:xs[k]? = some r)(hd:Zcz xs area src r d0):OutK xs area src (k+1) (ds++[d0]):=by
 obtain⟨hk,e⟩:=YAD.1 hr;intro d;rw [YAF,h d,YAI hk,e];constructor
 ·rintro (⟨x,hx,ht⟩ | h1)
  ·exact ⟨x,YAF.2 (.inl hx),ht⟩
  ·have:d=d0:=by simpa using h1
   subst this;exact⟨r,YAF.2 (.inr (by simp)),hd⟩
 ·rintro ⟨x,hx,ht⟩;rcases YAF.1 hx with h1 | h1
  ·exact .inl ⟨x,h1,ht⟩
  ·have:x=r:=by simpa using h1
   subst this;obtain⟨_,_,_,v,h4,_,rfl⟩:=ht;obtain⟨_,_,_,v',h4',_,rfl⟩:=hd;rw [h4] at h4';cases h4';exact .inr (by simp)
theorem ZkP {a:Int}{ps:List WP}(h:Zaj ps=ZbE xs a src):totW ps<=42:=by
 have hw:=ZbL xs a src;refine ZgJ ?_ (fun d hd=>(hw.2 d (by rw [<-h];exact hd)).1.len);have:=Zdr hw.1 (fun d hd=>(hw.2 d hd).1.node);rw [<-h] at this;simpa [Zaj] using this
theorem Zrs (W:World)(lo:Nat):WaysOwn W lo W.heap.size (.slice none 0 0) []:=⟨YAZ _ _ _ _,fun k hk=>by simp [Value.ownBlock] at hk,by simp,by simp⟩
theorem ZlQ (v:Value)(ps:List RP)(hi:Nat)(area src:Int)(w:World)(hv:RecsIn w hi v ps)(hhi:hi<=w.heap.size)(hn:tot ps<=1048576):
  Calls Tryz.prog 95 #[v,.int .i64 area,.int .i64 src] w fun e w'=>∃ x qs,e=.returned x/\OutK (fsts ps) area src ps.length (Zaj qs)/\qs.length<=ps.length/\WaysOwn w' w.heap.size w'.heap.size x qs/\Below w.heap.size w w':=by
 have hnl:=Zbj ps;obtain⟨a1,c1,rfl⟩:=Zac hv.row;have HWI:=hide (Ze2 (.slice a1 ps.length c1) ps hi area src w hv hhi hn);have HV:=hide hv;clear hv
 go_enter Tryz.func95,Tryz.ntmps95
 go_wp2_with fail
 refine HWI.out.mono ?_;rintro e w1 ⟨uw,ws,rfl,hws0,how,b1⟩;obtain⟨wsa,wsc,rfl⟩:=Zac how.row;have hws:=hws0.eq;have hwt:totW ws<=1048576:=by have:=ZkP hws;omega
 have hb1:=b1.size;have HWT:=hide (fun (z:Int) (W:World) (hb:Below w1.heap.size w1 W)=>by
  have h:=Zew (.slice wsa ws.length wsc) ws w.heap.size w1.heap.size z W (how.below hb (YA _)) hb.size hwt;rw [hws] at h;exact h)
 clear hws0 how HWI hws hwt;go_wp2
 go_loopw [19,8] (fun i o wr=>∃ (k:Nat) (x:Value) (qs:List WP),k<=ps.length/\i=.int .i64 (k:Int)/\o=x/\WaysOwn wr w1.heap.size wr.heap.size x qs/\Hid (OutK (fsts ps) area src k (Zaj qs))/\qs.length<=k/\Below w1.heap.size w1 wr) (fun i _ _=>ps.length-(intOf i).toNat)
 case atStart=>exact ⟨0,_,[],by omega,rfl,rfl,Zrs _ _,hide (fun d=>by simp [Zaj]),by simp,YAC _ _⟩
 case round=>
  obtain⟨k,x,qs,hk,rfl,rfl,hown,HM,hql,hnx⟩:=hrel;obtain⟨xa,xc,rfl⟩:=Zac hown.row;have hsz:=hnx.size;have BW:Below w.heap.size w wr:=b1.trans (hnx.mono hb1);by_cases hlt:k<ps.length
  ·obtain ⟨p,hp⟩:∃ p,ps[k]? = some p:=⟨ps[k],YAA hlt⟩;obtain⟨bb,off,cap',hve,hbb,c0,c1,c2,c3,c4,c5,c6,c7,hnr⟩:=HV.out.at.cells k p hp;cases hve;obtain⟨pa,pc,hpn⟩:=Zat.shape hnr;rw [hpn] at c5;replace c0:=(BW.cell (YAB hbb hhi)).trans c0;replace c1:=(BW.cell (YAB hbb hhi)).trans c1;replace c2:=(BW.cell (YAB hbb hhi)).trans c2;replace c3:=(BW.cell (YAB hbb hhi)).trans c3;replace c4:=(BW.cell (YAB hbb hhi)).trans c4;replace c5:=(BW.cell (YAB hbb hhi)).trans c5;replace c6:=(BW.cell (YAB hbb hhi)).trans c6;replace c7:=(BW.cell (YAB hbb hhi)).trans c7;have HPP:=hide (Zbf hp);have hpm:p.1∈fsts ps:=YAG (Zbf hp);have BAL:Below wr.heap.size wr (wr.alloc (.cells #[.int .i64 p.1.area,.int .i64 p.1.kind,.int .i64 p.1.owner,.int .i64 p.1.key,.int .i64 p.1.seq,.slice pa p.1.near.length pc,.int .i64 p.1.cost,.bool p.1.far] 37)):=(YAC _ _).alloc (YA _) _;have hxl:=YAE wr (.cells #[.int .i64 p.1.area,.int .i64 p.1.kind,.int .i64 p.1.owner,.int .i64 p.1.key,.int .i64 p.1.seq,.slice pa p.1.near.length pc,.int .i64 p.1.cost,.bool p.1.far] 37);obtain⟨wl,hwl⟩:∃ W,W=(wr.alloc (.cells #[.int .i64 p.1.area,.int .i64 p.1.kind,.int .i64 p.1.owner,.int .i64 p.1.key,.int .i64 p.1.seq,.slice pa p.1.near.length pc,.int .i64 p.1.cost,.bool p.1.far] 37)):=⟨_,rfl⟩;rw [<-hwl] at BAL hxl;have hki:(0:Int)<=(k:Int):=by omega
   have hkj:(k:Int)<(ps.length:Int):=by omega
   clear hp hnr hpn;by_cases hK:p.1.kind=2
   case neg=>
    have hd:(p.1.kind != 2)=true:=by simpa using hK
    have HhK:=hide hK;clear hK;have HN:=hide (show OutK (fsts ps) area src (k+1) (Zaj qs) from HM.out.quiet HPP.out (fun d ht=>HhK.out ht.1));have N1:=hide ((hown.below BAL (YA _)).wide (YA _) BAL.size);have N2:=hide (hnx.trans (BAL.mono hnx.size));rw [hwl] at N1 N2;clear hown HM HPP HWT BAL hwl;go_wp2;go_roundw
    case rel=>exact ⟨k+1,_,qs,by omega,by go_num,rfl,N1.out,HN,by omega,N2.out⟩
    case measure=>simp [intOf];omega
   have hdK:(p.1.kind != 2)=false:=by simpa using hK
   have HhK:=hide hK;clear hK;by_cases hA:p.1.area=area
   case neg=>
    have hd:(p.1.area != area)=true:=by simpa using hA
    have HhA:=hide hA;clear hA;have HN:=hide (show OutK (fsts ps) area src (k+1) (Zaj qs) from HM.out.quiet HPP.out (fun d ht=>HhA.out ht.2.1));have N1:=hide ((hown.below BAL (YA _)).wide (YA _) BAL.size);have N2:=hide (hnx.trans (BAL.mono hnx.size));rw [hwl] at N1 N2;clear hown HM HPP HWT BAL hwl;go_wp2;go_roundw
    case rel=>exact ⟨k+1,_,qs,by omega,by go_num,rfl,N1.out,HN,by omega,N2.out⟩
    case measure=>simp [intOf];omega
   have hdA:(p.1.area != area)=false:=by simpa using hA
   have HhA:=hide hA;clear hA;by_cases hO:p.1.owner=src
   case pos=>
    have hd:(p.1.owner==src)=true:=by simpa using hO
    have HhO:=hide hO;clear hO;have HN:=hide (show OutK (fsts ps) area src (k+1) (Zaj qs) from HM.out.quiet HPP.out (fun d ht=>ht.2.2.1 HhO.out));have N1:=hide ((hown.below BAL (YA _)).wide (YA _) BAL.size);have N2:=hide (hnx.trans (BAL.mono hnx.size));rw [hwl] at N1 N2;clear hown HM HPP HWT BAL hwl;go_wp2;go_roundw
    case rel=>exact ⟨k+1,_,qs,by omega,by go_num,rfl,N1.out,HN,by omega,N2.out⟩
    case measure=>simp [intOf];omega
   have hdO:(p.1.owner==src)=false:=by simpa using hO
   have HhO:=hide hO;clear hO;have hfd:=Zcb (ZbE (fsts ps) area src) p.1.owner;have HW:=HWT.out p.1.owner wl (hnx.trans (BAL.mono hsz));obtain⟨D,hD⟩:∃ D,D=Zbo (ZbE (fsts ps) area src) p.1.owner:=⟨_,rfl⟩;obtain⟨FB,hFB⟩:∃ F,F=Zbk (ZbE (fsts ps) area src) p.1.owner:=⟨_,rfl⟩;rw [<-hD, <-hFB] at HW hfd;have hsl:=BAL.size;have hx2:=Zaa hxl 2;simp at hx2;rw [hwl] at hx2;have HXL:=hide hxl;have HWW:=hide HW;have HFD:=hide hfd;have HOW:=hide hown;have HBL:=hide BAL;unfold wayC at HWW;clear HW hfd hD hFB hown hxl BAL
   go_wp2_with fail
   rw [<-hwl];clear hwl hx2;refine HWW.out.mono ?_;rintro e w3 ⟨du,rfl,hdu,b3⟩;obtain⟨da,dc,rfl⟩:=Zac hdu;have hb3:=b3.size;have hxl3:=(b3.block _ (Zab HXL.out)).trans HXL.out;have hwl3:=Zab HXL.out;have B3:Below wr.heap.size wr w3:=HBL.out.trans (b3.mono hsl);have hx4:=YAE w3 (.cells #[.int .i64 D.to,.int .i64 D.cost,.slice da D.hops.length dc] 108);have B4:Below wr.heap.size wr (w3.alloc (.cells #[.int .i64 D.to,.int .i64 D.cost,.slice da D.hops.length dc] 108)):=B3.trans (((YAC w3.heap.size w3).alloc (YA _) _).mono (by omega));have hxl4:=(((YAC w3.heap.size w3).alloc (YA _) (.cells #[.int .i64 D.to,.int .i64 D.cost,.slice da D.hops.length dc] 108)).block _ (Zab hxl3)).trans hxl3;have d1:=Zaa hx4 1;have d2:=Zaa hx4 2;have r3:=Zaa hxl4 3;have r6:=Zaa hxl4 6;simp at d1 d2 r3 r6;have HB4:=hide B4;have HDU:=hide hdu;have hsz4:(w3.alloc (.cells #[.int .i64 D.to,.int .i64 D.cost,.slice da D.hops.length dc] 108)).heap.size=w3.heap.size+1:=by simp
   have HSZ4:=hide hsz4;clear hdu b3 hxl3 hx4 hxl4 B3 B4 HWW HXL HBL hsz4;cases FB
   ·have HN:=hide (show OutK (fsts ps) area src (k+1) (Zaj qs) from HM.out.quiet HPP.out (fun d ht=>by
     obtain⟨_,_,_,v,h4,_⟩:=ht;rcases HFD.out with ⟨h1,_⟩ | ⟨_,h2⟩
     ·cases h1
     ·rw [h2] at h4;cases h4))
    have N1:=hide ((HOW.out.below HB4.out (YA _)).wide (YA _) HB4.out.size);have N2:=hide (hnx.trans (HB4.out.mono hsz));clear HM HPP HFD HWT HOW HB4 HDU HSZ4 d1 d2 r3 r6;go_wp2;go_roundw
    case rel=>exact ⟨k+1,_,qs,by omega,by go_num,rfl,N1.out,HN,by omega,N2.out⟩
    case measure=>simp [intOf];omega
   ·have hfound:ZaV (ZbE (fsts ps) area src) p.1.owner=some D:=by
     rcases HFD.out with ⟨_,h2⟩ | ⟨h1,_⟩
     ·exact h2
     ·cases h1
    have hDm:=(ZaM hfound).1;have hDg:=(ZbL (fsts ps) area src).2 D hDm;have hrb:=ZeE (ZcU hDm).1 hpm HhK.out;have hD0:=hDg.1.cost;have hDc:=hDg.2;have hD6:=hDg.1.len;by_cases hsum:D.cost+p.1.cost<60000
    ·have htell:Zcz (fsts ps) area src p.1 ⟨p.1.key,D.cost+p.1.cost,D.hops⟩:=⟨HhK.out,HhA.out,HhO.out,D,hfound,hsum,rfl⟩;have HN:=hide (HM.out.more HPP.out htell);have BN:Below (w3.alloc (.cells #[.int .i64 D.to,.int .i64 D.cost,.slice da D.hops.length dc] 108)).heap.size (w3.alloc (.cells #[.int .i64 D.to,.int .i64 D.cost,.slice da D.hops.length dc] 108)) ((w3.alloc (.cells #[.int .i64 D.to,.int .i64 D.cost,.slice da D.hops.length dc] 108)).alloc (.cells #[.int .i64 p.1.key,.int .i64 (D.cost+p.1.cost),.slice da D.hops.length dc] 108)):=(YAC _ _).alloc (YA _) _;have BT:Below wr.heap.size wr ((w3.alloc (.cells #[.int .i64 D.to,.int .i64 D.cost,.slice da D.hops.length dc] 108)).alloc (.cells #[.int .i64 p.1.key,.int .i64 (D.cost+p.1.cost),.slice da D.hops.length dc] 108)):=HB4.out.trans (BN.mono HB4.out.size);have OW:=hide (((Zad HOW.out.row HB4.out (YA _))).alloc (.cells #[.int .i64 p.1.key,.int .i64 (D.cost+p.1.cost),.slice da D.hops.length dc] 108));have hdu2:((w3.alloc (.cells #[.int .i64 D.to,.int .i64 D.cost,.slice da D.hops.length dc] 108)).alloc (.cells #[.int .i64 p.1.key,.int .i64 (D.cost+p.1.cost),.slice da D.hops.length dc] 108)).ownsRow wl.heap.size 3 1 (.slice da D.hops.length dc) D.hops.length (flat intE D.hops):=(HDU.out.alloc _).alloc _;have HHO:=hide (show ZbA ((w3.alloc (.cells #[.int .i64 D.to,.int .i64 D.cost,.slice da D.hops.length dc] 108)).alloc (.cells #[.int .i64 p.1.key,.int .i64 (D.cost+p.1.cost),.slice da D.hops.length dc] 108)) wr.heap.size ((w3.alloc (.cells #[.int .i64 D.to,.int .i64 D.cost,.slice da D.hops.length dc] 108)).alloc (.cells #[.int .i64 p.1.key,.int .i64 (D.cost+p.1.cost),.slice da D.hops.length dc] 108)).heap.size (⟨p.1.key,D.cost+p.1.cost,D.hops⟩,.slice da D.hops.length dc) from ⟨Zaf hdu2 hsl,fun j hj=>(hdu2.lt j hj).2⟩);have HBT:=hide BT;have hq2:=hql;clear htell hfound hDm hDg HM HPP HFD HWT HB4 HDU BN BT hdu2
     go_wp2_with (first
      | (at_builtin;refine ZaL Zbg (by omega) (by omega) _ rfl _ _ 102 rfl w1.heap.size 108 Tryz.underlying102 (.agg (wayC Zbl (.slice none 0 0))) rfl Tryz.infoWay _ qs (⟨p.1.key,D.cost+p.1.cost,D.hops⟩,.slice da D.hops.length dc) (Zdh _ _ _ _) rfl OW.out ⟨w3.heap.size+1,0,none⟩ 1 rfl (fun j u hj=>by
        have h:=Zan (w:=(w3.alloc (.cells #[.int .i64 D.to,.int .i64 D.cost,.slice da D.hops.length dc] 108))) (cs:=encW ((⟨p.1.key,D.cost+p.1.cost,D.hops⟩:WayD),Value.slice da D.hops.length dc)) (t:=108) j u hj;rw [HSZ4.out] at h;exact h) (by omega) (by simp;omega) ?_))
     intro v' w6 hown' hgrow;have N1:=hide (HOW.out.push HBT.out hsz HHO.out (by simpa using hown') hgrow);have N2:=hide ((hnx.trans (HBT.out.mono hsz)).grown hgrow (by have:=HBT.out.size;omega) (fun j hj=>(HOW.out.row.lt j hj).1));have HN2:=hide (show OutK (fsts ps) area src (k+1) (Zaj (qs++[((⟨p.1.key,D.cost+p.1.cost,D.hops⟩:WayD),Value.slice da D.hops.length dc)])) by
      have e:Zaj (qs++[((⟨p.1.key,D.cost+p.1.cost,D.hops⟩:WayD),Value.slice da D.hops.length dc)])=Zaj qs++[⟨p.1.key,D.cost+p.1.cost,D.hops⟩]:=by simp [Zaj]
      rw [e];exact HN.out)
     obtain⟨va,vc,rfl⟩:=Zac hown';clear hown' hgrow HOW OW HHO HBT HN HSZ4;go_wp2;go_roundw
     case rel=>exact ⟨k+1,_,qs++[((⟨p.1.key,D.cost+p.1.cost,D.hops⟩:WayD),Value.slice da D.hops.length dc)],by omega,by go_num,rfl,N1.out,HN2,by simp;omega,N2.out⟩
     case measure=>simp [intOf];omega
    ·have HN:=hide (show OutK (fsts ps) area src (k+1) (Zaj qs) from HM.out.quiet HPP.out (fun d ht=>by
      obtain⟨_,_,_,v,h4,h5,_⟩:=ht;rw [hfound] at h4;cases h4;exact hsum h5))
     have N1:=hide ((HOW.out.below HB4.out (YA _)).wide (YA _) HB4.out.size);have N2:=hide (hnx.trans (HB4.out.mono hsz));clear HM HPP HFD HWT HOW HB4 HDU HSZ4 hfound hDm hDg;go_wp2;go_roundw
     case rel=>exact ⟨k+1,_,qs,by omega,by go_num,rfl,N1.out,HN,by omega,N2.out⟩
     case measure=>simp [intOf];omega
  ·have hkn:¬(k:Int)<(ps.length:Int):=by omega
   have hkk:k=ps.length:=by omega
   have HE:=hide (show OutK (fsts ps) area src ps.length (Zaj qs) by rw [<-hkk];exact HM.out);have HO:=hide (hown.wide (lo':=w.heap.size) hb1 (YA _));have hq2:qs.length<=ps.length:=by omega
   have HB:=hide BW;clear hown HM hkk hnx BW;go_wp2;go_ret
   first
    | exact ⟨_,qs,rfl,HE.out,hq2,HO.out,HB.out⟩
    | exact ⟨_,rfl,qs,HE.out,hq2,HO.out,HB.out⟩
theorem ZoT (W:World)(lo:Nat)(hb:lo<=W.heap.size):WaysOwn (W.alloc (.cells #[] 108)) lo (W.alloc (.cells #[] 108)).heap.size (.slice (some ⟨W.heap.size,0,none⟩) 0 0) []:=Zf0 W lo hb
theorem Ze3 (v u:Value)(ps:List RP)(al:List Int)(hi:Nat)(src:Int)(w:World)(hv:RecsIn w hi v ps)(ha:ZaI w u al hi)(hhi:hi<=w.heap.size)(hn:tot ps<=1048576)(hal:al.length<=1048576):
  Calls Tryz.prog 61 #[v,u,.int .i64 src] w fun e w'=>∃ x qs,e=.returned x/\ZaE (Zaq (fsts ps) al src) (Zaj qs)/\WaysOwn w' w.heap.size w'.heap.size x qs/\Below w.heap.size w w':=by
 obtain⟨a1,c1,rfl⟩:=Zac hv.row;obtain⟨a2,c2,rfl⟩:=ha.shape;have BX:Below w.heap.size w (w.alloc (.cells #[] 108)):=(YAC _ _).alloc (YA _) _;have LIT:=ZoT w w.heap.size (YA _);have hs0:(w.alloc (.cells #[] 108)).heap.size=w.heap.size+1:=by simp
 obtain⟨w0,hw0⟩:∃ W,W=w.alloc (.cells #[] 108):=⟨_,rfl⟩;rw [<-hw0] at BX LIT hs0;have HRE:=hide (ZmG (.slice a2 al.length c2) al hi w0 hal (Zav.later ha BX hhi) (by omega));have HWI:=hide (fun area W (hb:Below w.heap.size w W)=>Ze2 (.slice a1 ps.length c1) ps hi area src W (hv.below hb hhi) (YAK hhi hb.size) hn);clear hv ha;have HLIT:=hide LIT;clear LIT;obtain⟨L,hL⟩:∃ L,L=Zdc al 3:=⟨_,rfl⟩;have hLl:L.length<=3:=by rw [hL];exact Zeh al 3
 have HFIN:=hide (show ∀ to d,Zaq (fsts ps) L src to d↔Zaq (fsts ps) al src to d from fun to d=>ZjK (fun a h1 h2=>by rw [hL,Zhq];exact⟨fun h=>h.1,fun h=>⟨h,h1,h2⟩⟩) to d);rw [<-hL] at HRE;clear hL
 go_enter Tryz.func61,Tryz.ntmps61
 go_wp2_with fail
 rw [<-hw0];clear hw0;refine HRE.out.mono ?_;rintro e w1 ⟨ra,rfl,hra,b1⟩;obtain⟨raa,rac,rfl⟩:=Zac hra.row;have b1s:=b1.size;have B1:Below w.heap.size w w1:=BX.trans (b1.mono BX.size);have HO1:=hide ((HLIT.out.below b1 (YA _)).wide (YA _) b1s);have HRA:=hide hra;clear hra HLIT HRE b1;go_wp2
 go_loopw [16,7] (fun i o wr=>∃ (k:Nat) (x:Value) (qs:List WP),k<=L.length/\i=.int .i64 (k:Int)/\o=x/\WaysOwn wr w.heap.size wr.heap.size x qs/\Hid (ZaE (Zaq (fsts ps) (L.take k) src) (Zaj qs))/\Off x w0.heap.size w1.heap.size/\IntsOwn wr w0.heap.size w1.heap.size (.slice raa L.length rac) L/\Below w.heap.size w wr/\w1.heap.size<=wr.heap.size) (fun i _ _=>L.length-(intOf i).toNat)
 case atStart=>exact ⟨0,_,[],by omega,rfl,rfl,HO1.out,hide (Zct (fun to d ⟨_,a,h,_⟩=>by simp at h)),fun b hb=>by simp [Value.ownBlock] at hb;omega,HRA.out,B1,YA _⟩
 case round=>
  obtain⟨k,x,qs,hk,rfl,rfl,hown,HB,hoff,hra,hnx,hsz⟩:=hrel;clear HO1 HRA;obtain⟨xa,xc,rfl⟩:=Zac hown.row
  rename World=>wa
  by_cases hlt:k<L.length
  ·obtain ⟨area,har⟩:∃ a,L[k]? = some a:=⟨L[k],YAA hlt⟩;obtain⟨b,off,cap',hve,hbb,c0⟩:=hra.at.cell k area har;cases hve;have hki:(0:Int)<=(k:Int):=by omega
   have hkj:(k:Int)<(L.length:Int):=by omega
   have HOWN:=hide hown;have HOFF:=hide hoff;have HRA:=hide hra;have HAR:=hide har;clear hown hoff hra har
   go_wp2_with fail
   refine (HWI.out area _ hnx).mono ?_;rintro e w2 ⟨uw,ws,rfl,hws,how,b2⟩;obtain⟨wsa,wsc,rfl⟩:=Zac how.row;have hwl:=(ZbL (fsts ps) area src);have hwe:=hws.eq;have hwn:ws.length<=6:=by
    have:=Zdr hwl.1 (fun d hd=>(hwl.2 d hd).1.node);rw [<-hwe] at this;simpa [Zaj] using this
   have hb2:=b2.size;have ST0:=PutSt.start HOWN.out HB.out HOFF.out hsz hnx.size b2 how;have RA2:=HRA.out.below b2 hsz;have B2:Below w.heap.size w w2:=hnx.trans (b2.mono hnx.size);have HWE:=hide hwe;have HST0:=hide ST0;have HRA2:=hide RA2;clear hws how hwe hwl ST0 RA2 HOWN HOFF HRA HB b2;go_wp2
   go_loopw [25,7] (fun i o wr=>∃ (j:Nat) (x:Value) (qs:List WP),j<=ws.length/\i=.int .i64 (j:Int)/\o=x/\PutSt wr w.heap.size w0.heap.size w1.heap.size wa.heap.size w2.heap.size (fun to d=>Zaq (fsts ps) (L.take k) src to d\/(d.to=to/\d∈(Zaj ws).take j)) x qs (.slice wsa ws.length wsc) ws j/\IntsOwn wr w0.heap.size w1.heap.size (.slice (some ⟨b,off,none⟩) L.length rac) L/\Below w.heap.size w wr/\w2.heap.size<=wr.heap.size) (fun i _ _=>ws.length-(intOf i).toNat)
   case atStart=>exact ⟨0,_,qs,by omega,rfl,rfl, { HST0.out with best:=HST0.out.best.congr (fun to d=>⟨.inl,by rintro (h | ⟨_,h⟩);exact h;simp at h⟩) },HRA2.out,B2,YA _⟩
   case round=>
    obtain⟨j,y,qs2,hj,rfl,rfl,st,hra2,hnx2,hsz2⟩:=hrel;clear HST0 HRA2 B2;obtain⟨ya,yc,rfl⟩:=Zac st.own.row;have hS:∀ to d,(Zaq (fsts ps) (L.take k) src to d\/(d.to=to/\d∈(Zaj ws).take j))->GoodW d/\d.to=to:=by
     rintro to d (h | ⟨h1,h2⟩)
     ·exact Za1 h
     ·exact ⟨((ZbL (fsts ps) area src).2 d (by rw [<-HWE.out];exact YAj h2)).1,h1⟩
    by_cases hjl:j<ws.length
    ·obtain ⟨r,hr⟩:∃ r,ws[j]? = some r:=⟨ws[j],YAA hjl⟩;obtain⟨b3,off3,cp3,hve,hbb3,c0,c1,c2,_⟩:=st.from_.at.cells j r hr;cases hve;have hgr:GoodW r.1:=((ZbL (fsts ps) area src).2 r.1 (by rw [<-HWE.out];simp only [Zaj,YAR];exact⟨r,YAG hr,rfl⟩)).1;have hji:(0:Int)<=(j:Int):=by omega
     have hjj:(j:Int)<(ws.length:Int):=by omega
     obtain⟨rra,rrc,hrn⟩:=Zac (st.from_.nears r (YAG hr)).1;rw [hrn] at c2;have hgd:=st.good hS;have hT:∀ to d,((Zaq (fsts ps) (L.take k) src to d\/(d.to=to/\d∈(Zaj ws).take j))\/(d=r.1/\r.1.to=to))↔(Zaq (fsts ps) (L.take k) src to d\/(d.to=to/\d∈(Zaj ws).take (j+1))):=by
      intro to d;rw [Zbz (ZcQ hr)];constructor
      ·rintro ((h | ⟨h1,h2⟩) | ⟨h1,h2⟩)
       ·exact .inl h
       ·exact .inr ⟨h1,.inl h2⟩
       ·exact .inr ⟨by rw [h1];exact h2,.inr h1⟩
      ·rintro (h | ⟨h1,h2 | h2⟩)
       ·exact .inl (.inl h)
       ·exact .inl (.inr ⟨h1,h2⟩)
       ·exact .inr ⟨h2,by rw [<-h2];exact h1⟩
     have BA:Below wr.heap.size wr (wr.alloc (.cells #[.int .i64 r.1.to,.int .i64 r.1.cost,.slice rra r.1.hops.length rrc] 108)):=(YAC _ _).alloc (YA _) _;obtain⟨w3,hw3⟩:∃ W,W=wr.alloc (.cells #[.int .i64 r.1.to,.int .i64 r.1.cost,.slice rra r.1.hops.length rrc] 108):=⟨_,rfl⟩;rw [<-hw3] at BA;have st3:=st.below BA;have ra3:=hra2.below BA (by omega);have B3:Below w.heap.size w w3:=hnx2.trans (BA.mono hnx2.size);have hs3:=BA.size;have HPW:=Zin (.slice ya qs2.length yc) qs2 w.heap.size r w3 st3.own B3.size (by omega) (fun p hp=>by have:=hgd.2 p hp;omega) (by have:=hgr.len;omega) st3.best.1 (st3.hop hr) (st3.apartR hr);unfold wayC at HPW;rw [hrn] at HPW;have HNX:=hide (fun (W':World) (x':Value) (qs':List WP) (hp:PutD (Zaj qs2) r.1 (Zaj qs')) (ho:WaysOwn W' w.heap.size W'.heap.size x' qs') (hf:ZeS w3.heap.size qs2 r qs') hn (hg:w3.grownBy W' (Value.slice ya qs2.length yc).ownBlock)=>(⟨st3.put hr hS hgr hT hp ho hf hn hg,ra3.keep (st3.offR.kept hg),B3.grown hg B3.size (fun b hb=>(st3.own.row.lt b hb).1),hg.size⟩:_/\_/\_/\_));have HP:=hide HPW;clear HPW hgd hT hS hr hrn st st3 hra2 ra3 hgr
     go_wp2_with fail
     rw [<-hw3];clear hw3;refine HP.out.mono ?_;rintro e w4 ⟨x',qs',rfl,hp,ho,hf,hn',hg⟩;obtain⟨n1,n2,n3,n4⟩:=HNX.out w4 x' qs' hp ho hf hn' hg;obtain⟨x'a,x'c,rfl⟩:=Zac ho.row;have N1:=hide n1;have N2:=hide n2;have N3:=hide n3;clear n1 n2 n3 hp ho hf hn' hg HNX HP;go_wp2;go_roundw
     case rel=>exact ⟨j+1,_,qs',by omega,by go_num,rfl,N1.out,N2.out,N3.out,by omega⟩
     case measure=>simp [intOf];omega
    ·have hjn:¬(j:Int)<(ws.length:Int):=by omega
     have HBX:=hide (show ZaE (Zaq (fsts ps) (L.take (k+1)) src) (Zaj qs2) from st.best.congr (fun to d=>by
      rw [Zen HAR.out,show (Zaj ws).take j=Zaj ws from YAL (by simp [Zaj];omega),HWE.out]))
     have HOX:=hide st.own;have HFX:=hide st.offR;have HRX:=hide hra2;have HNX:=hide hnx2;have hsf:w1.heap.size<=wr.heap.size:=by omega
     clear st hra2 hnx2 hS;go_wp2;go_roundw
     case rel=>exact ⟨k+1,_,qs2,by omega,by go_num,rfl,HOX.out,HBX,HFX.out,HRX.out,HNX.out,hsf⟩
     case measure=>simp [intOf];omega
  ·have hkn:¬(k:Int)<(L.length:Int):=by omega
   have HE:=hide (show ZaE (Zaq (fsts ps) al src) (Zaj qs) from by
    have h:=HB.out;rw [YAL (by omega)] at h;exact h.congr HFIN.out)
   have HO:=hide hown;have HN:=hide hnx;clear hown hnx HB hoff hra;go_wp2;go_ret
   first
    | exact ⟨_,qs,rfl,HE.out,HO.out,HN.out⟩
    | exact ⟨_,rfl,qs,HE.out,HO.out,HN.out⟩
def ownD (ds es:List WayD)(src o:Int):WayD:=(ZcO ds es src o).getD Zbl
def ownB (ds es:List WayD)(src o:Int):Bool:=(ZcO ds es src o).isSome
theorem ZqT (ds es:List WayD)(src o:Int):(ownB ds es src o=true/\ZcO ds es src o=some (ownD ds es src o))\/(ownB ds es src o=false/\ZcO ds es src o=none/\ownD ds es src o=Zbl):=by
 unfold ownB ownD;cases e:ZcO ds es src o with
 | none=>exact .inr ⟨rfl,rfl,rfl⟩
 | some w=>exact .inl ⟨rfl,rfl⟩
theorem ZqV (ds es:List WayD)(src:Int):ownD ds es src src=⟨src,0,[]⟩/\ownB ds es src src=true:=by
 unfold ownD ownB ZcO;rw [if_pos rfl];exact⟨rfl,rfl⟩
theorem ZqS {es:List WayD}{o:Int}(h:o≠src):ownD ds es src o=Zbo (ds++es) o/\ownB ds es src o=Zbk (ds++es) o:=by
 unfold ownD ownB ZcO;rw [if_neg h];exact⟨rfl,rfl⟩
theorem Zr6 {W:World}{z:Nat}{c0 c1 c2:Value}(B:Nat)(x:WayD)(v:Value)(hz:W.heap[z]? = some (.cells #[c0,c1,c2] 108))(ho:W.ownsRow B 3 1 v x.hops.length (flat intE x.hops)):
  (Za8 W z x v).heap[z]? = some (.cells (wayC x v) 108)/\(Za8 W z x v).ownsRow B 3 1 v x.hops.length (flat intE x.hops)/\Below z W (Za8 W z x v):=by
 have G:=Za2 W z x v;refine⟨Zds x v hz,Zal ho (fun k hk=>G.block k (ho.lt k hk).2 (fun e=>Zar ho hz (by decide) (by rw [hk];exact e.symm))),(YAC z W).grown G ?_ (fun k hk=>by simp at hk;omega)⟩;have:=Zab hz;omega
theorem Znh (v:Value)(cs:List WP)(ds es:List WayD)(hc:Zaj cs=ds++es)(o src:Int)(w:World)
  (H1:∀ W,Below w.heap.size w W->Calls Tryz.prog 86 #[v,.int .i64 o] W fun e w'=>∃ u,e=.returned (.tuple #[.agg (wayC (Zbo (Zaj cs) o) u),.bool (Zbk (Zaj cs) o)])/\w'.ownsRow W.heap.size 3 1 u (Zbo (Zaj cs) o).hops.length (flat intE (Zbo (Zaj cs) o).hops)/\Below W.heap.size W w') (hsh:∃ a n c,v=.slice a n c):
  Calls Tryz.prog 96 #[v,.int .i64 o,.int .i64 src] w fun e w'=>∃ x,e=.returned (.tuple #[.agg (wayC (ownD ds es src o) x),.bool (ownB ds es src o)])/\w'.ownsRow w.heap.size 3 1 x (ownD ds es src o).hops.length (flat intE (ownD ds es src o).hops)/\Below w.heap.size w w':=by
 obtain⟨a1,n1,c1,rfl⟩:=hsh;rw [hc] at H1;have HS:=hide (ZqV ds es src);have HB:=hide (ZqS (ds:=ds) (es:=es) (src:=src) (o:=o));obtain⟨D,hD⟩:∃ D,D=ownD ds es src o:=⟨_,rfl⟩;obtain⟨F,hF⟩:∃ F,F=ownB ds es src o:=⟨_,rfl⟩;rw [<-hD, <-hF];have HD:=hide hD;have HF:=hide hF;clear hD hF hc;have BX:Below w.heap.size w (w.alloc (.cells #[.int .i64 0,.int .i64 0,.slice none 0 0] 108)):=(YAC _ _).alloc (YA _) _;have hq:=YAE w (.cells #[.int .i64 0,.int .i64 0,.slice none 0 0] 108);have hs0:=Zab hq;by_cases ho:o=src
 ·subst ho;have hDe:D=⟨o,0,[]⟩:=HD.out.trans HS.out.1;have hFe:F=true:=HF.out.trans HS.out.2;subst hDe hFe;have hd:(o==o)=true:=by simp
  have FF:=hide (YAE w (.cells (wayC ⟨o,0,[]⟩ (.slice none 0 0)) 108));clear H1 HS HB HD HF hq BX hs0;unfold wayC
  go_enter Tryz.func96,Tryz.ntmps96
  go_wp2_with fail
  (try simp only [Exit.inBlock,Exit.then])
  refine bodyPost_ret (ZaR rfl _ _ w.heap.size 108 (wayC ⟨o,0,[]⟩ (.slice none 0 0)) (0,0) _ rfl FF.out Tryz.underlying108 rfl (by kernel_rfl)) rfl ?_;exact⟨.slice none 0 0,rfl,YAZ _ _ _ _,(YAC _ _).alloc (YA _) _⟩
 have hd:(o==src)=false:=by simpa using ho
 have hh:=HB.out ho;have hDe:=HD.out.trans hh.1;have hFe:=HF.out.trans hh.2;rw [<-hDe, <-hFe] at H1;clear ho hh hDe hFe HB HS HD HF;obtain⟨w0,hw0⟩:∃ W,W=w.alloc (.cells #[.int .i64 0,.int .i64 0,.slice none 0 0] 108):=⟨_,rfl⟩;rw [<-hw0] at BX hq hs0;have HC1:=hide (H1 w0 BX);have HQ:=hide hq;have HBX:=hide BX;clear hq H1 BX;unfold wayC at HC1 |-
 go_enter Tryz.func96,Tryz.ntmps96
 go_wp2_with fail
 rw [<-hw0];refine HC1.out.mono ?_;rintro e w2 ⟨x1,rfl,ho1,b1⟩;obtain⟨xa,xc,rfl⟩:=Zac ho1;have hb1:=b1.size;have hz3:=(b1.block _ hs0).trans HQ.out;have hbx:=HBX.out.size;have B2:Below w.heap.size w w2:=HBX.out.trans (b1.mono hbx);have u0:=Zaa hz3 0;have u1:=Zaa hz3 1;have u2:=Zaa hz3 2;simp at u0 u1 u2;have fu:=Zae hz3;have EE:=Zr6 w.heap.size D (.slice xa D.hops.length xc) hz3 (Zaf ho1 (by omega));have FF:=hide EE.1;have OO:=hide EE.2.1;have BB:=hide (B2.trans EE.2.2);clear EE hz3 ho1 b1 HC1 B2 HQ HBX
 go_wp2_with fail
 (try simp only [Exit.inBlock,Exit.then])
 refine bodyPost_ret (ZaR rfl _ _ w.heap.size 108 (wayC D (.slice xa D.hops.length xc)) (0,0) _ rfl FF.out Tryz.underlying108 rfl (by kernel_rfl)) rfl ?_;exact⟨_,rfl,OO.out,BB.out⟩
def ordQ (a b:RtD):Int:=
 if orN [cmpN a.to b.to,cmpN a.kind b.kind]=0 then
  (if a.kind=4 then orN [cmpN a.far b.far,cmpN a.cost b.cost] else if a.kind=3 then orN [0,cmpN a.cost b.cost] else 0)
 else orN [cmpN a.to b.to,cmpN a.kind b.kind]
theorem Zpa (x y:Int):orN [x,y]=if x=0 then y else x:=by
 unfold orN orN orN
 split
 ·split
  ·rename_i h;exact h.symm
  ·rfl
 ·rfl
def farQ (a:RtD):Int:=if a.kind=4 then a.far else 0
def Zj3 (a:RtD):Int:=if a.kind=4\/a.kind=3 then a.cost else 0
theorem ZiR (a b:Int):cmpN a b<0↔a<b:=by
 unfold cmpN
 split
 ·omega
 ·split <;> omega
theorem ZeX (a b:Int):cmpN a b=0↔a=b:=by
 unfold cmpN
 split
 ·omega
 ·split <;> omega
theorem Zjm (a b:RtD):ordQ a b<0↔a.to<b.to\/(a.to=b.to/\(a.kind<b.kind\/(a.kind=b.kind/\(farQ a<farQ b\/(farQ a=farQ b/\Zj3 a<Zj3 b))))):=by
 unfold ordQ;simp only [Zpa];have t1:=ZiR a.to b.to;have t2:=ZeX a.to b.to;have k1:=ZiR a.kind b.kind;have k2:=ZeX a.kind b.kind;have f1:=ZiR a.far b.far;have f2:=ZeX a.far b.far;have c1:=ZiR a.cost b.cost;by_cases e1:cmpN a.to b.to=0
 ·have e1':=t2.1 e1;simp only [e1,if_true];by_cases e2:cmpN a.kind b.kind=0
  ·have e2':=k2.1 e2;simp only [e2,if_true];unfold farQ Zj3;rw [<-e2'];by_cases h4:a.kind=4
   ·simp only [h4,if_true,true_or,true_and];by_cases e3:cmpN a.far b.far=0
    ·have e3':=f2.1 e3;simp only [e3,if_true];omega
    ·have:a.far≠b.far:=fun h=>e3 (f2.2 h);simp only [e3,if_false];omega
   ·simp only [h4,if_false,false_or];by_cases h3:a.kind=3
    ·simp only [h3,if_true,true_and];omega
    ·simp only [h3,if_false];omega
  ·have:a.kind≠b.kind:=fun h=>e2 (k2.2 h);simp only [e2,if_false];omega
 ·have:a.to≠b.to:=fun h=>e1 (t2.2 h);simp only [e1,if_false];omega
theorem Zr5 (a b:RtD):ordQ a b=0↔a.to=b.to/\a.kind=b.kind/\farQ a=farQ b/\Zj3 a=Zj3 b:=by
 unfold ordQ;simp only [Zpa];have t2:=ZeX a.to b.to;have k2:=ZeX a.kind b.kind;have f2:=ZeX a.far b.far;have c1:=ZeX a.cost b.cost;by_cases e1:cmpN a.to b.to=0
 ·have e1':=t2.1 e1;simp only [e1,if_true];by_cases e2:cmpN a.kind b.kind=0
  ·have e2':=k2.1 e2;simp only [e2,if_true];unfold farQ Zj3;rw [<-e2'];by_cases h4:a.kind=4
   ·simp only [h4,if_true,true_or,true_and];by_cases e3:cmpN a.far b.far=0
    ·have e3':=f2.1 e3;simp only [e3,if_true];omega
    ·have e3':a.far≠b.far:=fun h=>e3 (f2.2 h);simp only [e3,if_false];exact⟨fun h=>h.elim,fun h=>e3' (by omega)⟩
   ·simp only [h4,if_false,false_or];by_cases h3:a.kind=3
    ·simp only [h3,if_true,true_and];omega
    ·simp only [h3,if_false];simp [e1']
  ·have e2':a.kind≠b.kind:=fun h=>e2 (k2.2 h);simp only [e2,if_false];exact⟨fun h=>h.elim,fun h=>e2' h.2.1⟩
 ·have e1':a.to≠b.to:=fun h=>e1 (t2.2 h);simp only [e1,if_false];exact⟨fun h=>h.elim,fun h=>e1' h.1⟩
abbrev QS:=RtD × Option Addr × Nat × Nat
instance:Inhabited QS:=⟨(Zf3,none,0,0)⟩
def qsP (p:QS):QP:=(p.1,.slice p.2.1 p.2.2.1 p.2.2.2)
def encS (p:QS):List Value:=encQ (qsP p)
def cfS (p q:QS):Int:=ordQ p.1 q.1
theorem swoS :Go.Sort.SWO (Go.Proofs.ltOf cfS) where
 irrefl x:=by unfold Go.Proofs.ltOf cfS;rw [decide_eq_false_iff_not,Zjm];omega
 trans x y z h1 h2:=by
  unfold Go.Proofs.ltOf cfS at *;rw [YAS,Zjm] at *;omega
 ntrans x y z h1 h2:=by
  unfold Go.Proofs.ltOf cfS at *;rw [decide_eq_false_iff_not,Zjm] at *;omega
def wOf (q:RtD):WayD:=⟨q.to,if q.kind=4 then 4000000000000+q.far*1000000+q.cost else 3000000000000+q.cost,q.hops⟩
structure OffR (q:RtD):Prop where
 thing:q.thing=true
 kind:q.kind=3/\q.far=0\/q.kind=4
 cost:0<=q.cost/\q.cost<=61000
 far:0<=q.far/\q.far<=1000
 asc:q.hops.Pairwise (· < ·)
 hop6:Hop6 q.hops
 node:1<=q.to/\q.to<=9
theorem OffR.rt (h:OffR q):rtOf (wOf q)=q:=by
 obtain⟨h1,h3,h4,h5,_,_,_⟩:=h;obtain⟨th,to,kind,cost,fa,hops⟩:=q;simp only at h1 h3 h4 h5;subst h1;unfold rtOf wOf;rcases h3 with ⟨h3,h6⟩ | h3
 ·subst h3;subst h6;simp only [show ¬((3:Int)=4) by omega,if_false];rw [if_pos (by omega)];congr 1;omega
 ·subst h3;simp only [if_true];rw [if_neg (by omega)];congr 1 <;> omega
theorem OffR.lt {a:RtD}(ha:OffR a)(hb:OffR b):ordQ a b<0↔a.to<b.to\/(a.to=b.to/\(wOf a).cost<(wOf b).cost):=by
 rw [Zjm];unfold wOf farQ Zj3;have h1:=ha.kind;have h2:=hb.kind;have h3:=ha.cost;have h4:=hb.cost;have h5:=ha.far;have h6:=hb.far;rcases h1 with ⟨h1,g1⟩ | h1 <;> rcases h2 with ⟨h2,g2⟩ | h2 <;> simp only [h1,h2,if_true,show ¬((3:Int)=4) by omega,show ¬((4:Int)=3) by omega,if_false,or_true,true_or,true_and,false_and,or_false,and_false] <;> first | omega | (constructor <;> intro h <;> first | exact h.elim | omega)
theorem OffR.eq {a:RtD}(ha:OffR a)(hb:OffR b):ordQ a b=0↔a.to=b.to/\(wOf a).cost=(wOf b).cost:=by
 rw [Zr5];unfold wOf farQ Zj3;have h1:=ha.kind;have h2:=hb.kind;have h3:=ha.cost;have h4:=hb.cost;have h5:=ha.far;have h6:=hb.far;rcases h1 with ⟨h1,g1⟩ | h1 <;> rcases h2 with ⟨h2,g2⟩ | h2 <;> simp only [h1,h2,if_true,show ¬((3:Int)=4) by omega,show ¬((4:Int)=3) by omega,if_false,or_true,true_or,true_and,false_and,or_false,and_false] <;> first | omega | (constructor <;> intro h <;> first | exact h.elim | omega)
def Zf4 (qs:List RtD):Prop:=qs.Pairwise (fun a b=>¬ordQ b a<0)
def ZcP (qs:List RtD)(bs:List RtD):Prop:=ZaE (fun to d=>∃ q∈qs,d=wOf q/\q.to=to) (bs.map wOf)
theorem Zm3 (h:∀ x∈ds,x.to<d.to)(to:Int):ZaV (ds++[d]) to=if to=d.to then ZfI togI (ZaV ds to) (some d) else ZaV ds to:=by
 rw [Zd3];by_cases e:to=d.to
 ·rw [if_pos e];subst e;have h1:ZaV ds d.to=none:=by
   cases e:ZaV ds d.to with
   | none=>rfl
   | some x=>have:=ZaM e;have:=h x this.1;omega
  rw [h1];simp [ZaV,ZfI]
 ·rw [if_neg e];have h2:ZaV [d] to=none:=by simp [ZaV];omega
  rw [h2];simp
theorem Zf8 (h:AscW (ds++[d])):ZaV (ds++[d]) d.to=some d:=ZbP h (by simp)
theorem Zn3 {e:WayD}(h:AscW (ds++[d]))(he:e.to=d.to):AscW (ds++[e]):=by
 unfold AscW at *;rw [YAM] at *;refine⟨h.1,by simp,fun x hx y hy=>?_⟩;have:y=e:=by simpa using hy
 subst this;rw [he];exact h.2.2 x hx d (by simp)
theorem Zm4 {e:WayD}(he:e.to=d.to){to:Int}(hn:to≠d.to):ZaV (ds++[e]) to=ZaV (ds++[d]) to:=by
 rw [Zd3,Zd3];have h1:ZaV [d] to=none:=by simp [ZaV];omega
 have h2:ZaV [e] to=none:=by simp [ZaV];omega
 rw [h1,h2]
theorem ZjG (hq:∀ q∈qs,OffR q):∀ to w,(∃ q∈qs,w=wOf q/\q.to=to)->Hop6 w.hops:=by
 rintro to w ⟨q,hq',rfl,_⟩;exact (hq q hq').hop6
theorem ZeV  (h:ZaE (fun to d=>(∃ x∈qs,d=wOf x/\x.to=to)\/(d=wOf q/\(wOf q).to=to)) ds):ZaE (fun to d=>∃ x∈qs++[q],d=wOf x/\x.to=to) ds:=
 h.congr (fun to d=>by
  constructor
  ·rintro (⟨x,h1,h2⟩ | ⟨h1,h2⟩)
   ·exact ⟨x,YAF.2 (.inl h1),h2⟩
   ·exact ⟨q,by simp,h1,h2⟩
  ·rintro ⟨x,h1,h2⟩;rcases YAF.1 h1 with h3 | h3
   ·exact .inl ⟨x,h3,h2⟩
   ·have:x=q:=by simpa using h3
    subst this;exact .inr h2)
theorem ZcP.push (h:ZcP qs bs)(hq:∀ x∈qs,OffR x)(ho:OffR q)(hlt:∀ b∈bs,b.to<q.to):ZcP (qs++[q]) (bs++[q]):=by
 unfold ZcP at *;refine ZeV (h.putT Zjw (ZjG hq) ho.asc ho.hop6 ?_ ?_)
 ·rw [YAf];unfold AscW;rw [YAM];refine⟨h.1,by simp,fun x hx y hy=>?_⟩;obtain⟨b,hb,rfl⟩:=YAR.1 hx;have:y=wOf q:=by simpa using hy
  subst this;exact hlt b hb
 ·intro to;rw [YAf];exact Zm3 (fun x hx=>by
   obtain⟨b,hb,rfl⟩:=YAR.1 hx;exact hlt b hb) to
theorem ZcP.join (h:ZcP qs (bs++[b]))(hq:∀ x∈qs,OffR x)(hb:OffR b)(ho:OffR q)(he:ordQ b q=0):ZcP (qs++[q]) (bs++[{ b with hops:=Zcr b.hops q.hops }]):=by
 have e:=(hb.eq ho).1 he;unfold ZcP at *;rw [YAf] at h |-;simp only [List.map_cons,List.map_nil] at h |-
 obtain⟨j,hj⟩:∃ j,j=wOf { b with hops:=Zcr b.hops q.hops }:=⟨_,rfl⟩;have hjt:j.to=(wOf b).to:=by rw [hj];rfl
 have hl:j=togI (wOf b) (wOf q):=by
  rw [hj];unfold togI Zbr;rw [if_neg (by simp;omega),if_neg (by simp;omega)];rfl
 rw [<-hj];have hA:=Zn3 h.1 hjt;refine ZeV (h.putT Zjw (ZjG hq) ho.asc ho.hop6 hA ?_);intro to;by_cases e2:to=(wOf q).to
 ·rw [if_pos e2];have h1:to=(wOf b).to:=e2.trans e.1.symm;subst h1;rw [Zf8 h.1, <-hjt,Zf8 hA,hl];rfl
 ·rw [if_neg e2];exact Zm4 hjt (by rw [show (wOf b).to=(wOf q).to from e.1];exact e2)
theorem ZcP.pass (h:ZcP qs (bs++[b]))(hq:∀ x∈qs,OffR x)(hb:OffR b)(ho:OffR q)(ht:b.to=q.to)(he:ordQ b q<0):ZcP (qs++[q]) (bs++[b]):=by
 have e:=(hb.lt ho).1 he;unfold ZcP at *;have hA:=h.1;refine ZeV (h.putT Zjw (ZjG hq) ho.asc ho.hop6 hA ?_);intro to;by_cases e2:to=(wOf q).to
 ·rw [if_pos e2];subst e2;have h1:(wOf q).to=(wOf b).to:=ht.symm;rw [YAf] at hA |-;simp only [List.map_cons,List.map_nil] at hA |-
  rw [h1,Zf8 hA];show some (wOf b)=some (togI (wOf b) (wOf q));unfold togI Zbr;rw [if_pos (by simp;omega)]
 ·rw [if_neg e2]

end Go.Proofs.YtikloccefmofdaaGreat
