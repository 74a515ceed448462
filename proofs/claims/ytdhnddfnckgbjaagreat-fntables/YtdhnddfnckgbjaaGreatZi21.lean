/-
  Parts.
-/
import Derived.Test.YtdhnddfnckgbjaaGreatZi20
namespace Go.Proofs.YtdhnddfnckgbjaaGreat
open Go.RowKit
set_option linter.unusedSimpArgs false
set_option linter.unusedVariables false
set_option maxRecDepth 100000
set_option maxHeartbeats 8000000
variable {F far:Bool}{c key kind src:Int}{l:List Int}{xs:List RecD}{bs qs:List RtD}{ws:List WP}{ds es:List WayD}{k:Nat}{r:RecD}{b q:RtD}{d e:WayD}{S:WayD->Prop}{W:World}
theorem ZjD {al:List Int}(h:ZaA (ZaI xs al src) ds)(to:Int):(Zbb ds to=true/\∃ y,ZaI xs al src to y)\/(Zbb ds to=false/\∀ y,¬ZaI xs al src to y):=by
 have hb:=h.2 to;rcases ZcZ ds to with ⟨h1,h2⟩ | ⟨h1,h2⟩
 ·rw [h2] at hb;obtain⟨_,⟨y,hy,_⟩,_⟩:=hb;exact .inl ⟨h1,y,hy⟩
 ·rw [h2] at hb;exact .inr ⟨h1,hb⟩
theorem Zdq {S:Int->WayD->Prop}{qs:List WP}(h:ZaA S (Zam qs))(hS:∀ to w,S to w->GoodW w/\w.to=to):totW qs<=42:=
 ZjU (by have h2:=ZeJ h.1 (fun d hd=>(h.good hS d hd).node);simpa [Zam] using h2) (fun d hd=>(h.good hS d hd).len)
theorem ZfG {to:Int}{T:WayD->Prop}{E:WayD}{fv:Value}(h:Zfk to S E fv)(e:∀ d,S d↔T d):Zfk to T E fv:=by
 obtain⟨F,h1,h2⟩:=h;exact⟨F,h1,h2.congr e⟩
theorem Zgd (v u:Value)(ps:List RP)(al:List Int)(hi:Nat)(border:Bool)(src:Int)(w:World)(hv:RecsIn w hi v ps)(ha:Zal w u al hi)(hhi:hi<=w.heap.size)(hn:tot ps<=1048576)(hal:al.length<=1048576):
  Calls Tryz.prog 85 #[v,u,.bool border,.int .i64 src] w fun e w'=>∃ x qs,e=.returned x/\ZaA (Zb0 (fsts ps) al border src) (Zam qs)/\WaysOwn w' w.heap.size w'.heap.size x qs/\Below w.heap.size w w':=by
 obtain⟨a1,c1,rfl⟩:=Zac hv.row;obtain⟨a2,c2,rfl⟩:=ha.shape;have LIT:=ZhR w w.heap.size (YA _);have hs1:(w.alloc (.cells #[] 144)).heap.size=w.heap.size+1:=by simp
 have B1:Below w.heap.size w (w.alloc (.cells #[] 144)):=(YAB _ _).alloc (YA _) _;obtain⟨w1,hw1⟩:∃ W,W=w.alloc (.cells #[] 144):=⟨_,rfl⟩;rw [<-hw1] at LIT hs1 B1;have HWN:=hide (Zef (.slice a1 ps.length c1) (.slice a2 al.length c2) ps al hi src w1 (hv.below B1 hhi) (Zau.later ha B1 hhi) (YAG hhi B1.size) hn hal);have HSK:=hide (fun W (hb:Below w.heap.size w W)=>ZcM (.slice a1 ps.length c1) ps W hn (ZbT.more ((hv.below hb hhi).at) (YAG hhi hb.size)));have HWI:=hide (fun area W (hb:Below w.heap.size w W)=>Zee (.slice a1 ps.length c1) ps hi area src W (hv.below hb hhi) (YAG hhi hb.size) hn);have HL7:=hide (fun (uw:Value) (ws:List WP) (lo2 hi2 lo:Nat) (area to:Int) (b0:WayD) (bv0:Value) (F0:Bool) (W:World) (S0:WayD->Prop) (hb:Below w.heap.size w W) hw hh2 hws hst hbo hS0 hb0 hlo hl0=>ZnH (.slice a1 ps.length c1) uw ps ws hi lo2 hi2 lo area src to b0 bv0 F0 W S0 (hv.below hb hhi) (YAG hhi hb.size) hn hw hh2 hws hst hbo hS0 hb0 hlo hl0);have HA:=hide ha;clear hv ha;have HLIT:=hide LIT;have HS1:=hide hs1;clear LIT hs1;obtain⟨SB,hSB⟩:∃ b,b=ZaN (fsts ps):=⟨_,rfl⟩;rw [<-hSB] at HSK;have HSB:=hide hSB;clear hSB
 go_enter Tryz.func85,Tryz.ntmps85
 go_wp2_with fail
 rw [<-hw1];clear hw1;refine HWN.out.mono ?_;rintro e wn ⟨un,ns,rfl,hbn,hon,bn⟩;obtain⟨nsa,nsc,rfl⟩:=Zac hon.row;have hbns:=bn.size;have hB1s:=B1.size;have BWN:Below w.heap.size w wn:=B1.trans (bn.mono hB1s);have HLN:=hide ((HLIT.out.below bn (YA _)));have hnt:totW ns<=1048576:=by have:=Zdq hbn (fun to d h=>ZaL h);omega
 have HNT:=hide (fun (z:Int) (W:World) (hw:WaysOwn W w1.heap.size wn.heap.size (.slice nsa ns.length nsc) ns) (hh:wn.heap.size<=W.heap.size)=>ZbY (.slice nsa ns.length nsc) ns w1.heap.size wn.heap.size z W hw hh hnt);have HON:=hide hon;have HHAS:=hide (fun to=>ZjD hbn to);clear HWN HLIT bn hbn hon hnt
 go_wp2_with fail
 refine (HSK.out _ BWN).mono ?_;rintro e ws0 ⟨rfl,bs⟩;have hbs:=bs.size;have BWS:Below w.heap.size w ws0:=BWN.trans (bs.mono BWN.size);have BN0:Below w1.heap.size w1 w1:=YAB _ _;cases SB
 ·have HE:=hide (show ZaA (Zb0 (fsts ps) al border src) (Zam []) from Zc9 (fun to d ⟨_,a,_,_,h⟩=>by have:=(Zis h).1;rw [<-HSB.out] at this;cases this));have HO:=hide ((HLN.out.below bs (by omega)).wide (YA _) (show w1.heap.size<=ws0.heap.size by omega));have HN:=hide BWS;clear HLN HNT HHAS HWI HL7 HSK bs BWS BWN HON;go_wp2;go_ret
  first
   | exact ⟨_,[],rfl,HE.out,HO.out,HN.out⟩
   | exact ⟨_,rfl,[],HE.out,HO.out,HN.out⟩
 have LS:=ZmC ws0 ws0.heap.size (YA _);have B0:Below ws0.heap.size ws0 (ws0.alloc (.cells #[] 139)):=(YAB _ _).alloc (YA _) _;obtain⟨w0,hw0⟩:∃ W,W=ws0.alloc (.cells #[] 139):=⟨_,rfl⟩;rw [<-hw0] at LS B0;have HLS:=hide LS;have HLO:=hide ((HLN.out.below bs (by omega)));have HBS:=hide bs;clear LS HSK HLN bs;go_wp2;rw [<-hw0];clear hw0
 go_loopw [12,11] (fun i o wr=>∃ (k:Nat) (y:Value) (ls:List LP),k<=al.length/\i=.int .i64 (k:Int)/\o=y/\WLs wr ws0.heap.size wr.heap.size y ls/\Hid (Zbp (fsts ps) src (al.take k) ls)/\Below ws0.heap.size ws0 wr) (fun i _ _=>al.length-(intOf i).toNat)
 case atStart=>exact ⟨0,_,[],by omega,rfl,rfl,HLS.out,hide (by simp [Zbp]),B0⟩
 case round=>
  obtain⟨k,y,ls,hk,rfl,rfl,hls,HAW,hnx⟩:=hrel;clear HLS B0;obtain⟨ya,yc,rfl⟩:=Zac hls.row;have hlen:ls.length=k:=by have:=HAW.out.len;rw [List.length_take,Nat.min_eq_left hk] at this;exact this
  have BW:Below w.heap.size w wr:=BWS.trans (hnx.mono BWS.size);have hws:=BW.size;by_cases hlt:k<al.length
  ·obtain ⟨area,har⟩:∃ a,al[k]? = some a:=⟨al[k],YAA hlt⟩;obtain⟨b,off,cap',hve,hbb,c0⟩:=HA.out.cell k area har;cases hve;replace c0:=(BW.cell (by show b<w.heap.size;omega)).trans c0;have hki:(0:Int)<=(k:Int):=by omega
   have hkj:(k:Int)<(al.length:Int):=by omega
   have HLS:=hide hls;have HAR:=hide har;have HLEN:=hide hlen;clear hls har hlen
   go_wp2_with fail
   refine (HWI.out area _ BW).mono ?_;rintro e w2 ⟨uw,ws,rfl,hws2,how,b2⟩;obtain⟨wsa,wsc,rfl⟩:=Zac how.row;have hb2:=b2.size;have HWE:=hide (hws2.eq);have BA:Below w2.heap.size w2 (w2.alloc (.cells #[.slice wsa ws.length wsc] 139)):=(YAB _ _).alloc (YA _) _;have OWA:=hide ((Zad HLS.out.row b2 (YA _)).alloc (.cells #[.slice wsa ws.length wsc] 139));have HOW:=hide how;clear hws2 how
   go_wp2_with (first
    | (at_builtin;refine ZaG ZfN (by omega) (by omega) _ rfl _ _ 164 rfl ws0.heap.size 139 Tryz.underlying164 (.slice none 0 0) rfl Tryz.infoWayS _ ls (.slice wsa ws.length wsc,ws) (fun q hq=>by simp [Zhr] at hq;subst hq;rfl) rfl OWA.out ⟨w2.heap.size,0,none⟩ 1 rfl (Zak (cs:=Zhr (.slice wsa ws.length wsc,ws))) (by have:=HLEN.out;omega) (by simp;have:=hnx.size;omega) ?_))
   intro v' w4 hown' hgrow hat;have BB:Below wr.heap.size wr (w2.alloc (.cells #[.slice wsa ws.length wsc] 139)):=b2.trans (BA.mono hb2);have N1:=hide (HLS.out.push BB ((HOW.out.below BA (YA _)).wide hnx.size BA.size) (by simpa using hown') hgrow);have N2:=hide (HAW.out.push (p:=(.slice wsa ws.length wsc,ws)) HAR.out HWE.out);have N3:=hide ((hnx.trans (BB.mono hnx.size)).grown hgrow (by have:=BB.size;have:=hnx.size;omega) (fun j hj=>(HLS.out.row.lt j hj).1));obtain⟨va,vc,rfl⟩:=Zac hown';clear hown' hgrow hat BB OWA HOW HLS BA b2;go_wp2;go_roundw
   case rel=>exact ⟨k+1,_,ls++[(.slice wsa ws.length wsc,ws)],by omega,by go_num,rfl,N1.out,N2,N3.out⟩
   case measure=>simp [intOf];omega
  ·have hkn:¬(k:Int)<(al.length:Int):=by omega
   have HAL:=hide (show Zbp (fsts ps) src al ls by have h:=HAW.out;rw [YAc (by omega)] at h;exact h);have HO:=hide ((HLO.out.below hnx (by omega)).wide (YA _) (show w1.heap.size<=wr.heap.size by have:=hnx.size;omega));have HLS:=hide hls
   rename World=>wb
   have hwb:=hnx.size;have HNB:=hide (HON.out.below (HBS.out.trans (hnx.mono hbs)) (YA _));clear hls HAW hlen HLO hnx HBS HON;go_wp2
   go_loopw [13,9] (fun i o wr=>∃ (t:Nat) (x:Value) (qs:List WP),1<=t/\t<=7/\i=.int .i64 (t:Int)/\o=x/\WaysOwn wr w.heap.size wr.heap.size x qs/\Hid (ZaA (fun to d=>to<(t:Int)/\Zb0 (fsts ps) al border src to d) (Zam qs))/\Off x w1.heap.size wb.heap.size/\WLs wr ws0.heap.size wb.heap.size (.slice ya ls.length yc) ls/\Below w.heap.size w wr/\WaysOwn wr w1.heap.size wn.heap.size (.slice nsa ns.length nsc) ns/\wb.heap.size<=wr.heap.size) (fun i _ _=>8-(intOf i).toNat)
   case atStart=>exact ⟨1,_,[],by omega,by omega,rfl,rfl,HO.out,hide (Zc9 (fun to d ⟨h1,h2⟩=>by have h3:=(ZaU h2);have:=h3.1.node;rw [h3.2] at this;omega)),fun b hb=>by simp [Value.ownBlock] at hb;have:=HS1.out;omega,HLS.out,BW,HNB.out,YA _⟩
   case round=>
    obtain⟨t,x,qs,ht1,ht7,rfl,rfl,hown,HB,hoff,hls,hnx,hfr,hsz⟩:=hrel;clear HO HLS BW hws HNB;obtain⟨xa,xc,rfl⟩:=Zac hown.row
    rename World=>wt
    by_cases ht:t<=6
    ·have ht6:(t:Int)<=6:=by omega
     have HOWN:=hide hown;have HLS:=hide hls;have HOFF:=hide hoff;have HFR:=hide hfr;have hq6:qs.length<=6:=by
      have h:=ZeJ HB.out.1 (fun d hd=>(HB.out.good (fun to d h=>ZaU h.2) d hd).node);simpa [Zam] using h
     have HNW:=hide (HNT.out (t:Int) wt hfr (by omega));have hh:=HHAS.out (t:Int);obtain⟨D,hD⟩:∃ D,D=ZbE (Zam ns) (t:Int):=⟨_,rfl⟩;obtain⟨FB,hFB⟩:∃ F,F=Zbb (Zam ns) (t:Int):=⟨_,rfl⟩;rw [<-hD, <-hFB] at HNW;rw [<-hFB] at hh;have HH:=hide hh;unfold wayC at HNW;clear hown hls hoff hfr hh hD hFB
     go_wp2_with fail
     refine HNW.out.mono ?_;rintro e w3 ⟨du,rfl,hdu,b3⟩;obtain⟨da,dc,rfl⟩:=Zac hdu;have hb3:=b3.size;have B4:Below wt.heap.size wt (w3.alloc (.cells #[.int .i64 D.to,.int .i64 D.cost,.slice da D.hops.length dc] 144)):=b3.trans (((YAB w3.heap.size w3).alloc (YA _) _).mono hb3);have hs4:(w3.alloc (.cells #[.int .i64 D.to,.int .i64 D.cost,.slice da D.hops.length dc] 144)).heap.size=w3.heap.size+1:=by simp
     obtain⟨w4,hw4⟩:∃ W,W=w3.alloc (.cells #[.int .i64 D.to,.int .i64 D.cost,.slice da D.hops.length dc] 144):=⟨_,rfl⟩;rw [<-hw4] at B4 hs4;have HS4:=hide hs4;have hB4:=B4.size;have HB4:=hide B4;clear hdu b3 HNW B4 hs4;cases FB
     case true=>
      have hyes:∃ y,ZaI (fsts ps) al src (t:Int) y:=by
       rcases HH.out with ⟨_,h2⟩ | ⟨h1,_⟩
       ·exact h2
       ·cases h1
      have N1:=hide ((HOWN.out.below HB4.out (YA _)).wide (YA _) HB4.out.size);have N2:=hide (show ZaA (fun to d=>to<((t+1:Nat):Int)/\Zb0 (fsts ps) al border src to d) (Zam qs) from by
       have h:=HB.out.skip (S:=Zb0 (fsts ps) al border src) (t:=(t:Int)) (fun d hd=>by obtain ⟨y,hy⟩:=hyes;exact hd.1 y hy);rw [show ((t+1:Nat):Int)=(t:Int)+1 by omega];exact h)
      have N3:=hide (HLS.out.below HB4.out hsz);have N4:=hide (hnx.trans (HB4.out.mono hnx.size));have N5:=hide (HFR.out.below HB4.out (by omega));have hszr:wb.heap.size<=w4.heap.size:=by omega
      rw [hw4] at N1 N3 N4 N5 hszr;clear HB4 HS4 hyes HH HOWN HLS HFR hw4;go_wp2;go_roundw
      case rel=>exact ⟨t+1,_,qs,by omega,by omega,by go_num,rfl,N1.out,N2,HOFF.out,N3.out,N4.out,N5.out,hszr⟩
      case measure=>simp [intOf];omega
     have hno:∀ y,¬ZaI (fsts ps) al src (t:Int) y:=by
      rcases HH.out with ⟨h1,_⟩ | ⟨_,h2⟩
      ·cases h1
      ·exact h2
     have HNO:=hide hno;have BXZ:BoxT (w4.alloc (.cells #[.int .i64 0,.int .i64 0,.slice none 0 0] 144)) w4.heap.size w4.heap.size Zce (.slice none 0 0):=⟨YAE _ _,YAj _ _ _ _,by simp [Zce]⟩;have BWZ:Below w4.heap.size w4 (w4.alloc (.cells #[.int .i64 0,.int .i64 0,.slice none 0 0] 144)):=(YAB _ _).alloc (YA _) _;obtain⟨wz,hwz⟩:∃ W,W=w4.alloc (.cells #[.int .i64 0,.int .i64 0,.slice none 0 0] 144):=⟨_,rfl⟩;rw [<-hwz] at BXZ BWZ;have HBX:=hide BXZ;have hlow:wt.heap.size<=w4.heap.size:=hB4;clear BXZ hno HH;go_wp2;rw [<-hw4,show w3.heap.size+1=w4.heap.size from HS4.out.symm, <-hwz];clear hwz hw4
     go_loopw [18,17] (fun i f wr=>∃ (k:Nat) (b:WayD) (bv:Value),k<=al.length/\i=.int .i64 (k:Int)/\BoxT wr w4.heap.size w4.heap.size b bv/\Zfk (t:Int) (Zgh (fsts ps) (al.take k) border src (t:Int)) b f/\Below w4.heap.size w4 wr) (fun i _ _=>al.length-(intOf i).toNat)
     case atStart=>exact ⟨0,_,_,by omega,rfl,HBX.out,Zfk.of (F:=false) (fun d ⟨a,h,_⟩=>by simp at h),BWZ⟩
     case round=>
      obtain⟨k,b,bv,hk,rfl,hbx,hbv,hbel⟩:=hrel;clear HBX BWZ;obtain⟨F,hf,HBO0⟩:=hbv
      rename_i fv0
      subst hf;have HBO:=hide HBO0;clear HBO0;have B4R:Below wt.heap.size wt wr:=HB4.out.trans (hbel.mono hlow);have BWR:Below w.heap.size w wr:=hnx.trans (B4R.mono hnx.size);have hzlt:=Zab hbx.box;obtain⟨bva,bvc,rfl⟩:=Zac hbx.own;have hzb:=hbx.box;unfold wayC at hzb;have e0:=Zaa hzb 0;have e1:=Zaa hzb 1;have e2:=Zaa hzb 2;simp at e0 e1 e2;by_cases hlt:k<al.length
      ·obtain ⟨area,har⟩:∃ a,al[k]? = some a:=⟨al[k],YAA hlt⟩;obtain⟨ba,boff,bcap,hvea,hbba,ca⟩:=HA.out.cell k area har;cases hvea;replace ca:=(BWR.cell (by show ba<w.heap.size;omega)).trans ca;obtain⟨p,hp,hpw⟩:=HAL.out.at har;have hls2:=HLS.out.below B4R hsz;obtain⟨g,cap',hve,cg,hgb,hgw⟩:=hls2.cell hp;cases hve;have hpo:=hls2.ways p (YAF hp);have hki:(0:Int)<=(k:Int):=by omega
       have hkj:(k:Int)<(al.length:Int):=by omega
       have hkl:(k:Int)<(ls.length:Int):=by rw [HAL.out.len];omega
       have HAR:=hide har;have hskip:Zh4 border area\/¬Zh4 border area:=Classical.em _;rcases hskip with hby | hby
       case inr=>
        have hbt:border=true:=by
         cases border
         ·exact absurd (fun h=>by cases h) hby
         ·rfl
        have hne:area≠0:=fun h=>hby (fun _=>h);have hd:(area != 0)=true:=by simpa using hne
        have HN:=hide (show Zfk (t:Int) (Zgh (fsts ps) (al.take (k+1)) border src (t:Int)) b (.bool F) from Zfk.of (HBO.out.congr (fun d=>by
         rw [Zg4 HAR.out];exact⟨.inl,by rintro (h | ⟨h,_⟩);exact h;exact absurd h hby⟩)))
        have N1:=hide hbx;subst hbt;clear hbx hby hne HBO hzb e0 e1 e2 hp hpw hls2 hpo har;go_wp2;go_roundw
        case rel=>exact ⟨k+1,b,_,by omega,by go_num,N1.out,HN.out,hbel⟩
        case measure=>simp [intOf];omega
       have BD:Below wr.heap.size wr wr.drew:=(YAB _ _).drew;have HCL:=hide (HL7.out p.1 p.2 ws0.heap.size wb.heap.size w4.heap.size area (t:Int) b (.slice bva b.hops.length bvc) F wr.drew (Zgh (fsts ps) (al.take k) border src (t:Int)) (BWR.trans (BD.mono BWR.size)) (hpo.below BD (by omega)) (by show wb.heap.size<=wr.heap.size;omega) hpw HSB.out.symm HBO.out (fun d h=>ZkV h) (Zad hbx.own BD (YA _)) (by show w4.heap.size<=wr.heap.size;omega) hbx.len);unfold wayC at HCL;have HST:=hide (show ∀ d,(Zgh (fsts ps) (al.take k) border src (t:Int) d\/outS (fsts ps) (fsts ps) area src (t:Int) d)↔Zgh (fsts ps) (al.take (k+1)) border src (t:Int) d from fun d=>by
        rw [Zg4 HAR.out];exact⟨by rintro (h | h);exact .inl h;exact .inr ⟨hby,h⟩,by rintro (h | ⟨_,h⟩);exact .inl h;exact .inr h⟩)
       have HBXX:=hide hbx;have HBEL:=hide hbel;have hgz:g≠w4.heap.size:=by omega
       have hbz:ba≠w4.heap.size:=by omega
       have hgr2:g<wr.heap.size:=hgw;have hbr2:ba<wr.heap.size:=by omega
       have hS0:wr.drew.cell? ⟨g,k,none⟩=some p.1/\wr.drew.cell? ⟨ba,boff+k,none⟩=some (.int .i64 area):=⟨cg,ca⟩;have e0':wr.drew.cell? ⟨w4.heap.size,0,none⟩=some (.int .i64 b.to):=e0;have e1':wr.drew.cell? ⟨w4.heap.size,1,none⟩=some (.int .i64 b.cost):=e1;have e2':wr.drew.cell? ⟨w4.heap.size,2,none⟩=some (.slice bva b.hops.length bvc):=e2;have harm:∀ (bd:Bool),bd=border->True:=fun _ _=>trivial;have hda:border=false\/(border=true/\(area != 0)=false):=by
        cases border
        ·exact .inl rfl
        ·exact .inr ⟨rfl,by simpa using hby rfl⟩
       clear hbx hby HBO hp hpw hls2 hpo har hzb e0 e1 e2 BD hbel harm;rcases hda with hbd | ⟨hbd,hdz⟩
       ·subst hbd
        go_wp2_with fail
        refine wp_region_noPanic ?_;refine Zah (S:=fun W=>W.cell? ⟨g,k,none⟩=some p.1/\W.cell? ⟨ba,boff+k,none⟩=some (.int .i64 area)) (by kernel_rfl) 19 rfl hS0 ?_;intro ops hops hSS;refine Zlj _ _ _ _ _ _ _ _ _ _ _ _ _ _ _ _ _ _ _ _ _ _ _ _ _ _ _ _ _ _ _ _ _ _ _ _ _ _ _ _ _ _ _ _ _ _ _ _ _ _ _ _ _ _ _ _ _ _ _ _ _ _ _ _ _ _ _ _ _ _ _ _ _ _ _ _ _ _ _ _ _ _ _ _ _ _ wr.drew _ p.1 (.bool F) g ls.length yc ba boff al.length c2 w4.heap.size k area src (t:Int) b bva b.hops.length bvc (fun W E u fv=>Zfk (t:Int) (Zgh (fsts ps) (al.take (k+1)) false src (t:Int)) E fv/\(∃ l,W.ownsRow w4.heap.size 3 1 u l (flat intE E.hops)/\l=E.hops.length)/\E.hops.length<=6/\Below wr.heap.size wr W) _ ops hops (fun _ _ _ _ h=>h) hki hkl hkj hSS e0' e1' e2' hgz hbz (hide (HCL.out.mono ?_)) ?_ ?_ ?_ ?_
        ·rintro e w5 ⟨E,u5,fv5,rfl,hb5,ho5,hl5,bl5⟩;obtain⟨ua,uc,rfl⟩:=Zac ho5;exact⟨E,ua,E.hops.length,uc,fv5,rfl,ZfG hb5 HST.out,⟨_,ho5,rfl⟩,hl5,((YAB _ _).drew).trans bl5⟩
        ·rintro W E u5 fv5 ⟨_,_,_,hb⟩;exact⟨(hb.cell (p:=⟨g,k,none⟩) hgr2).trans hS0.1,(hb.cell (p:=⟨ba,boff+k,none⟩) hbr2).trans hS0.2⟩
        ·rintro W E u5 fv5 ⟨_,_,_,hb⟩;have hx:=(HBXX.out.below hb).box;unfold wayC at hx;have y0:=Zaa hx 0;have y1:=Zaa hx 1;have y2:=Zaa hx 2;simp at y0 y1 y2;exact⟨_,_,_,y0,y1,y2⟩
        ·rintro W E u5 fv5 ⟨_,_,_,hb⟩ j;exact Zae (HBXX.out.below hb).box j
        ·rintro W E ua ul uc fv5 ⟨hbv5,⟨l,ho5,hl5⟩,h6,hb⟩;refine NoPanic.normal ?_;subst hl5;obtain⟨ua2,uc2,he2⟩:=Zac ho5;cases he2;have N1:=hide ((HBXX.out.below hb).put (d:=E) ho5 h6);have N2:=hide hbv5;have hwr:w4.heap.size<=wr.heap.size:=by omega
         have N3:=hide (((HBEL.out.trans (hb.mono hwr)).grown (ZbH W w4.heap.size E (.slice ua E.hops.length uc)) (by have:=hb.size;omega) (fun j hj=>by simp at hj;omega)));clear hops ops hSS HCL HBXX HBEL hbv5 ho5 hb hS0 e0' e1' e2';go_wp2;go_roundw
         case rel=>exact ⟨k+1,E,_,by omega,by go_num,N1.out,N2.out,N3.out⟩
         case measure=>simp [intOf];omega
       ·subst hbd
        go_wp2_with fail
        refine wp_region_noPanic ?_;refine Zah (S:=fun W=>W.cell? ⟨g,k,none⟩=some p.1/\W.cell? ⟨ba,boff+k,none⟩=some (.int .i64 area)) (by kernel_rfl) 19 rfl hS0 ?_;intro ops hops hSS;refine Zlj _ _ _ _ _ _ _ _ _ _ _ _ _ _ _ _ _ _ _ _ _ _ _ _ _ _ _ _ _ _ _ _ _ _ _ _ _ _ _ _ _ _ _ _ _ _ _ _ _ _ _ _ _ _ _ _ _ _ _ _ _ _ _ _ _ _ _ _ _ _ _ _ _ _ _ _ _ _ _ _ _ _ _ _ _ _ wr.drew _ p.1 (.bool F) g ls.length yc ba boff al.length c2 w4.heap.size k area src (t:Int) b bva b.hops.length bvc (fun W E u fv=>Zfk (t:Int) (Zgh (fsts ps) (al.take (k+1)) true src (t:Int)) E fv/\(∃ l,W.ownsRow w4.heap.size 3 1 u l (flat intE E.hops)/\l=E.hops.length)/\E.hops.length<=6/\Below wr.heap.size wr W) _ ops hops (fun _ _ _ _ h=>h) hki hkl hkj hSS e0' e1' e2' hgz hbz (hide (HCL.out.mono ?_)) ?_ ?_ ?_ ?_
        ·rintro e w5 ⟨E,u5,fv5,rfl,hb5,ho5,hl5,bl5⟩;obtain⟨ua,uc,rfl⟩:=Zac ho5;exact⟨E,ua,E.hops.length,uc,fv5,rfl,ZfG hb5 HST.out,⟨_,ho5,rfl⟩,hl5,((YAB _ _).drew).trans bl5⟩
        ·rintro W E u5 fv5 ⟨_,_,_,hb⟩;exact⟨(hb.cell (p:=⟨g,k,none⟩) hgr2).trans hS0.1,(hb.cell (p:=⟨ba,boff+k,none⟩) hbr2).trans hS0.2⟩
        ·rintro W E u5 fv5 ⟨_,_,_,hb⟩;have hx:=(HBXX.out.below hb).box;unfold wayC at hx;have y0:=Zaa hx 0;have y1:=Zaa hx 1;have y2:=Zaa hx 2;simp at y0 y1 y2;exact⟨_,_,_,y0,y1,y2⟩
        ·rintro W E u5 fv5 ⟨_,_,_,hb⟩ j;exact Zae (HBXX.out.below hb).box j
        ·rintro W E ua ul uc fv5 ⟨hbv5,⟨l,ho5,hl5⟩,h6,hb⟩;refine NoPanic.normal ?_;subst hl5;obtain⟨ua2,uc2,he2⟩:=Zac ho5;cases he2;have N1:=hide ((HBXX.out.below hb).put (d:=E) ho5 h6);have N2:=hide hbv5;have hwr:w4.heap.size<=wr.heap.size:=by omega
         have N3:=hide (((HBEL.out.trans (hb.mono hwr)).grown (ZbH W w4.heap.size E (.slice ua E.hops.length uc)) (by have:=hb.size;omega) (fun j hj=>by simp at hj;omega)));clear hops ops hSS HCL HBXX HBEL hbv5 ho5 hb hS0 e0' e1' e2';go_wp2;go_roundw
         case rel=>exact ⟨k+1,E,_,by omega,by go_num,N1.out,N2.out,N3.out⟩
         case measure=>simp [intOf];omega
      ·have hkn:¬(k:Int)<(al.length:Int):=by omega
       have HBT:=hide (show Zav (t:Int) (Zb0 (fsts ps) al border src (t:Int)) (if F then some b else none) by
        have h:=HBO.out;rw [YAc (by omega)] at h;exact h.congr (fun d=>⟨fun h=>⟨HNO.out,h⟩,fun h=>h.2⟩))
       cases F
       ·have N1:=hide ((HOWN.out.below B4R (YA _)).wide (YA _) B4R.size);have N2:=hide (show ZaA (fun to d=>to<((t+1:Nat):Int)/\Zb0 (fsts ps) al border src to d) (Zam qs) from by
         have h:=HB.out.skip HBT.out;rw [show ((t+1:Nat):Int)=(t:Int)+1 by omega];exact h)
        have N3:=hide (HLS.out.below B4R hsz);have N5:=hide (HFR.out.below B4R (by omega));have hszr:wb.heap.size<=wr.heap.size:=by have:=B4R.size;omega
        clear hbx HBO HBT hzb e0 e1 e2;go_wp2;go_roundw
        case rel=>exact ⟨t+1,_,qs,by omega,by omega,by go_num,rfl,N1.out,N2,HOFF.out,N3.out,BWR,N5.out,hszr⟩
        case measure=>simp [intOf];omega
       ·have N2:=hide (show ZaA (fun to d=>to<((t+1:Nat):Int)/\Zb0 (fsts ps) al border src to d) (Zam (qs++[(b,.slice bva b.hops.length bvc)])) from by
         have h:=HB.out.push HBT.out;rw [show ((t+1:Nat):Int)=(t:Int)+1 by omega];have e:Zam (qs++[(b,.slice bva b.hops.length bvc)])=Zam qs++[b]:=by simp [Zam]
         rw [e];exact h)
        have BA:Below wr.heap.size wr (wr.alloc (.cells #[.int .i64 b.to,.int .i64 b.cost,.slice bva b.hops.length bvc] 144)):=(YAB _ _).alloc (YA _) _;have BT:Below wt.heap.size wt (wr.alloc (.cells #[.int .i64 b.to,.int .i64 b.cost,.slice bva b.hops.length bvc] 144)):=B4R.trans (BA.mono (by omega));have OW:=hide ((Zad HOWN.out.row B4R (YA _)).alloc (.cells #[.int .i64 b.to,.int .i64 b.cost,.slice bva b.hops.length bvc] 144));have HHO:=hide (show Zch (wr.alloc (.cells #[.int .i64 b.to,.int .i64 b.cost,.slice bva b.hops.length bvc] 144)) wt.heap.size (wr.alloc (.cells #[.int .i64 b.to,.int .i64 b.cost,.slice bva b.hops.length bvc] 144)).heap.size (b,.slice bva b.hops.length bvc) from ⟨Zaf (hbx.own.alloc _) hlow,fun k hk=>((hbx.own.alloc _).lt k hk).2⟩);have HLS2:=hide (HLS.out.below BT hsz);have HNS2:=hide (HFR.out.below BT (by omega));have hws:=hnx.size;clear hbx HBO HBT hzb
        go_wp2_with (first
         | (at_builtin;refine ZaG Zeo (by omega) (by omega) _ rfl _ _ 139 rfl w.heap.size 144 Tryz.underlying139 (.agg (wayC Zce (.slice none 0 0))) rfl Tryz.infoWay _ qs (b,.slice bva b.hops.length bvc) (Zhu _ _ _ _) rfl OW.out ⟨wr.heap.size,0,none⟩ 1 rfl (Zak (cs:=encW (b,.slice bva b.hops.length bvc))) (by omega) (by simp;omega) ?_))
        intro v' w6 hown' hgrow hat;have N1:=hide (HOWN.out.push BT hws HHO.out (by simpa using hown') hgrow);have N3:=hide (HLS2.out.keep (fun j h1 h2 h3=>HOFF.out.kept hgrow j (by omega) h2 h3));have N6:=hide (HNS2.out.keep (fun j h1 h2 h3=>HOFF.out.kept hgrow j h1 (by omega) h3));have N4:=hide ((hnx.trans (BT.mono hws)).grown hgrow (by have:=BT.size;omega) (fun j hj=>(HOWN.out.row.lt j hj).1));have N5:=hide (HOFF.out.next (x':=v') (B:=wb.heap.size) (fun j hj=>by
         rcases hat with h1 | h1
         ·exact .inl (by rw [<-h1];exact hj)
         ·right;rw [h1] at hj;simp at hj;omega) (YA _))
        have hszr:wb.heap.size<=w6.heap.size:=by have:=BT.size;have:=hgrow.size;omega
        obtain⟨va,vc,rfl⟩:=Zac hown';clear hown' hgrow hat BT OW HHO HLS2 HNS2 BA;go_wp2;go_roundw
        case rel=>exact ⟨t+1,_,qs++[(b,.slice bva b.hops.length bvc)],by omega,by omega,by go_num,rfl,N1.out,N2,N5.out,N3.out,N4.out,N6.out,hszr⟩
        case measure=>simp [intOf];omega
    ·have ht6:¬(t:Int)<=6:=by omega
     have HE:=hide (show ZaA (Zb0 (fsts ps) al border src) (Zam qs) from HB.out.congr (fun to d=>⟨fun h=>h.2,fun h=>⟨by have h3:=ZaU h;have:=h3.1.node;rw [h3.2] at this;omega,h⟩⟩));have HO:=hide hown;have HN:=hide hnx;clear hown hnx HB hoff hls hfr;go_wp2;go_ret
     first
      | exact ⟨_,qs,rfl,HE.out,HO.out,HN.out⟩
      | exact ⟨_,rfl,qs,HE.out,HO.out,HN.out⟩
def Za1 (far:Bool)(f c:Int):Int:=if far then 4000000000000+f*1000000+c else 3000000000000+c
def Zgv (far:Bool)(c:Int):Int:=if far then c else 0
def Zhq (far:Bool)(c k:Int):Int:=if far then k else k+c
theorem Zou (far:Bool)(c k:Int):Za1 far (Zgv far c) (Zhq far c k)=ZhF far c k:=by
 unfold Za1 Zgv Zhq ZhF;cases far
 ·simp;omega
 ·simp
structure ThIn (key:Int) (far:Bool) (q:RtD):Prop where
 thing:q.thing=true
 to:q.to=key
 kind:q.kind=if far then 4 else 3
 cost:0<=q.cost/\q.cost<=61000
 far:0<=q.far/\q.far<=1000/\(far=false->q.far=0)
def ZmD (key:Int):RtD:=⟨true,key,3,0,0,[]⟩
def ThSt (key:Int)(far:Bool)(F:Bool)(q:RtD)(S:WayD->Prop):Prop:=
 if F then ThIn key far q/\Zav key S (some ⟨key,Za1 far q.far q.cost,q.hops⟩) else q=ZmD key/\Zav key S none
theorem ThIn.rt (h:ThIn key far q):rtOf ⟨key,Za1 far q.far q.cost,q.hops⟩=q:=by
 obtain⟨h1,h2,h3,h4,h5⟩:=h;obtain⟨th,to,kind,cost,fa,hops⟩:=q;simp only at h1 h2 h3 h4 h5;subst h1;subst h2;subst h3;unfold rtOf Za1;cases far
 ·have h6:fa=0:=h5.2.2 rfl;subst h6;simp only [Bool.false_eq_true,if_false];rw [if_pos (by omega)];congr 1;omega
 ·simp only [if_true];rw [if_neg (by omega)];congr 1 <;> omega
theorem ZmG (ha:l.Pairwise (· < ·))(h6:Hop6 l):addL [] l=l:=
 (ZmJ ha (fun x=>by simp) h6).symm
theorem Zj6 {f f' c':Int}(h0:0<=c)(h1:c<=61000)(h0':0<=c')(h1':c'<=61000)(hf:far=false->f=0)(hf':far=false->f'=0):Za1 far f c<Za1 far f' c'↔f<f'\/(f=f'/\c<c'):=by
 unfold Za1;cases far
 ·have:=hf rfl;have:=hf' rfl;simp only [Bool.false_eq_true,if_false];omega
 ·simp only [if_true];omega
theorem ThSt.less {m:Int}(h:ThSt key far F q S)(hS:∀ w,S w->Hop6 w.hops)(hl:F=true->m<q.far\/(m=q.far/\c<q.cost))
  (hm:0<=m/\m<=1000/\(far=false->m=0)) (hc:0<=c/\c<=61000) (ha:l.Pairwise (· < ·)) (h6:Hop6 l):
  ThSt key far true ⟨true,key,if far then 4 else 3,c,m,l⟩ (fun x=>S x\/x=⟨key,Za1 far m c,l⟩):=by
 unfold ThSt at h |-;rw [if_pos rfl];refine⟨⟨rfl,rfl,rfl,hc,hm⟩,?_⟩;cases F
 ·rw [if_neg (by simp)] at h;exact h.2.add Ze8 hS (w:=⟨key,Za1 far m c,l⟩) rfl ha h6
 ·rw [if_pos rfl] at h;obtain⟨hq,hb⟩:=h;have h1:=hb.add Ze8 hS (w:=⟨key,Za1 far m c,l⟩) rfl ha h6;have h2:Za1 far m c<Za1 far q.far q.cost:=(Zj6 hc.1 hc.2 hq.cost.1 hq.cost.2 hm.2.2 hq.far.2.2).2 (hl rfl);have e:togD ⟨key,Za1 far q.far q.cost,q.hops⟩ ⟨key,Za1 far m c,l⟩=⟨key,Za1 far m c,l⟩:=by
   unfold togD ZbQ;rw [if_neg (by simp;omega),if_pos (by simpa using h2)]
  have h3:ZeZ togD (some ⟨key,Za1 far q.far q.cost,q.hops⟩) (some ⟨key,Za1 far m c,l⟩)=some ⟨key,Za1 far m c,l⟩:=by unfold ZeZ;simp only [];rw [e]
  rw [h3] at h1;exact h1
theorem ThSt.like (h:ThSt key far true q S)(hS:∀ w,S w->Hop6 w.hops)(ha:l.Pairwise (· < ·))(h6:Hop6 l):
  ThSt key far true ⟨true,key,if far then 4 else 3,q.cost,q.far,addL q.hops l⟩ (fun x=>S x\/x=⟨key,Za1 far q.far q.cost,l⟩):=by
 unfold ThSt at h |-;rw [if_pos rfl] at h |-;obtain⟨hq,hb⟩:=h;refine⟨⟨rfl,rfl,rfl,hq.cost,hq.far⟩,?_⟩;have h1:=hb.add Ze8 hS (w:=⟨key,Za1 far q.far q.cost,l⟩) rfl ha h6;have e:togD ⟨key,Za1 far q.far q.cost,q.hops⟩ ⟨key,Za1 far q.far q.cost,l⟩=⟨key,Za1 far q.far q.cost,addL q.hops l⟩:=by
  unfold togD ZbQ;rw [if_neg (by simp),if_neg (by simp)]
 have h3:ZeZ togD (some ⟨key,Za1 far q.far q.cost,q.hops⟩) (some ⟨key,Za1 far q.far q.cost,l⟩)=some ⟨key,Za1 far q.far q.cost,addL q.hops l⟩:=by unfold ZeZ;simp only [];rw [e]
 rw [h3] at h1;exact h1
theorem ThSt.worse {m:Int}(h:ThSt key far true q S)(hS:∀ w,S w->Hop6 w.hops)(hl:¬(m<q.far\/(m=q.far/\c<q.cost)))(hn:¬(m=q.far/\c=q.cost))
  (hm:0<=m/\m<=1000/\(far=false->m=0)) (hc:0<=c/\c<=61000) (ha:l.Pairwise (· < ·)) (h6:Hop6 l):
  ThSt key far true q (fun x=>S x\/x=⟨key,Za1 far m c,l⟩):=by
 unfold ThSt at h |-;rw [if_pos rfl] at h |-;obtain⟨hq,hb⟩:=h;refine⟨hq,?_⟩;have h1:=hb.add Ze8 hS (w:=⟨key,Za1 far m c,l⟩) rfl ha h6;have h2:Za1 far q.far q.cost<Za1 far m c:=(Zj6 hq.cost.1 hq.cost.2 hc.1 hc.2 hq.far.2.2 hm.2.2).2 (by omega);have e:togD ⟨key,Za1 far q.far q.cost,q.hops⟩ ⟨key,Za1 far m c,l⟩=⟨key,Za1 far q.far q.cost,q.hops⟩:=by
  unfold togD ZbQ;rw [if_pos (by simpa using h2)]
 have h3:ZeZ togD (some ⟨key,Za1 far q.far q.cost,q.hops⟩) (some ⟨key,Za1 far m c,l⟩)=some ⟨key,Za1 far q.far q.cost,q.hops⟩:=by unfold ZeZ;simp only [];rw [e]
 rw [h3] at h1;exact h1
theorem ThSt.congr {T:WayD->Prop}(h:ThSt key far F q S)(e:∀ d,S d↔T d):ThSt key far F q T:=by
 have:S=T:=funext fun w=>propext (e w);rw [<-this];exact h
def thK (xs:List RecD)(ds es:List WayD)(src key:Int)(far:Bool)(k:Nat)(d:WayD):Prop:=∃ r∈xs.take k,r.key=key/\r.far=far/\ZbN ds es src r d
theorem Zka (h:xs[k]? = some r)(d:WayD):thK xs ds es src key far (k+1) d↔thK xs ds es src key far k d\/(r.key=key/\r.far=far/\ZbN ds es src r d):=by
 obtain⟨hk,e⟩:=YAD.1 h;unfold thK;rw [YAJ hk,e];constructor
 ·rintro ⟨x,hx,ht⟩;rcases YAH.1 hx with h1 | h1
  ·exact .inl ⟨x,h1,ht⟩
  ·have:x=r:=by simpa using h1
   subst this;exact .inr ht
 ·rintro (⟨x,hx,ht⟩ | ht)
  ·exact ⟨x,YAH.2 (.inl hx),ht⟩
  ·exact ⟨r,YAH.2 (.inr (by simp)),ht⟩
theorem Zcz (h:xs[k]? = some r)(hst:ThSt key far F q (thK xs ds es src key far k))(hn:r.key=key->r.far=far->∀ d,¬ZbN ds es src r d):ThSt key far F q (thK xs ds es src key far (k+1)):=
 hst.congr (fun d=>by
  rw [Zka h];exact⟨.inl,fun h'=>by
   rcases h' with h1 | ⟨h1,h2,h3⟩
   ·exact h1
   ·exact absurd h3 (hn h1 h2 d)⟩)
theorem ZnM (h:xs[k]? = some r)(h1:r.key=key)(h2:r.far=far)(h3:ZbN ds es src r e)(d:WayD):(thK xs ds es src key far k d\/d=e)↔thK xs ds es src key far (k+1) d:=by
 rw [Zka h];constructor
 ·rintro (h' | rfl)
  ·exact .inl h'
  ·exact .inr ⟨h1,h2,h3⟩
 ·rintro (h' | ⟨_,_,h'⟩)
  ·exact .inl h'
  ·exact .inr (Ziq h' h3)
theorem ZoD (hs:ZaN xs=true)(hd:Zeh ds)(he:Zeh es):∀ w,thK xs ds es src key far k w->Hop6 w.hops:=by
 rintro w ⟨r,hr,_,_,h⟩;exact (Zdc hs (List.mem_of_mem_take hr) hd he h).hop6
theorem ZnN :ThSt key far false (ZmD key) (thK xs ds es src key far 0):=by
 unfold ThSt;rw [if_neg (by simp)];exact⟨rfl,fun w ⟨r,hr,_⟩=>by simp at hr⟩
theorem Zk3 (hs:ZaN xs=true)(hd:Zeh ds)(he:Zeh es)(h:ThSt key false true q (thK xs ds es src key false xs.length)):ThIn key false q/\Zav key (Zdl xs ds es src key) (some ⟨key,Za1 false q.far q.cost,q.hops⟩):=by
 unfold ThSt at h;rw [if_pos rfl] at h;obtain⟨hq,h1,⟨u,⟨r,hr,hk,hf,ho⟩,hc⟩,h3,h4,h5⟩:=h;rw [YAX] at hr;have hto:∀ (r:RecD) (w:WayD),ZbN ds es src r w->w.to=r.key:=by rintro r w ⟨_,_,v,_,rfl⟩;rfl
 have hlow:Za1 false q.far q.cost<=3000000061000:=by unfold Za1;simp;have:=hq.cost;omega
 have hfar:∀ (r:RecD) (w:WayD),r∈xs->r.far=true->ZbN ds es src r w->4000000000000<=w.cost:=by
  rintro r w hr hf ho;have hg:=Zdc hs hr hd he ho;obtain⟨h1,h2,v,h3,rfl⟩:=ho;have:=Zd8 hd he h3;have:=Zf8 hs hr h1 h2;show 4000000000000<=ZhF r.far r.cost v.cost;unfold ZhF;rw [if_pos hf];omega
 refine⟨hq,h1,⟨u,⟨by rw [hto r u ho,hk],r,hr,ho⟩,hc⟩,?_,h4,?_⟩
 ·rintro w ⟨e,r',hr',ho'⟩;cases hf':r'.far
  ·exact h3 w ⟨r',by rw [YAX];exact hr',by rw [<-e,hto r' w ho'],hf',ho'⟩
  ·have:=hfar r' w hr' hf' ho';show Za1 false q.far q.cost<=w.cost;omega
 ·intro x;rw [h5 x];constructor
  ·rintro ⟨w,⟨r',hr',hk',hf',ho'⟩,e,hx⟩;rw [YAX] at hr';exact⟨w,⟨by rw [hto r' w ho',hk'],r',hr',ho'⟩,e,hx⟩
  ·rintro ⟨w,⟨e,r',hr',ho'⟩,ec,hx⟩;cases hf':r'.far
   ·exact ⟨w,⟨r',by rw [YAX];exact hr',by rw [<-e,hto r' w ho'],hf',ho'⟩,ec,hx⟩
   ·have:=hfar r' w hr' hf' ho';simp only at ec;omega
theorem Zms {q0:RtD}(h0:ThSt key false false q0 (thK xs ds es src key false xs.length))(h:ThSt key true F q (thK xs ds es src key true xs.length)):ThSt key true F q (Zdl xs ds es src key):=by
 refine h.congr (fun d=>?_);unfold ThSt at h0;rw [if_neg (by simp)] at h0;have hto:∀ (r:RecD) (w:WayD),ZbN ds es src r w->w.to=r.key:=by rintro r w ⟨_,_,v,_,rfl⟩;rfl
 constructor
 ·rintro ⟨r,hr,hk,_,ho⟩;rw [YAX] at hr;exact⟨by rw [hto r d ho,hk],r,hr,ho⟩
 ·rintro ⟨e,r,hr,ho⟩;cases hf:r.far
  ·exact absurd ⟨r,by rw [YAX];exact hr,by rw [<-e,hto r d ho],hf,ho⟩ (h0.2 d)
  ·exact ⟨r,by rw [YAX];exact hr,by rw [<-e,hto r d ho],hf,ho⟩
def ownD (ds es:List WayD)(src o:Int):WayD:=(Zcw ds es src o).getD Zce
def ownB (ds es:List WayD)(src o:Int):Bool:=(Zcw ds es src o).isSome
theorem Zno (ds es:List WayD)(src o:Int):(ownB ds es src o=true/\Zcw ds es src o=some (ownD ds es src o))\/(ownB ds es src o=false/\Zcw ds es src o=none/\ownD ds es src o=Zce):=by
 unfold ownB ownD;cases e:Zcw ds es src o with
 | none=>exact .inr ⟨rfl,rfl,rfl⟩
 | some w=>exact .inl ⟨rfl,rfl⟩
theorem Znp (ds es:List WayD)(src:Int):ownD ds es src src=⟨src,0,[]⟩/\ownB ds es src src=true:=by
 unfold ownD ownB Zcw;rw [if_pos rfl];exact⟨rfl,rfl⟩
theorem ZkM {o:Int}(h:o≠src)(hb:Zbb ds o=true):ownD ds es src o=ZbE ds o/\ownB ds es src o=true:=by
 unfold ownD ownB Zcw;rw [if_neg h,Zb9];unfold Zbb at hb;unfold ZbE ZaR;cases e:ds.find? (fun x=>x.to==o) with
 | none=>rw [e] at hb;cases hb
 | some w=>exact ⟨rfl,rfl⟩
theorem ZkL {o:Int}(h:o≠src)(hb:Zbb ds o=false):ownD ds es src o=ZbE es o/\ownB ds es src o=Zbb es o:=by
 unfold ownD ownB Zcw;rw [if_neg h,Zb9];unfold Zbb at hb;unfold ZbE Zbb ZaR;cases e:ds.find? (fun x=>x.to==o) with
 | none=>exact ⟨by simp,by simp⟩
 | some w=>rw [e] at hb;cases hb
theorem Zl4 {z:Nat}{c0 c1 c2:Value}(B:Nat)(x:WayD)(v:Value)(hz:W.heap[z]? = some (.cells #[c0,c1,c2] 144))(ho:W.ownsRow B 3 1 v x.hops.length (flat intE x.hops)):
  (ZbJ W z x v).heap[z]? = some (.cells (wayC x v) 144)/\(ZbJ W z x v).ownsRow B 3 1 v x.hops.length (flat intE x.hops)/\Below z W (ZbJ W z x v):=by
 have G:=ZbH W z x v;refine⟨Zid x v hz,Zai ho (fun k hk=>G.block k (ho.lt k hk).2 (fun e=>Zas ho hz (by decide) (by rw [hk];exact e.symm))),(YAB z W).grown G ?_ (fun k hk=>by simp at hk;omega)⟩;have:=Zab hz;omega
theorem ZkY (v u:Value)(ws bs:List WP)(lo hi lo2 hi2:Nat)(o src:Int)(w:World)(hv:WaysOwn w lo hi v ws)(hhi:hi<=w.heap.size)(hn:totW ws<=1048576)(hu:WaysOwn w lo2 hi2 u bs)(hhi2:hi2<=w.heap.size)(hn2:totW bs<=1048576):
  Calls Tryz.prog 112 #[v,u,.int .i64 o,.int .i64 src] w fun e w'=>∃ x,e=.returned (.tuple #[.agg (wayC (ownD (Zam ws) (Zam bs) src o) x),.bool (ownB (Zam ws) (Zam bs) src o)])/\w'.ownsRow w.heap.size 3 1 x (ownD (Zam ws) (Zam bs) src o).hops.length (flat intE (ownD (Zam ws) (Zam bs) src o).hops)/\Below w.heap.size w w':=by
 obtain⟨a1,c1,rfl⟩:=Zac hv.row;obtain⟨a2,c2,rfl⟩:=Zac hu.row;have H1:=hide (fun W (hb:Below w.heap.size w W)=>ZbY (.slice a1 ws.length c1) ws lo hi o W (hv.below hb hhi) (YAG hhi hb.size) hn);have H2:=hide (fun W (hb:Below w.heap.size w W)=>ZbY (.slice a2 bs.length c2) bs lo2 hi2 o W (hu.below hb hhi2) (YAG hhi2 hb.size) hn2);clear hv hu;have HS:=hide (Znp (Zam ws) (Zam bs) src);have HW:=hide (ZkM (ds:=Zam ws) (es:=Zam bs) (src:=src) (o:=o));have HB:=hide (ZkL (ds:=Zam ws) (es:=Zam bs) (src:=src) (o:=o));obtain⟨D,hD⟩:∃ D,D=ownD (Zam ws) (Zam bs) src o:=⟨_,rfl⟩;obtain⟨F,hF⟩:∃ F,F=ownB (Zam ws) (Zam bs) src o:=⟨_,rfl⟩;rw [<-hD, <-hF];have HD:=hide hD;have HF:=hide hF;clear hD hF;have BX:Below w.heap.size w (w.alloc (.cells #[.int .i64 0,.int .i64 0,.slice none 0 0] 144)):=(YAB _ _).alloc (YA _) _;have hq:=YAE w (.cells #[.int .i64 0,.int .i64 0,.slice none 0 0] 144);have hs0:=Zab hq;unfold wayC at H1 H2;by_cases ho:o=src
 ·subst ho;have hDe:D=⟨o,0,[]⟩:=HD.out.trans HS.out.1;have hFe:F=true:=HF.out.trans HS.out.2;subst hDe hFe;have hd:(o==o)=true:=by simp
  have FF:=hide (YAE w (.cells (wayC ⟨o,0,[]⟩ (.slice none 0 0)) 144));clear H1 H2 HS HW HB HD HF hq BX hs0;unfold wayC
  go_enter Tryz.func112,Tryz.ntmps112
  go_wp2_with fail
  (try simp only [Exit.inBlock,Exit.then])
  refine bodyPost_ret (ZaC rfl _ _ w.heap.size 144 (wayC ⟨o,0,[]⟩ (.slice none 0 0)) (0,0) _ rfl FF.out Tryz.underlying144 rfl (by kernel_rfl)) rfl ?_;exact⟨.slice none 0 0,rfl,YAj _ _ _ _,(YAB _ _).alloc (YA _) _⟩
 have hd:(o==src)=false:=by simpa using ho
 have HO:=hide ho;clear ho;obtain⟨w0,hw0⟩:∃ W,W=w.alloc (.cells #[.int .i64 0,.int .i64 0,.slice none 0 0] 144):=⟨_,rfl⟩;rw [<-hw0] at BX hq hs0;have C1:=H1.out w0 BX;obtain⟨D1,hD1⟩:∃ D,D=ZbE (Zam ws) o:=⟨_,rfl⟩;obtain⟨F1,hF1⟩:∃ F,F=Zbb (Zam ws) o:=⟨_,rfl⟩;rw [<-hD1, <-hF1] at C1;have HC1:=hide C1;have HQ:=hide hq;have HD1:=hide hD1;have HF1:=hide hF1;have HBX:=hide BX;clear C1 hq hD1 hF1 H1 HS;unfold wayC
 go_enter Tryz.func112,Tryz.ntmps112
 go_wp2_with fail
 rw [<-hw0];refine HC1.out.mono ?_;rintro e w2 ⟨x1,rfl,ho1,b1⟩;obtain⟨xa,xc,rfl⟩:=Zac ho1;have hb1:=b1.size;have BA:=(YAB w2.heap.size w2).alloc (YA _) (.cells #[.int .i64 D1.to,.int .i64 D1.cost,.slice xa D1.hops.length xc] 144);have hz2:=(b1.block _ hs0).trans HQ.out;have hz3:=(BA.block _ (Zab hz2)).trans hz2;have hbx:=HBX.out.size;have B2:Below w.heap.size w w2:=HBX.out.trans (b1.mono hbx);have hl2:=Zab hz2;cases F1
 ·have hh:=HB.out HO.out HF1.out.symm;have hDe:=HD.out.trans hh.1;have hFe:=HF.out.trans hh.2;have C2:=H2.out (w2.alloc (.cells #[.int .i64 D1.to,.int .i64 D1.cost,.slice xa D1.hops.length xc] 144)) (B2.trans (BA.mono (by omega)));rw [<-hDe, <-hFe] at C2;have HC2:=hide C2;have HZ3:=hide hz3;have HBA:=hide BA;have HB2:=hide B2;clear C2 hh hDe hFe H2 HB HW ho1 hz2 hz3 BA B2 HC1
  go_wp2_with fail
  refine HC2.out.mono ?_;rintro e w4 ⟨x2,rfl,ho2,b2⟩;obtain⟨ya,yc,rfl⟩:=Zac ho2;have hb2:=b2.size;have hba:=HBA.out.size;have hz4:=(b2.block _ (Zab HZ3.out)).trans HZ3.out;have u0:=Zaa hz4 0;have u1:=Zaa hz4 1;have u2:=Zaa hz4 2;simp at u0 u1 u2;have fu:=Zae hz4;have EE:=Zl4 w.heap.size D (.slice ya D.hops.length yc) hz4 (Zaf ho2 (by omega));have FF:=hide EE.1;have OO:=hide EE.2.1;have BB:=hide ((HB2.out.trans ((HBA.out.mono (by omega)).trans (b2.mono (by omega)))).trans EE.2.2);clear EE hz4 ho2 b2 HZ3 HBA HB2 HC2
  go_wp2_with fail
  (try simp only [Exit.inBlock,Exit.then])
  refine bodyPost_ret (ZaC rfl _ _ w.heap.size 144 (wayC D (.slice ya D.hops.length yc)) (0,0) _ rfl FF.out Tryz.underlying144 rfl (by kernel_rfl)) rfl ?_;exact⟨_,rfl,OO.out,BB.out⟩
 ·have hh:=HW.out HO.out HF1.out.symm;have hDe:D1=D:=HD1.out.trans (HD.out.trans hh.1).symm;have hFe:F=true:=HF.out.trans hh.2;subst hDe hFe;have hx:=YAE w2 (.cells #[.int .i64 D1.to,.int .i64 D1.cost,.slice xa D1.hops.length xc] 144);have e0:=Zaa hx 0;have e1:=Zaa hx 1;have e2:=Zaa hx 2;simp at e0 e1 e2;have u0:=Zaa hz2 0;have u1:=Zaa hz2 1;have u2:=Zaa hz2 2;simp at u0 u1 u2;have fu:=Zae hz2;have hzn:w.heap.size≠w2.heap.size:=by omega
  have EE:=Zl4 w.heap.size D1 (.slice xa D1.hops.length xc) hz2 (Zaf ho1 (by omega));have FF:=hide (show ((ZbJ w2 w.heap.size D1 (.slice xa D1.hops.length xc)).alloc (.cells #[.int .i64 D1.to,.int .i64 D1.cost,.slice xa D1.hops.length xc] 144)).heap[w.heap.size]? = some (.cells (wayC D1 (.slice xa D1.hops.length xc)) 144) by rw [YAI _ _ _ (Zab EE.1)];exact EE.1);have OO:=hide (EE.2.1.alloc (.cells #[.int .i64 D1.to,.int .i64 D1.cost,.slice xa D1.hops.length xc] 144));have BB:=hide ((B2.trans EE.2.2).alloc (Nat.le_of_lt (Zab EE.1)) (.cells #[.int .i64 D1.to,.int .i64 D1.cost,.slice xa D1.hops.length xc] 144));clear EE hz2 hz3 ho1 b1 H2 HB HW HC1 BA B2 hx
  go_wp2_with fail
  (try simp only [Exit.inBlock,Exit.then])
  refine bodyPost_ret (ZaC rfl _ _ w.heap.size 144 (wayC D1 (.slice xa D1.hops.length xc)) (0,0) _ rfl FF.out Tryz.underlying144 rfl (by kernel_rfl)) rfl ?_;exact⟨_,rfl,OO.out,BB.out⟩
def ordQ (a b:RtD):Int:=
 if orN [cmpN a.to b.to,cmpN a.kind b.kind]=0 then
  (if a.kind=4 then orN [cmpN a.far b.far,cmpN a.cost b.cost] else if a.kind=3 then orN [0,cmpN a.cost b.cost] else 0)
 else orN [cmpN a.to b.to,cmpN a.kind b.kind]
theorem Zl3 (x y:Int):orN [x,y]=if x=0 then y else x:=by
 unfold orN orN orN
 split
 ·split
  ·rename_i h;exact h.symm
  ·rfl
 ·rfl
def farQ (a:RtD):Int:=if a.kind=4 then a.far else 0
def Zh8 (a:RtD):Int:=if a.kind=4\/a.kind=3 then a.cost else 0
theorem Zhl (a b:Int):cmpN a b<0↔a<b:=by
 unfold cmpN
 split
 ·omega
 ·split <;> omega
theorem Zd0 (a b:Int):cmpN a b=0↔a=b:=by
 unfold cmpN
 split
 ·omega
 ·split <;> omega
theorem Zor (a b:RtD):ordQ a b<0↔a.to<b.to\/(a.to=b.to/\(a.kind<b.kind\/(a.kind=b.kind/\(farQ a<farQ b\/(farQ a=farQ b/\Zh8 a<Zh8 b))))):=by
 unfold ordQ;simp only [Zl3];have t1:=Zhl a.to b.to;have t2:=Zd0 a.to b.to;have k1:=Zhl a.kind b.kind;have k2:=Zd0 a.kind b.kind;have f1:=Zhl a.far b.far;have f2:=Zd0 a.far b.far;have c1:=Zhl a.cost b.cost;by_cases e1:cmpN a.to b.to=0
 ·have e1':=t2.1 e1;simp only [e1,if_true];by_cases e2:cmpN a.kind b.kind=0
  ·have e2':=k2.1 e2;simp only [e2,if_true];unfold farQ Zh8;rw [<-e2'];by_cases h4:a.kind=4
   ·simp only [h4,if_true,true_or,true_and];by_cases e3:cmpN a.far b.far=0
    ·have e3':=f2.1 e3;simp only [e3,if_true];omega
    ·have:a.far≠b.far:=fun h=>e3 (f2.2 h);simp only [e3,if_false];omega
   ·simp only [h4,if_false,false_or];by_cases h3:a.kind=3
    ·simp only [h3,if_true,true_and];omega
    ·simp only [h3,if_false];omega
  ·have:a.kind≠b.kind:=fun h=>e2 (k2.2 h);simp only [e2,if_false];omega
 ·have:a.to≠b.to:=fun h=>e1 (t2.2 h);simp only [e1,if_false];omega
theorem Zoq (a b:RtD):ordQ a b=0↔a.to=b.to/\a.kind=b.kind/\farQ a=farQ b/\Zh8 a=Zh8 b:=by
 unfold ordQ;simp only [Zl3];have t2:=Zd0 a.to b.to;have k2:=Zd0 a.kind b.kind;have f2:=Zd0 a.far b.far;have c1:=Zd0 a.cost b.cost;by_cases e1:cmpN a.to b.to=0
 ·have e1':=t2.1 e1;simp only [e1,if_true];by_cases e2:cmpN a.kind b.kind=0
  ·have e2':=k2.1 e2;simp only [e2,if_true];unfold farQ Zh8;rw [<-e2'];by_cases h4:a.kind=4
   ·simp only [h4,if_true,true_or,true_and];by_cases e3:cmpN a.far b.far=0
    ·have e3':=f2.1 e3;simp only [e3,if_true];omega
    ·have e3':a.far≠b.far:=fun h=>e3 (f2.2 h);simp only [e3,if_false];exact⟨fun h=>h.elim,fun h=>e3' (by omega)⟩
   ·simp only [h4,if_false,false_or];by_cases h3:a.kind=3
    ·simp only [h3,if_true,true_and];omega
    ·simp only [h3,if_false];simp [e1']
  ·have e2':a.kind≠b.kind:=fun h=>e2 (k2.2 h);simp only [e2,if_false];exact⟨fun h=>h.elim,fun h=>e2' h.2.1⟩
 ·have e1':a.to≠b.to:=fun h=>e1 (t2.2 h);simp only [e1,if_false];exact⟨fun h=>h.elim,fun h=>e1' h.1⟩
abbrev QS:=RtD × Option Addr × Nat × Nat
instance:Inhabited QS:=⟨(ZbM,none,0,0)⟩
def wOf (q:RtD):WayD:=⟨q.to,if q.kind=4 then 4000000000000+q.far*1000000+q.cost else 3000000000000+q.cost,q.hops⟩
structure OffR (q:RtD):Prop where
 thing:q.thing=true
 kind:q.kind=3/\q.far=0\/q.kind=4
 cost:0<=q.cost/\q.cost<=61000
 far:0<=q.far/\q.far<=1000
 asc:q.hops.Pairwise (· < ·)
 hop6:Hop6 q.hops
 node:1<=q.to/\q.to<=9
theorem OffR.rt (h:OffR q):rtOf (wOf q)=q:=by
 obtain⟨h1,h3,h4,h5,_,_,_⟩:=h;obtain⟨th,to,kind,cost,fa,hops⟩:=q;simp only at h1 h3 h4 h5;subst h1;unfold rtOf wOf;rcases h3 with ⟨h3,h6⟩ | h3
 ·subst h3;subst h6;simp only [show ¬((3:Int)=4) by omega,if_false];rw [if_pos (by omega)];congr 1;omega
 ·subst h3;simp only [if_true];rw [if_neg (by omega)];congr 1 <;> omega
theorem OffR.lt {a:RtD}(ha:OffR a)(hb:OffR b):ordQ a b<0↔a.to<b.to\/(a.to=b.to/\(wOf a).cost<(wOf b).cost):=by
 rw [Zor];unfold wOf farQ Zh8;have h1:=ha.kind;have h2:=hb.kind;have h3:=ha.cost;have h4:=hb.cost;have h5:=ha.far;have h6:=hb.far;rcases h1 with ⟨h1,g1⟩ | h1 <;> rcases h2 with ⟨h2,g2⟩ | h2 <;> simp only [h1,h2,if_true,show ¬((3:Int)=4) by omega,show ¬((4:Int)=3) by omega,if_false,or_true,true_or,true_and,false_and,or_false,and_false] <;> first | omega | (constructor <;> intro h <;> first | exact h.elim | omega)
theorem OffR.eq {a:RtD}(ha:OffR a)(hb:OffR b):ordQ a b=0↔a.to=b.to/\(wOf a).cost=(wOf b).cost:=by
 rw [Zoq];unfold wOf farQ Zh8;have h1:=ha.kind;have h2:=hb.kind;have h3:=ha.cost;have h4:=hb.cost;have h5:=ha.far;have h6:=hb.far;rcases h1 with ⟨h1,g1⟩ | h1 <;> rcases h2 with ⟨h2,g2⟩ | h2 <;> simp only [h1,h2,if_true,show ¬((3:Int)=4) by omega,show ¬((4:Int)=3) by omega,if_false,or_true,true_or,true_and,false_and,or_false,and_false] <;> first | omega | (constructor <;> intro h <;> first | exact h.elim | omega)
def ZiO (qs:List RtD):Prop:=qs.Pairwise (fun a b=>¬ordQ b a<0)
def ZeI (qs:List RtD)(bs:List RtD):Prop:=ZaA (fun to d=>∃ q∈qs,d=wOf q/\q.to=to) (bs.map wOf)
theorem Zks (h:∀ x∈ds,x.to<d.to)(to:Int):ZaR (ds++[d]) to=if to=d.to then ZeZ togI (ZaR ds to) (some d) else ZaR ds to:=by
 rw [Zb9];by_cases e:to=d.to
 ·rw [if_pos e];subst e;have h1:ZaR ds d.to=none:=by
   cases e:ZaR ds d.to with
   | none=>rfl
   | some x=>have:=Za2 e;have:=h x this.1;omega
  rw [h1];simp [ZaR,ZeZ]
 ·rw [if_neg e];have h2:ZaR [d] to=none:=by simp [ZaR];omega
  rw [h2];simp
theorem ZeO (h:AscW (ds++[d])):ZaR (ds++[d]) d.to=some d:=Zc6 h (by simp)
theorem Zlh (h:AscW (ds++[d]))(he:e.to=d.to):AscW (ds++[e]):=by
 unfold AscW at *;rw [YAP] at *;refine⟨h.1,by simp,fun x hx y hy=>?_⟩;have:y=e:=by simpa using hy
 subst this;rw [he];exact h.2.2 x hx d (by simp)
theorem Zkt (he:e.to=d.to){to:Int}(hn:to≠d.to):ZaR (ds++[e]) to=ZaR (ds++[d]) to:=by
 rw [Zb9,Zb9];have h1:ZaR [d] to=none:=by simp [ZaR];omega
 have h2:ZaR [e] to=none:=by simp [ZaR];omega
 rw [h1,h2]
theorem ZhQ (hq:∀ q∈qs,OffR q):∀ to w,(∃ q∈qs,w=wOf q/\q.to=to)->Hop6 w.hops:=by
 rintro to w ⟨q,hq',rfl,_⟩;exact (hq q hq').hop6
theorem ZdY  (h:ZaA (fun to d=>(∃ x∈qs,d=wOf x/\x.to=to)\/(d=wOf q/\(wOf q).to=to)) ds):ZaA (fun to d=>∃ x∈qs++[q],d=wOf x/\x.to=to) ds:=
 h.congr (fun to d=>by
  constructor
  ·rintro (⟨x,h1,h2⟩ | ⟨h1,h2⟩)
   ·exact ⟨x,YAH.2 (.inl h1),h2⟩
   ·exact ⟨q,by simp,h1,h2⟩
  ·rintro ⟨x,h1,h2⟩;rcases YAH.1 h1 with h3 | h3
   ·exact .inl ⟨x,h3,h2⟩
   ·have:x=q:=by simpa using h3
    subst this;exact .inr h2)
theorem ZeI.push (h:ZeI qs bs)(hq:∀ x∈qs,OffR x)(ho:OffR q)(hlt:∀ b∈bs,b.to<q.to):ZeI (qs++[q]) (bs++[q]):=by
 unfold ZeI at *;refine ZdY (h.putT Zjy (ZhQ hq) ho.asc ho.hop6 ?_ ?_)
 ·rw [YAW];unfold AscW;rw [YAP];refine⟨h.1,by simp,fun x hx y hy=>?_⟩;obtain⟨b,hb,rfl⟩:=YAV.1 hx;have:y=wOf q:=by simpa using hy
  subst this;exact hlt b hb
 ·intro to;rw [YAW];exact Zks (fun x hx=>by
   obtain⟨b,hb,rfl⟩:=YAV.1 hx;exact hlt b hb) to
theorem ZeI.join (h:ZeI qs (bs++[b]))(hq:∀ x∈qs,OffR x)(hb:OffR b)(ho:OffR q)(he:ordQ b q=0):ZeI (qs++[q]) (bs++[{ b with hops:=ZeV b.hops q.hops }]):=by
 have e:=(hb.eq ho).1 he;unfold ZeI at *;rw [YAW] at h |-;simp only [List.map_cons,List.map_nil] at h |-
 obtain⟨j,hj⟩:∃ j,j=wOf { b with hops:=ZeV b.hops q.hops }:=⟨_,rfl⟩;have hjt:j.to=(wOf b).to:=by rw [hj];rfl
 have hl:j=togI (wOf b) (wOf q):=by
  rw [hj];unfold togI ZbQ;rw [if_neg (by simp;omega),if_neg (by simp;omega)];rfl
 rw [<-hj];have hA:=Zlh h.1 hjt;refine ZdY (h.putT Zjy (ZhQ hq) ho.asc ho.hop6 hA ?_);intro to;by_cases e2:to=(wOf q).to
 ·rw [if_pos e2];have h1:to=(wOf b).to:=e2.trans e.1.symm;subst h1;rw [ZeO h.1, <-hjt,ZeO hA,hl];rfl
 ·rw [if_neg e2];exact Zkt hjt (by rw [show (wOf b).to=(wOf q).to from e.1];exact e2)
theorem ZeI.pass (h:ZeI qs (bs++[b]))(hq:∀ x∈qs,OffR x)(hb:OffR b)(ho:OffR q)(ht:b.to=q.to)(he:ordQ b q<0):ZeI (qs++[q]) (bs++[b]):=by
 have e:=(hb.lt ho).1 he;unfold ZeI at *;have hA:=h.1;refine ZdY (h.putT Zjy (ZhQ hq) ho.asc ho.hop6 hA ?_);intro to;by_cases e2:to=(wOf q).to
 ·rw [if_pos e2];subst e2;have h1:(wOf q).to=(wOf b).to:=ht.symm;rw [YAW] at hA |-;simp only [List.map_cons,List.map_nil] at hA |-
  rw [h1,ZeO hA];show some (wOf b)=some (togI (wOf b) (wOf q));unfold togI ZbQ;rw [if_pos (by simp;omega)]
 ·rw [if_neg e2]
theorem Zen (x:RtD)(a:Option Addr)(n c:Nat):∀ u∈encQ (x,.slice a n c),u.oneCell'=true:=by
 intro u hu;simp only [encQ,YAR,List.not_mem_nil,or_false] at hu;rcases hu with rfl | rfl | rfl | rfl | rfl | rfl <;> rfl
def Zca (kind:Int)(p:WP):QP:=(⟨false,p.1.to,kind,p.1.cost,0,p.1.hops⟩,p.2)
def Zba (kind src:Int)(ws:List WP):List QP:=(ws.filter (fun p=>p.1.to != src)).map (Zca kind)
theorem ZgT (kind src:Int)(ws:List WP):ZaY (Zba kind src ws)=Zdj kind src (Zam ws):=by
 unfold ZaY Zba Zdj Zam;rw [List.filter_map,YAa,YAa];rfl
theorem ZgU (kind src:Int)(ws:List WP):(Zba kind src ws).length<=ws.length:=by
 unfold Zba;rw [YAb];exact List.length_filter_le _ _
theorem ZgV {p:WP}(h:ws[k]? = some p)(hn:p.1.to≠src):Zba kind src (ws.take (k+1))=Zba kind src (ws.take k)++[Zca kind p]:=by
 obtain⟨hk,e⟩:=YAD.1 h;unfold Zba;rw [YAJ hk,e,List.filter_append,YAW];simp [hn]
theorem Zio {p:WP}(h:ws[k]? = some p)(hn:p.1.to=src):Zba kind src (ws.take (k+1))=Zba kind src (ws.take k):=by
 obtain⟨hk,e⟩:=YAD.1 h;unfold Zba;rw [YAJ hk,e,List.filter_append,YAW];simp [hn]
theorem Zcn {lo hi:Nat}{v:Value}(h:WaysOwn W lo hi v ws)(kind src:Int):∀ q∈Zba kind src ws,Za0 W lo hi q:=by
 intro q hq;unfold Zba at hq;obtain⟨p,hp,rfl⟩:=YAV.1 hq;exact h.nears p (YAT.1 hp).1
theorem Zff {lo hi:Nat}{v:Value}(h:WaysOwn W lo hi v ws)(kind src:Int):(Zba kind src ws).Pairwise Zdn:=by
 unfold Zba;rw [YAY];exact (h.apart.sublist (List.filter_sublist)).imp (fun h=>h)
theorem ZdO {r:RtD}(h:r∈Zdj kind src ds):∃ d∈ds,d.to≠src/\r=⟨false,d.to,kind,d.cost,0,d.hops⟩:=by
 unfold Zdj at h;obtain⟨d,hd,rfl⟩:=YAV.1 h;obtain⟨h1,h2⟩:=YAT.1 hd;exact⟨d,h1,by simpa using h2,rfl⟩
theorem Zn1 (es:List BE)(x:LnD):Zbe (ksG es) x.thing x.to=(stG es).findIdx? (fun p=>keyB x p.2):=by
 rw [ZnX];unfold lnsG stG;rw [List.findIdx?_map,List.findIdx?_map];rfl
theorem Zju {st:List (Int × LnD)}(hk:ZaP (ZaV st)){x:LnD}{j:Nat}(hj:st.findIdx? (fun p=>keyB x p.2)=some j):∀ i p,st[i]? = some p->keyB x p.2=true->i=j:=by
 intro i p hi hp;obtain⟨hl,h1,_⟩:=List.findIdx?_eq_some_iff_getElem.1 hj;obtain⟨hl2,e⟩:=YAD.1 hi;unfold ZaP ZaV at hk;rw [YAY,YAf] at hk;rcases Nat.lt_trichotomy i j with h | h | h
 ·have h2:=hk i j hl2 hl h;rw [e] at h2;have h3:keyB p.2 st[j].2=true:=ZeW (by rw [ZbA];exact hp) h1;rw [h3] at h2;cases h2
 ·exact h
 ·have h2:=hk j i hl hl2 h;rw [e] at h2;have h3:keyB st[j].2 p.2=true:=ZeW (by rw [ZbA];exact h1) hp;rw [h3] at h2;cases h2
theorem Zmj (es:List BE)(j:Nat):stG (es.eraseIdx j)=(stG es).eraseIdx j:=by
 unfold stG
 induction es generalizing j with
 | nil=>simp
 | cons a l ih=>cases j with
  | zero=>simp
  | succ j=>simp [ih]
theorem ZoA {es:List BE}(hk:ZaP (ZaV (stG es)))(x:LnD)(n:Int)(k:Nat):stG (delL es x.thing x.to)=ZdJ n (stG es) k ⟨true,x⟩:=by
 unfold ZdJ;rw [if_pos rfl];unfold delL;rw [Zn1];cases e:(stG es).findIdx? (fun p=>keyB x p.2) with
 | none=>
  simp only []
  symm
  rw [List.filter_eq_self];intro p hp;have:=List.findIdx?_eq_none_iff.1 e p hp;simpa using this
 | some j=>
  simp only [];rw [Zmj,Zfd (stG es) j e (Zju hk e)]
theorem ZoB {es:List BE}(hk:ZaP (ZaV (stG es)))(x:LnD)(hv:Value)(clk:Nat)(v:Value)(n:Int)(k:Nat):stG (Zb1 es clk (n+(k:Int)) (x,hv) v)=ZdJ n (stG es) k ⟨false,x⟩:=by
 unfold ZdJ;rw [if_neg (by simp)];unfold Zb1;simp only [];rw [Zn1];cases e:(stG es).findIdx? (fun p=>keyB x p.2) with
 | none=>
  have h1:(stG es).find? (fun p=>keyB x p.2)=none:=by
   rw [List.find?_eq_none];intro p hp;have:=List.findIdx?_eq_none_iff.1 e p hp;simpa using this
  simp only [h1];unfold stG;simp
 | some j=>
  obtain⟨hl,h1,h2⟩:=List.findIdx?_eq_some_iff_getElem.1 e;have hle:j<es.length:=by simpa [stG] using hl
  have h3:(stG es).find? (fun p=>keyB x p.2)=some (stG es)[j]:=by
   rw [List.find?_eq_some_iff_getElem];exact⟨h1,j,hl,rfl,fun i hi=>by have:=h2 i hi;simpa using this⟩
  simp only [h3,YAA hle];rw [<-Zjq ((stG es)[j].1,x) (stG es) j e (Zju hk e)];have h4:(stG es)[j].1=es[j].2.1.1:=by simp [stG]
  rw [h4];unfold stG;rw [List.map_set]
theorem ZmL {n:Int}{st:List (Int × LnD)}(t:TnD)(hk:ZaP (ZaV st))(h:st.Pairwise (fun a b=>a.1<b.1))(hb:∀ p∈st,p.1<n+(k:Int)):
  (ZdJ n st k t).Pairwise (fun a b=>a.1<b.1)/\∀ p∈ZdJ n st k t,p.1<n+((k+1:Nat):Int):=by
 unfold ZdJ
 split
 ·exact ⟨h.sublist List.filter_sublist,fun p hp=>by have:=hb p (YAT.1 hp).1;omega⟩
 ·cases e:st.findIdx? (fun p=>keyB t.line p.2) with
  | none=>
   have h1:st.find? (fun p=>keyB t.line p.2)=none:=by
    rw [List.find?_eq_none];intro p hp;have:=List.findIdx?_eq_none_iff.1 e p hp;simpa using this
   simp only [h1];refine⟨YAP.2 ⟨h,by simp,fun a ha b hb2=>?_⟩,fun p hp=>?_⟩
   ·rw [YAl.1 hb2];exact hb a ha
   ·rcases YAH.1 hp with h2 | h2
    ·have:=hb p h2;omega
    ·rw [YAl.1 h2];simp only [];omega
  | some j=>
   obtain⟨hl,h1,h2⟩:=List.findIdx?_eq_some_iff_getElem.1 e;have h3:st.find? (fun p=>keyB t.line p.2)=some st[j]:=by
    rw [List.find?_eq_some_iff_getElem];exact⟨h1,j,hl,rfl,fun i hi=>by have:=h2 i hi;simpa using this⟩
   simp only [h3];rw [<-Zjq (st[j].1,t.line) st j e (Zju hk e)];have hf:(st.set j (st[j].1,t.line)).map (·.1)=st.map (·.1):=by
    rw [List.map_set];apply List.ext_getElem
    ·simp
    ·intro i h4 h5;rw [List.getElem_set]
     split
     ·rename_i e2
      subst e2;simp
     ·rfl
   constructor
   ·have h6:(st.map (·.1)).Pairwise (· < ·):=YAY.2 h;rw [<-hf] at h6;exact YAY.1 h6
   ·intro p hp;rcases List.mem_or_eq_of_mem_set hp with h6 | h6
    ·have:=hb p h6;omega
    ·rw [h6];have:=hb st[j] (YAr hl);simp only [];omega
end Go.Proofs.YtdhnddfnckgbjaaGreat
namespace Go.Proofs.YtdhnddfnckgbjaaGreat
open Go.RowKit
open Go.ChangeMaps (setBlock)

set_option linter.unusedSimpArgs false
set_option linter.unusedVariables false

abbrev BS:=Nat × PS × Value
def entB (x:BS):BE:=(x.1,psP x.2.1,x.2.2)
def dBS:BS:=(0,dPS.1,dPS.2)

structure RgP (W:World) (r m clk:Nat) (eb:List BS) (ord:List Nat) (c0:Nat):Prop where
 g:RgG W r m clk (ord.map (fun j=>(eb.getD j dBS).1)) c0
 nd:ord.Nodup
 lt:∀ j∈ord,j<eb.length

theorem Zll {eb:List BS}(hu:(eb.map entB).Pairwise (fun a b=>a.1<b.1)){i j:Nat}{x y:BS}(hi:eb[i]? = some x)(hj:eb[j]? = some y)(h:x.1=y.1):i=j:=by
 obtain⟨h1,e1⟩:=YAD.1 hi;obtain⟨h2,e2⟩:=YAD.1 hj;rw [YAY,YAf] at hu;rcases Nat.lt_trichotomy i j with h3 | h3 | h3
 ·have:=hu i j h1 h2 h3;rw [e1,e2] at this;simp only [entB] at this;omega
 ·exact h3
 ·have:=hu j i h2 h1 h3;rw [e1,e2] at this;simp only [entB] at this;omega

theorem Znz {W:World}{lo hi r m clk:Nat}{eb:List BS}{ord:List Nat}{c0:Nat}(hl:LgAt W lo hi m (eb.map entB) clk)(hr:RgP W r m clk eb ord c0)(hrm:r≠m):
  ((∀ j,j<eb.length->j∈ord)/\(Instr.next (.pointer (some ⟨r,0,none⟩)) false 0).run Tryz.prog W=.ok (.tuple #[.bool false]) W) \/
  ∃ (j:Nat) (x:BS) (W1:World),eb[j]? = some x/\j ∉ ord/\RgP W1 r m clk eb (ord++[j]) clk/\W.grownBy W1 (some r) /\
   (Instr.next (.pointer (some ⟨r,0,none⟩)) false 0).run Tryz.prog W=.ok (.tuple #[.bool true,kV x.2.1.2.1.thing x.2.1.2.1.to,x.2.2]) W1 /\
   (Instr.entry (.pointer (some ⟨r,0,none⟩))).run Tryz.prog W1=.ok (.tuple #[kV x.2.1.2.1.thing x.2.1.2.1.to,x.2.2]) W1:=by
 rcases Zny hl hr.g hrm with ⟨h1,h2⟩ | ⟨y,W1,hy,hb,hg,hgr,hn,he⟩
 ·refine .inl ⟨fun j hj=>?_,h2⟩;have h3:=h1 (entB eb[j]) (List.mem_map_of_mem (YAr hj));obtain⟨i,hi,e⟩:=YAV.1 h3;have hil:=hr.lt i hi;have e2:eb.getD i dBS=eb[i]:=by simp [List.getD,YAA hil]
  rw [e2] at e;have:=Zll hl.up (YAA hil) (YAA hj) e;rw [<-this];exact hi
 ·obtain ⟨x,hx,rfl⟩:=YAV.1 hy;obtain⟨j,hj,e⟩:=List.getElem_of_mem hx;have hjx:eb[j]? = some x:=by rw [YAA hj,e]
  have hjd:(eb.getD j dBS)=x:=by simp [List.getD,hjx]
  have hno:j ∉ ord:=fun h=>hb (YAV.2 ⟨j,h,by rw [hjd];rfl⟩);refine .inr ⟨j,x,W1,hjx,hno,⟨?_,?_,?_⟩,hgr,hn,he⟩
  ·rw [YAW,List.map_cons,List.map_nil,hjd];exact hg
  ·rw [List.nodup_append];exact⟨hr.nd,by simp,fun a ha c hc=>by
    have:c=j:=by simpa using hc
    subst this;exact fun e=>hno (e ▸ ha)⟩
  ·intro i hi;rcases YAH.1 hi with h | h
   ·exact hr.lt i h
   ·rw [YAl.1 h];exact hj
end Go.Proofs.YtdhnddfnckgbjaaGreat
