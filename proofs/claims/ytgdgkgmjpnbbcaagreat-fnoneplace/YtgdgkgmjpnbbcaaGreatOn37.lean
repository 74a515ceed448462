/-
  BeyondI
-/
import Derived.Test.YtgdgkgmjpnbbcaaGreatOn34
import Derived.Test.YtgdgkgmjpnbbcaaGreatOn36
namespace Go.Proofs.YtgdgkgmjpnbbcaaGreat
open Go.RowKit
set_option linter.unusedSimpArgs false
set_option linter.unusedVariables false
set_option maxRecDepth 100000
set_option maxHeartbeats 8000000
def byS (xs:List RecD)(al L:List Int)(src to:Int)(d:WayD):Prop:=(∀ y,¬Zau xs al src to y)/\∃ a∈L,outS xs xs a src to d
theorem Znp {xs:List RecD}{al L:List Int}{src to:Int}{d:WayD}(h:byS xs al L src to d):GoodW d/\d.to=to:=by
 obtain⟨_,a,_,h2⟩:=h;exact Zfb (fun _ h=>h) h2
theorem Znq {xs:List RecD}{al L:List Int}{src to a:Int}{k:Nat}(h:L[k]? = some a)(d:WayD):byS xs al (L.take (k+1)) src to d↔byS xs al (L.take k) src to d\/((∀ y,¬Zau xs al src to y)/\outS xs xs a src to d):=by
 obtain⟨hk,e⟩:=List.getElem?_eq_some_iff.1 h;unfold byS;rw [List.take_succ_eq_append_getElem hk,e]
 constructor
 ·rintro ⟨h0,b,h2,h3⟩
  rcases List.mem_append.1 h2 with h5 | h5
  ·exact .inl ⟨h0,b,h5,h3⟩
  ·have:b=a:=by simpa using h5
   subst this;exact .inr ⟨h0,h3⟩
 ·rintro (⟨h0,b,h2,h3⟩ | ⟨h0,h3⟩)
  ·exact ⟨h0,b,List.mem_append.2 (.inl h2),h3⟩
  ·exact ⟨h0,a,List.mem_append.2 (.inr (by simp)),h3⟩
theorem ZoS {xs:List RecD}{al:List Int}{border:Bool}{src:Int}(to:Int)(d:WayD):byS xs al (Zc6 al border) src to d↔Zbz xs al border src to d:=by
 constructor
 ·rintro ⟨h0,a,h2,h3⟩
  have h4:=ZfV.1 h2;exact⟨h0,a,h4.1.1,h4.2,h3⟩
 ·rintro ⟨h0,a,h2,h3,h4⟩
  have h5:=ZgI h4;exact⟨h0,a,ZfV.2 ⟨⟨h2,h5.2.1,h5.2.2⟩,h3⟩,h4⟩
theorem ZlI {xs:List RecD}{al:List Int}{src:Int}{ds:List WayD}(h:Zay (Zau xs al src) ds)(to:Int):(Za3 ds to=true/\∃ y,Zau xs al src to y)\/(Za3 ds to=false/\∀ y,¬Zau xs al src to y):=by
 have hb:=h.2 to
 rcases ZbU ds to with ⟨h1,h2⟩ | ⟨h1,h2⟩
 ·rw [h2] at hb
  obtain⟨_,⟨y,hy,_⟩,_⟩:=hb;exact .inl ⟨h1,y,hy⟩
 ·rw [h2] at hb
  exact .inr ⟨h1,hb⟩
theorem ZhL {S:Int->WayD->Prop}{qs:List WP}(h:Zay S (Zag qs))(hS:∀ to w,S to w->GoodW w/\w.to=to):totW qs<=42:=
 ZeZ (by have h2:=Zci h.1 (fun d hd=>(h.good hS d hd).node);simpa [Zag] using h2) (fun d hd=>(h.good hS d hd).len)
theorem Zgv (v u:Value)(ps:List RP)(al:List Int)(hi:Nat)(border:Bool)(src:Int)(w:World)(hv:RecsIn w hi v ps)(ha:ZaP w u al hi)(hhi:hi<=w.heap.size)(hn:tot ps<=1048576)(hal:al.length<=1048576):
  Calls Tryz.prog 28 #[v,u,.bool border,.int .i64 src] w fun e w'=>∃ x qs,e=.returned x/\Zay (Zbz (fsts ps) al border src) (Zag qs)/\WaysOwn w' w.heap.size w'.heap.size x qs/\Below w.heap.size w w':=by
 have hnl:=ZbI ps;obtain⟨a1,c1,rfl⟩:=Zac hv.row;obtain⟨a2,c2,rfl⟩:=ha.shape;have HWI:=hide (ZdC (.slice a1 ps.length c1) (.slice a2 al.length c2) ps al hi src w hv ha hhi hn hal);have HAO:=hide (fun W (hb:Below w.heap.size w W)=>Ziw (.slice a2 al.length c2) al border hi W hal (ZaR.later ha hb hhi) (Nat.le_trans hhi hb.size))
 have HWO:=hide (fun area W (hb:Below w.heap.size w W)=>Zka (.slice a1 ps.length c1) ps hi area src W (hv.below hb hhi) (Nat.le_trans hhi hb.size) hn)
 clear hv ha;obtain⟨L,hL⟩:∃ L,L=Zc6 al border:=⟨_,rfl⟩;have hLl:L.length<=3:=by rw [hL];exact Zi3 al border
 have HFIN:=hide (show ∀ to d,byS (fsts ps) al L src to d↔Zbz (fsts ps) al border src to d from fun to d=>by rw [hL];exact ZoS to d)
 rw [<-hL] at HAO;clear hL
 go_enter Tryz.func28,Tryz.ntmps28
 go_wp2_with fail
 refine HWI.out.mono ?_
 rintro e w1 ⟨uw,ws,rfl,hbw,how,b1⟩;obtain⟨wsa,wsc,rfl⟩:=Zac how.row;have hb1:=b1.size;have hwt:totW ws<=1048576:=by have:=ZhL hbw (fun to d h=>ZaI h);omega
 have HWT:=hide (fun (z:Int) (W:World) (hb:Below w1.heap.size w1 W)=>Zeb (.slice wsa ws.length wsc) ws w.heap.size w1.heap.size z W (how.below hb (Nat.le_refl _)) hb.size hwt)
 have HHAS:=hide (fun to=>ZlI hbw to)
 have BX:Below w1.heap.size w1 (w1.alloc (.cells #[] 48)):=(Below.refl _ _).alloc (Nat.le_refl _) _;have LIT:=Zmt w1 w1.heap.size (Nat.le_refl _);have hs0:(w1.alloc (.cells #[] 48)).heap.size=w1.heap.size+1:=by simp
 obtain⟨w0,hw0⟩:∃ W,W=w1.alloc (.cells #[] 48):=⟨_,rfl⟩;rw [<-hw0] at BX LIT hs0;have BX0:Below w.heap.size w w0:=b1.trans (BX.mono hb1);have HLIT:=hide LIT;have HS0:=hide hs0;clear LIT hs0 HWI how hbw hwt
 go_wp2_with fail
 rw [<-hw0];clear hw0;refine (HAO.out _ BX0).mono ?_
 rintro e w2 ⟨ra,rfl,hra,b2⟩;obtain⟨raa,rac,rfl⟩:=Zac hra.row;have b2s:=b2.size;have hx0:=BX.size;have B2:Below w1.heap.size w1 w2:=BX.trans (b2.mono hx0);have HO1:=hide ((HLIT.out.below b2 (Nat.le_refl _)).wide (Nat.le_refl _) b2s);have HRA:=hide hra;clear hra HLIT HAO b2
 go_wp2
 go_loopw [26,10] (fun i o wr=>∃ (k:Nat) (x:Value) (qs:List WP),k<=L.length/\i=.int .i64 (k:Int)/\o=x/\WaysOwn wr w1.heap.size wr.heap.size x qs/\Hid (Zay (byS (fsts ps) al (L.take k) src) (Zag qs))/\Off x w0.heap.size w2.heap.size/\IntsOwn wr w0.heap.size w2.heap.size (.slice raa L.length rac) L/\Below w1.heap.size w1 wr/\w2.heap.size<=wr.heap.size) (fun i _ _=>L.length-(intOf i).toNat)
 case atStart=>exact ⟨0,_,[],by omega,rfl,rfl,HO1.out,hide (Zb2 (fun to d ⟨_,a,h,_⟩=>by simp at h)),fun b hb=>by simp [Value.ownBlock] at hb;have:=HS0.out;omega,HRA.out,B2,Nat.le_refl _⟩
 case round=>
  obtain⟨k,x,qs,hk,rfl,rfl,hown,HB,hoff,hra,hnx,hsz⟩:=hrel;clear HO1 HRA B2;obtain⟨xa,xc,rfl⟩:=Zac hown.row
  rename World=>wa
  have BWA:Below w.heap.size w wa:=b1.trans (hnx.mono hb1);by_cases hlt:k<L.length
  ·obtain ⟨area,har⟩:∃ a,L[k]? = some a:=⟨L[k],List.getElem?_eq_getElem hlt⟩
   obtain⟨b,off,cap',hve,hbb,c0⟩:=hra.at.cell k area har;cases hve
   have hki:(0:Int)<=(k:Int):=by omega
   have hkj:(k:Int)<(L.length:Int):=by omega
   have HOWN:=hide hown;have HOFF:=hide hoff;have HRA:=hide hra;have HAR:=hide har;clear hown hoff hra har
   go_wp2_with fail
   refine (HWO.out area _ BWA).mono ?_
   rintro e w3 ⟨uo,os,rfl,hos,hol,hoo,b3⟩;obtain⟨osa,osc,rfl⟩:=Zac hoo.row;have hb3:=b3.size;have ST0:=PutSt.start HOWN.out HB.out HOFF.out hsz hnx.size b3 hoo;have RA3:=HRA.out.below b3 hsz;have B3:Below w1.heap.size w1 w3:=hnx.trans (b3.mono hnx.size);have HOS:=hide (show ∀ d,d∈Zag os↔∃ r∈fsts ps,ZcA (fsts ps) area src r d from fun d=>by
    have h:=hos d;rw [List.take_of_length_le (by simp [fsts])] at h
    exact h)
   have HST0:=hide ST0;have HRA3:=hide RA3;clear hos hoo ST0 RA3 HOWN HOFF HRA HB b3
   go_wp2
   go_loopw [35,10] (fun i o wr=>∃ (j:Nat) (x:Value) (qs:List WP),j<=os.length/\i=.int .i64 (j:Int)/\o=x/\PutSt wr w1.heap.size w0.heap.size w2.heap.size wa.heap.size w3.heap.size (fun to d=>byS (fsts ps) al (L.take k) src to d\/((∀ y,¬Zau (fsts ps) al src to y)/\d.to=to/\d∈(Zag os).take j)) x qs (.slice osa os.length osc) os j/\IntsOwn wr w0.heap.size w2.heap.size (.slice (some ⟨b,off,none⟩) L.length rac) L/\Below w1.heap.size w1 wr/\w3.heap.size<=wr.heap.size) (fun i _ _=>os.length-(intOf i).toNat)
   case atStart=>exact ⟨0,_,qs,by omega,rfl,rfl, { HST0.out with best:=HST0.out.best.congr (fun to d=>⟨.inl,by rintro (h | ⟨_,_,h⟩);exact h;simp at h⟩) },HRA3.out,B3,Nat.le_refl _⟩
   case round=>
    obtain⟨j,y,qs2,hj,rfl,rfl,st,hra2,hnx2,hsz2⟩:=hrel;clear HST0 HRA3 B3;obtain⟨ya,yc,rfl⟩:=Zac st.own.row;have hgd0:∀ d∈Zag os,GoodW d:=fun d hd=>by
     obtain⟨r,hr,ht⟩:=(HOS.out d).1 hd;exact Zd3 hr ht
    have hS:∀ to d,(byS (fsts ps) al (L.take k) src to d\/((∀ y,¬Zau (fsts ps) al src to y)/\d.to=to/\d∈(Zag os).take j))->GoodW d/\d.to=to:=by
     rintro to d (h | ⟨_,h1,h2⟩)
     ·exact Znp h
     ·exact ⟨hgd0 d (List.mem_of_mem_take h2),h1⟩
    by_cases hjl:j<os.length
    ·obtain ⟨r,hr⟩:∃ r,os[j]? = some r:=⟨os[j],List.getElem?_eq_getElem hjl⟩
     obtain⟨bo,offo,cpo,hve,hbbo,c0,c1,c2,_⟩:=st.from_.at.cells j r hr;cases hve
     have hgr:GoodW r.1:=hgd0 r.1 (by simp only [Zag,List.mem_map];exact⟨r,List.mem_of_getElem? hr,rfl⟩)
     have hji:(0:Int)<=(j:Int):=by omega
     have hjj:(j:Int)<(os.length:Int):=by omega
     obtain⟨rra,rrc,hrn⟩:=Zac (st.from_.nears r (List.mem_of_getElem? hr)).1;rw [hrn] at c2;have hgd:=st.good hS;have BA:Below wr.heap.size wr (wr.alloc (.cells #[.int .i64 r.1.to,.int .i64 r.1.cost,.slice rra r.1.hops.length rrc] 48)):=(Below.refl _ _).alloc (Nat.le_refl _) _;have hxb:=heap_alloc_new wr (.cells #[.int .i64 r.1.to,.int .i64 r.1.cost,.slice rra r.1.hops.length rrc] 48);obtain⟨w4,hw4⟩:∃ W,W=wr.alloc (.cells #[.int .i64 r.1.to,.int .i64 r.1.cost,.slice rra r.1.hops.length rrc] 48):=⟨_,rfl⟩;rw [<-hw4] at BA hxb;have hs4:=BA.size;have hl4:=Zab hxb;have HW:=HWT.out r.1.to w4 (hnx2.trans (BA.mono hnx2.size));have hh:=HHAS.out r.1.to;obtain⟨D,hD⟩:∃ D,D=ZaY (Zag ws) r.1.to:=⟨_,rfl⟩;obtain⟨FB,hFB⟩:∃ F,F=Za3 (Zag ws) r.1.to:=⟨_,rfl⟩;rw [<-hD, <-hFB] at HW;rw [<-hFB] at hh;have HWW:=hide HW;have HH:=hide hh;have HST:=hide st;have HRX:=hide hra2;have HRR:=hide hr;have HRN:=hide hrn;have HGD:=hide hgd;have HGR:=hide hgr;have HSS:=hide hS;have HXB:=hide hxb;have HBA:=hide BA;unfold wayC at HWW;clear HW hh st hra2 hr hrn hgd hgr hS hxb BA hgd0 hD hFB
     go_wp2_with fail
     rw [<-hw4];clear hw4;refine HWW.out.mono ?_
     rintro e w5 ⟨du,rfl,hdu,b5⟩;obtain⟨da,dc,rfl⟩:=Zac hdu;have hb5:=b5.size;have BC:Below w5.heap.size w5 (w5.alloc (.cells #[.int .i64 D.to,.int .i64 D.cost,.slice da D.hops.length dc] 48)):=(Below.refl _ _).alloc (Nat.le_refl _) _;have hxb5:=(b5.block _ hl4).trans HXB.out;have hxb6:=(BC.block _ (Zab hxb5)).trans hxb5;have d0:=Zaa hxb6 0;have d1:=Zaa hxb6 1;have d2:=Zaa hxb6 2;simp at d0 d1 d2
     obtain⟨w6,hw6⟩:∃ W,W=w5.alloc (.cells #[.int .i64 D.to,.int .i64 D.cost,.slice da D.hops.length dc] 48):=⟨_,rfl⟩;rw [<-hw6] at BC;have B6:Below wr.heap.size wr w6:=HBA.out.trans ((b5.mono hs4).trans (BC.mono (by omega)))
     have st6:=HST.out.below B6;have ra6:=HRX.out.below B6 (by omega)
     have N6:Below w1.heap.size w1 w6:=hnx2.trans (B6.mono hnx2.size);have hs6:=B6.size;clear hdu b5 BC hxb5 hxb6 HST HRX HWW HXB HBA B6;cases FB
     ·have hno:∀ y,¬Zau (fsts ps) al src r.1.to y:=by
       rcases HH.out with ⟨h1,_⟩ | ⟨_,h2⟩
       ·cases h1
       ·exact h2
      have hT:∀ to d,((byS (fsts ps) al (L.take k) src to d\/((∀ y,¬Zau (fsts ps) al src to y)/\d.to=to/\d∈(Zag os).take j))\/(d=r.1/\r.1.to=to))↔(byS (fsts ps) al (L.take k) src to d\/((∀ y,¬Zau (fsts ps) al src to y)/\d.to=to/\d∈(Zag os).take (j+1))):=by
       intro to d;rw [Zbs (ZcH HRR.out)]
       constructor
       ·rintro ((h | ⟨h0,h1,h2⟩) | ⟨h1,h2⟩)
        ·exact .inl h
        ·exact .inr ⟨h0,h1,.inl h2⟩
        ·exact .inr ⟨by rw [<-h2];exact hno,by rw [h1];exact h2,.inr h1⟩
       ·rintro (h | ⟨h0,h1,h2 | h2⟩)
        ·exact .inl (.inl h)
        ·exact .inl (.inr ⟨h0,h1,h2⟩)
        ·exact .inr ⟨h2,by rw [<-h2];exact h1⟩
      have HPW:=Zhw (.slice ya qs2.length yc) qs2 w1.heap.size r w6 st6.own N6.size (by have:=HGD.out;omega) (fun p hp=>by have:=HGD.out.2 p hp;omega) (by have:=HGR.out.len;omega) st6.best.1 (st6.hop HRR.out) (st6.apartR HRR.out)
      unfold wayC at HPW;rw [HRN.out] at HPW;have HNX:=hide (fun (W':World) (x':Value) (qs':List WP) (hp:PutD (Zag qs2) r.1 (Zag qs')) (ho:WaysOwn W' w1.heap.size W'.heap.size x' qs') (hf:Zes w6.heap.size qs2 r qs') hn (hg:w6.grownBy W' (Value.slice ya qs2.length yc).ownBlock)=>(⟨st6.put HRR.out HSS.out HGR.out hT hp ho hf hn hg,ra6.keep (st6.offR.kept hg),N6.grown hg N6.size (fun b hb=>(st6.own.row.lt b hb).1),hg.size⟩:_/\_/\_/\_))
      have HP:=hide HPW;clear HPW hT hno HH HRR HRN HGD HGR HSS st6 ra6 N6
      go_wp2_with fail
      rw [<-hw6];clear hw6;refine HP.out.mono ?_
      rintro e w7 ⟨x',qs',rfl,hp,ho,hf,hn',hg⟩;obtain⟨n1,n2,n3,n4⟩:=HNX.out w7 x' qs' hp ho hf hn' hg;obtain⟨x'a,x'c,rfl⟩:=Zac ho.row;have N1:=hide n1;have N2:=hide n2;have N3:=hide n3;clear n1 n2 n3 hp ho hf hn' hg HNX HP
      go_wp2
      go_roundw
      case rel=>exact ⟨j+1,_,qs',by omega,by go_num,rfl,N1.out,N2.out,N3.out,by omega⟩
      case measure=>simp [intOf];omega
     ·have hyes:∃ y,Zau (fsts ps) al src r.1.to y:=by
       rcases HH.out with ⟨_,h2⟩ | ⟨h1,_⟩
       ·exact h2
       ·cases h1
      have N1:=hide (st6.pass HRR.out (T:=fun to d=>byS (fsts ps) al (L.take k) src to d\/((∀ y,¬Zau (fsts ps) al src to y)/\d.to=to/\d∈(Zag os).take (j+1))) (fun to d=>by
       rw [Zbs (ZcH HRR.out)]
       constructor
       ·rintro (h | ⟨h0,h1,h2⟩)
        ·exact .inl h
        ·exact .inr ⟨h0,h1,.inl h2⟩
       ·rintro (h | ⟨h0,h1,h2 | h2⟩)
        ·exact .inl h
        ·exact .inr ⟨h0,h1,h2⟩
        ·obtain ⟨y,hy⟩:=hyes
         exact absurd (by rw [<-h1,h2];exact hy) (h0 y)))
      have N2:=hide ra6;have N3:=hide N6;have hsf:w3.heap.size<=w6.heap.size:=by omega
      rw [hw6] at N1 N2 N3 hsf;clear st6 ra6 N6 hyes HH HRR HRN HGD HGR HSS hw6
      go_wp2
      go_roundw
      case rel=>exact ⟨j+1,_,qs2,by omega,by go_num,rfl,N1.out,N2.out,N3.out,hsf⟩
      case measure=>simp [intOf];omega
    ·have hjn:¬(j:Int)<(os.length:Int):=by omega
     have HBX:=hide (show Zay (byS (fsts ps) al (L.take (k+1)) src) (Zag qs2) from st.best.congr (fun to d=>by
      rw [Znq HAR.out,show (Zag os).take j=Zag os from List.take_of_length_le (by simp [Zag];omega),HOS.out]
      rfl))
     have HOX:=hide st.own;have HFX:=hide st.offR;have HRX:=hide hra2;have HNX:=hide hnx2;have hsf:w2.heap.size<=wr.heap.size:=by omega
     clear st hra2 hnx2 hS hgd0
     go_wp2
     go_roundw
     case rel=>exact ⟨k+1,_,qs2,by omega,by go_num,rfl,HOX.out,HBX,HFX.out,HRX.out,HNX.out,hsf⟩
     case measure=>simp [intOf];omega
  ·have hkn:¬(k:Int)<(L.length:Int):=by omega
   have HE:=hide (show Zay (Zbz (fsts ps) al border src) (Zag qs) from by
    have h:=HB.out;rw [List.take_of_length_le (by omega)] at h
    exact h.congr HFIN.out)
   have HO:=hide (hown.wide (lo':=w.heap.size) hb1 (Nat.le_refl _));have HN:=hide BWA;clear hown hnx HB hoff hra BWA
   go_wp2
   go_ret
   first
    | exact ⟨_,qs,rfl,HE.out,HO.out,HN.out⟩
    | exact ⟨_,rfl,qs,HE.out,HO.out,HN.out⟩
end Go.Proofs.YtgdgkgmjpnbbcaaGreat
