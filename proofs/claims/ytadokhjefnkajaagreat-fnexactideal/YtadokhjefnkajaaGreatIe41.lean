/-
  WithinI
-/
import Derived.Test.YtadokhjefnkajaaGreatIe37
import Derived.Test.YtadokhjefnkajaaGreatIe20
import Derived.Test.YtadokhjefnkajaaGreatIe39
namespace Go.Proofs.YtadokhjefnkajaaGreat
open Go.RowKit
set_option linter.unusedSimpArgs false
set_option linter.unusedVariables false
set_option maxRecDepth 100000
set_option maxHeartbeats 8000000
theorem Zm5 (W:World)(lo:Nat)(hb:lo<=W.heap.size):WaysOwn (W.alloc (.cells #[] 194)) lo (W.alloc (.cells #[] 194)).heap.size (.slice (some ⟨W.heap.size,0,none⟩) 0 0) []:=Ze5 W lo hb
theorem Zf7 (v u:Value)(ps:List RP)(al:List Int)(hi:Nat)(src:Int)(w:World)(hv:RecsIn w hi v ps)(ha:ZaM w u al hi)(hhi:hi<=w.heap.size)(hn:tot ps<=1048576)(hal:al.length<=1048576):
  Calls Tryz.prog 163 #[v,u,.int .i64 src] w fun e w'=>∃ x qs,e=.returned x/\ZaR (Zau (fsts ps) al src) (Zal qs)/\WaysOwn w' w.heap.size w'.heap.size x qs/\Below w.heap.size w w':=by
 obtain⟨a1,c1,rfl⟩:=Zac hv.row;obtain⟨a2,c2,rfl⟩:=ha.shape;have BX:Below w.heap.size w (w.alloc (.cells #[] 194)):=(Below.refl _ _).alloc (Nat.le_refl _) _;have LIT:=Zm5 w w.heap.size (Nat.le_refl _);have hs0:(w.alloc (.cells #[] 194)).heap.size=w.heap.size+1:=by simp
 obtain⟨w0,hw0⟩:∃ W,W=w.alloc (.cells #[] 194):=⟨_,rfl⟩;rw [<-hw0] at BX LIT hs0;have HRE:=hide (Zk6 (.slice a2 al.length c2) al hi w0 hal (ZaE.later ha BX hhi) (by omega))
 have HWI:=hide (fun area W (hb:Below w.heap.size w W)=>Zei (.slice a1 ps.length c1) ps hi area src W (hv.below hb hhi) (Nat.le_trans hhi hb.size) hn)
 clear hv ha;have HLIT:=hide LIT;clear LIT;obtain⟨L,hL⟩:∃ L,L=ZcT al 3:=⟨_,rfl⟩;have hLl:L.length<=3:=by rw [hL];exact ZdJ al 3
 have HFIN:=hide (show ∀ to d,Zau (fsts ps) L src to d↔Zau (fsts ps) al src to d from fun to d=>Zik (fun a h1 h2=>by rw [hL,Zgp];exact⟨fun h=>h.1,fun h=>⟨h,h1,h2⟩⟩) to d)
 rw [<-hL] at HRE;clear hL
 go_enter Tryz.func163,Tryz.ntmps163
 go_wp2_with fail
 rw [<-hw0];clear hw0;refine HRE.out.mono ?_
 rintro e w1 ⟨ra,rfl,hra,b1⟩;obtain⟨raa,rac,rfl⟩:=Zac hra.row;have b1s:=b1.size;have B1:Below w.heap.size w w1:=BX.trans (b1.mono BX.size);have HO1:=hide ((HLIT.out.below b1 (Nat.le_refl _)).wide (Nat.le_refl _) b1s);have HRA:=hide hra;clear hra HLIT HRE b1
 go_wp2
 go_loopw [16,7] (fun i o wr=>∃ (k:Nat) (x:Value) (qs:List WP),k<=L.length/\i=.int .i64 (k:Int)/\o=x/\WaysOwn wr w.heap.size wr.heap.size x qs/\Hid (ZaR (Zau (fsts ps) (L.take k) src) (Zal qs))/\Off x w0.heap.size w1.heap.size/\IntsOwn wr w0.heap.size w1.heap.size (.slice raa L.length rac) L/\Below w.heap.size w wr/\w1.heap.size<=wr.heap.size) (fun i _ _=>L.length-(intOf i).toNat)
 case atStart=>exact ⟨0,_,[],by omega,rfl,rfl,HO1.out,hide (ZcK (fun to d ⟨_,a,h,_⟩=>by simp at h)),fun b hb=>by simp [Value.ownBlock] at hb;omega,HRA.out,B1,Nat.le_refl _⟩
 case round=>
  obtain⟨k,x,qs,hk,rfl,rfl,hown,HB,hoff,hra,hnx,hsz⟩:=hrel;clear HO1 HRA;obtain⟨xa,xc,rfl⟩:=Zac hown.row
  rename World=>wa
  by_cases hlt:k<L.length
  ·obtain ⟨area,har⟩:∃ a,L[k]? = some a:=⟨L[k],List.getElem?_eq_getElem hlt⟩
   obtain⟨b,off,cap',hve,hbb,c0⟩:=hra.at.cell k area har;cases hve
   have hki:(0:Int)<=(k:Int):=by omega
   have hkj:(k:Int)<(L.length:Int):=by omega
   have HOWN:=hide hown;have HOFF:=hide hoff;have HRA:=hide hra;have HAR:=hide har;clear hown hoff hra har
   go_wp2_with fail
   refine (HWI.out area _ hnx).mono ?_
   rintro e w2 ⟨uw,ws,rfl,hws,how,b2⟩;obtain⟨wsa,wsc,rfl⟩:=Zac how.row;have hwl:=(ZbF (fsts ps) area src);have hwe:=hws.eq;have hwn:ws.length<=6:=by
    have:=Zc2 hwl.1 (fun d hd=>(hwl.2 d hd).1.node)
    rw [<-hwe] at this
    simpa [Zal] using this
   have hb2:=b2.size;have ST0:=PutSt.start HOWN.out HB.out HOFF.out hsz hnx.size b2 how;have RA2:=HRA.out.below b2 hsz;have B2:Below w.heap.size w w2:=hnx.trans (b2.mono hnx.size);have HWE:=hide hwe;have HST0:=hide ST0;have HRA2:=hide RA2;clear hws how hwe hwl ST0 RA2 HOWN HOFF HRA HB b2
   go_wp2
   go_loopw [25,7] (fun i o wr=>∃ (j:Nat) (x:Value) (qs:List WP),j<=ws.length/\i=.int .i64 (j:Int)/\o=x/\PutSt wr w.heap.size w0.heap.size w1.heap.size wa.heap.size w2.heap.size (fun to d=>Zau (fsts ps) (L.take k) src to d\/(d.to=to/\d∈(Zal ws).take j)) x qs (.slice wsa ws.length wsc) ws j/\IntsOwn wr w0.heap.size w1.heap.size (.slice (some ⟨b,off,none⟩) L.length rac) L/\Below w.heap.size w wr/\w2.heap.size<=wr.heap.size) (fun i _ _=>ws.length-(intOf i).toNat)
   case atStart=>exact ⟨0,_,qs,by omega,rfl,rfl, { HST0.out with best:=HST0.out.best.congr (fun to d=>⟨.inl,by rintro (h | ⟨_,h⟩);exact h;simp at h⟩) },HRA2.out,B2,Nat.le_refl _⟩
   case round=>
    obtain⟨j,y,qs2,hj,rfl,rfl,st,hra2,hnx2,hsz2⟩:=hrel;clear HST0 HRA2 B2;obtain⟨ya,yc,rfl⟩:=Zac st.own.row;have hS:∀ to d,(Zau (fsts ps) (L.take k) src to d\/(d.to=to/\d∈(Zal ws).take j))->GoodW d/\d.to=to:=by
     rintro to d (h | ⟨h1,h2⟩)
     ·exact Zbc h
     ·exact ⟨((ZbF (fsts ps) area src).2 d (by rw [<-HWE.out];exact List.mem_of_mem_take h2)).1,h1⟩
    by_cases hjl:j<ws.length
    ·obtain ⟨r,hr⟩:∃ r,ws[j]? = some r:=⟨ws[j],List.getElem?_eq_getElem hjl⟩
     obtain⟨b3,off3,cp3,hve,hbb3,c0,c1,c2,_⟩:=st.from_.at.cells j r hr;cases hve
     have hgr:GoodW r.1:=((ZbF (fsts ps) area src).2 r.1 (by rw [<-HWE.out];simp only [Zal,List.mem_map];exact⟨r,List.mem_of_getElem? hr,rfl⟩)).1
     have hji:(0:Int)<=(j:Int):=by omega
     have hjj:(j:Int)<(ws.length:Int):=by omega
     obtain⟨rra,rrc,hrn⟩:=Zac (st.from_.nears r (List.mem_of_getElem? hr)).1;rw [hrn] at c2;have hgd:=st.good hS;have hT:∀ to d,((Zau (fsts ps) (L.take k) src to d\/(d.to=to/\d∈(Zal ws).take j))\/(d=r.1/\r.1.to=to))↔(Zau (fsts ps) (L.take k) src to d\/(d.to=to/\d∈(Zal ws).take (j+1))):=by
      intro to d;rw [Zbo (ZcA hr)]
      constructor
      ·rintro ((h | ⟨h1,h2⟩) | ⟨h1,h2⟩)
       ·exact .inl h
       ·exact .inr ⟨h1,.inl h2⟩
       ·exact .inr ⟨by rw [h1];exact h2,.inr h1⟩
      ·rintro (h | ⟨h1,h2 | h2⟩)
       ·exact .inl (.inl h)
       ·exact .inl (.inr ⟨h1,h2⟩)
       ·exact .inr ⟨h2,by rw [<-h2];exact h1⟩
     have BA:Below wr.heap.size wr (wr.alloc (.cells #[.int .i64 r.1.to,.int .i64 r.1.cost,.slice rra r.1.hops.length rrc] 194)):=(Below.refl _ _).alloc (Nat.le_refl _) _;obtain⟨w3,hw3⟩:∃ W,W=wr.alloc (.cells #[.int .i64 r.1.to,.int .i64 r.1.cost,.slice rra r.1.hops.length rrc] 194):=⟨_,rfl⟩;rw [<-hw3] at BA;have st3:=st.below BA;have ra3:=hra2.below BA (by omega)
     have B3:Below w.heap.size w w3:=hnx2.trans (BA.mono hnx2.size);have hs3:=BA.size;have HPW:=Zhd (.slice ya qs2.length yc) qs2 w.heap.size r w3 st3.own B3.size (by omega) (fun p hp=>by have:=hgd.2 p hp;omega) (by have:=hgr.len;omega) st3.best.1 (st3.hop hr) (st3.apartR hr)
     unfold wayC at HPW;rw [hrn] at HPW;have HNX:=hide (fun (W':World) (x':Value) (qs':List WP) (hp:PutD (Zal qs2) r.1 (Zal qs')) (ho:WaysOwn W' w.heap.size W'.heap.size x' qs') (hf:Zed w3.heap.size qs2 r qs') hn (hg:w3.grownBy W' (Value.slice ya qs2.length yc).ownBlock)=>(⟨st3.put hr hS hgr hT hp ho hf hn hg,ra3.keep (st3.offR.kept hg),B3.grown hg B3.size (fun b hb=>(st3.own.row.lt b hb).1),hg.size⟩:_/\_/\_/\_))
     have HP:=hide HPW;clear HPW hgd hT hS hr hrn st st3 hra2 ra3 hgr
     go_wp2_with fail
     rw [<-hw3];clear hw3;refine HP.out.mono ?_
     rintro e w4 ⟨x',qs',rfl,hp,ho,hf,hn',hg⟩;obtain⟨n1,n2,n3,n4⟩:=HNX.out w4 x' qs' hp ho hf hn' hg;obtain⟨x'a,x'c,rfl⟩:=Zac ho.row;have N1:=hide n1;have N2:=hide n2;have N3:=hide n3;clear n1 n2 n3 hp ho hf hn' hg HNX HP
     go_wp2
     go_roundw
     case rel=>exact ⟨j+1,_,qs',by omega,by go_num,rfl,N1.out,N2.out,N3.out,by omega⟩
     case measure=>simp [intOf];omega
    ·have hjn:¬(j:Int)<(ws.length:Int):=by omega
     have HBX:=hide (show ZaR (Zau (fsts ps) (L.take (k+1)) src) (Zal qs2) from st.best.congr (fun to d=>by
      rw [ZdO HAR.out,show (Zal ws).take j=Zal ws from List.take_of_length_le (by simp [Zal];omega),HWE.out]))
     have HOX:=hide st.own;have HFX:=hide st.offR;have HRX:=hide hra2;have HNX:=hide hnx2;have hsf:w1.heap.size<=wr.heap.size:=by omega
     clear st hra2 hnx2 hS
     go_wp2
     go_roundw
     case rel=>exact ⟨k+1,_,qs2,by omega,by go_num,rfl,HOX.out,HBX,HFX.out,HRX.out,HNX.out,hsf⟩
     case measure=>simp [intOf];omega
  ·have hkn:¬(k:Int)<(L.length:Int):=by omega
   have HE:=hide (show ZaR (Zau (fsts ps) al src) (Zal qs) from by
    have h:=HB.out;rw [List.take_of_length_le (by omega)] at h
    exact h.congr HFIN.out)
   have HO:=hide hown;have HN:=hide hnx;clear hown hnx HB hoff hra
   go_wp2
   go_ret
   first
    | exact ⟨_,qs,rfl,HE.out,HO.out,HN.out⟩
    | exact ⟨_,rfl,qs,HE.out,HO.out,HN.out⟩
end Go.Proofs.YtadokhjefnkajaaGreat
