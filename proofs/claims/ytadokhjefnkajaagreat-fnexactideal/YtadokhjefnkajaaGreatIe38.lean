/-
  BeyS WithinT
-/
import Derived.Test.YtadokhjefnkajaaGreatIe37
namespace Go.Proofs.YtadokhjefnkajaaGreat
open Go.RowKit
set_option linter.unusedSimpArgs false
set_option linter.unusedVariables false
set_option maxRecDepth 100000
set_option maxHeartbeats 8000000
def Zfx (to:Int)(S:WayD->Prop)(E:WayD)(fv:Value):Prop:=∃ F:Bool,fv=.bool F/\ZaQ to S (if F then some E else none)
theorem Zfx.of {to:Int}{S:WayD->Prop}{E:WayD}{F:Bool}(h:ZaQ to S (if F then some E else none)):Zfx to S E (.bool F):=⟨F,rfl,h⟩
theorem Zo5 (v uw:Value)(ps:List RP)(ws:List WP)(hi lo2 hi2 lo:Nat)(area src to:Int)(b0:WayD)(bv0:Value)(F0:Bool)(w:World)(S0:WayD->Prop)(hv:RecsIn w hi v ps)(hhi:hi<=w.heap.size)(hn:tot ps<=1048576)
  (hw:WaysOwn w lo2 hi2 uw ws) (hhi2:hi2<=w.heap.size) (hws:Zal ws=ZbE (fsts ps) area src) (hst:ZaI (fsts ps)=true) (hbo:ZaQ to S0 (if F0 then some b0 else none)) (hS0:∀ d,S0 d->GoodW d/\d.to=to) (hb0:w.ownsRow lo 3 1 bv0 b0.hops.length (flat intE b0.hops)) (hlo:lo<=w.heap.size) (hl0:b0.hops.length<=6):
  Calls Tryz.prog 225 #[v,uw,.int .i64 area,.int .i64 src,.int .i64 to,.agg (wayC b0 bv0),.bool F0] w fun e w'=>∃ (E:WayD) (u fv:Value),e=.returned (.tuple #[.agg (wayC E u),fv])/\Zfx to (fun d=>S0 d\/outS (fsts ps) (fsts ps) area src to d) E fv/\w'.ownsRow lo 3 1 u E.hops.length (flat intE E.hops)/\E.hops.length<=6/\Below w.heap.size w w':=by
 have hnl:=Zbh ps;obtain⟨a1,c1,rfl⟩:=Zac hv.row;obtain⟨a2,c2,rfl⟩:=Zac hw.row;obtain⟨a3,c3,rfl⟩:=Zac hb0;have hwt:totW ws<=1048576:=by have:=Zij hws;omega
 have BX:Below w.heap.size w ((w.alloc (.cells #[.int .i64 b0.to,.int .i64 b0.cost,.slice a3 b0.hops.length c3] 194)).alloc (.cells #[.int .i64 0,.int .i64 0,.slice none 0 0] 194)):=Zas _ _;have q0:((w.alloc (.cells #[.int .i64 b0.to,.int .i64 b0.cost,.slice a3 b0.hops.length c3] 194)).alloc (.cells #[.int .i64 0,.int .i64 0,.slice none 0 0] 194)).heap[w.heap.size]? = some (.cells #[.int .i64 b0.to,.int .i64 b0.cost,.slice a3 b0.hops.length c3] 194):=by
  rw [Below.heap_alloc _ _ _ (by simp),heap_alloc_new]
 have q1:((w.alloc (.cells #[.int .i64 b0.to,.int .i64 b0.cost,.slice a3 b0.hops.length c3] 194)).alloc (.cells #[.int .i64 0,.int .i64 0,.slice none 0 0] 194)).heap[w.heap.size+1]? = some (.cells #[.int .i64 0,.int .i64 0,.slice none 0 0] 194):=by
  have e:=heap_alloc_new (w.alloc (.cells #[.int .i64 b0.to,.int .i64 b0.cost,.slice a3 b0.hops.length c3] 194)) (.cells #[.int .i64 0,.int .i64 0,.slice none 0 0] 194);rw [show (w.alloc (.cells #[.int .i64 b0.to,.int .i64 b0.cost,.slice a3 b0.hops.length c3] 194)).heap.size=w.heap.size+1 by simp] at e
  exact e
 have hs2:((w.alloc (.cells #[.int .i64 b0.to,.int .i64 b0.cost,.slice a3 b0.hops.length c3] 194)).alloc (.cells #[.int .i64 0,.int .i64 0,.slice none 0 0] 194)).heap.size=w.heap.size+2:=by simp
 obtain⟨w0,hw0⟩:∃ W,W=((w.alloc (.cells #[.int .i64 b0.to,.int .i64 b0.cost,.slice a3 b0.hops.length c3] 194)).alloc (.cells #[.int .i64 0,.int .i64 0,.slice none 0 0] 194)):=⟨_,rfl⟩;rw [<-hw0] at BX q0 q1 hs2;have HBX0:=hide (show BoxT w0 w.heap.size lo b0 (.slice a3 b0.hops.length c3) from ⟨q0,Zae hb0 BX (Nat.le_refl _),hl0⟩)
 have HQ1:=hide q1;have HV:=hide hv;have HWT:=hide (fun (z:Int) (W:World) (hb:Below w.heap.size w W)=>ZcD (.slice a2 ws.length c2) ws lo2 hi2 z W (hw.below hb hhi2) (Nat.le_trans hhi2 hb.size) hwt)
 have HB0:=hide (show ZaQ to (fun d=>S0 d\/outS (fsts ps) ((fsts ps).take 0) area src to d) (if F0 then some b0 else none) from hbo.congr (fun d=>⟨.inl,by rintro (h | ⟨_,r,h,_⟩);exact h;simp at h⟩))
 have HS2:=hide hs2;unfold wayC;clear hv hw hb0 q0 q1 hbo hs2
 go_enter Tryz.func225,Tryz.ntmps225
 go_wp2
 rw [<-hw0];clear hw0
 go_loopw [16,6] (fun i f wr=>∃ (k:Nat) (F:Bool) (b:WayD) (bv:Value),k<=ps.length/\i=.int .i64 (k:Int)/\f=.bool F/\BoxT wr w.heap.size lo b bv/\wr.heap[w.heap.size+1]? = some (.cells #[.int .i64 0,.int .i64 0,.slice none 0 0] 194)/\Hid (ZaQ to (fun d=>S0 d\/outS (fsts ps) ((fsts ps).take k) area src to d) (if F then some b else none))/\Below w.heap.size w wr/\w.heap.size+2<=wr.heap.size) (fun i _ _=>ps.length-(intOf i).toNat)
 case atStart=>exact ⟨0,F0,b0,_,by omega,rfl,rfl,HBX0.out,HQ1.out,HB0,BX,by have:=HS2.out;omega⟩
 case round=>
  obtain⟨k,F,b,bv,hk,rfl,rfl,hbx,hrz,HBO,hnx,hsz⟩:=hrel;clear HBX0 HQ1 HB0 HS2 BX;obtain⟨ba,bc,rfl⟩:=Zac hbx.own;by_cases hlt:k<ps.length
  ·obtain ⟨p,hp⟩:∃ p,ps[k]? = some p:=⟨ps[k],List.getElem?_eq_getElem hlt⟩
   obtain⟨bb,off,cap',hve,hbb,c0,c1,c2,c3,c4,c5,c6,c7,hnr⟩:=HV.out.at.cells k p hp;cases hve
   obtain⟨pa,pc,hpn⟩:=ZaC.shape hnr;rw [hpn] at c5;rw [<-hnx.cell (p:=⟨bb,off+k*8,none⟩) (Nat.lt_of_lt_of_le hbb hhi)] at c0;rw [<-hnx.cell (p:=⟨bb,off+k*8+1,none⟩) (Nat.lt_of_lt_of_le hbb hhi)] at c1;rw [<-hnx.cell (p:=⟨bb,off+k*8+2,none⟩) (Nat.lt_of_lt_of_le hbb hhi)] at c2;rw [<-hnx.cell (p:=⟨bb,off+k*8+3,none⟩) (Nat.lt_of_lt_of_le hbb hhi)] at c3;rw [<-hnx.cell (p:=⟨bb,off+k*8+4,none⟩) (Nat.lt_of_lt_of_le hbb hhi)] at c4;rw [<-hnx.cell (p:=⟨bb,off+k*8+5,none⟩) (Nat.lt_of_lt_of_le hbb hhi)] at c5;rw [<-hnx.cell (p:=⟨bb,off+k*8+6,none⟩) (Nat.lt_of_lt_of_le hbb hhi)] at c6;rw [<-hnx.cell (p:=⟨bb,off+k*8+7,none⟩) (Nat.lt_of_lt_of_le hbb hhi)] at c7;have HPP:=hide (Zbw hp);have hpm:p.1∈fsts ps:=List.mem_of_getElem? (Zbw hp);have BAL:Below wr.heap.size wr (wr.alloc (.cells #[.int .i64 p.1.area,.int .i64 p.1.kind,.int .i64 p.1.owner,.int .i64 p.1.key,.int .i64 p.1.seq,.slice pa p.1.near.length pc,.int .i64 p.1.cost,.bool p.1.far] 39)):=(Below.refl _ _).alloc (Nat.le_refl _) _;have hxl:=heap_alloc_new wr (.cells #[.int .i64 p.1.area,.int .i64 p.1.kind,.int .i64 p.1.owner,.int .i64 p.1.key,.int .i64 p.1.seq,.slice pa p.1.near.length pc,.int .i64 p.1.cost,.bool p.1.far] 39);obtain⟨wl,hwl⟩:∃ W,W=(wr.alloc (.cells #[.int .i64 p.1.area,.int .i64 p.1.kind,.int .i64 p.1.owner,.int .i64 p.1.key,.int .i64 p.1.seq,.slice pa p.1.near.length pc,.int .i64 p.1.cost,.bool p.1.far] 39)):=⟨_,rfl⟩;rw [<-hwl] at BAL hxl;have hki:(0:Int)<=(k:Int):=by omega
   have hkj:(k:Int)<(ps.length:Int):=by omega
   clear hp hnr hpn;by_cases hK:p.1.kind=2
   case neg=>
    have hd:(p.1.kind != 2)=true:=by simpa using hK
    have HhK:=hide hK;clear hK;have HN:=hide (ZbL HPP.out HBO.out (fun d hdt ht=>HhK.out ht.1))
    have HBX:=hide (hbx.below BAL);have HRZ:=hide ((BAL.block _ (by have:=Zab hrz;omega)).trans hrz)
    have BN:=hide (hnx.trans (BAL.mono hnx.size));rw [hwl] at HBX HRZ BN;have hszn:w.heap.size+2<=(wr.alloc (.cells #[.int .i64 p.1.area,.int .i64 p.1.kind,.int .i64 p.1.owner,.int .i64 p.1.key,.int .i64 p.1.seq,.slice pa p.1.near.length pc,.int .i64 p.1.cost,.bool p.1.far] 39)).heap.size:=by simp;omega
    clear hbx hrz HBO HPP HWT BAL hwl
    go_wp2
    go_roundw
    case rel=>exact ⟨k+1,F,b,_,by omega,by go_num,rfl,HBX.out,HRZ.out,HN,BN.out,hszn⟩
    case measure=>simp [intOf];omega
   have hdK:(p.1.kind != 2)=false:=by simpa using hK
   have HhK:=hide hK;clear hK;by_cases hA:p.1.area=area
   case neg=>
    have hd:(p.1.area != area)=true:=by simpa using hA
    have HhA:=hide hA;clear hA;have HN:=hide (ZbL HPP.out HBO.out (fun d hdt ht=>HhA.out ht.2.1))
    have HBX:=hide (hbx.below BAL);have HRZ:=hide ((BAL.block _ (by have:=Zab hrz;omega)).trans hrz)
    have BN:=hide (hnx.trans (BAL.mono hnx.size));rw [hwl] at HBX HRZ BN;have hszn:w.heap.size+2<=(wr.alloc (.cells #[.int .i64 p.1.area,.int .i64 p.1.kind,.int .i64 p.1.owner,.int .i64 p.1.key,.int .i64 p.1.seq,.slice pa p.1.near.length pc,.int .i64 p.1.cost,.bool p.1.far] 39)).heap.size:=by simp;omega
    clear hbx hrz HBO HPP HWT BAL hwl
    go_wp2
    go_roundw
    case rel=>exact ⟨k+1,F,b,_,by omega,by go_num,rfl,HBX.out,HRZ.out,HN,BN.out,hszn⟩
    case measure=>simp [intOf];omega
   have hdA:(p.1.area != area)=false:=by simpa using hA
   have HhA:=hide hA;clear hA;by_cases hY:p.1.key=to
   case neg=>
    have hd:(p.1.key != to)=true:=by simpa using hY
    have HhY:=hide hY;clear hY;have HN:=hide (ZbL HPP.out HBO.out (fun d hdt ht=>HhY.out (by obtain ⟨_,_,_,v,_,_,rfl⟩:=ht;exact hdt)))
    have HBX:=hide (hbx.below BAL);have HRZ:=hide ((BAL.block _ (by have:=Zab hrz;omega)).trans hrz)
    have BN:=hide (hnx.trans (BAL.mono hnx.size));rw [hwl] at HBX HRZ BN;have hszn:w.heap.size+2<=(wr.alloc (.cells #[.int .i64 p.1.area,.int .i64 p.1.kind,.int .i64 p.1.owner,.int .i64 p.1.key,.int .i64 p.1.seq,.slice pa p.1.near.length pc,.int .i64 p.1.cost,.bool p.1.far] 39)).heap.size:=by simp;omega
    clear hbx hrz HBO HPP HWT BAL hwl
    go_wp2
    go_roundw
    case rel=>exact ⟨k+1,F,b,_,by omega,by go_num,rfl,HBX.out,HRZ.out,HN,BN.out,hszn⟩
    case measure=>simp [intOf];omega
   have hdY:(p.1.key != to)=false:=by simpa using hY
   have HhY:=hide hY;clear hY;by_cases hO:p.1.owner=src
   case pos=>
    have hd:(p.1.owner==src)=true:=by simpa using hO
    have HhO:=hide hO;clear hO;have HN:=hide (ZbL HPP.out HBO.out (fun d hdt ht=>ht.2.2.1 HhO.out))
    have HBX:=hide (hbx.below BAL);have HRZ:=hide ((BAL.block _ (by have:=Zab hrz;omega)).trans hrz)
    have BN:=hide (hnx.trans (BAL.mono hnx.size));rw [hwl] at HBX HRZ BN;have hszn:w.heap.size+2<=(wr.alloc (.cells #[.int .i64 p.1.area,.int .i64 p.1.kind,.int .i64 p.1.owner,.int .i64 p.1.key,.int .i64 p.1.seq,.slice pa p.1.near.length pc,.int .i64 p.1.cost,.bool p.1.far] 39)).heap.size:=by simp;omega
    clear hbx hrz HBO HPP HWT BAL hwl
    go_wp2
    go_roundw
    case rel=>exact ⟨k+1,F,b,_,by omega,by go_num,rfl,HBX.out,HRZ.out,HN,BN.out,hszn⟩
    case measure=>simp [intOf];omega
   have hdO:(p.1.owner==src)=false:=by simpa using hO
   have HhO:=hide hO;clear hO;have hrb:=Zd2 hst hpm HhK.out;by_cases hC:60000<=p.1.cost
   case pos=>
    have HN:=hide (ZbL HPP.out HBO.out (fun d hdt ht=>by obtain ⟨_,_,_,v,h4,h5,_⟩:=ht;have:=((ZbF (fsts ps) area src).2 v (Za0 h4).1).1.cost;omega))
    have HBX:=hide (hbx.below BAL);have HRZ:=hide ((BAL.block _ (by have:=Zab hrz;omega)).trans hrz)
    have BN:=hide (hnx.trans (BAL.mono hnx.size));rw [hwl] at HBX HRZ BN;have hszn:w.heap.size+2<=(wr.alloc (.cells #[.int .i64 p.1.area,.int .i64 p.1.kind,.int .i64 p.1.owner,.int .i64 p.1.key,.int .i64 p.1.seq,.slice pa p.1.near.length pc,.int .i64 p.1.cost,.bool p.1.far] 39)).heap.size:=by simp;omega
    clear hbx hrz HBO HPP HWT BAL hwl
    go_wp2
    go_roundw
    case rel=>exact ⟨k+1,F,b,_,by omega,by go_num,rfl,HBX.out,HRZ.out,HN,BN.out,hszn⟩
    case measure=>simp [intOf];omega
   have hfd:=Zcp (Zal ws) p.1.owner;rw [hws] at hfd;have HW:=HWT.out p.1.owner wl (hnx.trans (BAL.mono hnx.size));rw [hws] at HW;obtain⟨D,hD⟩:∃ D,D=ZbD (ZbE (fsts ps) area src) p.1.owner:=⟨_,rfl⟩;obtain⟨FB,hFB⟩:∃ F,F=Zbs (ZbE (fsts ps) area src) p.1.owner:=⟨_,rfl⟩;rw [<-hD, <-hFB] at HW hfd;have hx2:=Zaa hxl 2;simp at hx2
   have HXL:=hide hxl;rw [hwl] at hx2;have HWW:=hide HW;have HFD:=hide hfd;have HBX:=hide (hbx.below BAL);have HRZ:=hide ((BAL.block _ (by have:=Zab hrz;omega)).trans hrz)
   have HBL:=hide BAL;have hsl:=BAL.size;unfold wayC at HWW;clear HW hfd hD hFB hbx hrz hxl BAL
   go_wp2_with fail
   rw [<-hwl];clear hwl hx2;refine HWW.out.mono ?_
   rintro e w3 ⟨du,rfl,hdu,b3⟩;obtain⟨da,dc,rfl⟩:=Zac hdu;have hb3:=b3.size;have BW3:Below w.heap.size w w3:=hnx.trans ((HBL.out.mono hnx.size).trans (b3.mono (by have:=hnx.size;omega)))
   have hbx3:=HBX.out.below b3;have hrz3:=(b3.block _ (Zab HRZ.out)).trans HRZ.out;have hxl3:=(b3.block _ (Zab HXL.out)).trans HXL.out;have hwl3:=Zab HXL.out;have HBA:=hide (fun o=>hbx3.below ((Below.refl w3.heap.size w3).alloc (Nat.le_refl _) o))
   have HZA:=hide (fun o=>(((Below.refl w3.heap.size w3).alloc (Nat.le_refl _) o).block _ (Zab hrz3)).trans hrz3)
   have HWA:=hide (fun o=>BW3.trans (((Below.refl w3.heap.size w3).alloc (Nat.le_refl _) o).mono BW3.size))
   have HDA:=hide (fun o=>Zae hdu ((Below.refl w3.heap.size w3).alloc (Nat.le_refl _) o) (Nat.le_refl _))
   have HXA:=hide (fun o=>by
    have h:=Zaa ((((Below.refl w3.heap.size w3).alloc (Nat.le_refl _) o).block _ (Zab hxl3)).trans hxl3) 6;simp at h
    exact h)
   have HB3:=hide hbx3;have HZ3:=hide hrz3;have HD3:=hide hdu;have HW3:=hide BW3;have hz3:w.heap.size<w3.heap.size:=Zab hbx3.box;have hzne:w.heap.size≠w3.heap.size:=by omega
   clear hdu b3 hbx3 hrz3 hxl3 HWW HBX HRZ HXL HBL BW3;cases FB
   ·have HN:=hide (ZbL HPP.out HBO.out (fun d hdt ht=>by
     obtain⟨_,_,_,v,h4,_⟩:=ht
     rcases HFD.out with ⟨h1,_⟩ | ⟨_,h2⟩
     ·cases h1
     ·rw [h2] at h4;cases h4))
    have N1:=hide (HBA.out (.cells #[.int .i64 D.to,.int .i64 D.cost,.slice da D.hops.length dc] 194));have N2:=hide (HZA.out (.cells #[.int .i64 D.to,.int .i64 D.cost,.slice da D.hops.length dc] 194));have N3:=hide (HWA.out (.cells #[.int .i64 D.to,.int .i64 D.cost,.slice da D.hops.length dc] 194));have hszn:w.heap.size+2<=(w3.alloc (.cells #[.int .i64 D.to,.int .i64 D.cost,.slice da D.hops.length dc] 194)).heap.size:=by simp;omega
    clear HBA HZA HWA HDA HXA HBO HPP HFD HWT
    go_wp2
    go_roundw
    case rel=>exact ⟨k+1,F,b,_,by omega,by go_num,rfl,N1.out,N2.out,HN,N3.out,hszn⟩
    case measure=>simp [intOf];omega
   ·have hfound:Zbu (ZbE (fsts ps) area src) p.1.owner=some D:=by
     rcases HFD.out with ⟨_,h2⟩ | ⟨h1,_⟩
     ·exact h2
     ·cases h1
    have hDg:=(ZbF (fsts ps) area src).2 D (Za0 hfound).1;have hD0:=hDg.1.cost;have hD6:=hDg.1.len;have hDc:=hDg.2;have x1:=HXA.out (.cells #[.int .i64 D.to,.int .i64 D.cost,.slice da D.hops.length dc] 194);by_cases hsum:60000<=D.cost+p.1.cost
    ·have HN:=hide (ZbL HPP.out HBO.out (fun d hdt ht=>by
      obtain⟨_,_,_,v,h4,h5,_⟩:=ht;rw [hfound] at h4;cases h4
      omega))
     have N1:=hide (HBA.out (.cells #[.int .i64 D.to,.int .i64 D.cost,.slice da D.hops.length dc] 194));have N2:=hide (HZA.out (.cells #[.int .i64 D.to,.int .i64 D.cost,.slice da D.hops.length dc] 194));have N3:=hide (HWA.out (.cells #[.int .i64 D.to,.int .i64 D.cost,.slice da D.hops.length dc] 194));have hszn:w.heap.size+2<=(w3.alloc (.cells #[.int .i64 D.to,.int .i64 D.cost,.slice da D.hops.length dc] 194)).heap.size:=by simp;omega
     clear HBA HZA HWA HDA HXA HBO HPP HFD HWT hfound hDg
     go_wp2
     go_roundw
     case rel=>exact ⟨k+1,F,b,_,by omega,by go_num,rfl,N1.out,N2.out,HN,N3.out,hszn⟩
     case measure=>simp [intOf];omega
    ·have htell:Zcm (fsts ps) area src p.1 ⟨to,D.cost+p.1.cost,D.hops⟩:=⟨HhK.out,HhA.out,HhO.out,D,hfound,by omega,by rw [HhY.out]⟩
     have HBN:=hide (Zju ZnO hS0 HPP.out HBO.out htell rfl);have x2:=HXA.out (.cells #[.int .i64 to,.int .i64 D.cost,.slice da D.hops.length dc] 194);have N1:=HBA.out (.cells #[.int .i64 to,.int .i64 (D.cost+p.1.cost),.slice da D.hops.length dc] 194);have N2:=HZA.out (.cells #[.int .i64 to,.int .i64 (D.cost+p.1.cost),.slice da D.hops.length dc] 194);have N3:=HWA.out (.cells #[.int .i64 to,.int .i64 (D.cost+p.1.cost),.slice da D.hops.length dc] 194);have N4:=HDA.out (.cells #[.int .i64 to,.int .i64 (D.cost+p.1.cost),.slice da D.hops.length dc] 194);have hx4:=heap_alloc_new w3 (.cells #[.int .i64 to,.int .i64 (D.cost+p.1.cost),.slice da D.hops.length dc] 194);have hs4:(w3.alloc (.cells #[.int .i64 to,.int .i64 (D.cost+p.1.cost),.slice da D.hops.length dc] 194)).heap.size=w3.heap.size+1:=by simp
     have hsm:D.cost+p.1.cost<60000:=by omega
     clear htell hfound hDg HFD HWT HPP HBO HBA HZA HWA HDA HXA hsum;have hzb:=N1.box;unfold wayC at hzb;have e0:=Zaa hzb 0;have e1:=Zaa hzb 1;have e2:=Zaa hzb 2;simp at e0 e1 e2
     have fe:=Zaf hzb;cases F
     ·have HN:=hide (show ZaQ to (fun d=>S0 d\/outS (fsts ps) ((fsts ps).take (k+1)) area src to d) (if true then some (⟨to,D.cost+p.1.cost,D.hops⟩:WayD) else none) from HBN.out)
      have P3:=(HB3.out.put (d:=⟨to,D.cost+p.1.cost,D.hops⟩) (Zaj (b0:=lo) HD3.out (by omega)) hD6)
      have B3:=HW3.out.grown (Za2 w3 w.heap.size ⟨to,D.cost+p.1.cost,D.hops⟩ (.slice da D.hops.length dc)) HW3.out.size (fun j hj=>by simp at hj;omega)
      have Z3:=Zeo (z:=w.heap.size) (d:=⟨to,D.cost+p.1.cost,D.hops⟩) (u:=.slice da D.hops.length dc) HZ3.out (by omega)
      have M1:=hide (P3.below ((Below.refl _ _).alloc (Nat.le_refl _) (.cells #[.int .i64 to,.int .i64 (D.cost+p.1.cost),.slice da D.hops.length dc] 194)));have M2:=hide ((((Below.refl _ _).alloc (Nat.le_refl _) (.cells #[.int .i64 to,.int .i64 (D.cost+p.1.cost),.slice da D.hops.length dc] 194)).block _ (Zab Z3)).trans Z3);have M3:=hide (B3.trans (((Below.refl _ _).alloc (Nat.le_refl _) (.cells #[.int .i64 to,.int .i64 (D.cost+p.1.cost),.slice da D.hops.length dc] 194)).mono B3.size));have hszn:w.heap.size+2<=((Za8 w3 w.heap.size ⟨to,D.cost+p.1.cost,D.hops⟩ (.slice da D.hops.length dc)).alloc (.cells #[.int .i64 to,.int .i64 (D.cost+p.1.cost),.slice da D.hops.length dc] 194)).heap.size:=by simp;omega
      have hzb3:=HB3.out.box;unfold wayC at hzb3;clear e0 e1 e2 fe;have e0:=Zaa hzb3 0;have e1:=Zaa hzb3 1;have e2:=Zaa hzb3 2;simp at e0 e1 e2
      have fe:=Zaf hzb3;clear N1 N2 N3 N4 HBN hzb hx4 P3 B3 Z3 HB3 HZ3 HD3 HW3 hzb3 hs4
      go_wp2
      go_roundw
      case rel=>exact ⟨k+1,true,⟨to,D.cost+p.1.cost,D.hops⟩,_,by omega,by go_num,rfl,M1.out,M2.out,HN,M3.out,hszn⟩
      case measure=>simp [intOf];omega
     ·have HTG:=Zk9 b ⟨to,D.cost+p.1.cost,D.hops⟩ (.slice ba b.hops.length bc) (.slice da D.hops.length dc) lo wl.heap.size _ N1.own N4 (by have:=N1.len;omega) (by show D.hops.length<=1048576;omega)
      unfold wayC at HTG;simp only [] at HTG
      obtain⟨E,hE⟩:∃ E,E=togD b ⟨to,D.cost+p.1.cost,D.hops⟩:=⟨_,rfl⟩;rw [<-hE] at HTG;have hE6:E.hops.length<=6:=by rw [hE];exact ZnP N1.len hD6 (by omega)
      have HN:=hide (show ZaQ to (fun d=>S0 d\/outS (fsts ps) ((fsts ps).take (k+1)) area src to d) (if true then some E else none) by
       have h:=HBN.out;rw [hE];exact h)
      have HT:=hide HTG;clear HB3 HZ3 HD3 HW3;have HN1:=hide N1;have HN2:=hide N2;have HN3:=hide N3;have HX4:=hide hx4;clear HTG HBN hE N1 N2 N3 N4 hzb hx4
      go_wp2_with fail
      refine HT.out.mono ?_
      rintro e w5 ⟨eu,rfl,heu,b5⟩;obtain⟨ea,ec,rfl⟩:=Zac heu;have hb5:=b5.size;have hx5:=(b5.block _ (Zab HX4.out)).trans HX4.out;have hbx5:=HN1.out.below b5;have hrz5:=(b5.block _ (Zab HN2.out)).trans HN2.out;have B5:Below w.heap.size w w5:=HN3.out.trans (b5.mono HN3.out.size);have hzb5:=hbx5.box;unfold wayC at hzb5;clear e0 e1 e2 fe x1 x2;have d0:=Zaa hx5 0;have d1:=Zaa hx5 1;have d2:=Zaa hx5 2;simp at d0 d1 d2
      have e0:=Zaa hzb5 0;have e1:=Zaa hzb5 1;have e2:=Zaa hzb5 2;simp at e0 e1 e2
      have fd:=Zaf hx5;have fe:=Zaf hzb5;have hg14:=Za2 w5 w3.heap.size E (.slice ea E.hops.length ec);have heu2:(Za8 w5 w3.heap.size E (.slice ea E.hops.length ec)).ownsRow lo 3 1 (.slice ea E.hops.length ec) E.hops.length (flat intE E.hops):=Zaj (Zg8 heu hg14 (by rw [hs4];omega)) (by rw [hs4];omega)
      have M1:=hide ((hbx5.other hg14 (by omega) hx5 (by decide)).put heu2 hE6)
      have M2:=hide (Zeo (z:=w.heap.size) (d:=E) (u:=.slice ea E.hops.length ec) (Zeo (z:=w3.heap.size) (d:=E) (u:=.slice ea E.hops.length ec) hrz5 (by omega)) (by omega))
      have M3:=hide ((B5.grown hg14 B5.size (fun j hj=>by simp at hj;omega)).grown (Za2 _ w.heap.size E (.slice ea E.hops.length ec)) (by have:=hg14.size;omega) (fun j hj=>by simp at hj;omega))
      have hszn:w.heap.size+2<=(Za8 (Za8 w5 w3.heap.size E (.slice ea E.hops.length ec)) w.heap.size E (.slice ea E.hops.length ec)).heap.size:=by rw [hs4] at hb5;simp;omega
      clear HN1 HN2 HN3 HX4 HT hx5 hbx5 hrz5 hzb5 heu b5 hg14 heu2 B5 hs4 hb5
      go_wp2
      go_roundw
      case rel=>exact ⟨k+1,true,E,_,by omega,by go_num,rfl,M1.out,M2.out,HN,M3.out,hszn⟩
      case measure=>simp [intOf];omega
  ·have hkn:¬(k:Int)<(ps.length:Int):=by omega
   have HBF:=hide (show ZaQ to (fun d=>S0 d\/outS (fsts ps) (fsts ps) area src to d) (if F then some b else none) by
    have h:=HBO.out;rw [List.take_of_length_le (by simp [fsts];omega)] at h
    exact h)
   have hzb:=hbx.box;unfold wayC at hzb;have e0:=Zaa hzb 0;have e1:=Zaa hzb 1;have e2:=Zaa hzb 2;simp at e0 e1 e2
   have y0:=Zaa hrz 0;have y1:=Zaa hrz 1;have y2:=Zaa hrz 2;simp at y0 y1 y2
   have fy:=Zaf hrz;have FF:=hide (Zc6 b (.slice ba b.hops.length bc) hrz);have hg:=Za2 wr (w.heap.size+1) b (.slice ba b.hops.length bc);have hbx2:=hbx.other hg (by omega) hrz (by decide)
   have HO:=hide hbx2.own;have HL:=hide hbx2.len;have HB:=hide (hnx.grown hg hnx.size (fun j hj=>by simp at hj;omega))
   clear hbx hrz hbx2 hg hzb HBO
   go_wp2_with fail
   (try simp only [Exit.inBlock,Exit.then])
   refine bodyPost_ret (Zbb rfl _ _ (w.heap.size+1) 194 (wayC b (.slice ba b.hops.length bc)) (0,0) _ rfl FF.out Tryz.underlying194 rfl (by kernel_rfl)) rfl ?_
   exact⟨b,_,.bool F,rfl,Zfx.of HBF.out,HO.out,HL.out,HB.out⟩
theorem ZgA (v u:Value)(ps:List RP)(al:List Int)(hi:Nat)(src:Int)(w:World)(hv:RecsIn w hi v ps)(ha:ZaM w u al hi)(hhi:hi<=w.heap.size)(hn:tot ps<=1048576)(hal:al.length<=1048576):
  Calls Tryz.prog 182 #[v,u,.int .i64 src] w fun e w'=>∃ x qs,e=.returned x/\ZaR (Zau (fsts ps) al src) (Zal qs)/\WaysOwn w' w.heap.size w'.heap.size x qs/\Below w.heap.size w w':=by
 obtain⟨a1,c1,rfl⟩:=Zac hv.row;obtain⟨a2,c2,rfl⟩:=ha.shape;have LIT:=Ze5 w w.heap.size (Nat.le_refl _);have hs1:(w.alloc (.cells #[] 194)).heap.size=w.heap.size+1:=by simp
 have B1:Below w.heap.size w (w.alloc (.cells #[] 194)):=(Below.refl _ _).alloc (Nat.le_refl _) _;obtain⟨w1,hw1⟩:∃ W,W=w.alloc (.cells #[] 194):=⟨_,rfl⟩;rw [<-hw1] at LIT hs1 B1;have LS:=ZnX w1 w1.heap.size (Nat.le_refl _);have B0:Below w1.heap.size w1 (w1.alloc (.cells #[] 188)):=(Below.refl _ _).alloc (Nat.le_refl _) _;obtain⟨w0,hw0⟩:∃ W,W=w1.alloc (.cells #[] 188):=⟨_,rfl⟩;rw [<-hw0] at LS B0;have HWI:=hide (fun area W (hb:Below w.heap.size w W)=>Zew (.slice a1 ps.length c1) ps hi area src W (hv.below hb hhi) (Nat.le_trans hhi hb.size) hn)
 have HA:=hide ha;clear hv ha;have HLIT:=hide LIT;have HLS:=hide LS;clear LIT LS;have HS1:=hide hs1;clear hs1
 go_enter Tryz.func182,Tryz.ntmps182
 go_wp2
 rw [<-hw1, <-hw0,show w.heap.size+1=w1.heap.size from HS1.out.symm]
 clear hw1 hw0
 go_loopw [9,8] (fun i o wr=>∃ (k:Nat) (y:Value) (ls:List LP),k<=al.length/\i=.int .i64 (k:Int)/\o=y/\WLs wr w1.heap.size wr.heap.size y ls/\Hid (ZbG (fsts ps) src (al.take k) ls)/\Below w1.heap.size w1 wr) (fun i _ _=>al.length-(intOf i).toNat)
 case atStart=>exact ⟨0,_,[],by omega,rfl,rfl,HLS.out,hide (by simp [ZbG]),B0⟩
 case round=>
  obtain⟨k,y,ls,hk,rfl,rfl,hls,HAW,hnx⟩:=hrel;clear HLS B0;obtain⟨ya,yc,rfl⟩:=Zac hls.row;have hlen:ls.length=k:=by have:=HAW.out.len;rw [List.length_take,Nat.min_eq_left hk] at this;exact this
  have BW:Below w.heap.size w wr:=B1.trans (hnx.mono B1.size);have hws:=BW.size;by_cases hlt:k<al.length
  ·obtain ⟨area,har⟩:∃ a,al[k]? = some a:=⟨al[k],List.getElem?_eq_getElem hlt⟩
   obtain⟨b,off,cap',hve,hbb,c0⟩:=HA.out.cell k area har;cases hve
   rw [<-BW.cell (p:=⟨b,off+k,none⟩) (by show b<w.heap.size;omega)] at c0
   have hki:(0:Int)<=(k:Int):=by omega
   have hkj:(k:Int)<(al.length:Int):=by omega
   have HLS:=hide hls;have HAR:=hide har;have HLEN:=hide hlen;clear hls har hlen
   go_wp2_with fail
   refine (HWI.out area _ BW).mono ?_
   rintro e w2 ⟨uw,ws,rfl,hws2,how,b2⟩;obtain⟨wsa,wsc,rfl⟩:=Zac how.row;have hb2:=b2.size;have HWE:=hide (hws2.eq);have BA:Below w2.heap.size w2 (w2.alloc (.cells #[.slice wsa ws.length wsc] 188)):=(Below.refl _ _).alloc (Nat.le_refl _) _;have OWA:=hide ((Zae HLS.out.row b2 (Nat.le_refl _)).alloc (.cells #[.slice wsa ws.length wsc] 188));have HOW:=hide how;clear hws2 how
   go_wp2_with (first
    | (at_builtin;refine Zbp Zf0 (by omega) (by omega) _ rfl _ _ 248 rfl w1.heap.size 188 Tryz.underlying248 (.slice none 0 0) rfl Tryz.infoWayS _ ls (.slice wsa ws.length wsc,ws) (fun q hq=>by simp [ZhJ] at hq;subst hq;rfl) rfl OWA.out ⟨w2.heap.size,0,none⟩ 1 rfl (Zay (cs:=ZhJ (.slice wsa ws.length wsc,ws))) (by have:=HLEN.out;omega) (by simp;have:=hnx.size;omega) ?_))
   intro v' w4 hown' hgrow hat;have BB:Below wr.heap.size wr (w2.alloc (.cells #[.slice wsa ws.length wsc] 188)):=b2.trans (BA.mono hb2);have N1:=hide (HLS.out.push BB ((HOW.out.below BA (Nat.le_refl _)).wide hnx.size BA.size) (by simpa using hown') hgrow)
   have N2:=hide (HAW.out.push (p:=(.slice wsa ws.length wsc,ws)) HAR.out HWE.out);have N3:=hide ((hnx.trans (BB.mono hnx.size)).grown hgrow (by have:=BB.size;have:=hnx.size;omega) (fun j hj=>(HLS.out.row.lt j hj).1))
   obtain⟨va,vc,rfl⟩:=Zac hown';clear hown' hgrow hat BB OWA HOW HLS BA b2
   go_wp2
   go_roundw
   case rel=>exact ⟨k+1,_,ls++[(.slice wsa ws.length wsc,ws)],by omega,by go_num,rfl,N1.out,N2,N3.out⟩
   case measure=>simp [intOf];omega
  ·have hkn:¬(k:Int)<(al.length:Int):=by omega
   have HAL:=hide (show ZbG (fsts ps) src al ls by have h:=HAW.out;rw [List.take_of_length_le (by omega)] at h;exact h)
   have HO:=hide ((HLIT.out.below hnx (Nat.le_refl _)).wide (Nat.le_refl _) hnx.size);have HLS:=hide hls
   rename World=>wb
   have hwb:=hnx.size;clear hls HAW hlen HLIT hnx
   go_wp2
   go_loopw [10,7] (fun i o wr=>∃ (t:Nat) (x:Value) (qs:List WP),1<=t/\t<=7/\i=.int .i64 (t:Int)/\o=x/\WaysOwn wr w.heap.size wr.heap.size x qs/\Hid (ZaR (fun to d=>to<(t:Int)/\Zau (fsts ps) al src to d) (Zal qs))/\Off x w1.heap.size wb.heap.size/\WLs wr w1.heap.size wb.heap.size (.slice ya ls.length yc) ls/\Below w.heap.size w wr/\wb.heap.size<=wr.heap.size) (fun i _ _=>8-(intOf i).toNat)
   case atStart=>exact ⟨1,_,[],by omega,by omega,rfl,rfl,HO.out,hide (ZcK (fun to d ⟨h1,h2⟩=>by have h3:=(Zbc h2);have:=h3.1.node;rw [h3.2] at this;omega)),fun b hb=>by simp [Value.ownBlock] at hb;have:=HS1.out;omega,HLS.out,BW,Nat.le_refl _⟩
   case round=>
    obtain⟨t,x,qs,ht1,ht7,rfl,rfl,hown,HB,hoff,hls,hnx,hsz⟩:=hrel;clear HO HLS BW hws;obtain⟨xa,xc,rfl⟩:=Zac hown.row
    rename World=>wt
    by_cases ht:t<=6
    ·have ht6:(t:Int)<=6:=by omega
     have HOWN:=hide hown;have HLS:=hide hls;have HOFF:=hide hoff;have hq6:qs.length<=6:=by
      have h:=Zc2 HB.out.1 (fun d hd=>(HB.out.good (fun to d h=>Zbc h.2) d hd).node)
      simpa [Zal] using h
     have BXZ:BoxSt wt (wt.alloc (.cells #[.int .i64 0,.int .i64 0,.slice none 0 0] 194)) wt.heap.size Zbt (.slice none 0 0):=⟨heap_alloc_new _ _,World.ownsRow_nil _ _ _ _,(Below.refl _ _).alloc (Nat.le_refl _) _,by simp [Zbt]⟩
     obtain⟨wz,hwz⟩:∃ W,W=wt.alloc (.cells #[.int .i64 0,.int .i64 0,.slice none 0 0] 194):=⟨_,rfl⟩;rw [<-hwz] at BXZ;have HBX:=hide BXZ;clear hown hls hoff BXZ
     go_wp2
     rw [<-hwz];clear hwz
     go_loopw [13,12] (fun i f wr=>∃ (k:Nat) (F:Bool) (b:WayD) (bv:Value),k<=al.length/\i=.int .i64 (k:Int)/\f=.bool F/\BoxSt wt wr wt.heap.size b bv/\Hid (ZaQ (t:Int) (Zau (fsts ps) (al.take k) src (t:Int)) (if F then some b else none))) (fun i _ _=>al.length-(intOf i).toNat)
     case atStart=>exact ⟨0,false,_,_,by omega,rfl,rfl,HBX.out,hide (fun d ⟨_,a,h,_⟩=>by simp at h)⟩
     case round=>
      obtain⟨k,F,b,bv,hk,rfl,rfl,hbx,HBO⟩:=hrel;clear HBX;have BWR:Below w.heap.size w wr:=hnx.trans (hbx.bel.mono hnx.size);have hzlt:=Zab hbx.box;obtain⟨bva,bvc,rfl⟩:=Zac hbx.own;by_cases hlt:k<al.length
      ·obtain ⟨area,har⟩:∃ a,al[k]? = some a:=⟨al[k],List.getElem?_eq_getElem hlt⟩
       obtain⟨p,hp,hpw⟩:=HAL.out.at har;have hls2:=HLS.out.below hbx.bel hsz;obtain⟨g,cap',hve,cg,hgb,hgw⟩:=hls2.cell hp;cases hve
       have hpo:=hls2.ways p (List.mem_of_getElem? hp);obtain⟨pa,pc,hpn⟩:=Zac hpo.row;rw [hpn] at cg;have hki:(0:Int)<=(k:Int):=by omega
       have hkj:(k:Int)<(al.length:Int):=by omega
       have hkl:(k:Int)<(ls.length:Int):=by rw [HAL.out.len];omega
       have HWT:=ZcD p.1 p.2 w1.heap.size wb.heap.size (t:Int) wr hpo (by omega) (by have:=Zij hpw;omega)
       rw [hpn] at HWT;have HBN:=hide (Zjt ZnO har HBO.out);rw [<-hpw] at HBN;have hfd:=Zcp (Zal p.2) (t:Int);obtain⟨D,hD⟩:∃ D,D=ZbD (Zal p.2) (t:Int):=⟨_,rfl⟩;obtain⟨FB,hFB⟩:∃ F,F=Zbs (Zal p.2) (t:Int):=⟨_,rfl⟩;rw [<-hD, <-hFB] at HWT hfd;have hD6:D.hops.length<=6:=by
        rcases hfd with ⟨_,h2⟩ | ⟨h1,h2⟩
        ·have hm:=(Za0 h2).1
         rw [hpw] at hm;exact ((ZbF (fsts ps) area src).2 D hm).1.len
        ·rw [hD]
         unfold ZbD;unfold Zbu at h2;rw [h2];simp [Zbt]
       have HW:=hide HWT;have HFD:=hide hfd;have HBX:=hide hbx;unfold wayC at HW;clear HWT hfd hbx hls2 hpo hp hpw hpn har hD hFB
       go_wp2_with fail
       refine HW.out.mono ?_
       rintro e w3 ⟨du,rfl,hdu,b3⟩;obtain⟨da,dc,rfl⟩:=Zac hdu;have hb3:=b3.size;have hbx3:=HBX.out.below b3;have BA:Below w3.heap.size w3 (w3.alloc (.cells #[.int .i64 D.to,.int .i64 D.cost,.slice da D.hops.length dc] 194)):=(Below.refl _ _).alloc (Nat.le_refl _) _;have hx4:=heap_alloc_new w3 (.cells #[.int .i64 D.to,.int .i64 D.cost,.slice da D.hops.length dc] 194);obtain⟨w4,hw4⟩:∃ W,W=w3.alloc (.cells #[.int .i64 D.to,.int .i64 D.cost,.slice da D.hops.length dc] 194):=⟨_,rfl⟩;rw [<-hw4] at BA hx4;have hbx4:=hbx3.below BA;have hdu4:=Zae hdu BA (Nat.le_refl _);have hs4:=BA.size;have hl4:=Zab hx4;have d0:=Zaa hx4 0;have d1:=Zaa hx4 1;have d2:=Zaa hx4 2;simp at d0 d1 d2
       have hzb:=hbx4.box;unfold wayC at hzb;have e0:=Zaa hzb 0;have e1:=Zaa hzb 1;have e2:=Zaa hzb 2;simp at e0 e1 e2
       have fd:=Zaf hx4;have fe:=Zaf hzb;have HX4:=hide hx4;have HDU:=hide hdu4;have HB4:=hide hbx4;have hlast:Below w3.heap.size w3 w4:=BA;clear hdu b3 hbx3 hbx4 hdu4 hx4 hzb BA HBX HW;cases FB
       ·have HN:=hide (show ZaQ (t:Int) (Zau (fsts ps) (al.take (k+1)) src (t:Int)) (if F then some b else none) by
         have h:=HBN.out
         rcases HFD.out with ⟨h1,_⟩ | ⟨_,h2⟩
         ·cases h1
         ·rw [h2] at h;exact h)
        rw [hw4] at HB4;clear HX4 HDU HBN HFD hw4 d0 d1 d2 e0 e1 e2 fd fe hlast
        go_wp2
        go_roundw
        case rel=>exact ⟨k+1,F,b,_,by omega,by go_num,rfl,HB4.out,HN⟩
        case measure=>simp [intOf];omega
       ·have hfound:Zbu (Zal p.2) (t:Int)=some D:=by
         rcases HFD.out with ⟨_,h2⟩ | ⟨h1,_⟩
         ·exact h2
         ·cases h1
        cases F
        ·have HN:=hide (show ZaQ (t:Int) (Zau (fsts ps) (al.take (k+1)) src (t:Int)) (if true then some D else none) by
          have h:=HBN.out;rw [hfound] at h;exact h)
         have HF:=hide (HB4.out.put rfl (Zaj (b0:=wt.heap.size+1) HDU.out (by omega)) hD6)
         rw [hw4] at HF d0 d1 d2 e0 e1 e2 fd fe;clear HX4 HDU HBN HFD HB4 hw4 hfound hlast
         go_wp2
         go_roundw
         case rel=>exact ⟨k+1,true,D,_,by omega,by go_num,rfl,HF.out,HN⟩
         case measure=>simp [intOf];omega
        ·have HTG:=Zk9 b D (.slice bva b.hops.length bvc) (.slice da D.hops.length dc) wt.heap.size wr.heap.size w4 HB4.out.own HDU.out (by have:=HB4.out.len;omega) (by omega)
         unfold wayC at HTG;obtain⟨E,hE⟩:∃ E,E=togD b D:=⟨_,rfl⟩;rw [<-hE] at HTG;have hE6:E.hops.length<=6:=by rw [hE];exact ZnP HB4.out.len hD6 (by omega)
         have HN:=hide (show ZaQ (t:Int) (Zau (fsts ps) (al.take (k+1)) src (t:Int)) (if true then some E else none) by
          have h:=HBN.out;rw [hfound] at h;rw [hE];exact h)
         have HT:=hide HTG;rw [hw4] at d0 d1 d2 e0 e1 e2 fd fe;clear HTG HBN HFD hfound hE HDU
         go_wp2_with fail
         rw [<-hw4];refine HT.out.mono ?_
         rintro e w5 ⟨eu,rfl,heu,b5⟩;obtain⟨ea,ec,rfl⟩:=Zac heu;have hb5:=b5.size;have hx5:=(b5.block _ hl4).trans HX4.out;have hbx5:=HB4.out.below b5;have hzb5:=hbx5.box;unfold wayC at hzb5;clear d0 d1 d2 e0 e1 e2 fd fe;have d0:=Zaa hx5 0;have d1:=Zaa hx5 1;have d2:=Zaa hx5 2;simp at d0 d1 d2
         have e0:=Zaa hzb5 0;have e1:=Zaa hzb5 1;have e2:=Zaa hzb5 2;simp at e0 e1 e2
         have fd:=Zaf hx5;have fe:=Zaf hzb5;have hg14:=Za2 w5 w3.heap.size E (.slice ea E.hops.length ec);have HF:=hide ((hbx5.other hg14 (by omega) hx5 rfl).put rfl (Zaj (b0:=wt.heap.size+1) (Zg8 heu hg14 (by omega)) (by omega)) hE6)
         have hne:wt.heap.size≠w3.heap.size:=by omega
         clear HX4 HB4 HT hx5 hbx5 hzb5 heu b5 hg14 hw4 hlast
         go_wp2
         go_roundw
         case rel=>exact ⟨k+1,true,E,_,by omega,by go_num,rfl,HF.out,HN⟩
         case measure=>simp [intOf];omega
      ·have hkn:¬(k:Int)<(al.length:Int):=by omega
       have HBT:=hide (show ZaQ (t:Int) (Zau (fsts ps) al src (t:Int)) (if F then some b else none) by
        have h:=HBO.out;rw [List.take_of_length_le (by omega)] at h
        exact h)
       cases F
       ·have N1:=hide ((HOWN.out.below hbx.bel (Nat.le_refl _)).wide (Nat.le_refl _) hbx.bel.size)
        have N2:=hide (show ZaR (fun to d=>to<((t+1:Nat):Int)/\Zau (fsts ps) al src to d) (Zal qs) from by
         have h:=HB.out.skip HBT.out;rw [show ((t+1:Nat):Int)=(t:Int)+1 by omega]
         exact h)
        have N3:=hide (HLS.out.below hbx.bel hsz);have hszr:wb.heap.size<=wr.heap.size:=by have:=hbx.bel.size;omega
        clear hbx HBO HBT
        go_wp2
        go_roundw
        case rel=>exact ⟨t+1,_,qs,by omega,by omega,by go_num,rfl,N1.out,N2,HOFF.out,N3.out,BWR,hszr⟩
        case measure=>simp [intOf];omega
       ·have hzb:=hbx.box
        unfold wayC at hzb;have e0:=Zaa hzb 0;have e1:=Zaa hzb 1;have e2:=Zaa hzb 2;simp at e0 e1 e2
        have N2:=hide (show ZaR (fun to d=>to<((t+1:Nat):Int)/\Zau (fsts ps) al src to d) (Zal (qs++[(b,.slice bva b.hops.length bvc)])) from by
         have h:=HB.out.push HBT.out;rw [show ((t+1:Nat):Int)=(t:Int)+1 by omega]
         have e:Zal (qs++[(b,.slice bva b.hops.length bvc)])=Zal qs++[b]:=by simp [Zal]
         rw [e];exact h)
        have BA:Below wr.heap.size wr (wr.alloc (.cells #[.int .i64 b.to,.int .i64 b.cost,.slice bva b.hops.length bvc] 194)):=(Below.refl _ _).alloc (Nat.le_refl _) _;have BT:Below wt.heap.size wt (wr.alloc (.cells #[.int .i64 b.to,.int .i64 b.cost,.slice bva b.hops.length bvc] 194)):=hbx.bel.trans (BA.mono (by omega))
        have OW:=hide ((Zae HOWN.out.row hbx.bel (Nat.le_refl _)).alloc (.cells #[.int .i64 b.to,.int .i64 b.cost,.slice bva b.hops.length bvc] 194));have HHO:=hide (show Zbv (wr.alloc (.cells #[.int .i64 b.to,.int .i64 b.cost,.slice bva b.hops.length bvc] 194)) wt.heap.size (wr.alloc (.cells #[.int .i64 b.to,.int .i64 b.cost,.slice bva b.hops.length bvc] 194)).heap.size (b,.slice bva b.hops.length bvc) from ⟨hbx.own.alloc _,fun k hk=>((hbx.own.alloc _).lt k hk).2⟩)
        have HLS2:=hide (HLS.out.below BT hsz);have hws:=hnx.size;clear hbx HBO HBT hzb
        go_wp2_with (first
         | (at_builtin;refine Zbp Zbg (by omega) (by omega) _ rfl _ _ 188 rfl w.heap.size 194 Tryz.underlying188 (.agg (wayC Zbt (.slice none 0 0))) rfl Tryz.infoWay _ qs (b,.slice bva b.hops.length bvc) (Zdi _ _ _ _) rfl OW.out ⟨wr.heap.size,0,none⟩ 1 rfl (Zay (cs:=encW (b,.slice bva b.hops.length bvc))) (by omega) (by simp;omega) ?_))
        intro v' w6 hown' hgrow hat;have N1:=hide (HOWN.out.push BT hws HHO.out (by simpa using hown') hgrow)
        have N3:=hide (HLS2.out.keep (HOFF.out.kept hgrow));have N4:=hide ((hnx.trans (BT.mono hws)).grown hgrow (by have:=BT.size;omega) (fun j hj=>(HOWN.out.row.lt j hj).1))
        have N5:=hide (HOFF.out.next (x':=v') (B:=wb.heap.size) (fun j hj=>by
         rcases hat with h1 | h1
         ·exact .inl (by rw [<-h1];exact hj)
         ·right
          rw [h1] at hj;simp at hj
          omega) (Nat.le_refl _))
        have hszr:wb.heap.size<=w6.heap.size:=by have:=BT.size;have:=hgrow.size;omega
        obtain⟨va,vc,rfl⟩:=Zac hown';clear hown' hgrow hat BT OW HHO HLS2 BA
        go_wp2
        go_roundw
        case rel=>exact ⟨t+1,_,qs++[(b,.slice bva b.hops.length bvc)],by omega,by omega,by go_num,rfl,N1.out,N2,N5.out,N3.out,N4.out,hszr⟩
        case measure=>simp [intOf];omega
    ·have ht6:¬(t:Int)<=6:=by omega
     have htt:(t:Int)=7:=by omega
     have HE:=hide (show ZaR (Zau (fsts ps) al src) (Zal qs) from HB.out.congr (fun to d=>⟨fun h=>h.2,fun h=>⟨by have h3:=Zbc h;have:=h3.1.node;rw [h3.2] at this;omega,h⟩⟩))
     have HO:=hide hown;have HN:=hide hnx;clear hown hnx HB hoff hls htt
     go_wp2
     go_ret
     first
      | exact ⟨_,qs,rfl,HE.out,HO.out,HN.out⟩
      | exact ⟨_,rfl,qs,HE.out,HO.out,HN.out⟩
end Go.Proofs.YtadokhjefnkajaaGreat
