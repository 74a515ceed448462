/-
  TellT TellB ToLinks EqLinks Nets NetOkS IOrd ILink IAsc INetOk
-/
import Derived.Test.YtgdgkgmjpnbbcaaGreatOn12
import Derived.Test.YtgdgkgmjpnbbcaaGreatOn17
import Derived.Test.YtgdgkgmjpnbbcaaGreatOn7
import Derived.Test.YtgdgkgmjpnbbcaaGreatOn1
import Derived.OwnWalk
import Derived.Deep.RegionHeld3
import Derived.Test.YtgdgkgmjpnbbcaaGreatOn2
import Derived.Test.YtgdgkgmjpnbbcaaGreatOn3
namespace Go.Proofs.YtgdgkgmjpnbbcaaGreat
open Go.RowKit
set_option linter.unusedSimpArgs false
set_option linter.unusedVariables false
set_option maxRecDepth 100000
set_option maxHeartbeats 8000000
structure HerW (W:World) (lo hi:Nat) (uh:Value) (hs:List WP) (un:Value) (ns:List WP) (ub:Value) (bs:List WP):Prop where
 h:WaysOwn W lo hi uh hs
 n:WaysOwn W lo hi un ns
 b:WaysOwn W lo hi ub bs
theorem HerW.below {W W':World}{lo hi B:Nat}{uh un ub:Value}{hs ns bs:List WP}(h:HerW W lo hi uh hs un ns ub bs)(hb:Below B W W')(hB:hi<=B):HerW W' lo hi uh hs un ns ub bs:=⟨h.h.below hb hB,h.n.below hb hB,h.b.below hb hB⟩
theorem HerW.keep {W W':World}{lo hi:Nat}{uh un ub:Value}{hs ns bs:List WP}(h:HerW W lo hi uh hs un ns ub bs)(hk:∀ k,lo<=k->k<hi->k<W.heap.size->W'.heap[k]? = W.heap[k]?):HerW W' lo hi uh hs un ns ub bs:=⟨h.h.keep hk,h.n.keep hk,h.b.keep hk⟩
def ZcT (al:List Int)(area:Int)(k:Nat):List Int:=(al.take k).filter (fun a=>a != area)
theorem ZjY {al:List Int}{area a:Int}{k:Nat}(h:al[k]? = some a):ZcT al area (k+1)=ZcT al area k++(if a != area then [a] else []):=by
 obtain⟨hk,e⟩:=List.getElem?_eq_some_iff.1 h;unfold ZcT;rw [List.take_succ_eq_append_getElem hk,e,List.filter_append]
 congr 1
 cases hd:(a != area) <;> simp [List.filter,hd]
theorem Zlh (al:List Int)(area:Int)(k:Nat):(ZcT al area k).length<=k:=by
 unfold ZcT;exact Nat.le_trans (List.length_filter_le _ _) (by rw [List.length_take];omega)
theorem Zm1 (v u:Value)(ps:List RP)(al:List Int)(hi:Nat)(src area:Int)(w:World)(hv:RecsIn w hi v ps)(ha:ZaP w u al hi)(hhi:hi<=w.heap.size)(hn:tot ps<=1048576)(hal:al.length<=1048576):
  Calls Tryz.prog 52 #[v,u,.int .i64 src,.int .i64 area] w fun e w'=>∃ x qs,e=.returned x/\Zcg (fsts ps) al src area (fsts qs)/\RecsOwn w' w.heap.size w'.heap.size x qs/\Below w.heap.size w w':=by
 obtain⟨a1,c1,rfl⟩:=Zac hv.row;obtain⟨a2,c2,rfl⟩:=ha.shape;have LIT:=Zfg w w.heap.size (Nat.le_refl _);have hs1:(w.alloc (.cells #[] 59)).heap.size=w.heap.size+1:=by simp
 have B1:Below w.heap.size w (w.alloc (.cells #[] 59)):=(Below.refl _ _).alloc (Nat.le_refl _) _;obtain⟨w1,hw1⟩:∃ W,W=w.alloc (.cells #[] 59):=⟨_,rfl⟩;rw [<-hw1] at LIT hs1 B1;have HSK:=hide (Zc8 (.slice a1 ps.length c1) ps w1 hn (ZbK.more ((hv.below B1 hhi).at) (Nat.le_trans hhi B1.size)));have HWI:=hide (fun W (hb:Below w.heap.size w W)=>ZdH (.slice a1 ps.length c1) ps hi area src W (hv.below hb hhi) (Nat.le_trans hhi hb.size) hn)
 have HWN:=hide (fun (u2:Value) (l2:List Int) W (hb:Below w.heap.size w W) (h2:ZaP W u2 l2 W.heap.size) (hl:l2.length<=1048576)=>ZeM (.slice a1 ps.length c1) u2 ps l2 W.heap.size src W ((hv.below hb hhi).wide (Nat.le_trans hhi hb.size)) h2 (Nat.le_refl _) hn hl)
 have HWB:=hide (fun W (hb:Below w.heap.size w W)=>ZgP (.slice a1 ps.length c1) (.slice a2 al.length c2) ps al hi true src W (hv.below hb hhi) (ZaR.later ha hb hhi) (Nat.le_trans hhi hb.size) hn hal)
 have HA:=hide ha;clear hv ha;have HLIT:=hide LIT;have HS1:=hide hs1;clear LIT hs1;obtain⟨SB,hSB⟩:∃ b,b=ZaE (fsts ps):=⟨_,rfl⟩;rw [<-hSB] at HSK;have HSB:=hide hSB;clear hSB
 go_enter Tryz.func52,Tryz.ntmps52
 go_wp2_with fail
 rw [<-hw1];clear hw1;refine HSK.out.mono ?_
 rintro e w2 ⟨rfl,b2⟩;have hb2:=b2.size;have hB1s:=B1.size;have B2:Below w.heap.size w w2:=B1.trans (b2.mono hB1s);have HL2:=hide (HLIT.out.below b2 (Nat.le_refl _));clear HSK HLIT b2;cases SB
 ·have HE:=hide (show Zcg (fsts ps) al src area (fsts []) from ⟨List.Pairwise.nil,fun r=>⟨fun h=>by simp [fsts] at h,fun ⟨to,c,_,h⟩=>by have h9:=ZlG h;rw [<-HSB.out] at h9;cases h9⟩⟩)
  have HO:=hide (HL2.out.wide (Nat.le_refl _) hb2);have HN:=hide B2;clear HL2 HWI HWN HWB B2
  go_wp2
  go_ret
  first
   | exact ⟨_,[],rfl,HE.out,HO.out,HN.out⟩
   | exact ⟨_,rfl,[],HE.out,HO.out,HN.out⟩
 have OI:=Zc7 w2 w2.heap.size w2.heap.size rfl (Nat.le_refl _);have BI:Below w2.heap.size w2 (w2.alloc (.cells #[] 3)):=(Below.refl _ _).alloc (Nat.le_refl _) _;obtain⟨w0,hw0⟩:∃ W,W=w2.alloc (.cells #[] 3):=⟨_,rfl⟩;rw [<-hw0] at OI BI;have HOI:=hide OI;clear OI
 go_wp2
 rw [<-hw0];clear hw0
 go_loopw [11,10] (fun i o wr=>∃ (k:Nat) (x:Value),k<=al.length/\i=.int .i64 (k:Int)/\o=x/\wr.ownsRow w2.heap.size 3 1 x (ZcT al area k).length (flat intE (ZcT al area k))/\Below w2.heap.size w2 wr) (fun i _ _=>al.length-(intOf i).toNat)
 case atStart=>exact ⟨0,_,by omega,rfl,rfl,HOI.out,BI⟩
 case round=>
  obtain⟨k,x,hk,rfl,rfl,hown,hnx⟩:=hrel;clear HOI BI;obtain⟨xa,xc,rfl⟩:=Zac hown;have hsz:=hnx.size;have hol:=Zlh al area k;have BW:Below w.heap.size w wr:=B2.trans (hnx.mono B2.size);have OW:=hide hown;clear hown;by_cases hlt:k<al.length
  ·obtain ⟨a,har⟩:∃ a,al[k]? = some a:=⟨al[k],List.getElem?_eq_getElem hlt⟩
   obtain⟨b,off,cap',hve,hbb,c0⟩:=HA.out.cell k a har;cases hve
   have hbw:b<w.heap.size:=by omega
   rw [<-BW.cell (p:=⟨b,off+k,none⟩) hbw] at c0;have hki:(0:Int)<=(k:Int):=by omega
   have hkj:(k:Int)<(al.length:Int):=by omega
   have HST:=hide (ZjY (area:=area) har);obtain⟨C,hC⟩:∃ C,C=ZcT al area k:=⟨_,rfl⟩;rw [<-hC] at OW HST hol |-;clear hC har;obtain⟨dd,hdd⟩:∃ d,d=(a != area):=⟨_,rfl⟩;rw [<-hdd] at HST;have hd:(a != area)=dd:=hdd.symm;clear hdd;cases dd
   ·have HOW:=hide (show wr.ownsRow w2.heap.size 3 1 (.slice xa C.length xc) (ZcT al area (k+1)).length (flat intE (ZcT al area (k+1))) by rw [HST.out];simpa using OW.out)
    clear OW HST
    go_wp2
    go_roundw
    case rel=>exact ⟨k+1,_,by omega,by go_num,rfl,HOW.out,hnx⟩
    case measure=>simp [intOf];omega
   ·go_wp2_with (first
     | (at_builtin;refine ZaG Zea (by omega) (by omega) _ rfl _ _ 37 rfl w2.heap.size 3 Tryz.underlying37 (.int .i64 0) rfl Tryz.info3 _ C a (Zcr _) rfl (OW.out.alloc _) ⟨wr.heap.size,0,none⟩ 1 rfl (Zap (cs:=intE a)) (by omega) (by simp;omega) ?_))
    intro v' w4 hown' hgrow;have B4:Below w2.heap.size w2 w4:=(hnx.alloc hsz _).grown hgrow (by simp;omega) (fun j hj=>(OW.out.lt j hj).1)
    have O4:=hide (show w4.ownsRow w2.heap.size 3 1 v' (ZcT al area (k+1)).length (flat intE (ZcT al area (k+1))) by rw [HST.out];simpa using hown')
    obtain⟨va,vc,rfl⟩:=Zac hown';clear hown' hgrow
    go_wp2
    go_roundw
    case rel=>exact ⟨k+1,_,by omega,by go_num,rfl,O4.out,B4⟩
    case measure=>simp [intOf];omega
  ·have hkn:¬(k:Int)<(al.length:Int):=by omega
   obtain⟨C,hC⟩:∃ C,C=ZcT al area k:=⟨_,rfl⟩;have HCE:=hide (show C=al.filter (fun a=>a != area) by rw [hC];unfold ZcT;rw [List.take_of_length_le (by omega)])
   rw [<-hC] at OW hol |-;have HO:=hide ((HL2.out.below hnx (by omega)).wide (Nat.le_refl _) (show w1.heap.size<=wr.heap.size by omega))
   rename World=>wo
   clear hC HL2 hnx
   go_wp2_with fail
   refine (HWI.out _ BW).mono ?_
   rintro e wh ⟨uh,hs,rfl,hhs0,hoh,bh⟩;obtain⟨uha,uhc,rfl⟩:=Zac hoh.row;have hhs:=hhs0.eq;have hbh:=bh.size;have BWH:Below w.heap.size w wh:=BW.trans (bh.mono BW.size);have OWH:=ZaW (Zaf OW.out bh (Nat.le_refl _));have HO2:=hide ((HO.out.below bh (Nat.le_refl _)).wide (Nat.le_refl _) hbh);have HOH:=hide hoh;clear hhs0 hoh HO
   go_wp2_with fail
   refine (HWN.out _ C _ BWH OWH (by omega)).mono ?_
   rintro e wn ⟨un,ns,rfl,hbn,hon,bn⟩;obtain⟨una,unc,rfl⟩:=Zac hon.row;have hbns:=bn.size;have BWN:Below w.heap.size w wn:=BWH.trans (bn.mono BWH.size);have HO3:=hide ((HO2.out.below bn (Nat.le_refl _)).wide (Nat.le_refl _) hbns);have HON:=hide hon;have HBN:=hide hbn;clear hon hbn OWH HO2
   go_wp2_with fail
   refine (HWB.out _ BWN).mono ?_
   rintro e wB ⟨ub,bs,rfl,hbb0,hob,bB⟩;obtain⟨uba,ubc,rfl⟩:=Zac hob.row;have hbB:=bB.size;have BWB:Below w.heap.size w wB:=BWN.trans (bB.mono BWN.size);have HO4:=hide ((HO3.out.below bB (Nat.le_refl _)).wide (Nat.le_refl _) hbB);have HHER:=hide (show HerW wB w1.heap.size wB.heap.size (.slice uha hs.length uhc) hs (.slice una ns.length unc) ns (.slice uba bs.length ubc) bs from ⟨(HOH.out.below (bn.trans (bB.mono hbns)) (Nat.le_refl _)).wide (by omega) (by omega),(HON.out.below bB (Nat.le_refl _)).wide (by omega) (by omega),hob.wide (by omega) (Nat.le_refl _)⟩)
   have HBB:=hide hbb0;have hht:totW hs<=1048576:=by have:=Zio hhs;omega
   have hnt:totW ns<=1048576:=by have:=ZdN HBN.out (fun to d h=>ZaI h);omega
   have hbt:totW bs<=1048576:=by have:=ZdN HBB.out (fun to d h=>Zba h);omega
   obtain⟨uh,huh⟩:∃ v,v=Value.slice uha hs.length uhc:=⟨_,rfl⟩;obtain⟨un,hun⟩:∃ v,v=Value.slice una ns.length unc:=⟨_,rfl⟩;obtain⟨ub,hub⟩:∃ v,v=Value.slice uba bs.length ubc:=⟨_,rfl⟩;have HTH:=hide (fun (z:Int) (W:World) (h:HerW W w1.heap.size wB.heap.size uh hs un ns ub bs) (hh:wB.heap.size<=W.heap.size)=>by have r:=ZbT uh hs w1.heap.size wB.heap.size z W h.h hh hht;rw [hhs] at r;exact r)
   have HTN:=hide (fun (z:Int) (W:World) (h:HerW W w1.heap.size wB.heap.size uh hs un ns ub bs) (hh:wB.heap.size<=W.heap.size)=>ZbT un ns w1.heap.size wB.heap.size z W h.n hh hnt)
   have HTB:=hide (fun (z:Int) (W:World) (h:HerW W w1.heap.size wB.heap.size uh hs un ns ub bs) (hh:wB.heap.size<=W.heap.size)=>ZbT ub bs w1.heap.size wB.heap.size z W h.b hh hbt)
   rw [<-huh, <-hun, <-hub] at HHER |-;have HHER0:=HHER;clear HHER hob hbb0 HOH HON bn bB bh HO3 hhs huh hun hub BW BWH BWN OW HWI HWN HWB
   go_wp2
   go_loopw [15,9] (fun i o wr=>∃ (t:Nat) (x:Value) (qs:List RP),1<=t/\t<=7/\i=.int .i64 (t:Int)/\o=x/\RecsOwn wr w.heap.size wr.heap.size x qs/\Hid (ZaV (fsts ps) al src area (t:Int) (fsts qs))/\Off x w1.heap.size wB.heap.size/\HerW wr w1.heap.size wB.heap.size uh hs un ns ub bs/\Below w.heap.size w wr/\wB.heap.size<=wr.heap.size) (fun i _ _=>8-(intOf i).toNat)
   case atStart=>exact ⟨1,_,[],by omega,by omega,rfl,rfl,HO4.out,hide ZaV.none,fun b hb=>by simp [Value.ownBlock] at hb;have:=HS1.out;omega,HHER0.out,BWB,Nat.le_refl _⟩
   case round=>
    obtain⟨t,x,qs,ht1,ht7,rfl,rfl,hown,HB,hoff,hher,hnx,hsz⟩:=hrel;clear HO4 HHER0 BWB;obtain⟨xa,xc,rfl⟩:=Zac hown.row
    rename World=>wt
    by_cases ht:t<=6
    ·have ht6:(t:Int)<=6:=by omega
     have HOWN:=hide hown;have HHER:=hide hher;have HOFF:=hide hoff;have hq6:qs.length<=6:=by have h:=HB.out.len.1;simpa [fsts] using h
     have hnh:=Zkz (fsts ps) area src (t:Int);have HW1:=HTH.out (t:Int) wt hher hsz;obtain⟨D,hD⟩:∃ D,D=ZaY (Zbm (fsts ps) area src) (t:Int):=⟨_,rfl⟩;obtain⟨F1,hF1⟩:∃ F,F=Za3 (Zbm (fsts ps) area src) (t:Int):=⟨_,rfl⟩;rw [<-hD, <-hF1] at HW1;rw [<-hF1] at hnh;have HNH:=hide hnh;have H1:=hide HW1;unfold wayC at H1;clear hown hher hoff hnh HW1 hD hF1
     go_wp2_with fail
     refine (H1.out).mono ?_
     rintro e w3 ⟨du,rfl,hdu,b3⟩;obtain⟨dua,duc,rfl⟩:=Zac hdu;have hb3:=b3.size;have BT:Below wt.heap.size wt (w3.alloc (.cells #[.int .i64 D.to,.int .i64 D.cost,.slice dua D.hops.length duc] 48)):=b3.trans (((Below.refl w3.heap.size w3).alloc (Nat.le_refl _) _).mono hb3);clear hdu b3 H1;cases F1
     case true=>
      have N1:=hide ((HOWN.out.below BT (Nat.le_refl _)).wide (Nat.le_refl _) BT.size);have N2:=hide (show ZaV (fsts ps) al src area ((t+1:Nat):Int) (fsts qs) from by
       have h:=HB.out.skip (t:=(t:Int)) (fun c hc=>by rcases HNH.out with ⟨_,h2⟩ | ⟨h1,_⟩;exact h2 hc.1;cases h1)
       rw [show ((t+1:Nat):Int)=(t:Int)+1 by omega]
       exact h)
      have N3:=hide (HHER.out.below BT hsz);have N4:=hide (hnx.trans (BT.mono hnx.size));have hszr:wB.heap.size<=(w3.alloc (.cells #[.int .i64 D.to,.int .i64 D.cost,.slice dua D.hops.length duc] 48)).heap.size:=by have:=BT.size;omega
      clear HOWN HHER BT
      go_wp2
      go_roundw
      case rel=>exact ⟨t+1,_,qs,by omega,by omega,by go_num,rfl,N1.out,N2,HOFF.out,N3.out,N4.out,hszr⟩
      case measure=>simp [intOf];omega
     have hnn:Zdd (fsts ps) area src (t:Int):=by
      rcases HNH.out with ⟨h1,_⟩ | ⟨_,h2⟩
      ·cases h1
      ·exact h2
     have HNN:=hide hnn;clear hnn HNH;by_cases hts:(t:Int)=src
     case pos=>
      have hd:((t:Int)==src)=true:=by simpa using hts
      have HTS:=hide hts;clear hts;have N1:=hide ((HOWN.out.below BT (Nat.le_refl _)).wide (Nat.le_refl _) BT.size);have N2:=hide (show ZaV (fsts ps) al src area ((t+1:Nat):Int) (fsts qs) from by
       have h:=HB.out.skip (t:=(t:Int)) (fun c hc=>hc.2.1 HTS.out)
       rw [show ((t+1:Nat):Int)=(t:Int)+1 by omega]
       exact h)
      have N3:=hide (HHER.out.below BT hsz);have N4:=hide (hnx.trans (BT.mono hnx.size));have hszr:wB.heap.size<=(w3.alloc (.cells #[.int .i64 D.to,.int .i64 D.cost,.slice dua D.hops.length duc] 48)).heap.size:=by have:=BT.size;omega
      clear HOWN HHER BT
      go_wp2
      go_roundw
      case rel=>exact ⟨t+1,_,qs,by omega,by omega,by go_num,rfl,N1.out,N2,HOFF.out,N3.out,N4.out,hszr⟩
      case measure=>simp [intOf];omega
     have hd:((t:Int)==src)=false:=by simpa using hts
     have HTS:=hide hts;clear hts;have hwn2:∀ d,Zau (fsts ps) C src (t:Int) d↔Zau (fsts ps) al src (t:Int) d:=fun d=>by rw [HCE.out];exact Zg5 HNN.out d
     have hbh:=Zkk HBN.out (t:Int);have hbb:=Zkk HBB.out (t:Int);obtain⟨E,hE⟩:∃ E,E=ZaY (Zag ns) (t:Int):=⟨_,rfl⟩;obtain⟨F2,hF2⟩:∃ F,F=Za3 (Zag ns) (t:Int):=⟨_,rfl⟩;obtain⟨w4,hw4⟩:∃ W,W=(w3.alloc (.cells #[.int .i64 D.to,.int .i64 D.cost,.slice dua D.hops.length duc] 48)):=⟨_,rfl⟩;rw [<-hw4] at BT;have HW2:=HTN.out (t:Int) w4 (HHER.out.below BT hsz) (by have:=BT.size;omega)
     rw [<-hE, <-hF2] at HW2 hbh;have HBH:=hide hbh;have HBY:=hide hbb;have HWN2:=hide hwn2;have H2:=hide HW2;unfold wayC at H2;clear hbh hbb hwn2 HW2 hE hF2
     go_wp2_with fail
     rw [<-hw4];clear hw4;refine (H2.out).mono ?_
     rintro e w5 ⟨eu,rfl,heu,b5⟩;obtain⟨eua,euc,rfl⟩:=Zac heu;have hb5:=b5.size;have hwt4:wt.heap.size<=w4.heap.size:=BT.size;have BT0:=BT;have BT6:Below wt.heap.size wt (w5.alloc (.cells #[.int .i64 E.to,.int .i64 E.cost,.slice eua E.hops.length euc] 48)):=BT.trans ((b5.trans (((Below.refl w5.heap.size w5).alloc (Nat.le_refl _) _).mono hb5)).mono BT.size);have hx6:=heap_alloc_new w5 (.cells #[.int .i64 E.to,.int .i64 E.cost,.slice eua E.hops.length euc] 48);have d1:=Zaa hx6 1;simp at d1
     clear heu b5 H2 BT BT0;have BT:=BT6;clear BT6;cases F2
     case true=>
      have hbe:ZaF (t:Int) (Zau (fsts ps) al src (t:Int)) (some E):=by
       rcases HBH.out with ⟨_,h2⟩ | ⟨h1,_⟩
       ·exact h2.congr HWN2.out
       ·cases h1
      have HTO:=hide (show ZcZ (fsts ps) al src area (t:Int) E.cost from ⟨HNN.out,HTS.out,.inl ⟨E,hbe,rfl⟩⟩)
      clear hbe;clear HBH HBY HWN2 hx6;have BN:Below wt.heap.size wt ((w5.alloc (.cells #[.int .i64 E.to,.int .i64 E.cost,.slice eua E.hops.length euc] 48)).alloc (.cells #[.int .i64 area,.int .i64 2,.int .i64 src,.int .i64 (t:Int),.int .i64 0,.slice none 0 0,.int .i64 E.cost,.bool false] 59)):=BT.trans (((Below.refl _ _).alloc (Nat.le_refl _) _).mono BT.size);have OW:=hide ((Zaf HOWN.out.row BT (Nat.le_refl _)).alloc (.cells #[.int .i64 area,.int .i64 2,.int .i64 src,.int .i64 (t:Int),.int .i64 0,.slice none 0 0,.int .i64 E.cost,.bool false] 59));have HHO:=hide (show ZaJ ((w5.alloc (.cells #[.int .i64 E.to,.int .i64 E.cost,.slice eua E.hops.length euc] 48)).alloc (.cells #[.int .i64 area,.int .i64 2,.int .i64 src,.int .i64 (t:Int),.int .i64 0,.slice none 0 0,.int .i64 E.cost,.bool false] 59)) wt.heap.size ((w5.alloc (.cells #[.int .i64 E.to,.int .i64 E.cost,.slice eua E.hops.length euc] 48)).alloc (.cells #[.int .i64 area,.int .i64 2,.int .i64 src,.int .i64 (t:Int),.int .i64 0,.slice none 0 0,.int .i64 E.cost,.bool false] 59)).heap.size (ZbX area src (t:Int) E.cost,Value.slice none 0 0) from ⟨World.ownsRow_nil _ _ _ _,fun k hk=>by simp [Value.ownBlock] at hk⟩)
      have HKP:=hide (show (HerW ((w5.alloc (.cells #[.int .i64 E.to,.int .i64 E.cost,.slice eua E.hops.length euc] 48)).alloc (.cells #[.int .i64 area,.int .i64 2,.int .i64 src,.int .i64 (t:Int),.int .i64 0,.slice none 0 0,.int .i64 E.cost,.bool false] 59)) w1.heap.size wB.heap.size uh hs un ns ub bs) from HHER.out.below BN hsz)
      have N2:=hide (show ZaV (fsts ps) al src area ((t+1:Nat):Int) (fsts (qs++[(ZbX area src (t:Int) E.cost,Value.slice none 0 0)])) from by
       have h:=HB.out.push HTO.out;rw [show ((t+1:Nat):Int)=(t:Int)+1 by omega]
       have e:fsts (qs++[(ZbX area src (t:Int) E.cost,Value.slice none 0 0)])=fsts qs++[ZbX area src (t:Int) E.cost]:=by simp [fsts]
       rw [e];exact h)
      have hws:=hnx.size;have HAS:=hide (show (w5.alloc (.cells #[.int .i64 E.to,.int .i64 E.cost,.slice eua E.hops.length euc] 48)).heap.size=w5.heap.size+1 by simp)
      have hBTs:wt.heap.size<=w5.heap.size+1:=by have h:=BT.size;rw [HAS.out] at h;exact h
      go_wp2_with (first
       | (at_builtin;refine ZaL Zbb (by omega) (by omega) _ rfl _ _ 33 rfl w.heap.size 59 Tryz.underlying33 (.agg (recC ZbM (.slice none 0 0))) rfl Tryz.infoRec _ qs (ZbX area src (t:Int) E.cost,Value.slice none 0 0) (Zca _ _ _ _) rfl OW.out ⟨w5.heap.size+1,0,none⟩ 1 rfl (fun j u hj=>by
         have h:=Zap (w:=(w5.alloc (.cells #[.int .i64 E.to,.int .i64 E.cost,.slice eua E.hops.length euc] 48))) (cs:=encP (ZbX area src (t:Int) E.cost,Value.slice none 0 0)) (t:=59) j u hj;rw [HAS.out] at h;exact h) (by omega) (by simp;omega) ?_))
      intro v' w9 hown' hgrow hat;have N1:=hide (HOWN.out.push BN hws HHO.out (by simpa using hown') hgrow)
      have N3:=hide (HKP.out.keep (HOFF.out.kept hgrow));have N4:=hide ((hnx.trans (BN.mono hws)).grown hgrow (by have:=BN.size;omega) (fun j hj=>(HOWN.out.row.lt j hj).1))
      have N5:=hide (HOFF.out.next (x':=v') (B:=wB.heap.size) (fun j hj=>by
       rcases hat with h1 | h1
       ·exact .inl (by rw [<-h1];exact hj)
       ·right
        rw [h1] at hj;simp at hj
        have:=BT.size
        first | omega | (simp at this;omega)) (Nat.le_refl _))
      have hszr:wB.heap.size<=w9.heap.size:=by
       have h1:=hgrow.size;simp at h1
       omega
      obtain⟨va,vc,rfl⟩:=Zac hown';clear hown' hgrow hat BN OW HHO HKP BT
      go_wp2
      go_roundw
      case rel=>exact ⟨t+1,_,qs++[(ZbX area src (t:Int) E.cost,Value.slice none 0 0)],by omega,by omega,by go_num,rfl,N1.out,N2,N5.out,N3.out,N4.out,hszr⟩
      case measure=>simp [intOf];omega
     have hnw:∀ d,¬Zau (fsts ps) al src (t:Int) d:=fun d h=>by
      rcases HBH.out with ⟨h1,_⟩ | ⟨_,h2⟩
      ·cases h1
      ·exact h2 d ((HWN2.out d).2 h)
     have HNW:=hide hnw;clear hnw HBH HWN2;by_cases ha0:area=0
     case pos=>
      have hda:(area != 0)=false:=by simpa using ha0
      have HA0:=hide ha0;clear ha0;have N1:=hide ((HOWN.out.below BT (Nat.le_refl _)).wide (Nat.le_refl _) BT.size);have N2:=hide (show ZaV (fsts ps) al src area ((t+1:Nat):Int) (fsts qs) from by
       have h:=HB.out.skip (t:=(t:Int)) (fun c hc=>by rcases hc.2.2 with ⟨w,h1,_⟩ | ⟨h1,_⟩;exact Zh6 HNW.out h1;exact h1 HA0.out)
       rw [show ((t+1:Nat):Int)=(t:Int)+1 by omega]
       exact h)
      have N3:=hide (HHER.out.below BT hsz);have N4:=hide (hnx.trans (BT.mono hnx.size));have hszr:wB.heap.size<=(w5.alloc (.cells #[.int .i64 E.to,.int .i64 E.cost,.slice eua E.hops.length euc] 48)).heap.size:=by have:=BT.size;omega
      clear hx6 d1;clear HOWN HHER BT
      go_wp2
      go_roundw
      case rel=>exact ⟨t+1,_,qs,by omega,by omega,by go_num,rfl,N1.out,N2,HOFF.out,N3.out,N4.out,hszr⟩
      case measure=>simp [intOf];omega
     have hda:(area != 0)=true:=by simpa using ha0
     have HA0:=hide ha0;clear ha0;obtain⟨G,hG⟩:∃ G,G=ZaY (Zag bs) (t:Int):=⟨_,rfl⟩;obtain⟨F3,hF3⟩:∃ F,F=Za3 (Zag bs) (t:Int):=⟨_,rfl⟩;obtain⟨w6,hw6⟩:∃ W,W=(w5.alloc (.cells #[.int .i64 E.to,.int .i64 E.cost,.slice eua E.hops.length euc] 48)):=⟨_,rfl⟩;rw [<-hw6] at BT hx6;have HW3:=HTB.out (t:Int) w6 (HHER.out.below BT hsz) (by have:=BT.size;omega)
     rw [<-hG, <-hF3] at HW3;rw [<-hG, <-hF3] at HBY;have H3:=hide HW3;unfold wayC at H3;have hz6:=Zab hx6;have HX6:=hide hx6;clear HW3 hG hF3 hx6 d1
     go_wp2_with fail
     rw [<-hw6];clear hw6;refine (H3.out).mono ?_
     rintro e w7 ⟨gu,rfl,hgu,b7⟩;obtain⟨gua,guc,rfl⟩:=Zac hgu;have hb7:=b7.size;have hx7:=(b7.block _ hz6).trans HX6.out;have BT7:Below wt.heap.size wt w7:=BT.trans (b7.mono BT.size);have hwt3:wt.heap.size<=w5.heap.size:=by omega
     have BT8:Below wt.heap.size wt (Za7 w7 w5.heap.size G (.slice gua G.hops.length guc)):=BT7.grown (Za1 w7 w5.heap.size G (.slice gua G.hops.length guc)) BT7.size (fun j hj=>by simp at hj;omega)
     have d0:=Zaa hx7 0;have d1:=Zaa hx7 1;have d2:=Zaa hx7 2;simp at d0 d1 d2
     have fd:=Zae hx7;clear hgu b7 H3 HX6 hx7 BT BT7;have BT:=BT8;clear BT8;cases F3
     case false=>
      have N1:=hide ((HOWN.out.below BT (Nat.le_refl _)).wide (Nat.le_refl _) BT.size);have N2:=hide (show ZaV (fsts ps) al src area ((t+1:Nat):Int) (fsts qs) from by
       have h:=HB.out.skip (t:=(t:Int)) (fun c hc=>by rcases hc.2.2 with ⟨w,h1,_⟩ | ⟨_,w,h1,_⟩;exact Zh6 HNW.out h1;rcases HBY.out with ⟨h2,_⟩ | ⟨_,h2⟩;cases h2;exact Zh6 h2 h1)
       rw [show ((t+1:Nat):Int)=(t:Int)+1 by omega]
       exact h)
      have N3:=hide (HHER.out.below BT hsz);have N4:=hide (hnx.trans (BT.mono hnx.size));have hszr:wB.heap.size<=(Za7 w7 w5.heap.size G (.slice gua G.hops.length guc)).heap.size:=by have:=BT.size;omega
      clear HOWN HHER BT
      go_wp2
      go_roundw
      case rel=>exact ⟨t+1,_,qs,by omega,by omega,by go_num,rfl,N1.out,N2,HOFF.out,N3.out,N4.out,hszr⟩
      case measure=>simp [intOf];omega
     have hbe:ZaF (t:Int) (Zbz (fsts ps) al true src (t:Int)) (some G):=by
      rcases HBY.out with ⟨_,h2⟩ | ⟨h1,_⟩
      ·exact h2
      ·cases h1
     have HTO:=hide (show ZcZ (fsts ps) al src area (t:Int) G.cost from ⟨HNN.out,HTS.out,.inr ⟨HA0.out,G,hbe,rfl⟩⟩)
     clear hbe;clear HBY HNW;have BN:Below wt.heap.size wt ((Za7 w7 w5.heap.size G (.slice gua G.hops.length guc)).alloc (.cells #[.int .i64 area,.int .i64 2,.int .i64 src,.int .i64 (t:Int),.int .i64 0,.slice none 0 0,.int .i64 G.cost,.bool false] 59)):=BT.trans (((Below.refl _ _).alloc (Nat.le_refl _) _).mono BT.size);have OW:=hide ((Zaf HOWN.out.row BT (Nat.le_refl _)).alloc (.cells #[.int .i64 area,.int .i64 2,.int .i64 src,.int .i64 (t:Int),.int .i64 0,.slice none 0 0,.int .i64 G.cost,.bool false] 59));have HHO:=hide (show ZaJ ((Za7 w7 w5.heap.size G (.slice gua G.hops.length guc)).alloc (.cells #[.int .i64 area,.int .i64 2,.int .i64 src,.int .i64 (t:Int),.int .i64 0,.slice none 0 0,.int .i64 G.cost,.bool false] 59)) wt.heap.size ((Za7 w7 w5.heap.size G (.slice gua G.hops.length guc)).alloc (.cells #[.int .i64 area,.int .i64 2,.int .i64 src,.int .i64 (t:Int),.int .i64 0,.slice none 0 0,.int .i64 G.cost,.bool false] 59)).heap.size (ZbX area src (t:Int) G.cost,Value.slice none 0 0) from ⟨World.ownsRow_nil _ _ _ _,fun k hk=>by simp [Value.ownBlock] at hk⟩)
     have HKP:=hide (show (HerW ((Za7 w7 w5.heap.size G (.slice gua G.hops.length guc)).alloc (.cells #[.int .i64 area,.int .i64 2,.int .i64 src,.int .i64 (t:Int),.int .i64 0,.slice none 0 0,.int .i64 G.cost,.bool false] 59)) w1.heap.size wB.heap.size uh hs un ns ub bs) from HHER.out.below BN hsz)
     have N2:=hide (show ZaV (fsts ps) al src area ((t+1:Nat):Int) (fsts (qs++[(ZbX area src (t:Int) G.cost,Value.slice none 0 0)])) from by
      have h:=HB.out.push HTO.out;rw [show ((t+1:Nat):Int)=(t:Int)+1 by omega]
      have e:fsts (qs++[(ZbX area src (t:Int) G.cost,Value.slice none 0 0)])=fsts qs++[ZbX area src (t:Int) G.cost]:=by simp [fsts]
      rw [e];exact h)
     have hws:=hnx.size;have HAS:=hide (show (Za7 w7 w5.heap.size G (.slice gua G.hops.length guc)).heap.size=w7.heap.size by simp)
     have hBTs:wt.heap.size<=w7.heap.size:=by have h:=BT.size;rw [HAS.out] at h;exact h
     go_wp2_with (first
      | (at_builtin;refine ZaL Zbb (by omega) (by omega) _ rfl _ _ 33 rfl w.heap.size 59 Tryz.underlying33 (.agg (recC ZbM (.slice none 0 0))) rfl Tryz.infoRec _ qs (ZbX area src (t:Int) G.cost,Value.slice none 0 0) (Zca _ _ _ _) rfl OW.out ⟨w7.heap.size,0,none⟩ 1 rfl (fun j u hj=>by
        have h:=Zap (w:=(Za7 w7 w5.heap.size G (.slice gua G.hops.length guc))) (cs:=encP (ZbX area src (t:Int) G.cost,Value.slice none 0 0)) (t:=59) j u hj;rw [HAS.out] at h;exact h) (by omega) (by simp;omega) ?_))
     intro v' w9 hown' hgrow hat;have N1:=hide (HOWN.out.push BN hws HHO.out (by simpa using hown') hgrow)
     have N3:=hide (HKP.out.keep (HOFF.out.kept hgrow));have N4:=hide ((hnx.trans (BN.mono hws)).grown hgrow (by have:=BN.size;omega) (fun j hj=>(HOWN.out.row.lt j hj).1))
     have N5:=hide (HOFF.out.next (x':=v') (B:=wB.heap.size) (fun j hj=>by
      rcases hat with h1 | h1
      ·exact .inl (by rw [<-h1];exact hj)
      ·right
       rw [h1] at hj;simp at hj
       have:=BT.size
       first | omega | (simp at this;omega)) (Nat.le_refl _))
     have hszr:wB.heap.size<=w9.heap.size:=by
      have h1:=hgrow.size;simp at h1
      omega
     obtain⟨va,vc,rfl⟩:=Zac hown';clear hown' hgrow hat BN OW HHO HKP BT
     go_wp2
     go_roundw
     case rel=>exact ⟨t+1,_,qs++[(ZbX area src (t:Int) G.cost,Value.slice none 0 0)],by omega,by omega,by go_num,rfl,N1.out,N2,N5.out,N3.out,N4.out,hszr⟩
     case measure=>simp [intOf];omega
    ·have ht6:¬(t:Int)<=6:=by omega
     have htt:(t:Int)=7:=by omega
     have HE:=hide (show Zcg (fsts ps) al src area (fsts qs) from ZaV.all (by have h:=HB.out;rw [htt] at h;exact h))
     have HO:=hide hown;have HN:=hide hnx;clear hown hnx HB hoff hher htt
     go_wp2
     go_ret
     first
      | exact ⟨_,qs,rfl,HE.out,HO.out,HN.out⟩
      | exact ⟨_,rfl,qs,HE.out,HO.out,HN.out⟩
end Go.Proofs.YtgdgkgmjpnbbcaaGreat
namespace Go.Proofs.YtgdgkgmjpnbbcaaGreat
open Go.RowKit

set_option linter.unusedSimpArgs false

open Classical in
noncomputable def tolD (xs:List RecD) (al:List Int) (src area:Int):List RecD:=if h:∃ ds,Zcg xs al src area ds then Classical.choose h else []

theorem Zcg.eq {xs:List RecD}{al:List Int}{src area:Int}{ds:List RecD}(h:Zcg xs al src area ds):ds=tolD xs al src area:=by
 unfold tolD;rw [dif_pos ⟨ds,h⟩];exact h.unique (Classical.choose_spec (⟨ds,h⟩:∃ ds,Zcg xs al src area ds))

noncomputable def Zbx (xs:List RecD) (al:List Int) (src:Int) (bl:List Int):List RecD:=bl.flatMap (fun a=>tolD xs al src a)

theorem Zit {xs:List RecD}{al bl:List Int}{src a:Int}{k:Nat}(h:bl[k]? = some a):Zbx xs al src (bl.take (k+1))=Zbx xs al src (bl.take k)++tolD xs al src a:=by
 obtain⟨hk,e⟩:=List.getElem?_eq_some_iff.1 h;unfold Zbx;rw [List.take_succ_eq_append_getElem hk,e,List.flatMap_append];simp

def Zb6 (node:Int)(r:RecD):Bool:=r.kind != 2||r.owner != node

noncomputable def beyD (xs:List RecD) (al:List Int) (node:Int):List RecD:=Zd5 (xs.filter (Zb6 node)) (Zbx xs al node al)

theorem RecsOwn.join {W Wa W2:World}{lo:Nat}{v v' u:Value}{qs bs:List RP}(h:RecsOwn W lo W.heap.size v qs)(hb:Below W.heap.size W Wa)(hlo:lo<=W.heap.size)(hu:RecsOwn Wa W.heap.size Wa.heap.size u bs)
  (row:W2.ownsRow lo 59 8 v' (qs++bs).length (flat encP (qs++bs))) (hg:Wa.grownBy W2 v.ownBlock):RecsOwn W2 lo W2.heap.size v' (qs++bs) where
 row:=row
 top:=fun k hk=>(row.lt k hk).2
 apart:=by
  rw [List.pairwise_append];refine⟨h.apart,hu.apart,fun p hp q hq k hk he=>?_⟩
  have h1:=(h.nears p hp).2 k hk;have h2:=((hu.nears q hq).1.lt k he).1;omega
 nears:=by
  have rowa:=Zaf h.row hb (Nat.le_refl _);have key:∀ q,ZaJ Wa lo Wa.heap.size q->ZaJ W2 lo W2.heap.size q:=fun q hq=>
   ⟨Zao hq.1 (fun j hj=>hg.block j (hq.2 j hj) (ZeB hq rowa j hj)),fun k hk=>Nat.lt_of_lt_of_le (hq.2 k hk) hg.size⟩
  intro q hq
  rcases List.mem_append.1 hq with h1 | h1
  ·exact key q (((h.nears q h1).keep (W':=Wa) (fun j _ h2 _=>hb.block j h2)).wide (Nat.le_refl _) hb.size)
  ·exact key q ((hu.nears q h1).wide hlo (Nat.le_refl _))
end Go.Proofs.YtgdgkgmjpnbbcaaGreat
namespace Go.Proofs.YtgdgkgmjpnbbcaaGreat
open Go.RowKit
set_option linter.unusedSimpArgs false
set_option linter.unusedVariables false
set_option maxRecDepth 100000
set_option maxHeartbeats 8000000
def lk0:Lk:=⟨0,0,0,0⟩
theorem Tryz.infoLk:(Tryz.prog.info? 32).map (fun i=>(i.zero,i.size,i.bytes))=some (some (lkV lk0),4,32):=by kernel_rfl
def th0:Th:=⟨0,0,0,false⟩
theorem Tryz.infoTh:(Tryz.prog.info? 46).map (fun i=>(i.zero,i.size,i.bytes))=some (some (thV th0),4,32):=by kernel_rfl

structure NetD where
 n:Int
 ls:List Lk
 ts:List Th
 deriving DecidableEq
def ZkR (W:World)(v:Value)(x:NetD)(B:Nat):Prop:=∃ v1 v2,v=.agg #[.int .i64 x.n,v1,v2]/\Zbh W v1 x.ls B/\Zbv W v2 x.ts B
theorem ZkR.then {W W':World}{v:Value}{x:NetD}(h:ZkR W v x W.heap.size)(hb:Below W.heap.size W W'):ZkR W' v x W'.heap.size:=by
 obtain⟨v1,v2,hv,h1,h2⟩:=h;exact⟨v1,v2,hv,h1.then hb,h2.then hb⟩
def ZbG (n:Int)(l:Lk):Bool:=inB n 1 6&&inB l.a 1 n&&inB l.b 1 n&&decide (l.a<l.b)&&inB l.c 1 1000&&inB l.r 0 2
def ZbC (a b:Lk):Bool:=decide (a.a<b.a)||(a.a==b.a&&(decide (a.b<b.b)||(a.b==b.b&&decide (a.r<b.r))))
def ZbE (a b:Th):Bool:=decide (a.k<b.k)||(a.k==b.k&&decide (a.o<b.o))
theorem Zj4 (n:Int)(l:Lk)(w:World):Calls Tryz.prog 48 #[.int .i64 n,lkV l] w fun e w'=>e=.returned (.bool (ZbG n l))/\Below w.heap.size w w':=by
 obtain⟨a,b,c,r⟩:=l;unfold lkV ZbG;simp only []
 generalize hq1:inB n 1 6=q1;generalize hq2:inB a 1 n=q2;generalize hq3:inB b 1 n=q3;generalize hq4:inB c 1 1000=q4;generalize hq5:inB r 0 2=q5;have h1:=ZbP n 1 6;have h2:=ZbP a 1 n;have h3:=ZbP b 1 n;have h4:=ZbP c 1 1000;have h5:=ZbP r 0 2;rw [hq1] at h1;rw [hq2] at h2;rw [hq3] at h3;rw [hq4] at h4;rw [hq5] at h5;have H1:=hide h1;have H2:=hide h2;have H3:=hide h3;have H4:=hide h4;have H5:=hide h5;clear h1 h2 h3 h4 h5 hq1 hq2 hq3 hq4 hq5;cases q1
 ·go_enter Tryz.func48,Tryz.ntmps48
  go_wp2_with fail
  refine (H1.out _).mono ?_
  rintro e w1 ⟨rfl,rfl⟩
  go_wp2
  go_ret
  exact⟨by simp,(Below.refl _ _).alloc (Nat.le_refl _) _⟩
 cases q2
 ·go_enter Tryz.func48,Tryz.ntmps48
  go_wp2_with fail
  refine (H1.out _).mono ?_
  rintro e w1 ⟨rfl,rfl⟩
  go_wp2_with fail
  refine (H2.out _).mono ?_
  rintro e w1 ⟨rfl,rfl⟩
  go_wp2
  go_ret
  exact⟨by simp,(Below.refl _ _).alloc (Nat.le_refl _) _⟩
 cases q3
 ·go_enter Tryz.func48,Tryz.ntmps48
  go_wp2_with fail
  refine (H1.out _).mono ?_
  rintro e w1 ⟨rfl,rfl⟩
  go_wp2_with fail
  refine (H2.out _).mono ?_
  rintro e w1 ⟨rfl,rfl⟩
  go_wp2_with fail
  refine (H3.out _).mono ?_
  rintro e w1 ⟨rfl,rfl⟩
  go_wp2
  go_ret
  exact⟨by simp,(Below.refl _ _).alloc (Nat.le_refl _) _⟩
 by_cases hab:a<b
 ·cases q4
  ·go_enter Tryz.func48,Tryz.ntmps48
   go_wp2_with fail
   refine (H1.out _).mono ?_
   rintro e w1 ⟨rfl,rfl⟩
   go_wp2_with fail
   refine (H2.out _).mono ?_
   rintro e w1 ⟨rfl,rfl⟩
   go_wp2_with fail
   refine (H3.out _).mono ?_
   rintro e w1 ⟨rfl,rfl⟩
   go_wp2_with fail
   refine (H4.out _).mono ?_
   rintro e w1 ⟨rfl,rfl⟩
   go_wp2
   go_ret
   exact⟨by simp,(Below.refl _ _).alloc (Nat.le_refl _) _⟩
  ·go_enter Tryz.func48,Tryz.ntmps48
   go_wp2_with fail
   refine (H1.out _).mono ?_
   rintro e w1 ⟨rfl,rfl⟩
   go_wp2_with fail
   refine (H2.out _).mono ?_
   rintro e w1 ⟨rfl,rfl⟩
   go_wp2_with fail
   refine (H3.out _).mono ?_
   rintro e w1 ⟨rfl,rfl⟩
   go_wp2_with fail
   refine (H4.out _).mono ?_
   rintro e w1 ⟨rfl,rfl⟩
   go_wp2_with fail
   refine (H5.out _).mono ?_
   rintro e w1 ⟨rfl,rfl⟩
   go_wp2
   go_ret
   exact⟨Zam (by rw [decide_eq_true hab];simp),(Below.refl _ _).alloc (Nat.le_refl _) _⟩
 ·go_enter Tryz.func48,Tryz.ntmps48
  go_wp2_with fail
  refine (H1.out _).mono ?_
  rintro e w1 ⟨rfl,rfl⟩
  go_wp2_with fail
  refine (H2.out _).mono ?_
  rintro e w1 ⟨rfl,rfl⟩
  go_wp2_with fail
  refine (H3.out _).mono ?_
  rintro e w1 ⟨rfl,rfl⟩
  go_wp2
  go_ret
  exact⟨Zam (by rw [decide_eq_false (show ¬a<b by omega)];simp),(Below.refl _ _).alloc (Nat.le_refl _) _⟩
theorem ZfJ (l m:Lk)(w:World):Calls Tryz.prog 49 #[lkV l,lkV m] w fun e w'=>e=.returned (.bool (ZbC l m))/\Below w.heap.size w w':=by
 obtain⟨a,b,c,r⟩:=l;obtain⟨a',b',c',r'⟩:=m;unfold lkV
 go_enter Tryz.func49,Tryz.ntmps49
 go_wp2
 all_goals go_ret
 all_goals refine ⟨Zam ?_,Za6 _ _⟩
 all_goals (simp only [ZbC];grind)
theorem ZfL (l m:Th)(w:World):Calls Tryz.prog 50 #[thV l,thV m] w fun e w'=>e=.returned (.bool (ZbE l m))/\Below w.heap.size w w':=by
 obtain⟨a,b,c,r⟩:=l;obtain⟨a',b',c',r'⟩:=m;unfold thV
 go_enter Tryz.func50,Tryz.ntmps50
 go_wp2
 all_goals go_ret
 all_goals refine ⟨Zam ?_,Za6 _ _⟩
 all_goals (simp only [ZbE];grind)
def orN:List Int->Int
 | []=>0
 | x::xs=>if x=0 then orN xs else x
theorem Zh8:∀ (k:Nat)(l:List Int),(∀ j,j<k->l.getD j 0=0)->orN l=orN (l.drop k)
 | 0,l,_=>by simp
 | k+1,[],_=>by simp
 | k+1,x::xs,h=>by
  have h0:x=0:=by simpa using h 0 (by omega)
  subst h0;have e:orN (0::xs)=orN xs:=by simp [orN]
  rw [e,List.drop_succ_cons];exact Zh8 k xs (fun j hj=>by simpa using h (j+1) (by omega))
theorem orN_at {k:Nat}{l:List Int}(h:∀ j,j<k->l.getD j 0=0)(hk:k<l.length)(hx:l.getD k 0≠0):orN l=l.getD k 0:=by
 rw [Zh8 k l h,List.drop_eq_getElem_cons hk];have e:l.getD k 0=l[k]:=by simp [List.getElem?_eq_getElem hk]
 rw [e] at hx |-;simp only [orN]
 rw [if_neg hx]
theorem Zn5 {k:Nat}{l:List Int}(h:∀ j,j<k->l.getD j 0=0)(hk:k=l.length):orN l=0:=by
 rw [Zh8 k l h,List.drop_of_length_le (by omega)]
 rfl
theorem or_any (b n:Nat)(l:List Int)(w:World)(hn:n=l.length)(hs:l.length<=1000)(hc:∀ j,j<l.length->w.cell? ⟨b,j,none⟩=some (.int .i64 (l.getD j 0))):
  Calls Tryz.prog 121 #[.slice (some ⟨b,0,none⟩) n n] w fun e w'=>e=.returned (.int .i64 (orN l))/\w=w':=by
 subst hn;have HC:=hide hc;clear hc
 go_enter Tryz.func121,Tryz.ntmps121
 go_wp2
 go_loopw [8] (fun i wr=>∃ k:Nat,k<=l.length/\i=.int .i64 k/\(∀ j,j<k->l.getD j 0=0)/\w=wr) (fun i _=>l.length-(intOf i).toNat)
 case atStart=>exact ⟨0,by omega,rfl,by omega,rfl⟩
 case round=>
  obtain⟨k,hk,rfl,hno,rfl⟩:=hrel;have HNO:=hide hno;clear hno;by_cases hlt:k<l.length
  ·have hcell:=HC.out k hlt
   by_cases h0:l.getD k 0=0
   ·have hnx:∀ j,j<k+1->l.getD j 0=0:=fun j hj=>by
     by_cases e:j=k
     ·subst e;exact h0
     ·exact HNO.out j (by omega)
    rw [h0] at hcell;have HN:=hide hnx;clear h0 hnx
    go_wp2
    go_roundw
    case rel=>exact ⟨k+1,by omega,by go_num,HN.out,trivial⟩
    case measure=>simp [intOf];omega
   ·obtain ⟨y,hy⟩:∃ y,y=l.getD k 0:=⟨_,rfl⟩
    rw [<-hy] at hcell h0;have hor:orN l=y:=by rw [hy];exact orN_at HNO.out hlt (by rw [<-hy];exact h0)
    have HO:=hide hor;clear hy hor
    go_wp2
    go_ret
    exact⟨Zi9 HO.out,rfl⟩
  ·have hk':k=l.length:=by omega
   have HK:=hide hk';clear hk'
   go_wp2
   go_ret
   exact⟨Zi9 (Zn5 HNO.out HK.out),rfl⟩
theorem ZmG (b:Nat)(x y:Int)(w:World)(h0:w.cell? ⟨b,0,none⟩=some (.int .i64 x))(h1:w.cell? ⟨b,1,none⟩=some (.int .i64 y)):
  Calls Tryz.prog 121 #[.slice (some ⟨b,0,none⟩) 2 2] w fun e w'=>e=.returned (.int .i64 (orN [x,y]))/\w=w':=
 or_any b 2 [x,y] w rfl (by simp) (fun j hj=>by
  match j,hj with
  | 0,_=>exact h0
  | 1,_=>exact h1
  | j+2,hj=>exact absurd hj (by simp only [List.length_cons,List.length_nil];omega))
theorem ZkB (w1:World)(cs:Array Value)(t:TypeId)(j:Nat)(v:Value)(h:cs[j]? = some v):(w1.alloc (.cells cs t)).drew.cell? ⟨w1.heap.size,j,none⟩=some v:=by
 have:=Zaa (heap_alloc_new w1 (.cells cs t)) j;rw [h] at this;exact this
def ordL (l m:Lk):Int:=orN [cmpN l.a m.a,cmpN l.b m.b,cmpN l.r m.r]
def ordT (l m:Th):Int:=orN [cmpN l.k m.k,cmpN l.o m.o]


def Zer (n:Int)(ls:List Lk):Bool:=decide (ls.length<=12)&&Zce (ZbG n) ls&&ascB ordL ls
def Zd4 (n:Int)(t:Th):Bool:=inB t.k 1 9&&inB t.o 1 n&&inB t.c 1 1000
def Zdf (n:Int)(ls:List Th):Bool:=decide (ls.length<=4)&&Zce (Zd4 n) ls&&ascB ordT ls
def Za2 (x:NetD):Bool:=inB x.n 1 6&&Zer x.n x.ls&&Zdf x.n x.ts
end Go.Proofs.YtgdgkgmjpnbbcaaGreat
