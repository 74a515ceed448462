/-
  TellT TellB IdealM AreaS
-/
import Derived.Test.YtcimbiinljcifaaGreatLn25
import Derived.Test.YtcimbiinljcifaaGreatLn30
import Derived.Test.YtcimbiinljcifaaGreatLn22
import Derived.Test.YtcimbiinljcifaaGreatLn4
namespace Go.Proofs.YtcimbiinljcifaaGreat
open Go.RowKit
set_option linter.unusedSimpArgs false
set_option linter.unusedVariables false
set_option maxRecDepth 100000
set_option maxHeartbeats 8000000
structure HerW (W:World) (lo hi:Nat) (uh:Value) (hs:List WP) (un:Value) (ns:List WP) (ub:Value) (bs:List WP):Prop where
 h:WaysOwn W lo hi uh hs
 n:WaysOwn W lo hi un ns
 b:WaysOwn W lo hi ub bs
theorem HerW.below {W W':World}{lo hi B:Nat}{uh un ub:Value}{hs ns bs:List WP}(h:HerW W lo hi uh hs un ns ub bs)(hb:Below B W W')(hB:hi<=B):HerW W' lo hi uh hs un ns ub bs:=⟨h.h.below hb hB,h.n.below hb hB,h.b.below hb hB⟩
theorem HerW.keep {W W':World}{lo hi:Nat}{uh un ub:Value}{hs ns bs:List WP}(h:HerW W lo hi uh hs un ns ub bs)(hk:∀ k,lo<=k->k<hi->k<W.heap.size->W'.heap[k]? = W.heap[k]?):HerW W' lo hi uh hs un ns ub bs:=⟨h.h.keep hk,h.n.keep hk,h.b.keep hk⟩
def Zcn (al:List Int)(area:Int)(k:Nat):List Int:=(al.take k).filter (fun a=>a != area)
theorem Zig {al:List Int}{area a:Int}{k:Nat}(h:al[k]? = some a):Zcn al area (k+1)=Zcn al area k++(if a != area then [a] else []):=by
 obtain⟨hk,e⟩:=List.getElem?_eq_some_iff.1 h;unfold Zcn;rw [List.take_succ_eq_append_getElem hk,e,List.filter_append]
 congr 1
 cases hd:(a != area) <;> simp [List.filter,hd]
theorem Zjr (al:List Int)(area:Int)(k:Nat):(Zcn al area k).length<=k:=by
 unfold Zcn;exact Nat.le_trans (List.length_filter_le _ _) (by rw [List.length_take];omega)
theorem ZkA (v u:Value)(ps:List RP)(al:List Int)(hi:Nat)(src area:Int)(w:World)(hv:RecsIn w hi v ps)(ha:Za9 w u al hi)(hhi:hi<=w.heap.size)(hn:tot ps<=1048576)(hal:al.length<=1048576):
  Calls Tryz.prog 130 #[v,u,.int .i64 src,.int .i64 area] w fun e w'=>∃ x qs,e=.returned x/\Zcy (fsts ps) al src area (fsts qs)/\RecsOwn w' w.heap.size w'.heap.size x qs/\Below w.heap.size w w':=by
 obtain⟨a1,c1,rfl⟩:=Zac hv.row;obtain⟨a2,c2,rfl⟩:=ha.shape;have LIT:=Zce w w.heap.size (Nat.le_refl _);have hs1:(w.alloc (.cells #[] 40)).heap.size=w.heap.size+1:=by simp
 have B1:Below w.heap.size w (w.alloc (.cells #[] 40)):=(Below.refl _ _).alloc (Nat.le_refl _) _;obtain⟨w1,hw1⟩:∃ W,W=w.alloc (.cells #[] 40):=⟨_,rfl⟩;rw [<-hw1] at LIT hs1 B1;have HSK:=hide (Zb9 (.slice a1 ps.length c1) ps w1 hn (Zbs.more ((hv.below B1 hhi).at) (Nat.le_trans hhi B1.size)));have HWI:=hide (fun W (hb:Below w.heap.size w W)=>ZdN (.slice a1 ps.length c1) ps hi area src W (hv.below hb hhi) (Nat.le_trans hhi hb.size) hn)
 have HWN:=hide (fun (u2:Value) (l2:List Int) W (hb:Below w.heap.size w W) (h2:Za9 W u2 l2 W.heap.size) (hl:l2.length<=1048576)=>ZfB (.slice a1 ps.length c1) u2 ps l2 W.heap.size src W ((hv.below hb hhi).wide (Nat.le_trans hhi hb.size)) h2 (Nat.le_refl _) hn hl)
 have HWB:=hide (fun W (hb:Below w.heap.size w W)=>Zim (.slice a1 ps.length c1) (.slice a2 al.length c2) ps al hi true src W (hv.below hb hhi) (ZaT.later ha hb hhi) (Nat.le_trans hhi hb.size) hn hal)
 have HA:=hide ha;clear hv ha;have HLIT:=hide LIT;have HS1:=hide hs1;clear LIT hs1;obtain⟨SB,hSB⟩:∃ b,b=Zaw (fsts ps):=⟨_,rfl⟩;rw [<-hSB] at HSK;have HSB:=hide hSB;clear hSB
 go_enter Tryz.func130,Tryz.ntmps130
 go_wp2_with fail
 rw [<-hw1];clear hw1;refine HSK.out.mono ?_
 rintro e w2 ⟨rfl,b2⟩;have hb2:=b2.size;have hB1s:=B1.size;have B2:Below w.heap.size w w2:=B1.trans (b2.mono hB1s);have HL2:=hide (HLIT.out.below b2 (Nat.le_refl _));clear HSK HLIT b2;cases SB
 ·have HE:=hide (show Zcy (fsts ps) al src area (fsts []) from ⟨List.Pairwise.nil,fun r=>⟨fun h=>by simp [fsts] at h,fun ⟨to,c,_,h⟩=>by have h9:=ZjL h;rw [<-HSB.out] at h9;cases h9⟩⟩)
  have HO:=hide (HL2.out.wide (Nat.le_refl _) hb2);have HN:=hide B2;clear HL2 HWI HWN HWB B2
  go_wp2
  go_ret
  first
   | exact ⟨_,[],rfl,HE.out,HO.out,HN.out⟩
   | exact ⟨_,rfl,[],HE.out,HO.out,HN.out⟩
 have OI:=ZcC w2 w2.heap.size w2.heap.size rfl (Nat.le_refl _);have BI:Below w2.heap.size w2 (w2.alloc (.cells #[] 3)):=(Below.refl _ _).alloc (Nat.le_refl _) _;obtain⟨w0,hw0⟩:∃ W,W=w2.alloc (.cells #[] 3):=⟨_,rfl⟩;rw [<-hw0] at OI BI;have HOI:=hide OI;clear OI
 go_wp2
 rw [<-hw0];clear hw0
 go_loopw [11,10] (fun i o wr=>∃ (k:Nat) (x:Value),k<=al.length/\i=.int .i64 (k:Int)/\o=x/\wr.ownsRow w2.heap.size 3 1 x (Zcn al area k).length (flat intE (Zcn al area k))/\Below w2.heap.size w2 wr) (fun i _ _=>al.length-(intOf i).toNat)
 case atStart=>exact ⟨0,_,by omega,rfl,rfl,HOI.out,BI⟩
 case round=>
  obtain⟨k,x,hk,rfl,rfl,hown,hnx⟩:=hrel;clear HOI BI;obtain⟨xa,xc,rfl⟩:=Zac hown;have hsz:=hnx.size;have hol:=Zjr al area k;have BW:Below w.heap.size w wr:=B2.trans (hnx.mono B2.size);have OW:=hide hown;clear hown;by_cases hlt:k<al.length
  ·obtain ⟨a,har⟩:∃ a,al[k]? = some a:=⟨al[k],List.getElem?_eq_getElem hlt⟩
   obtain⟨b,off,cap',hve,hbb,c0⟩:=HA.out.cell k a har;cases hve
   have hbw:b<w.heap.size:=by omega
   rw [<-BW.cell (p:=⟨b,off+k,none⟩) hbw] at c0;have hki:(0:Int)<=(k:Int):=by omega
   have hkj:(k:Int)<(al.length:Int):=by omega
   have HST:=hide (Zig (area:=area) har);obtain⟨C,hC⟩:∃ C,C=Zcn al area k:=⟨_,rfl⟩;rw [<-hC] at OW HST hol |-;clear hC har;obtain⟨dd,hdd⟩:∃ d,d=(a != area):=⟨_,rfl⟩;rw [<-hdd] at HST;have hd:(a != area)=dd:=hdd.symm;clear hdd;cases dd
   ·have HOW:=hide (show wr.ownsRow w2.heap.size 3 1 (.slice xa C.length xc) (Zcn al area (k+1)).length (flat intE (Zcn al area (k+1))) by rw [HST.out];simpa using OW.out)
    clear OW HST
    go_wp2
    go_roundw
    case rel=>exact ⟨k+1,_,by omega,by go_num,rfl,HOW.out,hnx⟩
    case measure=>simp [intOf];omega
   ·go_wp2_with (first
     | (at_builtin;refine ZaN ZdY (by omega) (by omega) _ rfl _ _ 28 rfl w2.heap.size 3 Tryz.underlying28 (.int .i64 0) rfl Tryz.info3 _ C a (Zc0 _) rfl (OW.out.alloc _) ⟨wr.heap.size,0,none⟩ 1 rfl (Zar (cs:=intE a)) (by omega) (by simp;omega) ?_))
    intro v' w4 hown' hgrow;have B4:Below w2.heap.size w2 w4:=(hnx.alloc hsz _).grown hgrow (by simp;omega) (fun j hj=>(OW.out.lt j hj).1)
    have O4:=hide (show w4.ownsRow w2.heap.size 3 1 v' (Zcn al area (k+1)).length (flat intE (Zcn al area (k+1))) by rw [HST.out];simpa using hown')
    obtain⟨va,vc,rfl⟩:=Zac hown';clear hown' hgrow
    go_wp2
    go_roundw
    case rel=>exact ⟨k+1,_,by omega,by go_num,rfl,O4.out,B4⟩
    case measure=>simp [intOf];omega
  ·have hkn:¬(k:Int)<(al.length:Int):=by omega
   obtain⟨C,hC⟩:∃ C,C=Zcn al area k:=⟨_,rfl⟩;have HCE:=hide (show C=al.filter (fun a=>a != area) by rw [hC];unfold Zcn;rw [List.take_of_length_le (by omega)])
   rw [<-hC] at OW hol |-;have HO:=hide ((HL2.out.below hnx (by omega)).wide (Nat.le_refl _) (show w1.heap.size<=wr.heap.size by omega))
   rename World=>wo
   clear hC HL2 hnx
   go_wp2_with fail
   refine (HWI.out _ BW).mono ?_
   rintro e wh ⟨uh,hs,rfl,hhs0,hoh,bh⟩;obtain⟨uha,uhc,rfl⟩:=Zac hoh.row;have hhs:=hhs0.eq;have hbh:=bh.size;have BWH:Below w.heap.size w wh:=BW.trans (bh.mono BW.size);have OWH:=Zb0 (Zah OW.out bh (Nat.le_refl _));have HO2:=hide ((HO.out.below bh (Nat.le_refl _)).wide (Nat.le_refl _) hbh);have HOH:=hide hoh;clear hhs0 hoh HO
   go_wp2_with fail
   refine (HWN.out _ C _ BWH OWH (by omega)).mono ?_
   rintro e wn ⟨un,ns,rfl,hbn,hon,bn⟩;obtain⟨una,unc,rfl⟩:=Zac hon.row;have hbns:=bn.size;have BWN:Below w.heap.size w wn:=BWH.trans (bn.mono BWH.size);have HO3:=hide ((HO2.out.below bn (Nat.le_refl _)).wide (Nat.le_refl _) hbns);have HON:=hide hon;have HBN:=hide hbn;clear hon hbn OWH HO2
   go_wp2_with fail
   refine (HWB.out _ BWN).mono ?_
   rintro e wB ⟨ub,bs,rfl,hbb0,hob,bB⟩;obtain⟨uba,ubc,rfl⟩:=Zac hob.row;have hbB:=bB.size;have BWB:Below w.heap.size w wB:=BWN.trans (bB.mono BWN.size);have HO4:=hide ((HO3.out.below bB (Nat.le_refl _)).wide (Nat.le_refl _) hbB);have HHER:=hide (show HerW wB w1.heap.size wB.heap.size (.slice uha hs.length uhc) hs (.slice una ns.length unc) ns (.slice uba bs.length ubc) bs from ⟨(HOH.out.below (bn.trans (bB.mono hbns)) (Nat.le_refl _)).wide (by omega) (by omega),(HON.out.below bB (Nat.le_refl _)).wide (by omega) (by omega),hob.wide (by omega) (Nat.le_refl _)⟩)
   have HBB:=hide hbb0;have hht:totW hs<=1048576:=by have:=Zg2 hhs;omega
   have hnt:totW ns<=1048576:=by have:=ZeZ HBN.out (fun to d h=>Zbk h);omega
   have hbt:totW bs<=1048576:=by have:=ZeZ HBB.out (fun to d h=>ZbK h);omega
   obtain⟨uh,huh⟩:∃ v,v=Value.slice uha hs.length uhc:=⟨_,rfl⟩;obtain⟨un,hun⟩:∃ v,v=Value.slice una ns.length unc:=⟨_,rfl⟩;obtain⟨ub,hub⟩:∃ v,v=Value.slice uba bs.length ubc:=⟨_,rfl⟩;have HTH:=hide (fun (z:Int) (W:World) (h:HerW W w1.heap.size wB.heap.size uh hs un ns ub bs) (hh:wB.heap.size<=W.heap.size)=>by have r:=Zch uh hs w1.heap.size wB.heap.size z W h.h hh hht;rw [hhs] at r;exact r)
   have HTN:=hide (fun (z:Int) (W:World) (h:HerW W w1.heap.size wB.heap.size uh hs un ns ub bs) (hh:wB.heap.size<=W.heap.size)=>Zch un ns w1.heap.size wB.heap.size z W h.n hh hnt)
   have HTB:=hide (fun (z:Int) (W:World) (h:HerW W w1.heap.size wB.heap.size uh hs un ns ub bs) (hh:wB.heap.size<=W.heap.size)=>Zch ub bs w1.heap.size wB.heap.size z W h.b hh hbt)
   rw [<-huh, <-hun, <-hub] at HHER |-;have HHER0:=HHER;clear HHER hob hbb0 HOH HON bn bB bh HO3 hhs huh hun hub BW BWH BWN OW HWI HWN HWB
   go_wp2
   go_loopw [15,9] (fun i o wr=>∃ (t:Nat) (x:Value) (qs:List RP),1<=t/\t<=7/\i=.int .i64 (t:Int)/\o=x/\RecsOwn wr w.heap.size wr.heap.size x qs/\Hid (ZaM (fsts ps) al src area (t:Int) (fsts qs))/\Off x w1.heap.size wB.heap.size/\HerW wr w1.heap.size wB.heap.size uh hs un ns ub bs/\Below w.heap.size w wr/\wB.heap.size<=wr.heap.size) (fun i _ _=>8-(intOf i).toNat)
   case atStart=>exact ⟨1,_,[],by omega,by omega,rfl,rfl,HO4.out,hide ZaM.none,fun b hb=>by simp [Value.ownBlock] at hb;have:=HS1.out;omega,HHER0.out,BWB,Nat.le_refl _⟩
   case round=>
    obtain⟨t,x,qs,ht1,ht7,rfl,rfl,hown,HB,hoff,hher,hnx,hsz⟩:=hrel;clear HO4 HHER0 BWB;obtain⟨xa,xc,rfl⟩:=Zac hown.row
    rename World=>wt
    by_cases ht:t<=6
    ·have ht6:(t:Int)<=6:=by omega
     have HOWN:=hide hown;have HHER:=hide hher;have HOFF:=hide hoff;have hq6:qs.length<=6:=by have h:=HB.out.len.1;simpa [fsts] using h
     have hnh:=Zlj (fsts ps) area src (t:Int);have HW1:=HTH.out (t:Int) wt hher hsz;obtain⟨D,hD⟩:∃ D,D=ZbX (Zcb (fsts ps) area src) (t:Int):=⟨_,rfl⟩;obtain⟨F1,hF1⟩:∃ F,F=ZbD (Zcb (fsts ps) area src) (t:Int):=⟨_,rfl⟩;rw [<-hD, <-hF1] at HW1;rw [<-hF1] at hnh;have HNH:=hide hnh;have H1:=hide HW1;unfold wayC at H1;clear hown hher hoff hnh HW1 hD hF1
     go_wp2_with fail
     refine (H1.out).mono ?_
     rintro e w3 ⟨du,rfl,hdu,b3⟩;obtain⟨dua,duc,rfl⟩:=Zac hdu;have hb3:=b3.size;have BT:Below wt.heap.size wt (w3.alloc (.cells #[.int .i64 D.to,.int .i64 D.cost,.slice dua D.hops.length duc] 183)):=b3.trans (((Below.refl w3.heap.size w3).alloc (Nat.le_refl _) _).mono hb3);clear hdu b3 H1;cases F1
     case true=>
      have N1:=hide ((HOWN.out.below BT (Nat.le_refl _)).wide (Nat.le_refl _) BT.size);have N2:=hide (show ZaM (fsts ps) al src area ((t+1:Nat):Int) (fsts qs) from by
       have h:=HB.out.skip (t:=(t:Int)) (fun c hc=>by rcases HNH.out with ⟨_,h2⟩ | ⟨h1,_⟩;exact h2 hc.1;cases h1)
       rw [show ((t+1:Nat):Int)=(t:Int)+1 by omega]
       exact h)
      have N3:=hide (HHER.out.below BT hsz);have N4:=hide (hnx.trans (BT.mono hnx.size));have hszr:wB.heap.size<=(w3.alloc (.cells #[.int .i64 D.to,.int .i64 D.cost,.slice dua D.hops.length duc] 183)).heap.size:=by have:=BT.size;omega
      clear HOWN HHER BT
      go_wp2
      go_roundw
      case rel=>exact ⟨t+1,_,qs,by omega,by omega,by go_num,rfl,N1.out,N2,HOFF.out,N3.out,N4.out,hszr⟩
      case measure=>simp [intOf];omega
     have hnn:Zfl (fsts ps) area src (t:Int):=by
      rcases HNH.out with ⟨h1,_⟩ | ⟨_,h2⟩
      ·cases h1
      ·exact h2
     have HNN:=hide hnn;clear hnn HNH;by_cases hts:(t:Int)=src
     case pos=>
      have hd:((t:Int)==src)=true:=by simpa using hts
      have HTS:=hide hts;clear hts;have N1:=hide ((HOWN.out.below BT (Nat.le_refl _)).wide (Nat.le_refl _) BT.size);have N2:=hide (show ZaM (fsts ps) al src area ((t+1:Nat):Int) (fsts qs) from by
       have h:=HB.out.skip (t:=(t:Int)) (fun c hc=>hc.2.1 HTS.out)
       rw [show ((t+1:Nat):Int)=(t:Int)+1 by omega]
       exact h)
      have N3:=hide (HHER.out.below BT hsz);have N4:=hide (hnx.trans (BT.mono hnx.size));have hszr:wB.heap.size<=(w3.alloc (.cells #[.int .i64 D.to,.int .i64 D.cost,.slice dua D.hops.length duc] 183)).heap.size:=by have:=BT.size;omega
      clear HOWN HHER BT
      go_wp2
      go_roundw
      case rel=>exact ⟨t+1,_,qs,by omega,by omega,by go_num,rfl,N1.out,N2,HOFF.out,N3.out,N4.out,hszr⟩
      case measure=>simp [intOf];omega
     have hd:((t:Int)==src)=false:=by simpa using hts
     have HTS:=hide hts;clear hts;have hwn2:∀ d,ZaS (fsts ps) C src (t:Int) d↔ZaS (fsts ps) al src (t:Int) d:=fun d=>by rw [HCE.out];exact ZfN HNN.out d
     have hbh:=ZiI HBN.out (t:Int);have hbb:=ZiI HBB.out (t:Int);obtain⟨E,hE⟩:∃ E,E=ZbX (ZaH ns) (t:Int):=⟨_,rfl⟩;obtain⟨F2,hF2⟩:∃ F,F=ZbD (ZaH ns) (t:Int):=⟨_,rfl⟩;obtain⟨w4,hw4⟩:∃ W,W=(w3.alloc (.cells #[.int .i64 D.to,.int .i64 D.cost,.slice dua D.hops.length duc] 183)):=⟨_,rfl⟩;rw [<-hw4] at BT;have HW2:=HTN.out (t:Int) w4 (HHER.out.below BT hsz) (by have:=BT.size;omega)
     rw [<-hE, <-hF2] at HW2 hbh;have HBH:=hide hbh;have HBY:=hide hbb;have HWN2:=hide hwn2;have H2:=hide HW2;unfold wayC at H2;clear hbh hbb hwn2 HW2 hE hF2
     go_wp2_with fail
     rw [<-hw4];clear hw4;refine (H2.out).mono ?_
     rintro e w5 ⟨eu,rfl,heu,b5⟩;obtain⟨eua,euc,rfl⟩:=Zac heu;have hb5:=b5.size;have hwt4:wt.heap.size<=w4.heap.size:=BT.size;have BT0:=BT;have BT6:Below wt.heap.size wt (w5.alloc (.cells #[.int .i64 E.to,.int .i64 E.cost,.slice eua E.hops.length euc] 183)):=BT.trans ((b5.trans (((Below.refl w5.heap.size w5).alloc (Nat.le_refl _) _).mono hb5)).mono BT.size);have hx6:=heap_alloc_new w5 (.cells #[.int .i64 E.to,.int .i64 E.cost,.slice eua E.hops.length euc] 183);have d1:=Zaa hx6 1;simp at d1
     clear heu b5 H2 BT BT0;have BT:=BT6;clear BT6;cases F2
     case true=>
      have hbe:ZaI (t:Int) (ZaS (fsts ps) al src (t:Int)) (some E):=by
       rcases HBH.out with ⟨_,h2⟩ | ⟨h1,_⟩
       ·exact h2.congr HWN2.out
       ·cases h1
      have HTO:=hide (show ZcR (fsts ps) al src area (t:Int) E.cost from ⟨HNN.out,HTS.out,.inl ⟨E,hbe,rfl⟩⟩)
      clear hbe;clear HBH HBY HWN2 hx6;have BN:Below wt.heap.size wt ((w5.alloc (.cells #[.int .i64 E.to,.int .i64 E.cost,.slice eua E.hops.length euc] 183)).alloc (.cells #[.int .i64 area,.int .i64 2,.int .i64 src,.int .i64 (t:Int),.int .i64 0,.slice none 0 0,.int .i64 E.cost,.bool false] 40)):=BT.trans (((Below.refl _ _).alloc (Nat.le_refl _) _).mono BT.size);have OW:=hide ((Zah HOWN.out.row BT (Nat.le_refl _)).alloc (.cells #[.int .i64 area,.int .i64 2,.int .i64 src,.int .i64 (t:Int),.int .i64 0,.slice none 0 0,.int .i64 E.cost,.bool false] 40));have HHO:=hide (show Zat ((w5.alloc (.cells #[.int .i64 E.to,.int .i64 E.cost,.slice eua E.hops.length euc] 183)).alloc (.cells #[.int .i64 area,.int .i64 2,.int .i64 src,.int .i64 (t:Int),.int .i64 0,.slice none 0 0,.int .i64 E.cost,.bool false] 40)) wt.heap.size ((w5.alloc (.cells #[.int .i64 E.to,.int .i64 E.cost,.slice eua E.hops.length euc] 183)).alloc (.cells #[.int .i64 area,.int .i64 2,.int .i64 src,.int .i64 (t:Int),.int .i64 0,.slice none 0 0,.int .i64 E.cost,.bool false] 40)).heap.size (Zca area src (t:Int) E.cost,Value.slice none 0 0) from ⟨World.ownsRow_nil _ _ _ _,fun k hk=>by simp [Value.ownBlock] at hk⟩)
      have HKP:=hide (show (HerW ((w5.alloc (.cells #[.int .i64 E.to,.int .i64 E.cost,.slice eua E.hops.length euc] 183)).alloc (.cells #[.int .i64 area,.int .i64 2,.int .i64 src,.int .i64 (t:Int),.int .i64 0,.slice none 0 0,.int .i64 E.cost,.bool false] 40)) w1.heap.size wB.heap.size uh hs un ns ub bs) from HHER.out.below BN hsz)
      have N2:=hide (show ZaM (fsts ps) al src area ((t+1:Nat):Int) (fsts (qs++[(Zca area src (t:Int) E.cost,Value.slice none 0 0)])) from by
       have h:=HB.out.push HTO.out;rw [show ((t+1:Nat):Int)=(t:Int)+1 by omega]
       have e:fsts (qs++[(Zca area src (t:Int) E.cost,Value.slice none 0 0)])=fsts qs++[Zca area src (t:Int) E.cost]:=by simp [fsts]
       rw [e];exact h)
      have hws:=hnx.size;have HAS:=hide (show (w5.alloc (.cells #[.int .i64 E.to,.int .i64 E.cost,.slice eua E.hops.length euc] 183)).heap.size=w5.heap.size+1 by simp)
      have hBTs:wt.heap.size<=w5.heap.size+1:=by have h:=BT.size;rw [HAS.out] at h;exact h
      go_wp2_with (first
       | (at_builtin;refine Zbd ZaK (by omega) (by omega) _ rfl _ _ 29 rfl w.heap.size 40 Tryz.underlying29 (.agg (recC Zbe (.slice none 0 0))) rfl Tryz.infoRec _ qs (Zca area src (t:Int) E.cost,Value.slice none 0 0) (Zbm _ _ _ _) rfl OW.out ⟨w5.heap.size+1,0,none⟩ 1 rfl (fun j u hj=>by
         have h:=Zar (w:=(w5.alloc (.cells #[.int .i64 E.to,.int .i64 E.cost,.slice eua E.hops.length euc] 183))) (cs:=encP (Zca area src (t:Int) E.cost,Value.slice none 0 0)) (t:=40) j u hj;rw [HAS.out] at h;exact h) (by omega) (by simp;omega) ?_))
      intro v' w9 hown' hgrow hat;have N1:=hide (HOWN.out.push BN hws HHO.out (by simpa using hown') hgrow)
      have N3:=hide (HKP.out.keep (HOFF.out.kept hgrow));have N4:=hide ((hnx.trans (BN.mono hws)).grown hgrow (by have:=BN.size;omega) (fun j hj=>(HOWN.out.row.lt j hj).1))
      have N5:=hide (HOFF.out.next (x':=v') (B:=wB.heap.size) (fun j hj=>by
       rcases hat with h1 | h1
       ·exact .inl (by rw [<-h1];exact hj)
       ·right
        rw [h1] at hj;simp at hj
        have:=BT.size
        first | omega | (simp at this;omega)) (Nat.le_refl _))
      have hszr:wB.heap.size<=w9.heap.size:=by
       have h1:=hgrow.size;simp at h1
       omega
      obtain⟨va,vc,rfl⟩:=Zac hown';clear hown' hgrow hat BN OW HHO HKP BT
      go_wp2
      go_roundw
      case rel=>exact ⟨t+1,_,qs++[(Zca area src (t:Int) E.cost,Value.slice none 0 0)],by omega,by omega,by go_num,rfl,N1.out,N2,N5.out,N3.out,N4.out,hszr⟩
      case measure=>simp [intOf];omega
     have hnw:∀ d,¬ZaS (fsts ps) al src (t:Int) d:=fun d h=>by
      rcases HBH.out with ⟨h1,_⟩ | ⟨_,h2⟩
      ·cases h1
      ·exact h2 d ((HWN2.out d).2 h)
     have HNW:=hide hnw;clear hnw HBH HWN2;by_cases ha0:area=0
     case pos=>
      have hda:(area != 0)=false:=by simpa using ha0
      have HA0:=hide ha0;clear ha0;have N1:=hide ((HOWN.out.below BT (Nat.le_refl _)).wide (Nat.le_refl _) BT.size);have N2:=hide (show ZaM (fsts ps) al src area ((t+1:Nat):Int) (fsts qs) from by
       have h:=HB.out.skip (t:=(t:Int)) (fun c hc=>by rcases hc.2.2 with ⟨w,h1,_⟩ | ⟨h1,_⟩;exact ZgR HNW.out h1;exact h1 HA0.out)
       rw [show ((t+1:Nat):Int)=(t:Int)+1 by omega]
       exact h)
      have N3:=hide (HHER.out.below BT hsz);have N4:=hide (hnx.trans (BT.mono hnx.size));have hszr:wB.heap.size<=(w5.alloc (.cells #[.int .i64 E.to,.int .i64 E.cost,.slice eua E.hops.length euc] 183)).heap.size:=by have:=BT.size;omega
      clear hx6 d1;clear HOWN HHER BT
      go_wp2
      go_roundw
      case rel=>exact ⟨t+1,_,qs,by omega,by omega,by go_num,rfl,N1.out,N2,HOFF.out,N3.out,N4.out,hszr⟩
      case measure=>simp [intOf];omega
     have hda:(area != 0)=true:=by simpa using ha0
     have HA0:=hide ha0;clear ha0;obtain⟨G,hG⟩:∃ G,G=ZbX (ZaH bs) (t:Int):=⟨_,rfl⟩;obtain⟨F3,hF3⟩:∃ F,F=ZbD (ZaH bs) (t:Int):=⟨_,rfl⟩;obtain⟨w6,hw6⟩:∃ W,W=(w5.alloc (.cells #[.int .i64 E.to,.int .i64 E.cost,.slice eua E.hops.length euc] 183)):=⟨_,rfl⟩;rw [<-hw6] at BT hx6;have HW3:=HTB.out (t:Int) w6 (HHER.out.below BT hsz) (by have:=BT.size;omega)
     rw [<-hG, <-hF3] at HW3;rw [<-hG, <-hF3] at HBY;have H3:=hide HW3;unfold wayC at H3;have hz6:=Zab hx6;have HX6:=hide hx6;clear HW3 hG hF3 hx6 d1
     go_wp2_with fail
     rw [<-hw6];clear hw6;refine (H3.out).mono ?_
     rintro e w7 ⟨gu,rfl,hgu,b7⟩;obtain⟨gua,guc,rfl⟩:=Zac hgu;have hb7:=b7.size;have hx7:=(b7.block _ hz6).trans HX6.out;have BT7:Below wt.heap.size wt w7:=BT.trans (b7.mono BT.size);have hwt3:wt.heap.size<=w5.heap.size:=by omega
     have BT8:Below wt.heap.size wt (ZbT w7 w5.heap.size G (.slice gua G.hops.length guc)):=BT7.grown (ZbH w7 w5.heap.size G (.slice gua G.hops.length guc)) BT7.size (fun j hj=>by simp at hj;omega)
     have d0:=Zaa hx7 0;have d1:=Zaa hx7 1;have d2:=Zaa hx7 2;simp at d0 d1 d2
     have fd:=Zae hx7;clear hgu b7 H3 HX6 hx7 BT BT7;have BT:=BT8;clear BT8;cases F3
     case false=>
      have N1:=hide ((HOWN.out.below BT (Nat.le_refl _)).wide (Nat.le_refl _) BT.size);have N2:=hide (show ZaM (fsts ps) al src area ((t+1:Nat):Int) (fsts qs) from by
       have h:=HB.out.skip (t:=(t:Int)) (fun c hc=>by rcases hc.2.2 with ⟨w,h1,_⟩ | ⟨_,w,h1,_⟩;exact ZgR HNW.out h1;rcases HBY.out with ⟨h2,_⟩ | ⟨_,h2⟩;cases h2;exact ZgR h2 h1)
       rw [show ((t+1:Nat):Int)=(t:Int)+1 by omega]
       exact h)
      have N3:=hide (HHER.out.below BT hsz);have N4:=hide (hnx.trans (BT.mono hnx.size));have hszr:wB.heap.size<=(ZbT w7 w5.heap.size G (.slice gua G.hops.length guc)).heap.size:=by have:=BT.size;omega
      clear HOWN HHER BT
      go_wp2
      go_roundw
      case rel=>exact ⟨t+1,_,qs,by omega,by omega,by go_num,rfl,N1.out,N2,HOFF.out,N3.out,N4.out,hszr⟩
      case measure=>simp [intOf];omega
     have hbe:ZaI (t:Int) (ZbZ (fsts ps) al true src (t:Int)) (some G):=by
      rcases HBY.out with ⟨_,h2⟩ | ⟨h1,_⟩
      ·exact h2
      ·cases h1
     have HTO:=hide (show ZcR (fsts ps) al src area (t:Int) G.cost from ⟨HNN.out,HTS.out,.inr ⟨HA0.out,G,hbe,rfl⟩⟩)
     clear hbe;clear HBY HNW;have BN:Below wt.heap.size wt ((ZbT w7 w5.heap.size G (.slice gua G.hops.length guc)).alloc (.cells #[.int .i64 area,.int .i64 2,.int .i64 src,.int .i64 (t:Int),.int .i64 0,.slice none 0 0,.int .i64 G.cost,.bool false] 40)):=BT.trans (((Below.refl _ _).alloc (Nat.le_refl _) _).mono BT.size);have OW:=hide ((Zah HOWN.out.row BT (Nat.le_refl _)).alloc (.cells #[.int .i64 area,.int .i64 2,.int .i64 src,.int .i64 (t:Int),.int .i64 0,.slice none 0 0,.int .i64 G.cost,.bool false] 40));have HHO:=hide (show Zat ((ZbT w7 w5.heap.size G (.slice gua G.hops.length guc)).alloc (.cells #[.int .i64 area,.int .i64 2,.int .i64 src,.int .i64 (t:Int),.int .i64 0,.slice none 0 0,.int .i64 G.cost,.bool false] 40)) wt.heap.size ((ZbT w7 w5.heap.size G (.slice gua G.hops.length guc)).alloc (.cells #[.int .i64 area,.int .i64 2,.int .i64 src,.int .i64 (t:Int),.int .i64 0,.slice none 0 0,.int .i64 G.cost,.bool false] 40)).heap.size (Zca area src (t:Int) G.cost,Value.slice none 0 0) from ⟨World.ownsRow_nil _ _ _ _,fun k hk=>by simp [Value.ownBlock] at hk⟩)
     have HKP:=hide (show (HerW ((ZbT w7 w5.heap.size G (.slice gua G.hops.length guc)).alloc (.cells #[.int .i64 area,.int .i64 2,.int .i64 src,.int .i64 (t:Int),.int .i64 0,.slice none 0 0,.int .i64 G.cost,.bool false] 40)) w1.heap.size wB.heap.size uh hs un ns ub bs) from HHER.out.below BN hsz)
     have N2:=hide (show ZaM (fsts ps) al src area ((t+1:Nat):Int) (fsts (qs++[(Zca area src (t:Int) G.cost,Value.slice none 0 0)])) from by
      have h:=HB.out.push HTO.out;rw [show ((t+1:Nat):Int)=(t:Int)+1 by omega]
      have e:fsts (qs++[(Zca area src (t:Int) G.cost,Value.slice none 0 0)])=fsts qs++[Zca area src (t:Int) G.cost]:=by simp [fsts]
      rw [e];exact h)
     have hws:=hnx.size;have HAS:=hide (show (ZbT w7 w5.heap.size G (.slice gua G.hops.length guc)).heap.size=w7.heap.size by simp)
     have hBTs:wt.heap.size<=w7.heap.size:=by have h:=BT.size;rw [HAS.out] at h;exact h
     go_wp2_with (first
      | (at_builtin;refine Zbd ZaK (by omega) (by omega) _ rfl _ _ 29 rfl w.heap.size 40 Tryz.underlying29 (.agg (recC Zbe (.slice none 0 0))) rfl Tryz.infoRec _ qs (Zca area src (t:Int) G.cost,Value.slice none 0 0) (Zbm _ _ _ _) rfl OW.out ⟨w7.heap.size,0,none⟩ 1 rfl (fun j u hj=>by
        have h:=Zar (w:=(ZbT w7 w5.heap.size G (.slice gua G.hops.length guc))) (cs:=encP (Zca area src (t:Int) G.cost,Value.slice none 0 0)) (t:=40) j u hj;rw [HAS.out] at h;exact h) (by omega) (by simp;omega) ?_))
     intro v' w9 hown' hgrow hat;have N1:=hide (HOWN.out.push BN hws HHO.out (by simpa using hown') hgrow)
     have N3:=hide (HKP.out.keep (HOFF.out.kept hgrow));have N4:=hide ((hnx.trans (BN.mono hws)).grown hgrow (by have:=BN.size;omega) (fun j hj=>(HOWN.out.row.lt j hj).1))
     have N5:=hide (HOFF.out.next (x':=v') (B:=wB.heap.size) (fun j hj=>by
      rcases hat with h1 | h1
      ·exact .inl (by rw [<-h1];exact hj)
      ·right
       rw [h1] at hj;simp at hj
       have:=BT.size
       first | omega | (simp at this;omega)) (Nat.le_refl _))
     have hszr:wB.heap.size<=w9.heap.size:=by
      have h1:=hgrow.size;simp at h1
      omega
     obtain⟨va,vc,rfl⟩:=Zac hown';clear hown' hgrow hat BN OW HHO HKP BT
     go_wp2
     go_roundw
     case rel=>exact ⟨t+1,_,qs++[(Zca area src (t:Int) G.cost,Value.slice none 0 0)],by omega,by omega,by go_num,rfl,N1.out,N2,N5.out,N3.out,N4.out,hszr⟩
     case measure=>simp [intOf];omega
    ·have ht6:¬(t:Int)<=6:=by omega
     have htt:(t:Int)=7:=by omega
     have HE:=hide (show Zcy (fsts ps) al src area (fsts qs) from ZaM.all (by have h:=HB.out;rw [htt] at h;exact h))
     have HO:=hide hown;have HN:=hide hnx;clear hown hnx HB hoff hher htt
     go_wp2
     go_ret
     first
      | exact ⟨_,qs,rfl,HE.out,HO.out,HN.out⟩
      | exact ⟨_,rfl,qs,HE.out,HO.out,HN.out⟩
end Go.Proofs.YtcimbiinljcifaaGreat
namespace Go.Proofs.YtcimbiinljcifaaGreat
open Go.RowKit

set_option linter.unusedSimpArgs false

open Classical in
noncomputable def tolD (xs:List RecD) (al:List Int) (src area:Int):List RecD:=if h:∃ ds,Zcy xs al src area ds then Classical.choose h else []

theorem Zcy.eq {xs:List RecD}{al:List Int}{src area:Int}{ds:List RecD}(h:Zcy xs al src area ds):ds=tolD xs al src area:=by
 unfold tolD;rw [dif_pos ⟨ds,h⟩];exact h.unique (Classical.choose_spec (⟨ds,h⟩:∃ ds,Zcy xs al src area ds))

noncomputable def Zbg (xs:List RecD) (al:List Int) (src:Int) (bl:List Int):List RecD:=bl.flatMap (fun a=>tolD xs al src a)

theorem Zg5 {xs:List RecD}{al bl:List Int}{src a:Int}{k:Nat}(h:bl[k]? = some a):Zbg xs al src (bl.take (k+1))=Zbg xs al src (bl.take k)++tolD xs al src a:=by
 obtain⟨hk,e⟩:=List.getElem?_eq_some_iff.1 h;unfold Zbg;rw [List.take_succ_eq_append_getElem hk,e,List.flatMap_append];simp

def ZbN (node:Int)(r:RecD):Bool:=r.kind != 2||r.owner != node

noncomputable def beyD (xs:List RecD) (al:List Int) (node:Int):List RecD:=Zdt (xs.filter (ZbN node)) (Zbg xs al node al)

theorem RecsOwn.join {W Wa W2:World}{lo:Nat}{v v' u:Value}{qs bs:List RP}(h:RecsOwn W lo W.heap.size v qs)(hb:Below W.heap.size W Wa)(hlo:lo<=W.heap.size)(hu:RecsOwn Wa W.heap.size Wa.heap.size u bs)
  (row:W2.ownsRow lo 40 8 v' (qs++bs).length (flat encP (qs++bs))) (hg:Wa.grownBy W2 v.ownBlock):RecsOwn W2 lo W2.heap.size v' (qs++bs) where
 row:=row
 top:=fun k hk=>(row.lt k hk).2
 apart:=by
  rw [List.pairwise_append];refine⟨h.apart,hu.apart,fun p hp q hq k hk he=>?_⟩
  have h1:=(h.nears p hp).2 k hk;have h2:=((hu.nears q hq).1.lt k he).1;omega
 nears:=by
  have rowa:=Zah h.row hb (Nat.le_refl _);have key:∀ q,Zat Wa lo Wa.heap.size q->Zat W2 lo W2.heap.size q:=fun q hq=>
   ⟨Zam hq.1 (fun j hj=>hg.block j (hq.2 j hj) (Zcm hq rowa j hj)),fun k hk=>Nat.lt_of_lt_of_le (hq.2 k hk) hg.size⟩
  intro q hq
  rcases List.mem_append.1 hq with h1 | h1
  ·exact key q (((h.nears q h1).keep (W':=Wa) (fun j _ h2 _=>hb.block j h2)).wide (Nat.le_refl _) hb.size)
  ·exact key q ((hu.nears q h1).wide hlo (Nat.le_refl _))
end Go.Proofs.YtcimbiinljcifaaGreat
namespace Go.Proofs.YtcimbiinljcifaaGreat
open Go.RowKit
set_option linter.unusedSimpArgs false
set_option linter.unusedVariables false
set_option maxRecDepth 100000
set_option maxHeartbeats 8000000
def upB (zs:List Bool)(k:Nat):Bool:=(zs[k]?).getD false
def ZbI (ls:List Lk)(bs zs:List Bool)(v a:Int):Nat->List Nr
 | 0=>[]
 | k+1=>ZbI ls bs zs v a k++(if decide (0<Zdi ls bs v ((k:Int)+1) a)&&upB zs k then [⟨(k:Int)+1,Zdi ls bs v ((k:Int)+1) a⟩] else [])
theorem Zhu (ls:List Lk)(bs zs:List Bool)(v a:Int):∀ k,(ZbI ls bs zs v a k).length<=k
 | 0=>by simp [ZbI]
 | k+1=>by
  have:=Zhu ls bs zs v a k;unfold ZbI;rw [List.length_append]
  split <;> simp <;> omega
def ZbM (v a:Int)(near:List Nr):RecD:=⟨a,1,v,0,1,near,0,false⟩
def Zc9 (t:Th):RecD:=⟨9,3,t.o,t.k,1,[],t.c,t.f⟩
def ZfI (ls:List Lk)(bs zs:List Bool)(N:Nat)(v:Int)(al:List Int)(xs:List RecD):Nat->List RecD
 | 0=>xs
 | j+1=>putD (ZfI ls bs zs N v al xs j) (ZbM v (al.getD j 0) (ZbI ls bs zs v (al.getD j 0) N))
def idA (ls:List Lk)(bs zs:List Bool)(N:Nat):Nat->List RecD
 | 0=>[]
 | k+1=>if upB zs k then ZfI ls bs zs N ((k:Int)+1) (ZaO ls ((k:Int)+1)) (idA ls bs zs N k) (ZaO ls ((k:Int)+1)).length else idA ls bs zs N k
def idB (ts:List Th)(zs:List Bool)(xs:List RecD):Nat->List RecD
 | 0=>xs
 | k+1=>match ts[k]? with
  | some t=>if upB zs (t.o-1).toNat then putD (idB ts zs xs k) (Zc9 t) else idB ts zs xs k
  | none=>idB ts zs xs k
noncomputable def idC (ls:List Lk) (zs:List Bool) (xs:List RecD):Nat->List RecD
 | 0=>xs
 | k+1=>if upB zs k&&Zhe ls ((k:Int)+1) then beyD (idC ls zs xs k) (ZaO ls ((k:Int)+1)) ((k:Int)+1) else idC ls zs xs k
noncomputable def idR (ls:List Lk) (zs:List Bool) (N:Nat) (xs:List RecD):Nat->List RecD
 | 0=>xs
 | r+1=>idC ls zs (idR ls zs N xs r) N
noncomputable def ZfY (ls:List Lk) (ts:List Th) (bs zs:List Bool) (N:Nat):List RecD:=idR ls zs N (idB ts zs (idA ls bs zs N N) ts.length) 3
theorem Zdn (ls:List Lk)(v:Int):(ZaO ls v).length<=3:=by
 unfold ZaO;exact Nat.le_trans (List.length_filter_le _ _) (by simp)
theorem ZeG {zs:List Bool}{k:Nat}{b:Bool}(h:zs[k]? = some b):upB zs k=b:=by simp [upB,h]
theorem Zi9 {ls:List Lk}{bs zs:List Bool}{N:Nat}{v:Int}{al:List Int}{xs:List RecD}{j:Nat}{a:Int}(h:al[j]? = some a):ZfI ls bs zs N v al xs (j+1)=putD (ZfI ls bs zs N v al xs j) (ZbM v a (ZbI ls bs zs v a N)):=by
 have:al.getD j 0=a:=by simp [List.getD,h]
 simp only [ZfI,this]
theorem Zkh {ls:List Lk}{bs zs:List Bool}{v a q:Int}{k:Nat}(hq:q=Zdi ls bs v ((k:Int)+1) a)(h0:0<q)(hz:zs[k]? = some true):ZbI ls bs zs v a (k+1)=ZbI ls bs zs v a k++[⟨(k:Int)+1,q⟩]:=by
 subst hq;simp only [ZbI,ZeG hz,decide_eq_true h0,Bool.and_self,if_true]
theorem ZiS {ls:List Lk}{bs zs:List Bool}{v a q:Int}{k:Nat}{b:Bool}(hq:q=Zdi ls bs v ((k:Int)+1) a)(hz:zs[k]? = some b)(h0:¬0<q\/b=false):ZbI ls bs zs v a (k+1)=ZbI ls bs zs v a k:=by
 subst hq;simp only [ZbI,ZeG hz]
 rcases h0 with h | h
 ·simp [h]
 ·subst h;simp
theorem idA_up {ls:List Lk}{bs zs:List Bool}{N k:Nat}(hz:zs[k]? = some true):idA ls bs zs N (k+1)=ZfI ls bs zs N ((k:Int)+1) (ZaO ls ((k:Int)+1)) (idA ls bs zs N k) (ZaO ls ((k:Int)+1)).length:=by
 simp only [idA,ZeG hz,if_true]
theorem Zk4 {ls:List Lk}{bs zs:List Bool}{N k:Nat}(hz:zs[k]? = some false):idA ls bs zs N (k+1)=idA ls bs zs N k:=by
 simp [idA,ZeG hz]
theorem idB_up {ts:List Th}{zs:List Bool}{xs:List RecD}{k m:Nat}{t:Th}(ht:ts[k]? = some t)(hm:t.o=(m:Int)+1)(hz:zs[m]? = some true):idB ts zs xs (k+1)=putD (idB ts zs xs k) (Zc9 t):=by
 have:(t.o-1).toNat=m:=by omega
 simp only [idB,ht,this,ZeG hz,if_true]
theorem Zk5 {ts:List Th}{zs:List Bool}{xs:List RecD}{k m:Nat}{t:Th}(ht:ts[k]? = some t)(hm:t.o=(m:Int)+1)(hz:zs[m]? = some false):idB ts zs xs (k+1)=idB ts zs xs k:=by
 have:(t.o-1).toNat=m:=by omega
 simp [idB,ht,this,ZeG hz]
theorem Zmg {ls:List Lk}{zs:List Bool}{xs:List RecD}{k:Nat}(hz:zs[k]? = some true)(hb:Zhe ls ((k:Int)+1)=true):idC ls zs xs (k+1)=beyD (idC ls zs xs k) (ZaO ls ((k:Int)+1)) ((k:Int)+1):=by
 simp [idC,ZeG hz,hb]
theorem ZlW {ls:List Lk}{zs:List Bool}{xs:List RecD}{k:Nat}{b:Bool}(hz:zs[k]? = some b)(hb:b=false\/Zhe ls ((k:Int)+1)=false):idC ls zs xs (k+1)=idC ls zs xs k:=by
 rcases hb with h | h
 ·subst h;simp [idC,ZeG hz]
 ·simp [idC,h]
theorem Zha (ls:List Lk)(v:Int):ZaO ls v=ZbO (fun u=>decide (0<(Zd3 ls v u).length)) 0 3:=by
 simp only [ZaO,ZbO,List.filter_cons,List.filter_nil,List.nil_append]
 repeat' split
 all_goals simp_all
theorem Zgc (n:Value)(v tv:Value)(ls:List Lk)(f:Int)(w:World)(hls:ls.length<=1048576)(hv:Za0 w v ls w.heap.size):
  Calls Tryz.prog 99 #[.agg #[n,v,tv],.int .i64 f] w fun e w'=>∃ x,e=.returned x/\w'.ownsRow w.heap.size 3 1 x (ZaO ls f).length (ZbL (ZaO ls f))/\Below w.heap.size w w':=by
 have HV:=hide hv;clear hv;rw [Zha]
 go_enter Tryz.func99,Tryz.ntmps99
 go_wp2
 go_loopw [5,6] (fun x i wr=>∃ k:Nat,k<=3/\i=.int .i64 (0+(k:Int))/\Below w.heap.size w wr/\wr.heap[w.heap.size]? = some (.cells #[n,v,tv] 27)/\wr.ownsRow (w.heap.size+1) 3 1 x (ZbO (fun u=>decide (0<(Zd3 ls f u).length)) 0 k).length (ZbL (ZbO (fun u=>decide (0<(Zd3 ls f u).length)) 0 k))) (fun _ i _=>4-(intOf i).toNat)
 case atStart=>
  refine⟨0,by omega,rfl,ZaW _ _,?_,?_⟩
  ·rw [Below.heap_alloc _ _ _ (show w.heap.size<(w.alloc (.cells #[n,v,tv] 27)).heap.size by simp),heap_alloc_new]
  ·have h0:=World.ownsRow_lit (base:=w.heap.size+1) (w.alloc (.cells #[n,v,tv] 27)) (#[]:Array Value) 0 (by simp) (by decide) (e:=3) (size:=1) rfl
   simpa [ZbO,ZbL] using h0
 case round=>
  obtain⟨k,hk,rfl,hb,hx,hown⟩:=hrel;have c0:wr.cell? ⟨w.heap.size,0,none⟩=some n:=by rw [Zaa hx];rfl
  have c1:wr.cell? ⟨w.heap.size,1,none⟩=some v:=by rw [Zaa hx];rfl
  have c2:wr.cell? ⟨w.heap.size,2,none⟩=some tv:=by rw [Zaa hx];rfl
  have hxl:=Zab hx;have HX:=hide hx;have OW:=hide hown;clear hx hown;by_cases hlt:k<3
  ·go_wp2_with fail
   refine (Zky n v tv ls f _ wr hls (HV.out.then hb)).mono ?_
   rintro e w1 ⟨x1,rfl,hox,b1⟩;obtain⟨a1,cp1,rfl⟩:=ZiV hox;clear hox;have hown1:=Zah OW.out b1 (Nat.le_refl _);have hx1:w1.heap[w.heap.size]? = some (.cells #[n,v,tv] 27):=by rw [b1.block _ hxl];exact HX.out
   have hb1:Below w.heap.size w w1:=hb.trans (b1.mono hb.size);have hz1:=b1.size;have hpl:=Zep (fun u=>decide (0<(Zd3 ls f u).length)) 0 k
   have HX1:=hide hx1;obtain⟨l2,hl20⟩:∃ l2,l2=ZbO (fun u=>decide (0<(Zd3 ls f u).length)) 0 (k+1):=⟨_,rfl⟩
   have HL20:=hide hl20;have hps:Hid (l2=ZbO (fun u=>decide (0<(Zd3 ls f u).length)) 0 k++(if decide (0<(Zd3 ls f (0+(k:Int))).length) then [0+(k:Int)] else [])):=hl20
   clear hl20;clear b1 hx1 c0 c1 c2 OW HX;generalize ZbO (fun u=>decide (0<(Zd3 ls f u).length)) 0 k=l at hown1 hpl hps
   rw [Int.zero_add] at *;generalize (Zd3 ls f (k:Int)).length=c at hps |-;by_cases hc:0<(c:Int)
   ·have hc':0<c:=by omega
    have hl2:l2=l++[(k:Int)]:=by rw [hps.out];simp [hc']
    clear hc';have HL2:=hide hl2;clear hl2 hps
    go_wp2_with (first
     | (at_builtin;refine ZcT _ rfl _ _ 28 rfl (w.heap.size+1) 3 Tryz.underlying28 Tryz.info3 u5 l (k:Int) rfl (hown1.alloc _) ⟨w1.heap.size,0,none⟩ 1 rfl ?_ (by omega) (by simp;omega) ?_))
    ·rw [add_zero',World.cell?_alloc_at _ _ _ _ rfl];rfl
    intro v' w4 l' hl' hown' hgrow;have hb4:Below w.heap.size w w4:=(hb1.alloc (by omega) _).grown hgrow (by simp;omega) (fun k hk=>by have:=(hown1.lt k hk).1;omega)
    have hx4:w4.heap[w.heap.size]? = some (.cells #[n,v,tv] 27):=by
     rw [hgrow.block _ (by simp;omega) (fun h=>by have:=(hown1.lt _ h.symm).1;omega),Below.heap_alloc _ _ _ (by omega)]
     exact HX1.out
    have e:l'=l2:=by rw [hl'.out,HL2.out]
    subst e;have OW2:=hide hown';have HX4:=hide hx4;clear hgrow hown' hx4 hown1
    go_wp2
    go_roundw
    case rel=>exact ⟨k+1,by omega,by go_num,hb4,HX4.out,by rw [<-HL20.out];exact OW2.out⟩
    case measure=>simp [intOf];omega
   ·have hc':¬0<c:=by omega
    have hl2:l2=l:=by rw [hps.out];simp [hc']
    clear hc';subst hl2;have OW2:=hide hown1;clear hown1 hps
    go_wp2
    go_roundw
    case rel=>exact ⟨k+1,by omega,by go_num,hb1,HX1.out,by rw [<-HL20.out];exact OW2.out⟩
    case measure=>simp [intOf];omega
  ·have hk':k=3:=by omega
   subst hk'
   go_wp2
   go_ret
   exact⟨_,rfl,ZhD OW.out (by omega),hb⟩
theorem Zin (n:Value)(v tv:Value)(ls:List Lk)(f:Int)(w:World)(hls:ls.length<=1048576)(hv:Za0 w v ls w.heap.size):
  Calls Tryz.prog 101 #[.agg #[n,v,tv],.int .i64 f] w fun e w'=>e=.returned (.bool (Zhe ls f))/\Below w.heap.size w w':=by
 have HV:=hide hv;clear hv
 go_enter Tryz.func101,Tryz.ntmps101
 go_wp2_with fail
 refine (Zgc n v tv ls f _ hls (HV.out.then ((Below.refl _ _).alloc (Nat.le_refl _) _))).mono ?_
 rintro e w1 ⟨x,rfl,hox,b1⟩;have hb1:Below w.heap.size w w1:=((Below.refl w.heap.size w).alloc (Nat.le_refl _) _).trans (b1.mono (by simp))
 obtain⟨zs,hzs⟩:∃ zs,zs=ZaO ls f:=⟨_,rfl⟩;have hB:Zhe ls f=(decide (1<zs.length)&&(zs.head? == some 0)):=by rw [hzs];rfl
 have HB:=hide hB;rw [<-hzs] at hox;clear hB hzs b1;by_cases h1:1<zs.length
 ·obtain ⟨g,cap,rfl,hg,hl⟩:=Zjt hox (by omega)
  obtain⟨z,zr,rfl⟩:∃ z zr,zs=z::zr:=by
   cases zs with
   | nil=>simp at h1
   | cons z zr=>exact ⟨z,zr,rfl⟩
  have c0:w1.cell? ⟨g,0,none⟩=some (.int .i64 z):=by rw [hox.cellAt 0 (by omega)];rfl
  have hb:(decide (1<(z::zr).length)&&((z::zr).head? == some 0))=(z==0):=by
   rw [decide_eq_true h1];simp
  have HB2:Hid (Zhe ls f=(z==0)):=HB.out.trans hb;generalize (z::zr).length=m at hox h1 hl |-;have h1':(1:Int)<(m:Int):=by omega
  have h0':(0:Int)<(m:Int):=by omega
  clear hox hb HB
  go_wp2
  go_ret
  exact⟨by rw [HB2.out];rfl,hb1⟩
 ·obtain ⟨a,cap,rfl⟩:=ZiV hox
  have hb:(decide (1<zs.length)&&(zs.head? == some 0))=false:=by rw [decide_eq_false h1];rfl
  have HB2:Hid (Zhe ls f=false):=HB.out.trans hb;have h1':¬(1:Int)<(zs.length:Int):=by omega
  clear hox hb HB
  go_wp2
  go_ret
  exact⟨by rw [HB2.out];rfl,hb1⟩
end Go.Proofs.YtcimbiinljcifaaGreat
