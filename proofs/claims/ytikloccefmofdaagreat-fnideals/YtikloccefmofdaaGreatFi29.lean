/-
  Parts.
-/
import Derived.Test.YtikloccefmofdaaGreatFi27
import Derived.Test.YtikloccefmofdaaGreatFi28
namespace Go.Proofs.YtikloccefmofdaaGreat
open Go.RowKit
set_option linter.unusedSimpArgs false
set_option linter.unusedVariables false
set_option maxRecDepth 100000
set_option maxHeartbeats 8000000
variable {src:Int}{al:List Int}{xs:List RecD}
structure HerW (W:World) (lo hi:Nat) (uh:Value) (hs:List WP) (un:Value) (ns:List WP) (ub:Value) (bs:List WP):Prop where
 h:WaysOwn W lo hi uh hs
 n:WaysOwn W lo hi un ns
 b:WaysOwn W lo hi ub bs
theorem HerW.below {W W':World}{lo hi B:Nat}{uh un ub:Value}{hs ns bs:List WP}(h:HerW W lo hi uh hs un ns ub bs)(hb:Below B W W')(hB:hi<=B):HerW W' lo hi uh hs un ns ub bs:=⟨h.h.below hb hB,h.n.below hb hB,h.b.below hb hB⟩
theorem HerW.keep {W W':World}{lo hi:Nat}{uh un ub:Value}{hs ns bs:List WP}(h:HerW W lo hi uh hs un ns ub bs)(hk:∀ k,lo<=k->k<hi->k<W.heap.size->W'.heap[k]? = W.heap[k]?):HerW W' lo hi uh hs un ns ub bs:=⟨h.h.keep hk,h.n.keep hk,h.b.keep hk⟩
def Zc5 (al:List Int)(area:Int)(k:Nat):List Int:=(al.take k).filter (fun a=>a != area)
theorem ZlB {area a:Int}{k:Nat}(h:al[k]? = some a):Zc5 al area (k+1)=Zc5 al area k++(if a != area then [a] else []):=by
 obtain⟨hk,e⟩:=YAD.1 h;unfold Zc5;rw [YAI hk,e,List.filter_append];congr 1;cases hd:(a != area) <;> simp [List.filter,hd]
theorem Znu (al:List Int)(area:Int)(k:Nat):(Zc5 al area k).length<=k:=by
 unfold Zc5;exact YAK (List.length_filter_le _ _) (by rw [YAV];omega)
theorem ZpC (v u:Value)(ps:List RP)(al:List Int)(hi:Nat)(src area:Int)(w:World)(hv:RecsIn w hi v ps)(ha:ZaI w u al hi)(hhi:hi<=w.heap.size)(hn:tot ps<=1048576)(hal:al.length<=1048576):
  Calls Tryz.prog 58 #[v,u,.int .i64 src,.int .i64 area] w fun e w'=>∃ x qs,e=.returned x/\ZbO (fsts ps) al src area (fsts qs)/\RecsOwn w' w.heap.size w'.heap.size x qs/\Below w.heap.size w w':=by
 obtain⟨a1,c1,rfl⟩:=Zac hv.row;obtain⟨a2,c2,rfl⟩:=ha.shape;have LIT:=ZcR w w.heap.size (YA _);have hs1:(w.alloc (.cells #[] 37)).heap.size=w.heap.size+1:=by simp
 have B1:Below w.heap.size w (w.alloc (.cells #[] 37)):=(YAC _ _).alloc (YA _) _;obtain⟨w1,hw1⟩:∃ W,W=w.alloc (.cells #[] 37):=⟨_,rfl⟩;rw [<-hw1] at LIT hs1 B1;have HSK:=hide (Zdn (.slice a1 ps.length c1) ps w1 hn (Zbu.more ((hv.below B1 hhi).at) (YAK hhi B1.size)));have HWI:=hide (fun W (hb:Below w.heap.size w W)=>Zfi (.slice a1 ps.length c1) ps hi area src W (hv.below hb hhi) (YAK hhi hb.size) hn);have HWN:=hide (fun (u2:Value) (l2:List Int) W (hb:Below w.heap.size w W) (h2:ZaI W u2 l2 W.heap.size) (hl:l2.length<=1048576)=>ZhC (.slice a1 ps.length c1) u2 ps l2 W.heap.size src W ((hv.below hb hhi).wide (YAK hhi hb.size)) h2 (YA _) hn hl);have HWB:=hide (fun W (hb:Below w.heap.size w W)=>ZlE (.slice a1 ps.length c1) (.slice a2 al.length c2) ps al hi true src W (hv.below hb hhi) (Zav.later ha hb hhi) (YAK hhi hb.size) hn hal);have HA:=hide ha;clear hv ha;have HLIT:=hide LIT;have HS1:=hide hs1;clear LIT hs1;obtain⟨SB,hSB⟩:∃ b,b=Zax (fsts ps):=⟨_,rfl⟩;rw [<-hSB] at HSK;have HSB:=hide hSB;clear hSB
 go_enter Tryz.func58,Tryz.ntmps58
 go_wp2_with fail
 rw [<-hw1];clear hw1;refine HSK.out.mono ?_;rintro e w2 ⟨rfl,b2⟩;have hb2:=b2.size;have hB1s:=B1.size;have B2:Below w.heap.size w w2:=B1.trans (b2.mono hB1s);have HL2:=hide (HLIT.out.below b2 (YA _));clear HSK HLIT b2;cases SB
 ·have HE:=hide (show ZbO (fsts ps) al src area (fsts []) from ⟨List.Pairwise.nil,fun r=>⟨fun h=>by simp [fsts] at h,fun ⟨to,c,_,h⟩=>by have h9:=ZnR h;rw [<-HSB.out] at h9;cases h9⟩⟩);have HO:=hide (HL2.out.wide (YA _) hb2);have HN:=hide B2;clear HL2 HWI HWN HWB B2;go_wp2;go_ret
  first
   | exact ⟨_,[],rfl,HE.out,HO.out,HN.out⟩
   | exact ⟨_,rfl,[],HE.out,HO.out,HN.out⟩
 have OI:=Zdm w2 w2.heap.size w2.heap.size rfl (YA _);have BI:Below w2.heap.size w2 (w2.alloc (.cells #[] 3)):=(YAC _ _).alloc (YA _) _;obtain⟨w0,hw0⟩:∃ W,W=w2.alloc (.cells #[] 3):=⟨_,rfl⟩;rw [<-hw0] at OI BI;have HOI:=hide OI;clear OI;go_wp2;rw [<-hw0];clear hw0
 go_loopw [11,10] (fun i o wr=>∃ (k:Nat) (x:Value),k<=al.length/\i=.int .i64 (k:Int)/\o=x/\wr.ownsRow w2.heap.size 3 1 x (Zc5 al area k).length (flat intE (Zc5 al area k))/\Below w2.heap.size w2 wr) (fun i _ _=>al.length-(intOf i).toNat)
 case atStart=>exact ⟨0,_,by omega,rfl,rfl,HOI.out,BI⟩
 case round=>
  obtain⟨k,x,hk,rfl,rfl,hown,hnx⟩:=hrel;clear HOI BI;obtain⟨xa,xc,rfl⟩:=Zac hown;have hsz:=hnx.size;have hol:=Znu al area k;have BW:Below w.heap.size w wr:=B2.trans (hnx.mono B2.size);have OW:=hide hown;clear hown;by_cases hlt:k<al.length
  ·obtain ⟨a,har⟩:∃ a,al[k]? = some a:=⟨al[k],YAA hlt⟩;obtain⟨b,off,cap',hve,hbb,c0⟩:=HA.out.cell k a har;cases hve;have hbw:b<w.heap.size:=by omega
   replace c0:=(BW.cell hbw).trans c0;have hki:(0:Int)<=(k:Int):=by omega
   have hkj:(k:Int)<(al.length:Int):=by omega
   have HST:=hide (ZlB (area:=area) har);obtain⟨C,hC⟩:∃ C,C=Zc5 al area k:=⟨_,rfl⟩;rw [<-hC] at OW HST hol |-;clear hC har;obtain⟨dd,hdd⟩:∃ d,d=(a != area):=⟨_,rfl⟩;rw [<-hdd] at HST;have hd:(a != area)=dd:=hdd.symm;clear hdd;cases dd
   ·have HOW:=hide (show wr.ownsRow w2.heap.size 3 1 (.slice xa C.length xc) (Zc5 al area (k+1)).length (flat intE (Zc5 al area (k+1))) by rw [HST.out];simpa using OW.out);clear OW HST;go_wp2;go_roundw
    case rel=>exact ⟨k+1,_,by omega,by go_num,rfl,HOW.out,hnx⟩
    case measure=>simp [intOf];omega
   ·go_wp2_with (first
     | (at_builtin;refine ZaL Zev (by omega) (by omega) _ rfl _ _ 40 rfl w2.heap.size 3 Tryz.underlying40 (.int .i64 0) rfl Tryz.info3 _ C a (Zdj _) rfl (OW.out.alloc _) ⟨wr.heap.size,0,none⟩ 1 rfl (Zan (cs:=intE a)) (by omega) (by simp;omega) ?_))
    intro v' w4 hown' hgrow;have B4:Below w2.heap.size w2 w4:=(hnx.alloc hsz _).grown hgrow (by simp;omega) (fun j hj=>(OW.out.lt j hj).1);have O4:=hide (show w4.ownsRow w2.heap.size 3 1 v' (Zc5 al area (k+1)).length (flat intE (Zc5 al area (k+1))) by rw [HST.out];simpa using hown');obtain⟨va,vc,rfl⟩:=Zac hown';clear hown' hgrow;go_wp2;go_roundw
    case rel=>exact ⟨k+1,_,by omega,by go_num,rfl,O4.out,B4⟩
    case measure=>simp [intOf];omega
  ·have hkn:¬(k:Int)<(al.length:Int):=by omega
   obtain⟨C,hC⟩:∃ C,C=Zc5 al area k:=⟨_,rfl⟩;have HCE:=hide (show C=al.filter (fun a=>a != area) by rw [hC];unfold Zc5;rw [YAL (by omega)]);rw [<-hC] at OW hol |-;have HO:=hide ((HL2.out.below hnx (by omega)).wide (YA _) (show w1.heap.size<=wr.heap.size by omega))
   rename World=>wo
   clear hC HL2 hnx
   go_wp2_with fail
   refine (HWI.out _ BW).mono ?_;rintro e wh ⟨uh,hs,rfl,hhs0,hoh,bh⟩;obtain⟨uha,uhc,rfl⟩:=Zac hoh.row;have hhs:=hhs0.eq;have hbh:=bh.size;have BWH:Below w.heap.size w wh:=BW.trans (bh.mono BW.size);have OWH:=Zch (Zad OW.out bh (YA _));have HO2:=hide ((HO.out.below bh (YA _)).wide (YA _) hbh);have HOH:=hide hoh;clear hhs0 hoh HO
   go_wp2_with fail
   refine (HWN.out _ C _ BWH OWH (by omega)).mono ?_;rintro e wn ⟨un,ns,rfl,hbn,hon,bn⟩;obtain⟨una,unc,rfl⟩:=Zac hon.row;have hbns:=bn.size;have BWN:Below w.heap.size w wn:=BWH.trans (bn.mono BWH.size);have HO3:=hide ((HO2.out.below bn (YA _)).wide (YA _) hbns);have HON:=hide hon;have HBN:=hide hbn;clear hon hbn OWH HO2
   go_wp2_with fail
   refine (HWB.out _ BWN).mono ?_;rintro e wB ⟨ub,bs,rfl,hbb0,hob,bB⟩;obtain⟨uba,ubc,rfl⟩:=Zac hob.row;have hbB:=bB.size;have BWB:Below w.heap.size w wB:=BWN.trans (bB.mono BWN.size);have HO4:=hide ((HO3.out.below bB (YA _)).wide (YA _) hbB);have HHER:=hide (show HerW wB w1.heap.size wB.heap.size (.slice uha hs.length uhc) hs (.slice una ns.length unc) ns (.slice uba bs.length ubc) bs from ⟨(HOH.out.below (bn.trans (bB.mono hbns)) (YA _)).wide (by omega) (by omega),(HON.out.below bB (YA _)).wide (by omega) (by omega),hob.wide (by omega) (YA _)⟩);have HBB:=hide hbb0;have hht:totW hs<=1048576:=by have:=ZjJ hhs;omega
   have hnt:totW ns<=1048576:=by have:=ZgZ HBN.out (fun to d h=>Za1 h);omega
   have hbt:totW bs<=1048576:=by have:=ZgZ HBB.out (fun to d h=>Zby h);omega
   obtain⟨uh,huh⟩:∃ v,v=Value.slice uha hs.length uhc:=⟨_,rfl⟩;obtain⟨un,hun⟩:∃ v,v=Value.slice una ns.length unc:=⟨_,rfl⟩;obtain⟨ub,hub⟩:∃ v,v=Value.slice uba bs.length ubc:=⟨_,rfl⟩;have HTH:=hide (fun (z:Int) (W:World) (h:HerW W w1.heap.size wB.heap.size uh hs un ns ub bs) (hh:wB.heap.size<=W.heap.size)=>by have r:=ZcT uh hs w1.heap.size wB.heap.size z W h.h hh hht;rw [hhs] at r;exact r);have HTN:=hide (fun (z:Int) (W:World) (h:HerW W w1.heap.size wB.heap.size uh hs un ns ub bs) (hh:wB.heap.size<=W.heap.size)=>ZcT un ns w1.heap.size wB.heap.size z W h.n hh hnt);have HTB:=hide (fun (z:Int) (W:World) (h:HerW W w1.heap.size wB.heap.size uh hs un ns ub bs) (hh:wB.heap.size<=W.heap.size)=>ZcT ub bs w1.heap.size wB.heap.size z W h.b hh hbt);rw [<-huh, <-hun, <-hub] at HHER |-;have HHER0:=HHER;clear HHER hob hbb0 HOH HON bn bB bh HO3 hhs huh hun hub BW BWH BWN OW HWI HWN HWB;go_wp2
   go_loopw [15,9] (fun i o wr=>∃ (t:Nat) (x:Value) (qs:List RP),1<=t/\t<=7/\i=.int .i64 (t:Int)/\o=x/\RecsOwn wr w.heap.size wr.heap.size x qs/\Hid (ZaY (fsts ps) al src area (t:Int) (fsts qs))/\Off x w1.heap.size wB.heap.size/\HerW wr w1.heap.size wB.heap.size uh hs un ns ub bs/\Below w.heap.size w wr/\wB.heap.size<=wr.heap.size) (fun i _ _=>8-(intOf i).toNat)
   case atStart=>exact ⟨1,_,[],by omega,by omega,rfl,rfl,HO4.out,hide ZaY.none,fun b hb=>by simp [Value.ownBlock] at hb;have:=HS1.out;omega,HHER0.out,BWB,YA _⟩
   case round=>
    obtain⟨t,x,qs,ht1,ht7,rfl,rfl,hown,HB,hoff,hher,hnx,hsz⟩:=hrel;clear HO4 HHER0 BWB;obtain⟨xa,xc,rfl⟩:=Zac hown.row
    rename World=>wt
    by_cases ht:t<=6
    ·have ht6:(t:Int)<=6:=by omega
     have HOWN:=hide hown;have HHER:=hide hher;have HOFF:=hide hoff;have hq6:qs.length<=6:=by have h:=HB.out.len.1;simpa [fsts] using h
     have hnh:=Zms (fsts ps) area src (t:Int);have HW1:=HTH.out (t:Int) wt hher hsz;obtain⟨D,hD⟩:∃ D,D=Zbo (ZbE (fsts ps) area src) (t:Int):=⟨_,rfl⟩;obtain⟨F1,hF1⟩:∃ F,F=Zbk (ZbE (fsts ps) area src) (t:Int):=⟨_,rfl⟩;rw [<-hD, <-hF1] at HW1;rw [<-hF1] at hnh;have HNH:=hide hnh;have H1:=hide HW1;unfold wayC at H1;clear hown hher hoff hnh HW1 hD hF1
     go_wp2_with fail
     refine (H1.out).mono ?_;rintro e w3 ⟨du,rfl,hdu,b3⟩;obtain⟨dua,duc,rfl⟩:=Zac hdu;have hb3:=b3.size;have BT:Below wt.heap.size wt (w3.alloc (.cells #[.int .i64 D.to,.int .i64 D.cost,.slice dua D.hops.length duc] 108)):=b3.trans (((YAC w3.heap.size w3).alloc (YA _) _).mono hb3);clear hdu b3 H1;cases F1
     case true=>
      have N1:=hide ((HOWN.out.below BT (YA _)).wide (YA _) BT.size);have N2:=hide (show ZaY (fsts ps) al src area ((t+1:Nat):Int) (fsts qs) from by
       have h:=HB.out.skip (t:=(t:Int)) (fun c hc=>by rcases HNH.out with ⟨_,h2⟩ | ⟨h1,_⟩;exact h2 hc.1;cases h1);rw [show ((t+1:Nat):Int)=(t:Int)+1 by omega];exact h)
      have N3:=hide (HHER.out.below BT hsz);have N4:=hide (hnx.trans (BT.mono hnx.size));have hszr:wB.heap.size<=(w3.alloc (.cells #[.int .i64 D.to,.int .i64 D.cost,.slice dua D.hops.length duc] 108)).heap.size:=by have:=BT.size;omega
      clear HOWN HHER BT;go_wp2;go_roundw
      case rel=>exact ⟨t+1,_,qs,by omega,by omega,by go_num,rfl,N1.out,N2,HOFF.out,N3.out,N4.out,hszr⟩
      case measure=>simp [intOf];omega
     have hnn:Zcv (fsts ps) area src (t:Int):=by
      rcases HNH.out with ⟨h1,_⟩ | ⟨_,h2⟩
      ·cases h1
      ·exact h2
     have HNN:=hide hnn;clear hnn HNH;by_cases hts:(t:Int)=src
     case pos=>
      have hd:((t:Int)==src)=true:=by simpa using hts
      have HTS:=hide hts;clear hts;have N1:=hide ((HOWN.out.below BT (YA _)).wide (YA _) BT.size);have N2:=hide (show ZaY (fsts ps) al src area ((t+1:Nat):Int) (fsts qs) from by
       have h:=HB.out.skip (t:=(t:Int)) (fun c hc=>hc.2.1 HTS.out);rw [show ((t+1:Nat):Int)=(t:Int)+1 by omega];exact h)
      have N3:=hide (HHER.out.below BT hsz);have N4:=hide (hnx.trans (BT.mono hnx.size));have hszr:wB.heap.size<=(w3.alloc (.cells #[.int .i64 D.to,.int .i64 D.cost,.slice dua D.hops.length duc] 108)).heap.size:=by have:=BT.size;omega
      clear HOWN HHER BT;go_wp2;go_roundw
      case rel=>exact ⟨t+1,_,qs,by omega,by omega,by go_num,rfl,N1.out,N2,HOFF.out,N3.out,N4.out,hszr⟩
      case measure=>simp [intOf];omega
     have hd:((t:Int)==src)=false:=by simpa using hts
     have HTS:=hide hts;clear hts;have hwn2:∀ d,Zaq (fsts ps) C src (t:Int) d↔Zaq (fsts ps) al src (t:Int) d:=fun d=>by rw [HCE.out];exact ZhS HNN.out d
     have hbh:=Zl3 HBN.out (t:Int);have hbb:=Zl3 HBB.out (t:Int);obtain⟨E,hE⟩:∃ E,E=Zbo (Zaj ns) (t:Int):=⟨_,rfl⟩;obtain⟨F2,hF2⟩:∃ F,F=Zbk (Zaj ns) (t:Int):=⟨_,rfl⟩;obtain⟨w4,hw4⟩:∃ W,W=(w3.alloc (.cells #[.int .i64 D.to,.int .i64 D.cost,.slice dua D.hops.length duc] 108)):=⟨_,rfl⟩;rw [<-hw4] at BT;have HW2:=HTN.out (t:Int) w4 (HHER.out.below BT hsz) (by have:=BT.size;omega);rw [<-hE, <-hF2] at HW2 hbh;have HBH:=hide hbh;have HBY:=hide hbb;have HWN2:=hide hwn2;have H2:=hide HW2;unfold wayC at H2;clear hbh hbb hwn2 HW2 hE hF2
     go_wp2_with fail
     rw [<-hw4];clear hw4;refine (H2.out).mono ?_;rintro e w5 ⟨eu,rfl,heu,b5⟩;obtain⟨eua,euc,rfl⟩:=Zac heu;have hb5:=b5.size;have hwt4:wt.heap.size<=w4.heap.size:=BT.size;have BT0:=BT;have BT6:Below wt.heap.size wt (w5.alloc (.cells #[.int .i64 E.to,.int .i64 E.cost,.slice eua E.hops.length euc] 108)):=BT.trans ((b5.trans (((YAC w5.heap.size w5).alloc (YA _) _).mono hb5)).mono BT.size);have hx6:=YAE w5 (.cells #[.int .i64 E.to,.int .i64 E.cost,.slice eua E.hops.length euc] 108);have d1:=Zaa hx6 1;simp at d1;clear heu b5 H2 BT BT0;have BT:=BT6;clear BT6;cases F2
     case true=>
      have hbe:ZaN (t:Int) (Zaq (fsts ps) al src (t:Int)) (some E):=by
       rcases HBH.out with ⟨_,h2⟩ | ⟨h1,_⟩
       ·exact h2.congr HWN2.out
       ·cases h1
      have HTO:=hide (show Zcl (fsts ps) al src area (t:Int) E.cost from ⟨HNN.out,HTS.out,.inl ⟨E,hbe,rfl⟩⟩);clear hbe;clear HBH HBY HWN2 hx6;have BN:Below wt.heap.size wt ((w5.alloc (.cells #[.int .i64 E.to,.int .i64 E.cost,.slice eua E.hops.length euc] 108)).alloc (.cells #[.int .i64 area,.int .i64 2,.int .i64 src,.int .i64 (t:Int),.int .i64 0,.slice none 0 0,.int .i64 E.cost,.bool false] 37)):=BT.trans (((YAC _ _).alloc (YA _) _).mono BT.size);have OW:=hide ((Zad HOWN.out.row BT (YA _)).alloc (.cells #[.int .i64 area,.int .i64 2,.int .i64 src,.int .i64 (t:Int),.int .i64 0,.slice none 0 0,.int .i64 E.cost,.bool false] 37));have HHO:=hide (show ZaF ((w5.alloc (.cells #[.int .i64 E.to,.int .i64 E.cost,.slice eua E.hops.length euc] 108)).alloc (.cells #[.int .i64 area,.int .i64 2,.int .i64 src,.int .i64 (t:Int),.int .i64 0,.slice none 0 0,.int .i64 E.cost,.bool false] 37)) wt.heap.size ((w5.alloc (.cells #[.int .i64 E.to,.int .i64 E.cost,.slice eua E.hops.length euc] 108)).alloc (.cells #[.int .i64 area,.int .i64 2,.int .i64 src,.int .i64 (t:Int),.int .i64 0,.slice none 0 0,.int .i64 E.cost,.bool false] 37)).heap.size (ZbK area src (t:Int) E.cost,Value.slice none 0 0) from ⟨YAZ _ _ _ _,fun k hk=>by simp [Value.ownBlock] at hk⟩);have HKP:=hide (show (HerW ((w5.alloc (.cells #[.int .i64 E.to,.int .i64 E.cost,.slice eua E.hops.length euc] 108)).alloc (.cells #[.int .i64 area,.int .i64 2,.int .i64 src,.int .i64 (t:Int),.int .i64 0,.slice none 0 0,.int .i64 E.cost,.bool false] 37)) w1.heap.size wB.heap.size uh hs un ns ub bs) from HHER.out.below BN hsz);have N2:=hide (show ZaY (fsts ps) al src area ((t+1:Nat):Int) (fsts (qs++[(ZbK area src (t:Int) E.cost,Value.slice none 0 0)])) from by
       have h:=HB.out.push HTO.out;rw [show ((t+1:Nat):Int)=(t:Int)+1 by omega];have e:fsts (qs++[(ZbK area src (t:Int) E.cost,Value.slice none 0 0)])=fsts qs++[ZbK area src (t:Int) E.cost]:=by simp [fsts]
       rw [e];exact h)
      have hws:=hnx.size;have HAS:=hide (show (w5.alloc (.cells #[.int .i64 E.to,.int .i64 E.cost,.slice eua E.hops.length euc] 108)).heap.size=w5.heap.size+1 by simp);have hBTs:wt.heap.size<=w5.heap.size+1:=by have h:=BT.size;rw [HAS.out] at h;exact h
      go_wp2_with (first
       | (at_builtin;refine ZaZ Zay (by omega) (by omega) _ rfl _ _ 31 rfl w.heap.size 37 Tryz.underlying31 (.agg (recC Za9 (.slice none 0 0))) rfl Tryz.infoRec _ qs (ZbK area src (t:Int) E.cost,Value.slice none 0 0) (ZbY _ _ _ _) rfl OW.out ⟨w5.heap.size+1,0,none⟩ 1 rfl (fun j u hj=>by
         have h:=Zan (w:=(w5.alloc (.cells #[.int .i64 E.to,.int .i64 E.cost,.slice eua E.hops.length euc] 108))) (cs:=encP (ZbK area src (t:Int) E.cost,Value.slice none 0 0)) (t:=37) j u hj;rw [HAS.out] at h;exact h) (by omega) (by simp;omega) ?_))
      intro v' w9 hown' hgrow hat;have N1:=hide (HOWN.out.push BN hws HHO.out (by simpa using hown') hgrow);have N3:=hide (HKP.out.keep (HOFF.out.kept hgrow));have N4:=hide ((hnx.trans (BN.mono hws)).grown hgrow (by have:=BN.size;omega) (fun j hj=>(HOWN.out.row.lt j hj).1));have N5:=hide (HOFF.out.next (x':=v') (B:=wB.heap.size) (fun j hj=>by
       rcases hat with h1 | h1
       ·exact .inl (by rw [<-h1];exact hj)
       ·right;rw [h1] at hj;simp at hj;have:=BT.size
        first | omega | (simp at this;omega)) (YA _))
      have hszr:wB.heap.size<=w9.heap.size:=by
       have h1:=hgrow.size;simp at h1;omega
      obtain⟨va,vc,rfl⟩:=Zac hown';clear hown' hgrow hat BN OW HHO HKP BT;go_wp2;go_roundw
      case rel=>exact ⟨t+1,_,qs++[(ZbK area src (t:Int) E.cost,Value.slice none 0 0)],by omega,by omega,by go_num,rfl,N1.out,N2,N5.out,N3.out,N4.out,hszr⟩
      case measure=>simp [intOf];omega
     have hnw:∀ d,¬Zaq (fsts ps) al src (t:Int) d:=fun d h=>by
      rcases HBH.out with ⟨h1,_⟩ | ⟨_,h2⟩
      ·cases h1
      ·exact h2 d ((HWN2.out d).2 h)
     have HNW:=hide hnw;clear hnw HBH HWN2;by_cases ha0:area=0
     case pos=>
      have hda:(area != 0)=false:=by simpa using ha0
      have HA0:=hide ha0;clear ha0;have N1:=hide ((HOWN.out.below BT (YA _)).wide (YA _) BT.size);have N2:=hide (show ZaY (fsts ps) al src area ((t+1:Nat):Int) (fsts qs) from by
       have h:=HB.out.skip (t:=(t:Int)) (fun c hc=>by rcases hc.2.2 with ⟨w,h1,_⟩ | ⟨h1,_⟩;exact Zji HNW.out h1;exact h1 HA0.out);rw [show ((t+1:Nat):Int)=(t:Int)+1 by omega];exact h)
      have N3:=hide (HHER.out.below BT hsz);have N4:=hide (hnx.trans (BT.mono hnx.size));have hszr:wB.heap.size<=(w5.alloc (.cells #[.int .i64 E.to,.int .i64 E.cost,.slice eua E.hops.length euc] 108)).heap.size:=by have:=BT.size;omega
      clear hx6 d1;clear HOWN HHER BT;go_wp2;go_roundw
      case rel=>exact ⟨t+1,_,qs,by omega,by omega,by go_num,rfl,N1.out,N2,HOFF.out,N3.out,N4.out,hszr⟩
      case measure=>simp [intOf];omega
     have hda:(area != 0)=true:=by simpa using ha0
     have HA0:=hide ha0;clear ha0;obtain⟨G,hG⟩:∃ G,G=Zbo (Zaj bs) (t:Int):=⟨_,rfl⟩;obtain⟨F3,hF3⟩:∃ F,F=Zbk (Zaj bs) (t:Int):=⟨_,rfl⟩;obtain⟨w6,hw6⟩:∃ W,W=(w5.alloc (.cells #[.int .i64 E.to,.int .i64 E.cost,.slice eua E.hops.length euc] 108)):=⟨_,rfl⟩;rw [<-hw6] at BT hx6;have HW3:=HTB.out (t:Int) w6 (HHER.out.below BT hsz) (by have:=BT.size;omega);rw [<-hG, <-hF3] at HW3;rw [<-hG, <-hF3] at HBY;have H3:=hide HW3;unfold wayC at H3;have hz6:=Zab hx6;have HX6:=hide hx6;clear HW3 hG hF3 hx6 d1
     go_wp2_with fail
     rw [<-hw6];clear hw6;refine (H3.out).mono ?_;rintro e w7 ⟨gu,rfl,hgu,b7⟩;obtain⟨gua,guc,rfl⟩:=Zac hgu;have hb7:=b7.size;have hx7:=(b7.block _ hz6).trans HX6.out;have BT7:Below wt.heap.size wt w7:=BT.trans (b7.mono BT.size);have hwt3:wt.heap.size<=w5.heap.size:=by omega
     have BT8:Below wt.heap.size wt (Za8 w7 w5.heap.size G (.slice gua G.hops.length guc)):=BT7.grown (Za2 w7 w5.heap.size G (.slice gua G.hops.length guc)) BT7.size (fun j hj=>by simp at hj;omega);have d0:=Zaa hx7 0;have d1:=Zaa hx7 1;have d2:=Zaa hx7 2;simp at d0 d1 d2;have fd:=Zae hx7;clear hgu b7 H3 HX6 hx7 BT BT7;have BT:=BT8;clear BT8;cases F3
     case false=>
      have N1:=hide ((HOWN.out.below BT (YA _)).wide (YA _) BT.size);have N2:=hide (show ZaY (fsts ps) al src area ((t+1:Nat):Int) (fsts qs) from by
       have h:=HB.out.skip (t:=(t:Int)) (fun c hc=>by rcases hc.2.2 with ⟨w,h1,_⟩ | ⟨_,w,h1,_⟩;exact Zji HNW.out h1;rcases HBY.out with ⟨h2,_⟩ | ⟨_,h2⟩;cases h2;exact Zji h2 h1);rw [show ((t+1:Nat):Int)=(t:Int)+1 by omega];exact h)
      have N3:=hide (HHER.out.below BT hsz);have N4:=hide (hnx.trans (BT.mono hnx.size));have hszr:wB.heap.size<=(Za8 w7 w5.heap.size G (.slice gua G.hops.length guc)).heap.size:=by have:=BT.size;omega
      clear HOWN HHER BT;go_wp2;go_roundw
      case rel=>exact ⟨t+1,_,qs,by omega,by omega,by go_num,rfl,N1.out,N2,HOFF.out,N3.out,N4.out,hszr⟩
      case measure=>simp [intOf];omega
     have hbe:ZaN (t:Int) (Zbw (fsts ps) al true src (t:Int)) (some G):=by
      rcases HBY.out with ⟨_,h2⟩ | ⟨h1,_⟩
      ·exact h2
      ·cases h1
     have HTO:=hide (show Zcl (fsts ps) al src area (t:Int) G.cost from ⟨HNN.out,HTS.out,.inr ⟨HA0.out,G,hbe,rfl⟩⟩);clear hbe;clear HBY HNW;have BN:Below wt.heap.size wt ((Za8 w7 w5.heap.size G (.slice gua G.hops.length guc)).alloc (.cells #[.int .i64 area,.int .i64 2,.int .i64 src,.int .i64 (t:Int),.int .i64 0,.slice none 0 0,.int .i64 G.cost,.bool false] 37)):=BT.trans (((YAC _ _).alloc (YA _) _).mono BT.size);have OW:=hide ((Zad HOWN.out.row BT (YA _)).alloc (.cells #[.int .i64 area,.int .i64 2,.int .i64 src,.int .i64 (t:Int),.int .i64 0,.slice none 0 0,.int .i64 G.cost,.bool false] 37));have HHO:=hide (show ZaF ((Za8 w7 w5.heap.size G (.slice gua G.hops.length guc)).alloc (.cells #[.int .i64 area,.int .i64 2,.int .i64 src,.int .i64 (t:Int),.int .i64 0,.slice none 0 0,.int .i64 G.cost,.bool false] 37)) wt.heap.size ((Za8 w7 w5.heap.size G (.slice gua G.hops.length guc)).alloc (.cells #[.int .i64 area,.int .i64 2,.int .i64 src,.int .i64 (t:Int),.int .i64 0,.slice none 0 0,.int .i64 G.cost,.bool false] 37)).heap.size (ZbK area src (t:Int) G.cost,Value.slice none 0 0) from ⟨YAZ _ _ _ _,fun k hk=>by simp [Value.ownBlock] at hk⟩);have HKP:=hide (show (HerW ((Za8 w7 w5.heap.size G (.slice gua G.hops.length guc)).alloc (.cells #[.int .i64 area,.int .i64 2,.int .i64 src,.int .i64 (t:Int),.int .i64 0,.slice none 0 0,.int .i64 G.cost,.bool false] 37)) w1.heap.size wB.heap.size uh hs un ns ub bs) from HHER.out.below BN hsz);have N2:=hide (show ZaY (fsts ps) al src area ((t+1:Nat):Int) (fsts (qs++[(ZbK area src (t:Int) G.cost,Value.slice none 0 0)])) from by
      have h:=HB.out.push HTO.out;rw [show ((t+1:Nat):Int)=(t:Int)+1 by omega];have e:fsts (qs++[(ZbK area src (t:Int) G.cost,Value.slice none 0 0)])=fsts qs++[ZbK area src (t:Int) G.cost]:=by simp [fsts]
      rw [e];exact h)
     have hws:=hnx.size;have HAS:=hide (show (Za8 w7 w5.heap.size G (.slice gua G.hops.length guc)).heap.size=w7.heap.size by simp);have hBTs:wt.heap.size<=w7.heap.size:=by have h:=BT.size;rw [HAS.out] at h;exact h
     go_wp2_with (first
      | (at_builtin;refine ZaZ Zay (by omega) (by omega) _ rfl _ _ 31 rfl w.heap.size 37 Tryz.underlying31 (.agg (recC Za9 (.slice none 0 0))) rfl Tryz.infoRec _ qs (ZbK area src (t:Int) G.cost,Value.slice none 0 0) (ZbY _ _ _ _) rfl OW.out ⟨w7.heap.size,0,none⟩ 1 rfl (fun j u hj=>by
        have h:=Zan (w:=(Za8 w7 w5.heap.size G (.slice gua G.hops.length guc))) (cs:=encP (ZbK area src (t:Int) G.cost,Value.slice none 0 0)) (t:=37) j u hj;rw [HAS.out] at h;exact h) (by omega) (by simp;omega) ?_))
     intro v' w9 hown' hgrow hat;have N1:=hide (HOWN.out.push BN hws HHO.out (by simpa using hown') hgrow);have N3:=hide (HKP.out.keep (HOFF.out.kept hgrow));have N4:=hide ((hnx.trans (BN.mono hws)).grown hgrow (by have:=BN.size;omega) (fun j hj=>(HOWN.out.row.lt j hj).1));have N5:=hide (HOFF.out.next (x':=v') (B:=wB.heap.size) (fun j hj=>by
      rcases hat with h1 | h1
      ·exact .inl (by rw [<-h1];exact hj)
      ·right;rw [h1] at hj;simp at hj;have:=BT.size
       first | omega | (simp at this;omega)) (YA _))
     have hszr:wB.heap.size<=w9.heap.size:=by
      have h1:=hgrow.size;simp at h1;omega
     obtain⟨va,vc,rfl⟩:=Zac hown';clear hown' hgrow hat BN OW HHO HKP BT;go_wp2;go_roundw
     case rel=>exact ⟨t+1,_,qs++[(ZbK area src (t:Int) G.cost,Value.slice none 0 0)],by omega,by omega,by go_num,rfl,N1.out,N2,N5.out,N3.out,N4.out,hszr⟩
     case measure=>simp [intOf];omega
    ·have ht6:¬(t:Int)<=6:=by omega
     have htt:(t:Int)=7:=by omega
     have HE:=hide (show ZbO (fsts ps) al src area (fsts qs) from ZaY.all (by have h:=HB.out;rw [htt] at h;exact h));have HO:=hide hown;have HN:=hide hnx;clear hown hnx HB hoff hher htt;go_wp2;go_ret
     first
      | exact ⟨_,qs,rfl,HE.out,HO.out,HN.out⟩
      | exact ⟨_,rfl,qs,HE.out,HO.out,HN.out⟩
def byS (xs:List RecD)(al L:List Int)(src to:Int)(d:WayD):Prop:=(∀ y,¬Zaq xs al src to y)/\∃ a∈L,outS xs xs a src to d
theorem Zp3 {L:List Int}{to:Int}{d:WayD}(h:byS xs al L src to d):GoodW d/\d.to=to:=by
 obtain⟨_,a,_,h2⟩:=h;exact ZfO (fun _ h=>h) h2
theorem Zp4 {L:List Int}{to a:Int}{k:Nat}(h:L[k]? = some a)(d:WayD):byS xs al (L.take (k+1)) src to d↔byS xs al (L.take k) src to d\/((∀ y,¬Zaq xs al src to y)/\outS xs xs a src to d):=by
 obtain⟨hk,e⟩:=YAD.1 h;unfold byS;rw [YAI hk,e];constructor
 ·rintro ⟨h0,b,h2,h3⟩;rcases YAF.1 h2 with h5 | h5
  ·exact .inl ⟨h0,b,h5,h3⟩
  ·have:b=a:=by simpa using h5
   subst this;exact .inr ⟨h0,h3⟩
 ·rintro (⟨h0,b,h2,h3⟩ | ⟨h0,h3⟩)
  ·exact ⟨h0,b,YAF.2 (.inl h2),h3⟩
  ·exact ⟨h0,a,YAF.2 (.inr (by simp)),h3⟩
theorem ZrL {border:Bool}(to:Int)(d:WayD):byS xs al (Zdl al border) src to d↔Zbw xs al border src to d:=by
 constructor
 ·rintro ⟨h0,a,h2,h3⟩;have h4:=Zgv.1 h2;exact⟨h0,a,h4.1.1,h4.2,h3⟩
 ·rintro ⟨h0,a,h2,h3,h4⟩;have h5:=Zhn h4;exact⟨h0,a,Zgv.2 ⟨⟨h2,h5.2.1,h5.2.2⟩,h3⟩,h4⟩
theorem ZnT {ds:List WayD}(h:ZaE (Zaq xs al src) ds)(to:Int):(Zbk ds to=true/\∃ y,Zaq xs al src to y)\/(Zbk ds to=false/\∀ y,¬Zaq xs al src to y):=by
 have hb:=h.2 to;rcases Zcb ds to with ⟨h1,h2⟩ | ⟨h1,h2⟩
 ·rw [h2] at hb;obtain⟨_,⟨y,hy,_⟩,_⟩:=hb;exact .inl ⟨h1,y,hy⟩
 ·rw [h2] at hb;exact .inr ⟨h1,hb⟩
theorem ZiL {S:Int->WayD->Prop}{qs:List WP}(h:ZaE S (Zaj qs))(hS:∀ to w,S to w->GoodW w/\w.to=to):totW qs<=42:=
 ZgJ (by have h2:=Zdr h.1 (fun d hd=>(h.good hS d hd).node);simpa [Zaj] using h2) (fun d hd=>(h.good hS d hd).len)
theorem Zhd (v u:Value)(ps:List RP)(al:List Int)(hi:Nat)(border:Bool)(src:Int)(w:World)(hv:RecsIn w hi v ps)(ha:ZaI w u al hi)(hhi:hi<=w.heap.size)(hn:tot ps<=1048576)(hal:al.length<=1048576):
  Calls Tryz.prog 62 #[v,u,.bool border,.int .i64 src] w fun e w'=>∃ x qs,e=.returned x/\ZaE (Zbw (fsts ps) al border src) (Zaj qs)/\WaysOwn w' w.heap.size w'.heap.size x qs/\Below w.heap.size w w':=by
 have hnl:=Zbj ps;obtain⟨a1,c1,rfl⟩:=Zac hv.row;obtain⟨a2,c2,rfl⟩:=ha.shape;have HWI:=hide (Ze3 (.slice a1 ps.length c1) (.slice a2 al.length c2) ps al hi src w hv ha hhi hn hal);have HAO:=hide (fun W (hb:Below w.heap.size w W)=>ZjT (.slice a2 al.length c2) al border hi W hal (Zav.later ha hb hhi) (YAK hhi hb.size));have HWO:=hide (fun area W (hb:Below w.heap.size w W)=>ZlQ (.slice a1 ps.length c1) ps hi area src W (hv.below hb hhi) (YAK hhi hb.size) hn);clear hv ha;obtain⟨L,hL⟩:∃ L,L=Zdl al border:=⟨_,rfl⟩;have hLl:L.length<=3:=by rw [hL];exact Zks al border
 have HFIN:=hide (show ∀ to d,byS (fsts ps) al L src to d↔Zbw (fsts ps) al border src to d from fun to d=>by rw [hL];exact ZrL to d);rw [<-hL] at HAO;clear hL
 go_enter Tryz.func62,Tryz.ntmps62
 go_wp2_with fail
 refine HWI.out.mono ?_;rintro e w1 ⟨uw,ws,rfl,hbw,how,b1⟩;obtain⟨wsa,wsc,rfl⟩:=Zac how.row;have hb1:=b1.size;have hwt:totW ws<=1048576:=by have:=ZiL hbw (fun to d h=>Za1 h);omega
 have HWT:=hide (fun (z:Int) (W:World) (hb:Below w1.heap.size w1 W)=>Zew (.slice wsa ws.length wsc) ws w.heap.size w1.heap.size z W (how.below hb (YA _)) hb.size hwt);have HHAS:=hide (fun to=>ZnT hbw to);have BX:Below w1.heap.size w1 (w1.alloc (.cells #[] 108)):=(YAC _ _).alloc (YA _) _;have LIT:=ZoT w1 w1.heap.size (YA _);have hs0:(w1.alloc (.cells #[] 108)).heap.size=w1.heap.size+1:=by simp
 obtain⟨w0,hw0⟩:∃ W,W=w1.alloc (.cells #[] 108):=⟨_,rfl⟩;rw [<-hw0] at BX LIT hs0;have BX0:Below w.heap.size w w0:=b1.trans (BX.mono hb1);have HLIT:=hide LIT;have HS0:=hide hs0;clear LIT hs0 HWI how hbw hwt
 go_wp2_with fail
 rw [<-hw0];clear hw0;refine (HAO.out _ BX0).mono ?_;rintro e w2 ⟨ra,rfl,hra,b2⟩;obtain⟨raa,rac,rfl⟩:=Zac hra.row;have b2s:=b2.size;have hx0:=BX.size;have B2:Below w1.heap.size w1 w2:=BX.trans (b2.mono hx0);have HO1:=hide ((HLIT.out.below b2 (YA _)).wide (YA _) b2s);have HRA:=hide hra;clear hra HLIT HAO b2;go_wp2
 go_loopw [26,10] (fun i o wr=>∃ (k:Nat) (x:Value) (qs:List WP),k<=L.length/\i=.int .i64 (k:Int)/\o=x/\WaysOwn wr w1.heap.size wr.heap.size x qs/\Hid (ZaE (byS (fsts ps) al (L.take k) src) (Zaj qs))/\Off x w0.heap.size w2.heap.size/\IntsOwn wr w0.heap.size w2.heap.size (.slice raa L.length rac) L/\Below w1.heap.size w1 wr/\w2.heap.size<=wr.heap.size) (fun i _ _=>L.length-(intOf i).toNat)
 case atStart=>exact ⟨0,_,[],by omega,rfl,rfl,HO1.out,hide (Zct (fun to d ⟨_,a,h,_⟩=>by simp at h)),fun b hb=>by simp [Value.ownBlock] at hb;have:=HS0.out;omega,HRA.out,B2,YA _⟩
 case round=>
  obtain⟨k,x,qs,hk,rfl,rfl,hown,HB,hoff,hra,hnx,hsz⟩:=hrel;clear HO1 HRA B2;obtain⟨xa,xc,rfl⟩:=Zac hown.row
  rename World=>wa
  have BWA:Below w.heap.size w wa:=b1.trans (hnx.mono hb1);by_cases hlt:k<L.length
  ·obtain ⟨area,har⟩:∃ a,L[k]? = some a:=⟨L[k],YAA hlt⟩;obtain⟨b,off,cap',hve,hbb,c0⟩:=hra.at.cell k area har;cases hve;have hki:(0:Int)<=(k:Int):=by omega
   have hkj:(k:Int)<(L.length:Int):=by omega
   have HOWN:=hide hown;have HOFF:=hide hoff;have HRA:=hide hra;have HAR:=hide har;clear hown hoff hra har
   go_wp2_with fail
   refine (HWO.out area _ BWA).mono ?_;rintro e w3 ⟨uo,os,rfl,hos,hol,hoo,b3⟩;obtain⟨osa,osc,rfl⟩:=Zac hoo.row;have hb3:=b3.size;have ST0:=PutSt.start HOWN.out HB.out HOFF.out hsz hnx.size b3 hoo;have RA3:=HRA.out.below b3 hsz;have B3:Below w1.heap.size w1 w3:=hnx.trans (b3.mono hnx.size);have HOS:=hide (show ∀ d,d∈Zaj os↔∃ r∈fsts ps,Zcz (fsts ps) area src r d from fun d=>by
    have h:=hos d;rw [YAL (by simp [fsts])] at h;exact h)
   have HST0:=hide ST0;have HRA3:=hide RA3;clear hos hoo ST0 RA3 HOWN HOFF HRA HB b3;go_wp2
   go_loopw [35,10] (fun i o wr=>∃ (j:Nat) (x:Value) (qs:List WP),j<=os.length/\i=.int .i64 (j:Int)/\o=x/\PutSt wr w1.heap.size w0.heap.size w2.heap.size wa.heap.size w3.heap.size (fun to d=>byS (fsts ps) al (L.take k) src to d\/((∀ y,¬Zaq (fsts ps) al src to y)/\d.to=to/\d∈(Zaj os).take j)) x qs (.slice osa os.length osc) os j/\IntsOwn wr w0.heap.size w2.heap.size (.slice (some ⟨b,off,none⟩) L.length rac) L/\Below w1.heap.size w1 wr/\w3.heap.size<=wr.heap.size) (fun i _ _=>os.length-(intOf i).toNat)
   case atStart=>exact ⟨0,_,qs,by omega,rfl,rfl, { HST0.out with best:=HST0.out.best.congr (fun to d=>⟨.inl,by rintro (h | ⟨_,_,h⟩);exact h;simp at h⟩) },HRA3.out,B3,YA _⟩
   case round=>
    obtain⟨j,y,qs2,hj,rfl,rfl,st,hra2,hnx2,hsz2⟩:=hrel;clear HST0 HRA3 B3;obtain⟨ya,yc,rfl⟩:=Zac st.own.row;have hgd0:∀ d∈Zaj os,GoodW d:=fun d hd=>by
     obtain⟨r,hr,ht⟩:=(HOS.out d).1 hd;exact Zel hr ht
    have hS:∀ to d,(byS (fsts ps) al (L.take k) src to d\/((∀ y,¬Zaq (fsts ps) al src to y)/\d.to=to/\d∈(Zaj os).take j))->GoodW d/\d.to=to:=by
     rintro to d (h | ⟨_,h1,h2⟩)
     ·exact Zp3 h
     ·exact ⟨hgd0 d (YAj h2),h1⟩
    by_cases hjl:j<os.length
    ·obtain ⟨r,hr⟩:∃ r,os[j]? = some r:=⟨os[j],YAA hjl⟩;obtain⟨bo,offo,cpo,hve,hbbo,c0,c1,c2,_⟩:=st.from_.at.cells j r hr;cases hve;have hgr:GoodW r.1:=hgd0 r.1 (by simp only [Zaj,YAR];exact⟨r,YAG hr,rfl⟩);have hji:(0:Int)<=(j:Int):=by omega
     have hjj:(j:Int)<(os.length:Int):=by omega
     obtain⟨rra,rrc,hrn⟩:=Zac (st.from_.nears r (YAG hr)).1;rw [hrn] at c2;have hgd:=st.good hS;have BA:Below wr.heap.size wr (wr.alloc (.cells #[.int .i64 r.1.to,.int .i64 r.1.cost,.slice rra r.1.hops.length rrc] 108)):=(YAC _ _).alloc (YA _) _;have hxb:=YAE wr (.cells #[.int .i64 r.1.to,.int .i64 r.1.cost,.slice rra r.1.hops.length rrc] 108);obtain⟨w4,hw4⟩:∃ W,W=wr.alloc (.cells #[.int .i64 r.1.to,.int .i64 r.1.cost,.slice rra r.1.hops.length rrc] 108):=⟨_,rfl⟩;rw [<-hw4] at BA hxb;have hs4:=BA.size;have hl4:=Zab hxb;have HW:=HWT.out r.1.to w4 (hnx2.trans (BA.mono hnx2.size));have hh:=HHAS.out r.1.to;obtain⟨D,hD⟩:∃ D,D=Zbo (Zaj ws) r.1.to:=⟨_,rfl⟩;obtain⟨FB,hFB⟩:∃ F,F=Zbk (Zaj ws) r.1.to:=⟨_,rfl⟩;rw [<-hD, <-hFB] at HW;rw [<-hFB] at hh;have HWW:=hide HW;have HH:=hide hh;have HST:=hide st;have HRX:=hide hra2;have HRR:=hide hr;have HRN:=hide hrn;have HGD:=hide hgd;have HGR:=hide hgr;have HSS:=hide hS;have HXB:=hide hxb;have HBA:=hide BA;unfold wayC at HWW;clear HW hh st hra2 hr hrn hgd hgr hS hxb BA hgd0 hD hFB
     go_wp2_with fail
     rw [<-hw4];clear hw4;refine HWW.out.mono ?_;rintro e w5 ⟨du,rfl,hdu,b5⟩;obtain⟨da,dc,rfl⟩:=Zac hdu;have hb5:=b5.size;have BC:Below w5.heap.size w5 (w5.alloc (.cells #[.int .i64 D.to,.int .i64 D.cost,.slice da D.hops.length dc] 108)):=(YAC _ _).alloc (YA _) _;have hxb5:=(b5.block _ hl4).trans HXB.out;have hxb6:=(BC.block _ (Zab hxb5)).trans hxb5;have d0:=Zaa hxb6 0;have d1:=Zaa hxb6 1;have d2:=Zaa hxb6 2;simp at d0 d1 d2;obtain⟨w6,hw6⟩:∃ W,W=w5.alloc (.cells #[.int .i64 D.to,.int .i64 D.cost,.slice da D.hops.length dc] 108):=⟨_,rfl⟩;rw [<-hw6] at BC;have B6:Below wr.heap.size wr w6:=HBA.out.trans ((b5.mono hs4).trans (BC.mono (by omega)));have st6:=HST.out.below B6;have ra6:=HRX.out.below B6 (by omega);have N6:Below w1.heap.size w1 w6:=hnx2.trans (B6.mono hnx2.size);have hs6:=B6.size;clear hdu b5 BC hxb5 hxb6 HST HRX HWW HXB HBA B6;cases FB
     ·have hno:∀ y,¬Zaq (fsts ps) al src r.1.to y:=by
       rcases HH.out with ⟨h1,_⟩ | ⟨_,h2⟩
       ·cases h1
       ·exact h2
      have hT:∀ to d,((byS (fsts ps) al (L.take k) src to d\/((∀ y,¬Zaq (fsts ps) al src to y)/\d.to=to/\d∈(Zaj os).take j))\/(d=r.1/\r.1.to=to))↔(byS (fsts ps) al (L.take k) src to d\/((∀ y,¬Zaq (fsts ps) al src to y)/\d.to=to/\d∈(Zaj os).take (j+1))):=by
       intro to d;rw [Zbz (ZcQ HRR.out)];constructor
       ·rintro ((h | ⟨h0,h1,h2⟩) | ⟨h1,h2⟩)
        ·exact .inl h
        ·exact .inr ⟨h0,h1,.inl h2⟩
        ·exact .inr ⟨by rw [<-h2];exact hno,by rw [h1];exact h2,.inr h1⟩
       ·rintro (h | ⟨h0,h1,h2 | h2⟩)
        ·exact .inl (.inl h)
        ·exact .inl (.inr ⟨h0,h1,h2⟩)
        ·exact .inr ⟨h2,by rw [<-h2];exact h1⟩
      have HPW:=Zin (.slice ya qs2.length yc) qs2 w1.heap.size r w6 st6.own N6.size (by have:=HGD.out;omega) (fun p hp=>by have:=HGD.out.2 p hp;omega) (by have:=HGR.out.len;omega) st6.best.1 (st6.hop HRR.out) (st6.apartR HRR.out);unfold wayC at HPW;rw [HRN.out] at HPW;have HNX:=hide (fun (W':World) (x':Value) (qs':List WP) (hp:PutD (Zaj qs2) r.1 (Zaj qs')) (ho:WaysOwn W' w1.heap.size W'.heap.size x' qs') (hf:ZeS w6.heap.size qs2 r qs') hn (hg:w6.grownBy W' (Value.slice ya qs2.length yc).ownBlock)=>(⟨st6.put HRR.out HSS.out HGR.out hT hp ho hf hn hg,ra6.keep (st6.offR.kept hg),N6.grown hg N6.size (fun b hb=>(st6.own.row.lt b hb).1),hg.size⟩:_/\_/\_/\_));have HP:=hide HPW;clear HPW hT hno HH HRR HRN HGD HGR HSS st6 ra6 N6
      go_wp2_with fail
      rw [<-hw6];clear hw6;refine HP.out.mono ?_;rintro e w7 ⟨x',qs',rfl,hp,ho,hf,hn',hg⟩;obtain⟨n1,n2,n3,n4⟩:=HNX.out w7 x' qs' hp ho hf hn' hg;obtain⟨x'a,x'c,rfl⟩:=Zac ho.row;have N1:=hide n1;have N2:=hide n2;have N3:=hide n3;clear n1 n2 n3 hp ho hf hn' hg HNX HP;go_wp2;go_roundw
      case rel=>exact ⟨j+1,_,qs',by omega,by go_num,rfl,N1.out,N2.out,N3.out,by omega⟩
      case measure=>simp [intOf];omega
     ·have hyes:∃ y,Zaq (fsts ps) al src r.1.to y:=by
       rcases HH.out with ⟨_,h2⟩ | ⟨h1,_⟩
       ·exact h2
       ·cases h1
      have N1:=hide (st6.pass HRR.out (T:=fun to d=>byS (fsts ps) al (L.take k) src to d\/((∀ y,¬Zaq (fsts ps) al src to y)/\d.to=to/\d∈(Zaj os).take (j+1))) (fun to d=>by
       rw [Zbz (ZcQ HRR.out)];constructor
       ·rintro (h | ⟨h0,h1,h2⟩)
        ·exact .inl h
        ·exact .inr ⟨h0,h1,.inl h2⟩
       ·rintro (h | ⟨h0,h1,h2 | h2⟩)
        ·exact .inl h
        ·exact .inr ⟨h0,h1,h2⟩
        ·obtain ⟨y,hy⟩:=hyes;exact absurd (by rw [<-h1,h2];exact hy) (h0 y)))
      have N2:=hide ra6;have N3:=hide N6;have hsf:w3.heap.size<=w6.heap.size:=by omega
      rw [hw6] at N1 N2 N3 hsf;clear st6 ra6 N6 hyes HH HRR HRN HGD HGR HSS hw6;go_wp2;go_roundw
      case rel=>exact ⟨j+1,_,qs2,by omega,by go_num,rfl,N1.out,N2.out,N3.out,hsf⟩
      case measure=>simp [intOf];omega
    ·have hjn:¬(j:Int)<(os.length:Int):=by omega
     have HBX:=hide (show ZaE (byS (fsts ps) al (L.take (k+1)) src) (Zaj qs2) from st.best.congr (fun to d=>by
      rw [Zp4 HAR.out,show (Zaj os).take j=Zaj os from YAL (by simp [Zaj];omega),HOS.out];rfl))
     have HOX:=hide st.own;have HFX:=hide st.offR;have HRX:=hide hra2;have HNX:=hide hnx2;have hsf:w2.heap.size<=wr.heap.size:=by omega
     clear st hra2 hnx2 hS hgd0;go_wp2;go_roundw
     case rel=>exact ⟨k+1,_,qs2,by omega,by go_num,rfl,HOX.out,HBX,HFX.out,HRX.out,HNX.out,hsf⟩
     case measure=>simp [intOf];omega
  ·have hkn:¬(k:Int)<(L.length:Int):=by omega
   have HE:=hide (show ZaE (Zbw (fsts ps) al border src) (Zaj qs) from by
    have h:=HB.out;rw [YAL (by omega)] at h;exact h.congr HFIN.out)
   have HO:=hide (hown.wide (lo':=w.heap.size) hb1 (YA _));have HN:=hide BWA;clear hown hnx HB hoff hra BWA;go_wp2;go_ret
   first
    | exact ⟨_,qs,rfl,HE.out,HO.out,HN.out⟩
    | exact ⟨_,rfl,qs,HE.out,HO.out,HN.out⟩
theorem ZfK (w1:World)(cs:Array Value)(t:TypeId)(j:Nat)(v:Value)(h:cs[j]? = some v):(w1.alloc (.cells cs t)).cell? ⟨w1.heap.size,j,none⟩=some v:=by
 have:=Zaa (YAE w1 (.cells cs t)) j;rw [h] at this;exact this
theorem ZmA (a b:RtD)(ua va:Option Addr)(un uc vn vc:Nat)(w:World):
  Calls Tryz.prog 131 #[.agg (rtC a (.slice ua un uc)),.agg (rtC b (.slice va vn vc))] w fun e w'=>e=.returned (.int .i64 (ordQ a b))/\Below w.heap.size w w'/\w.drawn<=w'.drawn:=by
 obtain⟨R,hR⟩:∃ R,R=ordQ a b:=⟨_,rfl⟩;rw [<-hR];unfold ordQ at hR;have HR:=hide hR;clear hR;unfold rtC
 go_enter Tryz.func131,Tryz.ntmps131
 go_wp2;obtain⟨w1,hw1⟩:∃ w1,w1=(w.alloc (.cells #[.bool a.thing,.int .i64 a.to,.int .i64 a.kind,.int .i64 a.cost,.int .i64 a.far,.slice ua un uc] 42)).alloc (.cells #[.bool b.thing,.int .i64 b.to,.int .i64 b.kind,.int .i64 b.cost,.int .i64 b.far,.slice va vn vc] 42):=⟨_,rfl⟩;have B1:Below w.heap.size w w1:=by rw [hw1];exact ZaB _ _
 have D1:w.drawn<=w1.drawn:=by rw [hw1];exact YA _
 have p0:w1.heap[w.heap.size]? = some (.cells #[.bool a.thing,.int .i64 a.to,.int .i64 a.kind,.int .i64 a.cost,.int .i64 a.far,.slice ua un uc] 42):=by rw [hw1,YAH _ _ _ (by simp),YAE]
 have q0:w1.heap[w.heap.size+1]? = some (.cells #[.bool b.thing,.int .i64 b.to,.int .i64 b.kind,.int .i64 b.cost,.int .i64 b.far,.slice va vn vc] 42):=by
  rw [hw1];have:=YAE (w.alloc (.cells #[.bool a.thing,.int .i64 a.to,.int .i64 a.kind,.int .i64 a.cost,.int .i64 a.far,.slice ua un uc] 42)) (.cells #[.bool b.thing,.int .i64 b.to,.int .i64 b.kind,.int .i64 b.cost,.int .i64 b.far,.slice va vn vc] 42);simpa using this
 rw [<-hw1];clear hw1;have s1:=Zaa p0 1;have t1:=Zaa q0 1;have s2:=Zaa p0 2;have t2:=Zaa q0 2;have s3:=Zaa p0 3;have t3:=Zaa q0 3;have s4:=Zaa p0 4;have t4:=Zaa q0 4;have hz0:=Zab p0;have hz1:=Zab q0;simp at s1 s2 s3 s4 t1 t2 t3 t4;have S3:=hide s3;have S4:=hide s4;have T3:=hide t3;have T4:=hide t4;clear s3 s4 t3 t4;have P0:=hide p0;have Q0:=hide q0;clear p0 q0;have hz2:=B1.size
 go_region_held3 (fun W=>W.cell? ⟨w.heap.size,1,none⟩=some (.int .i64 a.to)/\W.cell? ⟨w.heap.size,2,none⟩=some (.int .i64 a.kind)/\W.cell? ⟨w.heap.size+1,1,none⟩=some (.int .i64 b.to)/\W.cell? ⟨w.heap.size+1,2,none⟩=some (.int .i64 b.kind)) (first | go_keep | assumption) (first | (go_at_call 105;refine (Zbi _ _ _).mono ?_;rintro e w' ⟨rfl,rfl⟩) | (go_at_call 104;refine (Zmz _ (cmpN a.to b.to) (cmpN a.kind b.kind) _ ?_ ?_).mono ?_;(exact ZdS _ _ _ _ _ rfl);(exact ZdS _ _ _ _ _ rfl);rintro e w' ⟨rfl,rfl⟩))
 rename_i hheld
 clear hheld s1 s2 t1 t2 S3 S4 T3 T4;have B2:Below w.heap.size w (w1.alloc (.cells #[.int .i64 (cmpN a.to b.to),.int .i64 (cmpN a.kind b.kind)] 3)).drew:=(B1.alloc B1.size (.cells #[.int .i64 (cmpN a.to b.to),.int .i64 (cmpN a.kind b.kind)] 3)).drew;have D2:w.drawn<=(w1.alloc (.cells #[.int .i64 (cmpN a.to b.to),.int .i64 (cmpN a.kind b.kind)] 3)).drew.drawn:=YAK D1 (Nat.le_succ _);have BL:Below w1.heap.size w1 (w1.alloc (.cells #[.int .i64 (cmpN a.to b.to),.int .i64 (cmpN a.kind b.kind)] 3)).drew:=((YAC w1.heap.size w1).alloc (YA _) (.cells #[.int .i64 (cmpN a.to b.to),.int .i64 (cmpN a.kind b.kind)] 3)).drew;have p2:=(BL.block _ hz0).trans P0.out;have q2:=(BL.block _ hz1).trans Q0.out;obtain⟨w2,hw2⟩:∃ W,W=(w1.alloc (.cells #[.int .i64 (cmpN a.to b.to),.int .i64 (cmpN a.kind b.kind)] 3)).drew:=⟨_,rfl⟩;rw [<-hw2] at B2 D2 p2 q2 |-;clear hw2 BL P0 Q0 B1 D1;have s2:=Zaa p2 2;have t2:=Zaa q2 2;have s3:=Zaa p2 3;have t3:=Zaa q2 3;have s4:=Zaa p2 4;have t4:=Zaa q2 4;simp at s2 s3 s4 t2 t3 t4;have hy0:=Zab p2;have hy1:=Zab q2;have hw2s:=B2.size;clear p2 q2;obtain⟨O,hO⟩:∃ O,O=orN [cmpN a.to b.to,cmpN a.kind b.kind]:=⟨_,rfl⟩;rw [<-hO] at HR |-;clear hO;by_cases h0:O=0
 ·have hd:(O != 0)=false:=by simpa using h0
  have hR:=HR.out;rw [if_pos h0] at hR;have HO:=hide h0;clear HR h0;by_cases h4:a.kind=4
  ·rw [if_pos h4] at hR;have HRR:=hide hR;have hd4:(a.kind==4)=true:=by simpa using h4
   clear hR h4
   go_wp2_with fail
   refine (Zbi _ _ _).mono ?_;rintro e w3 ⟨rfl,rfl⟩
   go_wp2_with fail
   refine (Zbi _ _ _).mono ?_;rintro e w3 ⟨rfl,rfl⟩
   go_wp2_with fail
   refine (Zmz _ (cmpN a.far b.far) (cmpN a.cost b.cost) _ ?_ ?_).mono ?_
   ·exact ZfK _ _ _ _ _ rfl
   ·exact ZfK _ _ _ _ _ rfl
   rintro e w3 ⟨rfl,rfl⟩;go_wp2;go_ret;exact⟨by rw [HRR.out];rfl,B2.alloc hw2s _,D2⟩
  ·rw [if_neg h4] at hR;have hd4:(a.kind==4)=false:=by simpa using h4
   clear h4;by_cases h3:a.kind=3
   ·rw [if_pos h3] at hR;have HRR:=hide hR;have hd3:(a.kind==3)=true:=by simpa using h3
    clear hR h3
    go_wp2_with fail
    refine (Zbi _ _ _).mono ?_;rintro e w3 ⟨rfl,rfl⟩
    go_wp2_with fail
    refine (Zmz _ O (cmpN a.cost b.cost) _ ?_ ?_).mono ?_
    ·exact ZfK _ _ _ _ _ rfl
    ·exact ZfK _ _ _ _ _ rfl
    rintro e w3 ⟨rfl,rfl⟩;go_wp2;go_ret;exact⟨by rw [HRR.out,HO.out];rfl,B2.alloc hw2s _,D2⟩
   ·rw [if_neg h3] at hR;have HRR:=hide hR;have hd3:(a.kind==3)=false:=by simpa using h3
    clear hR h3;go_wp2;go_ret;exact⟨by rw [HRR.out,HO.out];rfl,B2,D2⟩
 ·have hd:(O != 0)=true:=by simpa using h0
  have HRR:=hide (HR.out.trans (if_neg h0));clear HR h0;go_wp2;go_ret;exact⟨by rw [HRR.out];rfl,B2,D2⟩
theorem Zp8 (blk off size:Nat)(w:World):CmpLays Tryz.prog 131 #[] encS 6 cfS blk off size w:=
 fun _ _ _ _ x y=>(ZmA x.1 y.1 x.2.1 y.2.1 x.2.2.1 x.2.2.2 y.2.2.1 y.2.2.2 _).mono fun _ _ ⟨h1,h2,h3⟩=>⟨h1,Zqj h2 h3⟩
theorem Zoq (n:Nat)(w:World)(hn:n<=1000000):
  Calls Tryz.prog 99 #[.slice none 0 0,.int .i64 (n:Int)] w fun e w'=>∃ x,e=.returned x/\w'.ownsRow w.heap.size 108 3 x 0 []/\Below w.heap.size w w':=by
 by_cases h0:n=0
 ·subst h0;have h:=Any8.slices_Grow_room Tryz.growW none 0 0 0 w (YA _) (by omega) (by omega) (by omega);change Calls Tryz.prog 99 _ _ _ at h;exact h.mono fun e w' ⟨h1,h2⟩=>⟨_,h1,by rw [h2];exact YAZ _ _ _ _,by rw [h2];exact YAC _ _⟩
 ·have hi:=Tryz.infoWay;cases hf:Tryz.prog.info? 108 with
  | none=>rw [hf] at hi;cases hi
  | some i0=>
   rw [hf] at hi;simp only [Option.map_some,Option.some.injEq,Prod.mk.injEq] at hi;obtain⟨hz,hs,hb⟩:=hi;have h:=Any8.slices_Grow_grow Tryz.growW i0 (.agg (wayC Zbl (.slice none 0 0))) hf hz (by rw [hs];omega) none 0 0 n [] w (by omega) (by omega) (by rw [hb];omega) (by omega) (by simp) (fun _=>rfl) (fun a ha=>by cases ha);change Calls Tryz.prog 99 _ _ _ at h;refine h.mono fun e w' ⟨h1,h2⟩=>⟨_,h1,?_,?_⟩
   ·rw [h2];have hg:=grownCap_ge w (0+n) 0 108;have hm:=grownCap_le_maxLen w (0+n) 0 108 (by unfold maxLen;omega);exact World.ownsRow_made (base:=w.heap.size) (e:=108) (size:=3) w.drew _ _ (YA _) hm (by
     rw [Array.size_append,Array.size_append,size_zeroCells,size_zeroCells];rw [show (Value.cells (.agg (wayC Zbl (.slice none 0 0)))).size=3 from rfl];simp only [List.size_toArray,List.length_nil];change 0+(0+n-0)*3+(grownCap w (0+n) 0 108-(0+n))*3=grownCap w (0+n) 0 108*3;omega)
   ·rw [h2];exact (YAC w.heap.size w).drew.alloc (YA _) _
theorem Zk4 (ls:List (Value × List WP))(b:Nat)(w:World)(hb:∀ j x,ls[j]? = some x->w.cell? ⟨b,j,none⟩=some x.1)(hrows:∀ x∈ls,∃ base,w.ownsRow base 108 3 x.1 x.2.length (flat encW x.2))(hone:∀ x∈ls,∀ p∈x.2,∀ u∈encW p,u.oneCell'=true)(hn:sumL ls<=1000000)(hbl:b<w.heap.size)(hl:ls.length<=10):
  Calls Tryz.prog 64 #[.slice (some ⟨b,0,none⟩) ls.length ls.length] w fun e w'=>∃ x,e=.returned x/\w'.ownsRow w.heap.size 108 3 x (ZbZ ls).length (flat encW (ZbZ ls))/\Below w.heap.size w w':=by
 have HC:=hide hb;have HR:=hide hrows;have HO:=hide hone;have HG:=hide (fun W=>Zoq (sumL ls) W hn);clear hb hrows hone
 go_enter Tryz.func64,Tryz.ntmps64
 go_wp2
 go_loopw [11,3] (fun i s wr=>∃ (k:Nat),k<=ls.length/\i=.int .i64 (k:Int)/\s=.int .i64 ((sumL (ls.take k):Nat):Int)/\Below w.heap.size w wr) (fun i _ _=>ls.length-(intOf i).toNat)
 case atStart=>exact ⟨0,by omega,rfl,rfl,YAC _ _⟩
 case round=>
  obtain⟨k,hk,rfl,rfl,hnx⟩:=hrel;have hle:=ZcL ls k;by_cases hlt:k<ls.length
  ·obtain ⟨x,hx⟩:∃ x,ls[k]? = some x:=⟨ls[k],YAA hlt⟩;have c0:=HC.out k x hx;replace c0:=(hnx.cell hbl).trans c0;obtain⟨base,hrow⟩:=HR.out x (YAG hx);obtain⟨xa,xc,hxe⟩:=Zac hrow;rw [hxe] at c0;have hst:=ZdI hx;have hle2:=ZcL ls (k+1);have hki:(0:Int)<=(k:Int):=by omega
   have hkj:(k:Int)<(ls.length:Int):=by omega
   have hneg:¬((sumL (ls.take k):Int)+(x.2.length:Int)<0):=by omega
   have hb2:(sumL (ls.take k):Int)+(x.2.length:Int)<=1000000:=by omega
   have HST:=hide hst;have HN:=hide hnx;clear hx hrow hxe hnx hst hle hle2;go_wp2;go_roundw
   case rel=>exact ⟨k+1,by omega,by go_num,by rw [HST.out];simp,HN.out⟩
   case measure=>simp [intOf];omega
  ·have hkn:¬(k:Int)<(ls.length:Int):=by omega
   have hke:ls.take k=ls:=YAL (by omega);rw [hke];have HN:=hide hnx;clear hke hle hnx
   go_wp2_with fail
   refine (HG.out _).mono ?_;rintro e w1 ⟨x0,rfl,ho1,b1⟩;obtain⟨xa,xc,rfl⟩:=Zac ho1;have hb1:=b1.size;have hws:=HN.out.size;have HB1:=hide (HN.out.trans (b1.mono hws));have HO1:=hide (Zaf ho1 hws);clear ho1 b1 HN HG
   rename World=>wq
   go_wp2
   go_loopw [27,6] (fun i o wr=>∃ (k:Nat) (x:Value),k<=ls.length/\i=.int .i64 (k:Int)/\o=x/\wr.ownsRow w.heap.size 108 3 x (ZbZ (ls.take k)).length (flat encW (ZbZ (ls.take k)))/\Below w.heap.size w wr) (fun i _ _=>ls.length-(intOf i).toNat)
   case atStart=>exact ⟨0,_,by omega,rfl,rfl,HO1.out,HB1.out⟩
   case round=>
    obtain⟨j,y,hj,rfl,rfl,hown,hnx⟩:=hrel;clear HO1 HB1;obtain⟨ya,yc,rfl⟩:=Zac hown;have hle:=ZcL ls j;have hsz:=hnx.size;by_cases hlt:j<ls.length
    ·obtain ⟨x,hx⟩:∃ x,ls[j]? = some x:=⟨ls[j],YAA hlt⟩;have c0:=HC.out j x hx;replace c0:=(hnx.cell hbl).trans c0;obtain⟨base,hrow⟩:=HR.out x (YAG hx);have hrow2:=Zad hrow hnx (YA _);obtain⟨za,zc,hxe⟩:=Zac hrow;rw [hxe] at c0 hrow2;have hst:=ZdI hx;have hle2:=ZcL ls (j+1);have hjt:=Zgc hx;have hjl:=Zhh (ls.take j);have hki:(0:Int)<=(j:Int):=by omega
     have hkj:(j:Int)<(ls.length:Int):=by omega
     have HX:=hide hrow2;have HW:=hide hown;have HN:=hide hnx;have HJT:=hide hjt;have HX1:=hide (HO.out x (YAG hx));have hbd:(ZbZ (ls.take j)).length+x.2.length<=1000000000:=by omega
     clear hx hrow hrow2 hxe hnx hown hst hjt hle hle2 hjl
     go_wp2_with (first
      | (at_builtin;refine ZcX (fun l=>ZaD Zbg l) (by omega) (by omega) _ rfl _ _ 102 rfl w.heap.size 108 Tryz.underlying102 (.agg (wayC Zbl (.slice none 0 0))) rfl Tryz.infoWay _ (ZbZ (ls.take j)) rfl HW.out base _ x.2 HX1.out rfl HX.out (by omega) (by omega) ?_))
     intro v' w4 hown' hgrow;have N1:=hide (show w4.ownsRow w.heap.size 108 3 v' (ZbZ (ls.take (j+1))).length (flat encW (ZbZ (ls.take (j+1)))) by rw [HJT.out,YAN];exact hown');have N2:=hide (HN.out.grown hgrow (by omega) (fun k hk=>(HW.out.lt k hk).1));obtain⟨va,vc,rfl⟩:=Zac hown';clear hown' hgrow HX HW HN HJT HX1;go_wp2;go_roundw
     case rel=>exact ⟨j+1,_,by omega,by go_num,rfl,N1.out,N2.out⟩
     case measure=>simp [intOf];omega
    ·have hkn2:¬(j:Int)<(ls.length:Int):=by omega
     have hke:ls.take j=ls:=YAL (by omega);rw [hke] at hown |-;have HW:=hide hown;have HN:=hide hnx;clear hown hnx hke hle;go_wp2;go_ret;exact⟨_,rfl,HW.out,HN.out⟩
theorem Zoo (n:Nat)(w:World)(hn:n<=1000000):
  Calls Tryz.prog 100 #[.slice none 0 0,.int .i64 (n:Int)] w fun e w'=>∃ x,e=.returned x/\w'.ownsRow w.heap.size 42 6 x 0 []/\Below w.heap.size w w':=by
 by_cases h0:n=0
 ·subst h0;have h:=Any8.slices_Grow_room Tryz.growQ none 0 0 0 w (YA _) (by omega) (by omega) (by omega);change Calls Tryz.prog 100 _ _ _ at h;exact h.mono fun e w' ⟨h1,h2⟩=>⟨_,h1,by rw [h2];exact YAZ _ _ _ _,by rw [h2];exact YAC _ _⟩
 ·have hi:=Tryz.infoRoute;cases hf:Tryz.prog.info? 42 with
  | none=>rw [hf] at hi;cases hi
  | some i0=>
   rw [hf] at hi;simp only [Option.map_some,Option.some.injEq,Prod.mk.injEq] at hi;obtain⟨hz,hs,hb⟩:=hi;have h:=Any8.slices_Grow_grow Tryz.growQ i0 (.agg (rtC Zf3 (.slice none 0 0))) hf hz (by rw [hs];omega) none 0 0 n [] w (by omega) (by omega) (by rw [hb];omega) (by omega) (by simp) (fun _=>rfl) (fun a ha=>by cases ha);change Calls Tryz.prog 100 _ _ _ at h;refine h.mono fun e w' ⟨h1,h2⟩=>⟨_,h1,?_,?_⟩
   ·rw [h2];have hg:=grownCap_ge w (0+n) 0 42;have hm:=grownCap_le_maxLen w (0+n) 0 42 (by unfold maxLen;omega);exact World.ownsRow_made (base:=w.heap.size) (e:=42) (size:=6) w.drew _ _ (YA _) hm (by
     rw [Array.size_append,Array.size_append,size_zeroCells,size_zeroCells];rw [show (Value.cells (.agg (rtC Zf3 (.slice none 0 0)))).size=6 from rfl];simp only [List.size_toArray,List.length_nil];change 0+(0+n-0)*6+(grownCap w (0+n) 0 42-(0+n))*6=grownCap w (0+n) 0 42*6;omega)
   ·rw [h2];exact (YAC w.heap.size w).drew.alloc (YA _) _
theorem Zk2 (ls:List (Value × List QP))(b:Nat)(w:World)(hb:∀ j x,ls[j]? = some x->w.cell? ⟨b,j,none⟩=some x.1)(hrows:∀ x∈ls,∃ base,w.ownsRow base 42 6 x.1 x.2.length (flat encQ x.2))(hone:∀ x∈ls,∀ p∈x.2,∀ u∈encQ p,u.oneCell'=true)(hn:sumL ls<=1000000)(hbl:b<w.heap.size)(hl:ls.length<=10):
  Calls Tryz.prog 65 #[.slice (some ⟨b,0,none⟩) ls.length ls.length] w fun e w'=>∃ x,e=.returned x/\w'.ownsRow w.heap.size 42 6 x (ZbZ ls).length (flat encQ (ZbZ ls))/\Below w.heap.size w w':=by
 have HC:=hide hb;have HR:=hide hrows;have HO:=hide hone;have HG:=hide (fun W=>Zoo (sumL ls) W hn);clear hb hrows hone
 go_enter Tryz.func65,Tryz.ntmps65
 go_wp2
 go_loopw [11,3] (fun i s wr=>∃ (k:Nat),k<=ls.length/\i=.int .i64 (k:Int)/\s=.int .i64 ((sumL (ls.take k):Nat):Int)/\Below w.heap.size w wr) (fun i _ _=>ls.length-(intOf i).toNat)
 case atStart=>exact ⟨0,by omega,rfl,rfl,YAC _ _⟩
 case round=>
  obtain⟨k,hk,rfl,rfl,hnx⟩:=hrel;have hle:=ZcL ls k;by_cases hlt:k<ls.length
  ·obtain ⟨x,hx⟩:∃ x,ls[k]? = some x:=⟨ls[k],YAA hlt⟩;have c0:=HC.out k x hx;replace c0:=(hnx.cell hbl).trans c0;obtain⟨base,hrow⟩:=HR.out x (YAG hx);obtain⟨xa,xc,hxe⟩:=Zac hrow;rw [hxe] at c0;have hst:=ZdI hx;have hle2:=ZcL ls (k+1);have hki:(0:Int)<=(k:Int):=by omega
   have hkj:(k:Int)<(ls.length:Int):=by omega
   have hneg:¬((sumL (ls.take k):Int)+(x.2.length:Int)<0):=by omega
   have hb2:(sumL (ls.take k):Int)+(x.2.length:Int)<=1000000:=by omega
   have HST:=hide hst;have HN:=hide hnx;clear hx hrow hxe hnx hst hle hle2;go_wp2;go_roundw
   case rel=>exact ⟨k+1,by omega,by go_num,by rw [HST.out];simp,HN.out⟩
   case measure=>simp [intOf];omega
  ·have hkn:¬(k:Int)<(ls.length:Int):=by omega
   have hke:ls.take k=ls:=YAL (by omega);rw [hke];have HN:=hide hnx;clear hke hle hnx
   go_wp2_with fail
   refine (HG.out _).mono ?_;rintro e w1 ⟨x0,rfl,ho1,b1⟩;obtain⟨xa,xc,rfl⟩:=Zac ho1;have hb1:=b1.size;have hws:=HN.out.size;have HB1:=hide (HN.out.trans (b1.mono hws));have HO1:=hide (Zaf ho1 hws);clear ho1 b1 HN HG
   rename World=>wq
   go_wp2
   go_loopw [27,6] (fun i o wr=>∃ (k:Nat) (x:Value),k<=ls.length/\i=.int .i64 (k:Int)/\o=x/\wr.ownsRow w.heap.size 42 6 x (ZbZ (ls.take k)).length (flat encQ (ZbZ (ls.take k)))/\Below w.heap.size w wr) (fun i _ _=>ls.length-(intOf i).toNat)
   case atStart=>exact ⟨0,_,by omega,rfl,rfl,HO1.out,HB1.out⟩
   case round=>
    obtain⟨j,y,hj,rfl,rfl,hown,hnx⟩:=hrel;clear HO1 HB1;obtain⟨ya,yc,rfl⟩:=Zac hown;have hle:=ZcL ls j;have hsz:=hnx.size;by_cases hlt:j<ls.length
    ·obtain ⟨x,hx⟩:∃ x,ls[j]? = some x:=⟨ls[j],YAA hlt⟩;have c0:=HC.out j x hx;replace c0:=(hnx.cell hbl).trans c0;obtain⟨base,hrow⟩:=HR.out x (YAG hx);have hrow2:=Zad hrow hnx (YA _);obtain⟨za,zc,hxe⟩:=Zac hrow;rw [hxe] at c0 hrow2;have hst:=ZdI hx;have hle2:=ZcL ls (j+1);have hjt:=Zgc hx;have hjl:=Zhh (ls.take j);have hki:(0:Int)<=(j:Int):=by omega
     have hkj:(j:Int)<(ls.length:Int):=by omega
     have HX:=hide hrow2;have HW:=hide hown;have HN:=hide hnx;have HJT:=hide hjt;have HX1:=hide (HO.out x (YAG hx));have hbd:(ZbZ (ls.take j)).length+x.2.length<=1000000000:=by omega
     clear hx hrow hrow2 hxe hnx hown hst hjt hle hle2 hjl
     go_wp2_with (first
      | (at_builtin;refine ZcX (fun l=>ZaD Zcg l) (by omega) (by omega) _ rfl _ _ 38 rfl w.heap.size 42 Tryz.underlying38 (.agg (rtC Zf3 (.slice none 0 0))) rfl Tryz.infoRoute _ (ZbZ (ls.take j)) rfl HW.out base _ x.2 HX1.out rfl HX.out (by omega) (by omega) ?_))
     intro v' w4 hown' hgrow;have N1:=hide (show w4.ownsRow w.heap.size 42 6 v' (ZbZ (ls.take (j+1))).length (flat encQ (ZbZ (ls.take (j+1)))) by rw [HJT.out,YAN];exact hown');have N2:=hide (HN.out.grown hgrow (by omega) (fun k hk=>(HW.out.lt k hk).1));obtain⟨va,vc,rfl⟩:=Zac hown';clear hown' hgrow HX HW HN HJT HX1;go_wp2;go_roundw
     case rel=>exact ⟨j+1,_,by omega,by go_num,rfl,N1.out,N2.out⟩
     case measure=>simp [intOf];omega
    ·have hkn2:¬(j:Int)<(ls.length:Int):=by omega
     have hke:ls.take j=ls:=YAL (by omega);rw [hke] at hown |-;have HW:=hide hown;have HN:=hide hnx;clear hown hnx hke hle;go_wp2;go_ret;exact⟨_,rfl,HW.out,HN.out⟩

end Go.Proofs.YtikloccefmofdaaGreat
