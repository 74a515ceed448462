/-
  Parts.
-/
import Derived.Test.YtdhnddfnckgbjaaGreatZi21
namespace Go.Proofs.YtdhnddfnckgbjaaGreat
open Go.RowKit
set_option linter.unusedSimpArgs false
set_option linter.unusedVariables false
set_option maxRecDepth 100000
set_option maxHeartbeats 8000000
structure HerW (W:World) (lo hi:Nat) (uh:Value) (hs:List WP) (un:Value) (ns:List WP) (ub:Value) (bs:List WP):Prop where
 h:WaysOwn W lo hi uh hs
 n:WaysOwn W lo hi un ns
 b:WaysOwn W lo hi ub bs
theorem HerW.below {W W':World}{lo hi B:Nat}{uh un ub:Value}{hs ns bs:List WP}(h:HerW W lo hi uh hs un ns ub bs)(hb:Below B W W')(hB:hi<=B):HerW W' lo hi uh hs un ns ub bs:=⟨h.h.below hb hB,h.n.below hb hB,h.b.below hb hB⟩
theorem HerW.keep {W W':World}{lo hi:Nat}{uh un ub:Value}{hs ns bs:List WP}(h:HerW W lo hi uh hs un ns ub bs)(hk:∀ k,lo<=k->k<hi->k<W.heap.size->W'.heap[k]? = W.heap[k]?):HerW W' lo hi uh hs un ns ub bs:=⟨h.h.keep hk,h.n.keep hk,h.b.keep hk⟩
def Zcv (al:List Int)(area:Int)(k:Nat):List Int:=(al.take k).filter (fun a=>a != area)
theorem Zjj {al:List Int}{area a:Int}{k:Nat}(h:al[k]? = some a):Zcv al area (k+1)=Zcv al area k++(if a != area then [a] else []):=by
 obtain⟨hk,e⟩:=YAD.1 h;unfold Zcv;rw [YAJ hk,e,List.filter_append];congr 1;cases hd:(a != area) <;> simp [List.filter,hd]
theorem ZkK (al:List Int)(area:Int)(k:Nat):(Zcv al area k).length<=k:=by
 unfold Zcv;exact YAG (List.length_filter_le _ _) (by rw [List.length_take];omega)
theorem Zmk (v u:Value)(ps:List RP)(al:List Int)(hi:Nat)(src area:Int)(w:World)(hv:RecsIn w hi v ps)(ha:Zal w u al hi)(hhi:hi<=w.heap.size)(hn:tot ps<=1048576)(hal:al.length<=1048576):
  Calls Tryz.prog 104 #[v,u,.int .i64 src,.int .i64 area] w fun e w'=>∃ x qs,e=.returned x/\ZcH (fsts ps) al src area (fsts qs)/\RecsOwn w' w.heap.size w'.heap.size x qs/\Below w.heap.size w w':=by
 obtain⟨a1,c1,rfl⟩:=Zac hv.row;obtain⟨a2,c2,rfl⟩:=ha.shape;have LIT:=Zfz w w.heap.size (YA _);have hs1:(w.alloc (.cells #[] 132)).heap.size=w.heap.size+1:=by simp
 have B1:Below w.heap.size w (w.alloc (.cells #[] 132)):=(YAB _ _).alloc (YA _) _;obtain⟨w1,hw1⟩:∃ W,W=w.alloc (.cells #[] 132):=⟨_,rfl⟩;rw [<-hw1] at LIT hs1 B1;have HSK:=hide (ZcM (.slice a1 ps.length c1) ps w1 hn (ZbT.more ((hv.below B1 hhi).at) (YAG hhi B1.size)));have HWI:=hide (fun W (hb:Below w.heap.size w W)=>Zee (.slice a1 ps.length c1) ps hi area src W (hv.below hb hhi) (YAG hhi hb.size) hn);have HWN:=hide (fun (u2:Value) (l2:List Int) W (hb:Below w.heap.size w W) (h2:Zal W u2 l2 W.heap.size) (hl:l2.length<=1048576)=>Zef (.slice a1 ps.length c1) u2 ps l2 W.heap.size src W ((hv.below hb hhi).wide (YAG hhi hb.size)) h2 (YA _) hn hl);have HWB:=hide (fun W (hb:Below w.heap.size w W)=>Zgd (.slice a1 ps.length c1) (.slice a2 al.length c2) ps al hi true src W (hv.below hb hhi) (Zau.later ha hb hhi) (YAG hhi hb.size) hn hal);have HA:=hide ha;clear hv ha;have HLIT:=hide LIT;have HS1:=hide hs1;clear LIT hs1;obtain⟨SB,hSB⟩:∃ b,b=ZaN (fsts ps):=⟨_,rfl⟩;rw [<-hSB] at HSK;have HSB:=hide hSB;clear hSB
 go_enter Tryz.func104,Tryz.ntmps104
 go_wp2_with fail
 rw [<-hw1];clear hw1;refine HSK.out.mono ?_;rintro e w2 ⟨rfl,b2⟩;have hb2:=b2.size;have hB1s:=B1.size;have B2:Below w.heap.size w w2:=B1.trans (b2.mono hB1s);have HL2:=hide (HLIT.out.below b2 (YA _));clear HSK HLIT b2;cases SB
 ·have HE:=hide (show ZcH (fsts ps) al src area (fsts []) from ⟨List.Pairwise.nil,fun r=>⟨fun h=>by simp [fsts] at h,fun ⟨to,c,_,h⟩=>by have h9:=Zk5 h;rw [<-HSB.out] at h9;cases h9⟩⟩);have HO:=hide (HL2.out.wide (YA _) hb2);have HN:=hide B2;clear HL2 HWI HWN HWB B2;go_wp2;go_ret
  first
   | exact ⟨_,[],rfl,HE.out,HO.out,HN.out⟩
   | exact ⟨_,rfl,[],HE.out,HO.out,HN.out⟩
 have OI:=Zck w2 w2.heap.size w2.heap.size rfl (YA _);have BI:Below w2.heap.size w2 (w2.alloc (.cells #[] 3)):=(YAB _ _).alloc (YA _) _;obtain⟨w0,hw0⟩:∃ W,W=w2.alloc (.cells #[] 3):=⟨_,rfl⟩;rw [<-hw0] at OI BI;have HOI:=hide OI;clear OI;go_wp2;rw [<-hw0];clear hw0
 go_loopw [11,10] (fun i o wr=>∃ (k:Nat) (x:Value),k<=al.length/\i=.int .i64 (k:Int)/\o=x/\wr.ownsRow w2.heap.size 3 1 x (Zcv al area k).length (flat intE (Zcv al area k))/\Below w2.heap.size w2 wr) (fun i _ _=>al.length-(intOf i).toNat)
 case atStart=>exact ⟨0,_,by omega,rfl,rfl,HOI.out,BI⟩
 case round=>
  obtain⟨k,x,hk,rfl,rfl,hown,hnx⟩:=hrel;clear HOI BI;obtain⟨xa,xc,rfl⟩:=Zac hown;have hsz:=hnx.size;have hol:=ZkK al area k;have BW:Below w.heap.size w wr:=B2.trans (hnx.mono B2.size);have OW:=hide hown;clear hown;by_cases hlt:k<al.length
  ·obtain ⟨a,har⟩:∃ a,al[k]? = some a:=⟨al[k],YAA hlt⟩;obtain⟨b,off,cap',hve,hbb,c0⟩:=HA.out.cell k a har;cases hve;have hbw:b<w.heap.size:=by omega
   replace c0:=(BW.cell hbw).trans c0;have hki:(0:Int)<=(k:Int):=by omega
   have hkj:(k:Int)<(al.length:Int):=by omega
   have HST:=hide (Zjj (area:=area) har);obtain⟨C,hC⟩:∃ C,C=Zcv al area k:=⟨_,rfl⟩;rw [<-hC] at OW HST hol |-;clear hC har;obtain⟨dd,hdd⟩:∃ d,d=(a != area):=⟨_,rfl⟩;rw [<-hdd] at HST;have hd:(a != area)=dd:=hdd.symm;clear hdd;cases dd
   ·have HOW:=hide (show wr.ownsRow w2.heap.size 3 1 (.slice xa C.length xc) (Zcv al area (k+1)).length (flat intE (Zcv al area (k+1))) by rw [HST.out];simpa using OW.out);clear OW HST;go_wp2;go_roundw
    case rel=>exact ⟨k+1,_,by omega,by go_num,rfl,HOW.out,hnx⟩
    case measure=>simp [intOf];omega
   ·go_wp2_with (first
     | (at_builtin;refine Zay Zc8 (by omega) (by omega) _ rfl _ _ 37 rfl w2.heap.size 3 Tryz.underlying37 (.int .i64 0) rfl Tryz.info3 _ C a (Zcj _) rfl (OW.out.alloc _) ⟨wr.heap.size,0,none⟩ 1 rfl (Zak (cs:=intE a)) (by omega) (by simp;omega) ?_))
    intro v' w4 hown' hgrow;have B4:Below w2.heap.size w2 w4:=(hnx.alloc hsz _).grown hgrow (by simp;omega) (fun j hj=>(OW.out.lt j hj).1);have O4:=hide (show w4.ownsRow w2.heap.size 3 1 v' (Zcv al area (k+1)).length (flat intE (Zcv al area (k+1))) by rw [HST.out];simpa using hown');obtain⟨va,vc,rfl⟩:=Zac hown';clear hown' hgrow;go_wp2;go_roundw
    case rel=>exact ⟨k+1,_,by omega,by go_num,rfl,O4.out,B4⟩
    case measure=>simp [intOf];omega
  ·have hkn:¬(k:Int)<(al.length:Int):=by omega
   obtain⟨C,hC⟩:∃ C,C=Zcv al area k:=⟨_,rfl⟩;have HCE:=hide (show C=al.filter (fun a=>a != area) by rw [hC];unfold Zcv;rw [YAc (by omega)]);rw [<-hC] at OW hol |-;have HO:=hide ((HL2.out.below hnx (by omega)).wide (YA _) (show w1.heap.size<=wr.heap.size by omega))
   rename World=>wo
   clear hC HL2 hnx
   go_wp2_with fail
   refine (HWI.out _ BW).mono ?_;rintro e wh ⟨uh,hs,rfl,hhs0,hoh,bh⟩;obtain⟨uha,uhc,rfl⟩:=Zac hoh.row;have hhs:=hhs0.eq;have hbh:=bh.size;have BWH:Below w.heap.size w wh:=BW.trans (bh.mono BW.size);have OWH:=ZaM (Zad OW.out bh (YA _));have HO2:=hide ((HO.out.below bh (YA _)).wide (YA _) hbh);have HOH:=hide hoh;clear hhs0 hoh HO
   go_wp2_with fail
   refine (HWN.out _ C _ BWH OWH (by omega)).mono ?_;rintro e wn ⟨un,ns,rfl,hbn,hon,bn⟩;obtain⟨una,unc,rfl⟩:=Zac hon.row;have hbns:=bn.size;have BWN:Below w.heap.size w wn:=BWH.trans (bn.mono BWH.size);have HO3:=hide ((HO2.out.below bn (YA _)).wide (YA _) hbns);have HON:=hide hon;have HBN:=hide hbn;clear hon hbn OWH HO2
   go_wp2_with fail
   refine (HWB.out _ BWN).mono ?_;rintro e wB ⟨ub,bs,rfl,hbb0,hob,bB⟩;obtain⟨uba,ubc,rfl⟩:=Zac hob.row;have hbB:=bB.size;have BWB:Below w.heap.size w wB:=BWN.trans (bB.mono BWN.size);have HO4:=hide ((HO3.out.below bB (YA _)).wide (YA _) hbB);have HHER:=hide (show HerW wB w1.heap.size wB.heap.size (.slice uha hs.length uhc) hs (.slice una ns.length unc) ns (.slice uba bs.length ubc) bs from ⟨(HOH.out.below (bn.trans (bB.mono hbns)) (YA _)).wide (by omega) (by omega),(HON.out.below bB (YA _)).wide (by omega) (by omega),hob.wide (by omega) (YA _)⟩);have HBB:=hide hbb0;have hht:totW hs<=1048576:=by have:=ZhS hhs;omega
   have hnt:totW ns<=1048576:=by have:=Zdq HBN.out (fun to d h=>ZaL h);omega
   have hbt:totW bs<=1048576:=by have:=Zdq HBB.out (fun to d h=>ZaU h);omega
   obtain⟨uh,huh⟩:∃ v,v=Value.slice uha hs.length uhc:=⟨_,rfl⟩;obtain⟨un,hun⟩:∃ v,v=Value.slice una ns.length unc:=⟨_,rfl⟩;obtain⟨ub,hub⟩:∃ v,v=Value.slice uba bs.length ubc:=⟨_,rfl⟩;have HTH:=hide (fun (z:Int) (W:World) (h:HerW W w1.heap.size wB.heap.size uh hs un ns ub bs) (hh:wB.heap.size<=W.heap.size)=>by have r:=ZbY uh hs w1.heap.size wB.heap.size z W h.h hh hht;rw [hhs] at r;exact r);have HTN:=hide (fun (z:Int) (W:World) (h:HerW W w1.heap.size wB.heap.size uh hs un ns ub bs) (hh:wB.heap.size<=W.heap.size)=>ZbY un ns w1.heap.size wB.heap.size z W h.n hh hnt);have HTB:=hide (fun (z:Int) (W:World) (h:HerW W w1.heap.size wB.heap.size uh hs un ns ub bs) (hh:wB.heap.size<=W.heap.size)=>ZbY ub bs w1.heap.size wB.heap.size z W h.b hh hbt);rw [<-huh, <-hun, <-hub] at HHER |-;have HHER0:=HHER;clear HHER hob hbb0 HOH HON bn bB bh HO3 hhs huh hun hub BW BWH BWN OW HWI HWN HWB;go_wp2
   go_loopw [15,9] (fun i o wr=>∃ (t:Nat) (x:Value) (qs:List RP),1<=t/\t<=7/\i=.int .i64 (t:Int)/\o=x/\RecsOwn wr w.heap.size wr.heap.size x qs/\Hid (ZaF (fsts ps) al src area (t:Int) (fsts qs))/\Off x w1.heap.size wB.heap.size/\HerW wr w1.heap.size wB.heap.size uh hs un ns ub bs/\Below w.heap.size w wr/\wB.heap.size<=wr.heap.size) (fun i _ _=>8-(intOf i).toNat)
   case atStart=>exact ⟨1,_,[],by omega,by omega,rfl,rfl,HO4.out,hide ZaF.none,fun b hb=>by simp [Value.ownBlock] at hb;have:=HS1.out;omega,HHER0.out,BWB,YA _⟩
   case round=>
    obtain⟨t,x,qs,ht1,ht7,rfl,rfl,hown,HB,hoff,hher,hnx,hsz⟩:=hrel;clear HO4 HHER0 BWB;obtain⟨xa,xc,rfl⟩:=Zac hown.row
    rename World=>wt
    by_cases ht:t<=6
    ·have ht6:(t:Int)<=6:=by omega
     have HOWN:=hide hown;have HHER:=hide hher;have HOFF:=hide hoff;have hq6:qs.length<=6:=by have h:=HB.out.len.1;simpa [fsts] using h
     have hnh:=Znd (fsts ps) area src (t:Int);have HW1:=HTH.out (t:Int) wt hher hsz;obtain⟨D,hD⟩:∃ D,D=ZbE (Zcd (fsts ps) area src) (t:Int):=⟨_,rfl⟩;obtain⟨F1,hF1⟩:∃ F,F=Zbb (Zcd (fsts ps) area src) (t:Int):=⟨_,rfl⟩;rw [<-hD, <-hF1] at HW1;rw [<-hF1] at hnh;have HNH:=hide hnh;have H1:=hide HW1;unfold wayC at H1;clear hown hher hoff hnh HW1 hD hF1
     go_wp2_with fail
     refine (H1.out).mono ?_;rintro e w3 ⟨du,rfl,hdu,b3⟩;obtain⟨dua,duc,rfl⟩:=Zac hdu;have hb3:=b3.size;have BT:Below wt.heap.size wt (w3.alloc (.cells #[.int .i64 D.to,.int .i64 D.cost,.slice dua D.hops.length duc] 144)):=b3.trans (((YAB w3.heap.size w3).alloc (YA _) _).mono hb3);clear hdu b3 H1;cases F1
     case true=>
      have N1:=hide ((HOWN.out.below BT (YA _)).wide (YA _) BT.size);have N2:=hide (show ZaF (fsts ps) al src area ((t+1:Nat):Int) (fsts qs) from by
       have h:=HB.out.skip (t:=(t:Int)) (fun c hc=>by rcases HNH.out with ⟨_,h2⟩ | ⟨h1,_⟩;exact h2 hc.1;cases h1);rw [show ((t+1:Nat):Int)=(t:Int)+1 by omega];exact h)
      have N3:=hide (HHER.out.below BT hsz);have N4:=hide (hnx.trans (BT.mono hnx.size));have hszr:wB.heap.size<=(w3.alloc (.cells #[.int .i64 D.to,.int .i64 D.cost,.slice dua D.hops.length duc] 144)).heap.size:=by have:=BT.size;omega
      clear HOWN HHER BT;go_wp2;go_roundw
      case rel=>exact ⟨t+1,_,qs,by omega,by omega,by go_num,rfl,N1.out,N2,HOFF.out,N3.out,N4.out,hszr⟩
      case measure=>simp [intOf];omega
     have hnn:Zf3 (fsts ps) area src (t:Int):=by
      rcases HNH.out with ⟨h1,_⟩ | ⟨_,h2⟩
      ·cases h1
      ·exact h2
     have HNN:=hide hnn;clear hnn HNH;by_cases hts:(t:Int)=src
     case pos=>
      have hd:((t:Int)==src)=true:=by simpa using hts
      have HTS:=hide hts;clear hts;have N1:=hide ((HOWN.out.below BT (YA _)).wide (YA _) BT.size);have N2:=hide (show ZaF (fsts ps) al src area ((t+1:Nat):Int) (fsts qs) from by
       have h:=HB.out.skip (t:=(t:Int)) (fun c hc=>hc.2.1 HTS.out);rw [show ((t+1:Nat):Int)=(t:Int)+1 by omega];exact h)
      have N3:=hide (HHER.out.below BT hsz);have N4:=hide (hnx.trans (BT.mono hnx.size));have hszr:wB.heap.size<=(w3.alloc (.cells #[.int .i64 D.to,.int .i64 D.cost,.slice dua D.hops.length duc] 144)).heap.size:=by have:=BT.size;omega
      clear HOWN HHER BT;go_wp2;go_roundw
      case rel=>exact ⟨t+1,_,qs,by omega,by omega,by go_num,rfl,N1.out,N2,HOFF.out,N3.out,N4.out,hszr⟩
      case measure=>simp [intOf];omega
     have hd:((t:Int)==src)=false:=by simpa using hts
     have HTS:=hide hts;clear hts;have hwn2:∀ d,ZaI (fsts ps) C src (t:Int) d↔ZaI (fsts ps) al src (t:Int) d:=fun d=>by rw [HCE.out];exact Zgx HNN.out d
     have hbh:=ZjL HBN.out (t:Int);have hbb:=ZjL HBB.out (t:Int);obtain⟨E,hE⟩:∃ E,E=ZbE (Zam ns) (t:Int):=⟨_,rfl⟩;obtain⟨F2,hF2⟩:∃ F,F=Zbb (Zam ns) (t:Int):=⟨_,rfl⟩;obtain⟨w4,hw4⟩:∃ W,W=(w3.alloc (.cells #[.int .i64 D.to,.int .i64 D.cost,.slice dua D.hops.length duc] 144)):=⟨_,rfl⟩;rw [<-hw4] at BT;have HW2:=HTN.out (t:Int) w4 (HHER.out.below BT hsz) (by have:=BT.size;omega);rw [<-hE, <-hF2] at HW2 hbh;have HBH:=hide hbh;have HBY:=hide hbb;have HWN2:=hide hwn2;have H2:=hide HW2;unfold wayC at H2;clear hbh hbb hwn2 HW2 hE hF2
     go_wp2_with fail
     rw [<-hw4];clear hw4;refine (H2.out).mono ?_;rintro e w5 ⟨eu,rfl,heu,b5⟩;obtain⟨eua,euc,rfl⟩:=Zac heu;have hb5:=b5.size;have hwt4:wt.heap.size<=w4.heap.size:=BT.size;have BT0:=BT;have BT6:Below wt.heap.size wt (w5.alloc (.cells #[.int .i64 E.to,.int .i64 E.cost,.slice eua E.hops.length euc] 144)):=BT.trans ((b5.trans (((YAB w5.heap.size w5).alloc (YA _) _).mono hb5)).mono BT.size);have hx6:=YAE w5 (.cells #[.int .i64 E.to,.int .i64 E.cost,.slice eua E.hops.length euc] 144);have d1:=Zaa hx6 1;simp at d1;clear heu b5 H2 BT BT0;have BT:=BT6;clear BT6;cases F2
     case true=>
      have hbe:Zav (t:Int) (ZaI (fsts ps) al src (t:Int)) (some E):=by
       rcases HBH.out with ⟨_,h2⟩ | ⟨h1,_⟩
       ·exact h2.congr HWN2.out
       ·cases h1
      have HTO:=hide (show ZcX (fsts ps) al src area (t:Int) E.cost from ⟨HNN.out,HTS.out,.inl ⟨E,hbe,rfl⟩⟩);clear hbe;clear HBH HBY HWN2 hx6;have BN:Below wt.heap.size wt ((w5.alloc (.cells #[.int .i64 E.to,.int .i64 E.cost,.slice eua E.hops.length euc] 144)).alloc (.cells #[.int .i64 area,.int .i64 2,.int .i64 src,.int .i64 (t:Int),.int .i64 0,.slice none 0 0,.int .i64 E.cost,.bool false] 132)):=BT.trans (((YAB _ _).alloc (YA _) _).mono BT.size);have OW:=hide ((Zad HOWN.out.row BT (YA _)).alloc (.cells #[.int .i64 area,.int .i64 2,.int .i64 src,.int .i64 (t:Int),.int .i64 0,.slice none 0 0,.int .i64 E.cost,.bool false] 132));have HHO:=hide (show ZaE ((w5.alloc (.cells #[.int .i64 E.to,.int .i64 E.cost,.slice eua E.hops.length euc] 144)).alloc (.cells #[.int .i64 area,.int .i64 2,.int .i64 src,.int .i64 (t:Int),.int .i64 0,.slice none 0 0,.int .i64 E.cost,.bool false] 132)) wt.heap.size ((w5.alloc (.cells #[.int .i64 E.to,.int .i64 E.cost,.slice eua E.hops.length euc] 144)).alloc (.cells #[.int .i64 area,.int .i64 2,.int .i64 src,.int .i64 (t:Int),.int .i64 0,.slice none 0 0,.int .i64 E.cost,.bool false] 132)).heap.size (Zcc area src (t:Int) E.cost,Value.slice none 0 0) from ⟨YAj _ _ _ _,fun k hk=>by simp [Value.ownBlock] at hk⟩);have HKP:=hide (show (HerW ((w5.alloc (.cells #[.int .i64 E.to,.int .i64 E.cost,.slice eua E.hops.length euc] 144)).alloc (.cells #[.int .i64 area,.int .i64 2,.int .i64 src,.int .i64 (t:Int),.int .i64 0,.slice none 0 0,.int .i64 E.cost,.bool false] 132)) w1.heap.size wB.heap.size uh hs un ns ub bs) from HHER.out.below BN hsz);have N2:=hide (show ZaF (fsts ps) al src area ((t+1:Nat):Int) (fsts (qs++[(Zcc area src (t:Int) E.cost,Value.slice none 0 0)])) from by
       have h:=HB.out.push HTO.out;rw [show ((t+1:Nat):Int)=(t:Int)+1 by omega];have e:fsts (qs++[(Zcc area src (t:Int) E.cost,Value.slice none 0 0)])=fsts qs++[Zcc area src (t:Int) E.cost]:=by simp [fsts]
       rw [e];exact h)
      have hws:=hnx.size;have HAS:=hide (show (w5.alloc (.cells #[.int .i64 E.to,.int .i64 E.cost,.slice eua E.hops.length euc] 144)).heap.size=w5.heap.size+1 by simp);have hBTs:wt.heap.size<=w5.heap.size+1:=by have h:=BT.size;rw [HAS.out] at h;exact h
      go_wp2_with (first
       | (at_builtin;refine ZaG Zb7 (by omega) (by omega) _ rfl _ _ 104 rfl w.heap.size 132 Tryz.underlying104 (.agg (recC Zb3 (.slice none 0 0))) rfl Tryz.infoRec _ qs (Zcc area src (t:Int) E.cost,Value.slice none 0 0) (Zci _ _ _ _) rfl OW.out ⟨w5.heap.size+1,0,none⟩ 1 rfl (fun j u hj=>by
         have h:=Zak (w:=(w5.alloc (.cells #[.int .i64 E.to,.int .i64 E.cost,.slice eua E.hops.length euc] 144))) (cs:=encP (Zcc area src (t:Int) E.cost,Value.slice none 0 0)) (t:=132) j u hj;rw [HAS.out] at h;exact h) (by omega) (by simp;omega) ?_))
      intro v' w9 hown' hgrow hat;have N1:=hide (HOWN.out.push BN hws HHO.out (by simpa using hown') hgrow);have N3:=hide (HKP.out.keep (HOFF.out.kept hgrow));have N4:=hide ((hnx.trans (BN.mono hws)).grown hgrow (by have:=BN.size;omega) (fun j hj=>(HOWN.out.row.lt j hj).1));have N5:=hide (HOFF.out.next (x':=v') (B:=wB.heap.size) (fun j hj=>by
       rcases hat with h1 | h1
       ·exact .inl (by rw [<-h1];exact hj)
       ·right;rw [h1] at hj;simp at hj;have:=BT.size
        first | omega | (simp at this;omega)) (YA _))
      have hszr:wB.heap.size<=w9.heap.size:=by
       have h1:=hgrow.size;simp at h1;omega
      obtain⟨va,vc,rfl⟩:=Zac hown';clear hown' hgrow hat BN OW HHO HKP BT;go_wp2;go_roundw
      case rel=>exact ⟨t+1,_,qs++[(Zcc area src (t:Int) E.cost,Value.slice none 0 0)],by omega,by omega,by go_num,rfl,N1.out,N2,N5.out,N3.out,N4.out,hszr⟩
      case measure=>simp [intOf];omega
     have hnw:∀ d,¬ZaI (fsts ps) al src (t:Int) d:=fun d h=>by
      rcases HBH.out with ⟨h1,_⟩ | ⟨_,h2⟩
      ·cases h1
      ·exact h2 d ((HWN2.out d).2 h)
     have HNW:=hide hnw;clear hnw HBH HWN2;by_cases ha0:area=0
     case pos=>
      have hda:(area != 0)=false:=by simpa using ha0
      have HA0:=hide ha0;clear ha0;have N1:=hide ((HOWN.out.below BT (YA _)).wide (YA _) BT.size);have N2:=hide (show ZaF (fsts ps) al src area ((t+1:Nat):Int) (fsts qs) from by
       have h:=HB.out.skip (t:=(t:Int)) (fun c hc=>by rcases hc.2.2 with ⟨w,h1,_⟩ | ⟨h1,_⟩;exact ZhB HNW.out h1;exact h1 HA0.out);rw [show ((t+1:Nat):Int)=(t:Int)+1 by omega];exact h)
      have N3:=hide (HHER.out.below BT hsz);have N4:=hide (hnx.trans (BT.mono hnx.size));have hszr:wB.heap.size<=(w5.alloc (.cells #[.int .i64 E.to,.int .i64 E.cost,.slice eua E.hops.length euc] 144)).heap.size:=by have:=BT.size;omega
      clear hx6 d1;clear HOWN HHER BT;go_wp2;go_roundw
      case rel=>exact ⟨t+1,_,qs,by omega,by omega,by go_num,rfl,N1.out,N2,HOFF.out,N3.out,N4.out,hszr⟩
      case measure=>simp [intOf];omega
     have hda:(area != 0)=true:=by simpa using ha0
     have HA0:=hide ha0;clear ha0;obtain⟨G,hG⟩:∃ G,G=ZbE (Zam bs) (t:Int):=⟨_,rfl⟩;obtain⟨F3,hF3⟩:∃ F,F=Zbb (Zam bs) (t:Int):=⟨_,rfl⟩;obtain⟨w6,hw6⟩:∃ W,W=(w5.alloc (.cells #[.int .i64 E.to,.int .i64 E.cost,.slice eua E.hops.length euc] 144)):=⟨_,rfl⟩;rw [<-hw6] at BT hx6;have HW3:=HTB.out (t:Int) w6 (HHER.out.below BT hsz) (by have:=BT.size;omega);rw [<-hG, <-hF3] at HW3;rw [<-hG, <-hF3] at HBY;have H3:=hide HW3;unfold wayC at H3;have hz6:=Zab hx6;have HX6:=hide hx6;clear HW3 hG hF3 hx6 d1
     go_wp2_with fail
     rw [<-hw6];clear hw6;refine (H3.out).mono ?_;rintro e w7 ⟨gu,rfl,hgu,b7⟩;obtain⟨gua,guc,rfl⟩:=Zac hgu;have hb7:=b7.size;have hx7:=(b7.block _ hz6).trans HX6.out;have BT7:Below wt.heap.size wt w7:=BT.trans (b7.mono BT.size);have hwt3:wt.heap.size<=w5.heap.size:=by omega
     have BT8:Below wt.heap.size wt (ZbJ w7 w5.heap.size G (.slice gua G.hops.length guc)):=BT7.grown (ZbH w7 w5.heap.size G (.slice gua G.hops.length guc)) BT7.size (fun j hj=>by simp at hj;omega);have d0:=Zaa hx7 0;have d1:=Zaa hx7 1;have d2:=Zaa hx7 2;simp at d0 d1 d2;have fd:=Zae hx7;clear hgu b7 H3 HX6 hx7 BT BT7;have BT:=BT8;clear BT8;cases F3
     case false=>
      have N1:=hide ((HOWN.out.below BT (YA _)).wide (YA _) BT.size);have N2:=hide (show ZaF (fsts ps) al src area ((t+1:Nat):Int) (fsts qs) from by
       have h:=HB.out.skip (t:=(t:Int)) (fun c hc=>by rcases hc.2.2 with ⟨w,h1,_⟩ | ⟨_,w,h1,_⟩;exact ZhB HNW.out h1;rcases HBY.out with ⟨h2,_⟩ | ⟨_,h2⟩;cases h2;exact ZhB h2 h1);rw [show ((t+1:Nat):Int)=(t:Int)+1 by omega];exact h)
      have N3:=hide (HHER.out.below BT hsz);have N4:=hide (hnx.trans (BT.mono hnx.size));have hszr:wB.heap.size<=(ZbJ w7 w5.heap.size G (.slice gua G.hops.length guc)).heap.size:=by have:=BT.size;omega
      clear HOWN HHER BT;go_wp2;go_roundw
      case rel=>exact ⟨t+1,_,qs,by omega,by omega,by go_num,rfl,N1.out,N2,HOFF.out,N3.out,N4.out,hszr⟩
      case measure=>simp [intOf];omega
     have hbe:Zav (t:Int) (Zb0 (fsts ps) al true src (t:Int)) (some G):=by
      rcases HBY.out with ⟨_,h2⟩ | ⟨h1,_⟩
      ·exact h2
      ·cases h1
     have HTO:=hide (show ZcX (fsts ps) al src area (t:Int) G.cost from ⟨HNN.out,HTS.out,.inr ⟨HA0.out,G,hbe,rfl⟩⟩);clear hbe;clear HBY HNW;have BN:Below wt.heap.size wt ((ZbJ w7 w5.heap.size G (.slice gua G.hops.length guc)).alloc (.cells #[.int .i64 area,.int .i64 2,.int .i64 src,.int .i64 (t:Int),.int .i64 0,.slice none 0 0,.int .i64 G.cost,.bool false] 132)):=BT.trans (((YAB _ _).alloc (YA _) _).mono BT.size);have OW:=hide ((Zad HOWN.out.row BT (YA _)).alloc (.cells #[.int .i64 area,.int .i64 2,.int .i64 src,.int .i64 (t:Int),.int .i64 0,.slice none 0 0,.int .i64 G.cost,.bool false] 132));have HHO:=hide (show ZaE ((ZbJ w7 w5.heap.size G (.slice gua G.hops.length guc)).alloc (.cells #[.int .i64 area,.int .i64 2,.int .i64 src,.int .i64 (t:Int),.int .i64 0,.slice none 0 0,.int .i64 G.cost,.bool false] 132)) wt.heap.size ((ZbJ w7 w5.heap.size G (.slice gua G.hops.length guc)).alloc (.cells #[.int .i64 area,.int .i64 2,.int .i64 src,.int .i64 (t:Int),.int .i64 0,.slice none 0 0,.int .i64 G.cost,.bool false] 132)).heap.size (Zcc area src (t:Int) G.cost,Value.slice none 0 0) from ⟨YAj _ _ _ _,fun k hk=>by simp [Value.ownBlock] at hk⟩);have HKP:=hide (show (HerW ((ZbJ w7 w5.heap.size G (.slice gua G.hops.length guc)).alloc (.cells #[.int .i64 area,.int .i64 2,.int .i64 src,.int .i64 (t:Int),.int .i64 0,.slice none 0 0,.int .i64 G.cost,.bool false] 132)) w1.heap.size wB.heap.size uh hs un ns ub bs) from HHER.out.below BN hsz);have N2:=hide (show ZaF (fsts ps) al src area ((t+1:Nat):Int) (fsts (qs++[(Zcc area src (t:Int) G.cost,Value.slice none 0 0)])) from by
      have h:=HB.out.push HTO.out;rw [show ((t+1:Nat):Int)=(t:Int)+1 by omega];have e:fsts (qs++[(Zcc area src (t:Int) G.cost,Value.slice none 0 0)])=fsts qs++[Zcc area src (t:Int) G.cost]:=by simp [fsts]
      rw [e];exact h)
     have hws:=hnx.size;have HAS:=hide (show (ZbJ w7 w5.heap.size G (.slice gua G.hops.length guc)).heap.size=w7.heap.size by simp);have hBTs:wt.heap.size<=w7.heap.size:=by have h:=BT.size;rw [HAS.out] at h;exact h
     go_wp2_with (first
      | (at_builtin;refine ZaG Zb7 (by omega) (by omega) _ rfl _ _ 104 rfl w.heap.size 132 Tryz.underlying104 (.agg (recC Zb3 (.slice none 0 0))) rfl Tryz.infoRec _ qs (Zcc area src (t:Int) G.cost,Value.slice none 0 0) (Zci _ _ _ _) rfl OW.out ⟨w7.heap.size,0,none⟩ 1 rfl (fun j u hj=>by
        have h:=Zak (w:=(ZbJ w7 w5.heap.size G (.slice gua G.hops.length guc))) (cs:=encP (Zcc area src (t:Int) G.cost,Value.slice none 0 0)) (t:=132) j u hj;rw [HAS.out] at h;exact h) (by omega) (by simp;omega) ?_))
     intro v' w9 hown' hgrow hat;have N1:=hide (HOWN.out.push BN hws HHO.out (by simpa using hown') hgrow);have N3:=hide (HKP.out.keep (HOFF.out.kept hgrow));have N4:=hide ((hnx.trans (BN.mono hws)).grown hgrow (by have:=BN.size;omega) (fun j hj=>(HOWN.out.row.lt j hj).1));have N5:=hide (HOFF.out.next (x':=v') (B:=wB.heap.size) (fun j hj=>by
      rcases hat with h1 | h1
      ·exact .inl (by rw [<-h1];exact hj)
      ·right;rw [h1] at hj;simp at hj;have:=BT.size
       first | omega | (simp at this;omega)) (YA _))
     have hszr:wB.heap.size<=w9.heap.size:=by
      have h1:=hgrow.size;simp at h1;omega
     obtain⟨va,vc,rfl⟩:=Zac hown';clear hown' hgrow hat BN OW HHO HKP BT;go_wp2;go_roundw
     case rel=>exact ⟨t+1,_,qs++[(Zcc area src (t:Int) G.cost,Value.slice none 0 0)],by omega,by omega,by go_num,rfl,N1.out,N2,N5.out,N3.out,N4.out,hszr⟩
     case measure=>simp [intOf];omega
    ·have ht6:¬(t:Int)<=6:=by omega
     have htt:(t:Int)=7:=by omega
     have HE:=hide (show ZcH (fsts ps) al src area (fsts qs) from ZaF.all (by have h:=HB.out;rw [htt] at h;exact h));have HO:=hide hown;have HN:=hide hnx;clear hown hnx HB hoff hher htt;go_wp2;go_ret
     first
      | exact ⟨_,qs,rfl,HE.out,HO.out,HN.out⟩
      | exact ⟨_,rfl,qs,HE.out,HO.out,HN.out⟩

theorem ZnR {l:List RtD}{n m:Nat}(h:l.length<=n)(hm:∀ r∈l,r.hops.length<=m):ZhL l<=n*(m+1):=by
 induction l generalizing n with
 | nil=>simp [ZhL]
 | cons a l ih=>
  rw [Zk7];simp only [YAd] at h;obtain⟨k,rfl⟩:∃ k,n=k+1:=⟨n-1,by omega⟩;have h1:=ih (n:=k) (by omega) (fun r hr=>hm r (by simp [hr]));have h2:=hm a (by simp);rw [Nat.add_mul];omega
theorem ZkQ {xs:List RecD}{al:List Int}{border:Bool}{src:Int}{l:List RtD}(h:ZbZ xs al border src l)(hs:ZaN xs=true):ZhL l<=147:=by
 obtain⟨ds,es,ts,h1,h2,h3,rfl⟩:=h;have g1:=h1.good (fun to d h=>ZaL h);have g2:=h2.good (fun to d h=>ZaU h);have g3:=h3.goodT (fun to d h=>Zb5 hs g1 g2 h);have l1:=ZeJ h1.1 (fun d hd=>(g1 d hd).node);have l2:=ZeJ h2.1 (fun d hd=>(g2 d hd).node);have l3:=Zg8 h3.1 (fun d hd=>(g3 d hd).node);have n1:(Zdj 1 src ds).length<=ds.length:=by unfold Zdj;rw [YAb];exact List.length_filter_le _ _
 have n2:(Zdj 2 src es).length<=es.length:=by unfold Zdj;rw [YAb];exact List.length_filter_le _ _
 have:=ZnR (n:=21) (m:=6) (l:=Zdj 1 src ds++Zdj 2 src es++ts.map rtOf) (by simp only [YAM,YAb];omega) (fun r hr=>by
  rcases YAH.1 hr with h | h
  ·rcases YAH.1 h with h | h
   ·obtain ⟨d,hd,_,rfl⟩:=ZdO h;exact (g1 d hd).len
   ·obtain ⟨d,hd,_,rfl⟩:=ZdO h;exact (g2 d hd).len
  ·obtain ⟨d,hd,rfl⟩:=YAV.1 h;have:=(g3 d hd).len;unfold rtOf
   split <;> exact this)
 omega
end Go.Proofs.YtdhnddfnckgbjaaGreat
namespace Go.Proofs.YtdhnddfnckgbjaaGreat
open Go.RowKit
open Go.ChangeMaps (setBlock)

set_option linter.unusedSimpArgs false
set_option linter.unusedVariables false

theorem ZnA {W:World}{lo hi r m clk:Nat}{eb:List BS}{es:List (PS × Value)}(hes:eb.map (·.2)=es){ord:List Nat}{c0:Nat}(hl:LgAt W lo hi m (eb.map entB) clk)(hr:RgP W r m clk eb ord c0)(hrm:r≠m):
  ((∀ j,j<es.length->j∈ord)/\(Instr.next (.pointer (some ⟨r,0,none⟩)) false 0).run Tryz.prog W=.ok (.tuple #[.bool false]) W) \/
  ∃ (j:Nat) (x:PS × Value) (W1:World),es[j]? = some x/\j ∉ ord/\RgP W1 r m clk eb (ord++[j]) clk/\W.grownBy W1 (some r) /\
   (Instr.next (.pointer (some ⟨r,0,none⟩)) false 0).run Tryz.prog W=.ok (.tuple #[.bool true,kV x.1.2.1.thing x.1.2.1.to,x.2]) W1 /\
   (Instr.entry (.pointer (some ⟨r,0,none⟩))).run Tryz.prog W1=.ok (.tuple #[kV x.1.2.1.thing x.1.2.1.to,x.2]) W1:=by
 subst hes;rcases Znz hl hr hrm with ⟨h1,h2⟩ | ⟨j,x,W1,hj,h3,h4,h5,h6,h7⟩
 ·exact .inl ⟨fun j hj=>h1 j (by simpa using hj),h2⟩
 ·exact .inr ⟨j,x.2,W1,by rw [YAZ,hj];rfl,h3,h4,h5,h6,h7⟩

set_option maxRecDepth 100000 in
set_option maxHeartbeats 4000000 in
theorem ZlT (lo m clk:Nat)(eb:List BS)(es:List (PS × Value))(hes:eb.map (·.2)=es)(blo:Nat)(w:World)(h:LgAt w lo w.heap.size m (eb.map entB) clk)(hlen:es.length<=1048576)
  (hhop:∀ x∈es,w.ownsRow blo 3 1 (psP x.1).2.2 x.1.2.1.hops.length (flat intE x.1.2.1.hops)) (hhl:∀ x∈es,x.1.2.1.hops.length<=1048576) (hasc:(es.map (fun x=>psP x.1)).Pairwise (fun a b=>a.1<b.1)):
  Calls Tryz.prog 19 #[.map (some m)] w fun e w'=>∃ u qs,e=.returned u/\Zag qs=es.map (fun x=>x.1.2.1)/\LnsOwn w' w.heap.size w'.heap.size u qs/\Below w.heap.size w w':=by
 have hmw:m<w.heap.size:=h.high;have hm:=h.map;have hrg:=run_range_map (P:=Tryz.prog) w 43 46 66 m (Za6 (eb.map entB)).toArray clk Tryz.underlying43 hm;have HL:=hide h;have HHOP:=hide hhop;have HASC:=hide hasc;have HHL:=hide hhl;clear h hhop hasc hm hhl;have bI:=(YAB w.heap.size w).alloc (YA _) (.mapIter (some m) clk #[] clk);have hI:=YAE w (.mapIter (some m) clk #[] clk);obtain⟨WI,hWI⟩:∃ WI,WI=w.alloc (.mapIter (some m) clk #[] clk):=⟨_,rfl⟩;rw [<-hWI] at hrg bI hI;clear hWI;have hRG:RgP WI w.heap.size m clk eb [] clk:=⟨⟨hI,YA _,by simp⟩,by simp,by simp⟩;have HRG:=hide hRG;have hIs:=Zab hI;clear hI hRG
 go_enter Tryz.func19,Tryz.ntmps19
 go_wp2;clear hrg
 go_loopw [3] (fun s wr=>∃ (ord:List Nat) (ua:Option Addr) (uc c0:Nat),s=.slice ua ord.length uc/\Hid (RgP wr w.heap.size m clk eb ord c0)/\ord.length<=es.length/\Hid (wr.ownsRow (w.heap.size+1) 68 4 (.slice ua ord.length uc) ord.length (flat Zbz (Zcx es ord)))/\Below w.heap.size w wr) (fun s _=>es.length-lenV s)
 case atStart=>exact ⟨[],none,0,clk,rfl,HRG,by simp,hide (YAj _ _ _ _),bI⟩
 case round=>
  obtain⟨ord,ua,uc,c0,rfl,HR,hol,HOW,hnx⟩:=hrel;have hlm:=HL.out.below hnx (YA _);have hrs:=Zab HR.out.g.it;rcases ZnA hes hlm HR.out (by omega) with ⟨hall,hrun⟩ | ⟨j,x,W1,hx,hj,hR1,hg1,hrun,hent⟩
  ·have HALL:=hide hall;clear hall hlm;have hperm:=Zj3 (d:=dPS) HR.out.nd (fun j hj=>by have:=HR.out.lt j hj;rw [<-hes,YAb];exact this) HALL.out;have hpm:((Zcx es ord).map psP).Perm (es.map (fun x=>psP x.1)):=by
    have h1:=hperm.map (fun x=>psP x.1);rw [YAa] at h1;unfold Zcx;rw [YAa];exact h1
   have hordl:ord.length=es.length:=by have:=hperm.length_eq;simpa using this
   have hrow:wr.ownsRow (w.heap.size+1) 68 4 (.slice ua ord.length uc) ((Zcx es ord).map psP).length (flat Zbu ((Zcx es ord).map psP)):=by
    rw [ZlG,YAb,ZbL];exact HOW.out
   have HSO:=hide (ZiB (.slice ua ord.length uc) _ (w.heap.size+1) wr hrow (fun q hq=>by
    obtain⟨y,_,rfl⟩:=YAV.1 hq;exact⟨_,_,_,rfl⟩) (by rw [YAb,ZbL];omega))
   have HPM:=hide hpm;have HRW:=hide hrow;have HORD:=hide hordl;clear hperm hpm hrow HOW hordl
   go_wp2_with fail
   refine HSO.out.mono ?_;rintro e w2 ⟨rfl,qs,hqp,hqs,hown2,hg2⟩;have hqe:qs=es.map (fun x=>psP x.1):=Zgk _ _ (hqp.trans HPM.out) hqs HASC.out;subst hqe;have bW2:Below w.heap.size w w2:=hnx.grown hg2 hnx.size (fun k hk=>by have:=(HRW.out.lt k hk).1;omega);rw [YAb] at hown2;rw [HORD.out] at hown2 |-;have HO2:=hide hown2;have hw2s:=bW2.size;clear hqp hqs hown2 hg2 HRW HPM HSO HR HALL hnx hrun HORD hol;go_wp2;have b3:=(YAB w2.heap.size w2).alloc (YA _) (.cells #[] 39);have o3:LnsOwn (w2.alloc (.cells #[] 39)) w2.heap.size (w2.alloc (.cells #[] 39)).heap.size (.slice (some ⟨w2.heap.size,0,none⟩) 0 0) []:=by
    have h1:(w2.alloc (.cells #[] 39)).ownsRow w2.heap.size 39 3 (.slice (some ⟨w2.heap.size,0,none⟩) 0 0) 0 (flat encJ []):=YAU w2 #[] 0 (YA _) (by unfold maxLen;omega) (by simp);exact⟨h1,fun k hk=>(h1.lt k hk).2,by simp,by simp⟩
   generalize w2.alloc (.cells #[] 39)=W3 at *;have B3:=hide b3;have O3:=hide o3;clear b3 o3
   go_loopw [6,23] (fun s i wr=>∃ (k:Nat) (ys:List JP) (ya:Option Addr) (yc:Nat),k<=es.length/\i=.int .i64 (k:Int)/\s=.slice ya k yc/\Hid (Zag ys=(es.take k).map (fun x=>x.1.2.1))/\Hid (LnsOwn wr w2.heap.size wr.heap.size (.slice ya k yc) ys)/\Below w2.heap.size w2 wr) (fun _ i _=>es.length-(intOf i).toNat)
   case atStart=>exact ⟨0,[],_,0,by omega,rfl,rfl,hide (by simp [Zag]),O3,B3.out⟩
   case round=>
    obtain⟨k,ys,ya,yc,hk,rfl,rfl,HYS,HYO,hny⟩:=hrel;have hysl:ys.length=k:=by have h1:=congrArg List.length HYS.out;simpa [Zag,List.length_take,Nat.min_eq_left hk] using h1
    by_cases hlt:k<es.length
    ·obtain ⟨x,hx⟩:∃ x,es[k]? = some x:=⟨es[k],YAA hlt⟩;obtain⟨g,gc,hue,hg1,hgl⟩:=ZbC HO2.out (by omega);cases hue;have hcell:∀ c u,(Zbu (psP x.1))[c]? = some u->c<4->wr.cell? ⟨g,k*4+c,none⟩=some u:=fun c u hu hc=>by
      rw [hny.cell (p:=⟨g,k*4+c,none⟩) hgl,HO2.out.cellAt _ (by omega),Zbi Zds _ k c (psP x.1) (by rw [YAZ,hx];rfl) hc];exact hu
     have c0:=hcell 0 _ rfl (by omega);have c1:=hcell 1 _ rfl (by omega);have c2:=hcell 2 _ rfl (by omega);have c3:=hcell 3 _ rfl (by omega);rw [Nat.add_zero] at c0;have hxm:=YAF hx;have hho:=HHOP.out x hxm;have hhl:=HHL.out x hxm;obtain⟨⟨pl,xl,xa,xn,xc⟩,xv⟩:=x;simp only [psP] at c0 c1 c2 c3 hho hhl;have bwr:Below w.heap.size w wr:=bW2.trans (hny.mono hw2s);have hwrs:=bwr.size;have hys:=hny.size;have HOL:=hide (fun W (hb:Below w.heap.size w W)=>Zd7 xl (.slice xa xn xc) blo W (Zad hho hb (YA _)) hhl);unfold lnC at HOL;have HTK:=hide (show (es.take (k+1)).map (fun x=>x.1.2.1)=(es.take k).map (fun x=>x.1.2.1)++[xl] by
      obtain⟨h1,h2⟩:=YAD.1 hx;rw [YAJ h1,YAW,h2];rfl)
     have hki:(0:Int)<=(k:Int):=by omega
     have hkj:(k:Int)<(es.length:Int):=by omega
     have HYL:=hide hysl;clear hx hxm hho hcell hysl
     go_wp2_with fail
     have bb:=(YAB wr.heap.size wr).alloc (YA _) (.cells #[.int .i64 pl,.bool xl.thing,.int .i64 xl.to,.slice xa xn xc] 68);obtain⟨W5,hW5⟩:∃ W5,W5=wr.alloc (.cells #[.int .i64 pl,.bool xl.thing,.int .i64 xl.to,.slice xa xn xc] 68):=⟨_,rfl⟩;rw [<-hW5] at bb |-;clear hW5;refine (HOL.out _ (bwr.trans (bb.mono hwrs))).mono ?_;rintro e w6 ⟨v6,rfl,hn6,b6⟩;obtain⟨n6a,n6c,rfl⟩:=Zac hn6;have b56:Below wr.heap.size wr w6:=bb.trans (b6.mono bb.size);have b5s:=bb.size;have b6s:=b6.size;have HYO6:=HYO;rw [show (k:Nat)=ys.length from HYL.out.symm] at HYO6
     go_wp2_with (first
      | (at_builtin;refine Zay Zb6 (by omega) (by omega) _ rfl _ _ 24 rfl w2.heap.size 39 Tryz.underlying24 (.agg (lnC ZdW (.slice none 0 0))) rfl Tryz.infoLine _ ys (xl,.slice n6a xl.hops.length n6c) (Zfs _ _ _ _) rfl ((Zad HYO.out.row b56 (YA _)).alloc _) ⟨w6.heap.size,0,none⟩ 1 rfl (Zak (cs:=encJ (xl,.slice n6a xl.hops.length n6c))) (by have:=HYL.out;omega) (by simp;omega) ?_))
     intro v' w7 hown' hgrow;have ow7:=HYO.out.push (p:=(xl,.slice n6a xl.hops.length n6c)) (b56.alloc b56.size _) (by omega) (ZaW.wide (ZaW.keep ⟨Zaf hn6 b5s,fun k hk=>(hn6.lt k hk).2⟩ (fun j _ _ h3=>YAI _ _ _ h3)) (YA _) (by simp)) (by simpa using hown') hgrow;have hl7:(ys++[(xl,Value.slice n6a xl.hops.length n6c)]).length=k+1:=by rw [YAM,HYL.out];rfl
     have hb7:Below w2.heap.size w2 w7:=((hny.trans (b56.mono hys)).alloc (by omega) _).grown hgrow (by simp;omega) (fun k hk=>(HYO.out.row.lt k hk).1);obtain⟨va,vc,hve⟩:=Zac ow7.row;rw [hl7] at hve;subst hve;have OW7:=hide ow7;have HY7:=hide (show Zag (ys++[(xl,Value.slice n6a xl.hops.length n6c)])=(es.take (k+1)).map (fun x=>x.1.2.1) by rw [HTK.out, <-HYS.out];simp [Zag]);clear ow7 hown' hgrow hn6 HYO HYO6 HYS HTK HOL hl7;go_wp2;go_roundw
     case rel=>exact ⟨k+1,ys++[(xl,.slice n6a xl.hops.length n6c)],va,vc,by omega,by go_num,rfl,HY7,OW7,hb7⟩
     case measure=>simp [intOf];omega
    ·have hkn:k=es.length:=by omega
     have KN:=hide hkn;clear hkn hysl;go_wp2;go_ret;refine⟨_,ys,rfl,?_,(HYO.out.wide hw2s (YA _)),bW2.trans (hny.mono hw2s)⟩;have h1:=HYS.out;rw [KN.out,YAX] at h1;exact h1
  ·have hxr:w.ownsRow lo 68 4 (ent9 x).2 1 (Zbu (ent9 x).1)/\∀ k,(ent9 x).2.ownBlock=some k->k<w.heap.size:=by
    have h8:=YAF hx;rw [<-hes] at h8;obtain⟨xb,h6,h7⟩:=YAV.1 h8;have h9:=HL.out.rows (entB xb) (List.mem_map_of_mem h6);rw [<-h7];exact h9
   obtain⟨xa,xc,hxe⟩:=Zac hxr.1;have hxe2:x.2=.slice xa 1 xc:=hxe;rw [hxe2] at hrun hent;unfold kV at hrun hent;have bW1:Below w.heap.size w W1:=hnx.grown hg1 hnx.size (fun k hk=>by simp at hk;omega);have hrow1:W1.ownsRow lo 68 4 (.slice xa 1 xc) [x.1].length (flat Zbz [x.1]):=by
    have h1:=Zmd (x:=x.1) (v:=x.2) hxr.1;rw [hxe2] at h1;exact Zai h1 (fun k e=>bW1.block k (hxr.2 k (by show x.2.ownBlock=_;rw [hxe2];exact e)))
   have hown1:W1.ownsRow (w.heap.size+1) 68 4 (.slice ua ord.length uc) ord.length (flat Zbz (Zcx es ord)):=
    Zai HOW.out (fun k e=>hg1.block k (HOW.out.lt k e).2 (fun e9=>by have:=(HOW.out.lt k e).1;simp at e9;omega))
   have hjl:j<es.length:=(YAD.1 hx).1;have hol2:ord.length+1<=es.length:=by
    have h1:=hR1.nd.length_le_of_subset (l₂:=List.range es.length) (fun k hk=>by rw [List.mem_range, <-hes,YAb];exact hR1.lt k hk);rw [YAM,List.length_range] at h1;exact h1
   have HPU:=hide (ZgZ (ord:=ord) hx);have HROW1:=hide hrow1;have HOWN1:=hide hown1;have HR1:=hide hR1;clear hrow1 hown1 hR1 hg1 hxr hxe hxe2 hx hj HR HOW hlm hnx;have hs1:=bW1.size
   go_wp2_with (first
    | (at_builtin;refine Zbw ZgM (by omega) ZfO (by omega) _ rfl _ _ 66 rfl (w.heap.size+1) 68 Tryz.underlying66 (.agg #[.int .i64 0,.bool false,.int .i64 0,.slice none 0 0]) rfl Tryz.infoPlaced _ (Zcx es ord) rfl ?own0 lo _ [x.1] rfl HROW1.out (by simp [ZbL];omega) ?sz0 ?_))
   case own0=>rw [ZbL];exact HOWN1.out
   case sz0=>have:=Zab HR1.out.g.it;omega
   intro v' w4 hown' hgrow;have hown2:w4.ownsRow (w.heap.size+1) 68 4 v' (ord.length+1) (flat Zbz (Zcx es (ord++[j]))):=by
    rw [<-HPU.out];simpa [ZbL] using hown'
   clear hown';obtain⟨va,vc,rfl⟩:=Zac hown2;have hlen4:(ord++[j]).length=ord.length+1:=by simp
   have hrb:w4.heap[w.heap.size]? = W1.heap[w.heap.size]? := hgrow.block _ (Zab HR1.out.g.it) (fun e9=>by have:=(HOWN1.out.lt _ e9.symm).1;omega);have HR4:=hide (show RgP w4 w.heap.size m clk eb (ord++[j]) clk from ⟨⟨hrb.trans HR1.out.g.it,HR1.out.g.c,HR1.out.g.nd⟩,HR1.out.nd,HR1.out.lt⟩);have HB4:=hide (bW1.grown hgrow hs1 (fun k hk=>by have:=(HOWN1.out.lt k hk).1;omega));have HO4:=hide (show w4.ownsRow (w.heap.size+1) 68 4 (.slice va (ord++[j]).length vc) (ord++[j]).length (flat Zbz (Zcx es (ord++[j]))) by rw [hlen4];exact hown2);have hol3:(ord++[j]).length<=es.length:=by rw [hlen4];exact hol2
   have HLN:=hide hlen4;have HRF:=hide (show Value.slice va (ord.length+1) vc=.slice va (ord++[j]).length vc by rw [hlen4]);clear hown2 hgrow hrb HR1 HOWN1 HROW1 HPU hlen4;go_wp2;go_roundw
   case rel=>exact ⟨ord++[j],va,vc,clk,HRF.out,HR4,hol3,HO4,HB4.out⟩
   case measure=>simp only [lenV];omega
end Go.Proofs.YtdhnddfnckgbjaaGreat
