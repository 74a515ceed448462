/-
  TellT BeyondI
-/
import Derived.Test.YtadokhjefnkajaaGreatIe39
import Derived.Test.YtadokhjefnkajaaGreatIe40
import Derived.Test.YtadokhjefnkajaaGreatIe20
import Derived.Test.YtadokhjefnkajaaGreatIe24
import Derived.Test.YtadokhjefnkajaaGreatIe41
namespace Go.Proofs.YtadokhjefnkajaaGreat
open Go.RowKit
set_option linter.unusedSimpArgs false
set_option linter.unusedVariables false
set_option maxRecDepth 100000
set_option maxHeartbeats 8000000
structure HerW (W:World) (lo hi:Nat) (uh:Value) (hs:List WP) (un:Value) (ns:List WP) (ub:Value) (bs:List WP):Prop where
 h:WaysOwn W lo hi uh hs
 n:WaysOwn W lo hi un ns
 b:WaysOwn W lo hi ub bs
theorem HerW.below {W W':World}{lo hi B:Nat}{uh un ub:Value}{hs ns bs:List WP}(h:HerW W lo hi uh hs un ns ub bs)(hb:Below B W W')(hB:hi<=B):HerW W' lo hi uh hs un ns ub bs:=⟨h.h.below hb hB,h.n.below hb hB,h.b.below hb hB⟩
theorem HerW.keep {W W':World}{lo hi:Nat}{uh un ub:Value}{hs ns bs:List WP}(h:HerW W lo hi uh hs un ns ub bs)(hk:∀ k,lo<=k->k<hi->k<W.heap.size->W'.heap[k]? = W.heap[k]?):HerW W' lo hi uh hs un ns ub bs:=⟨h.h.keep hk,h.n.keep hk,h.b.keep hk⟩
def ZcO (al:List Int)(area:Int)(k:Nat):List Int:=(al.take k).filter (fun a=>a != area)
theorem Zkb {al:List Int}{area a:Int}{k:Nat}(h:al[k]? = some a):ZcO al area (k+1)=ZcO al area k++(if a != area then [a] else []):=by
 obtain⟨hk,e⟩:=List.getElem?_eq_some_iff.1 h;unfold ZcO;rw [List.take_succ_eq_append_getElem hk,e,List.filter_append]
 congr 1
 cases hd:(a != area) <;> simp [List.filter,hd]
theorem ZlS (al:List Int)(area:Int)(k:Nat):(ZcO al area k).length<=k:=by
 unfold ZcO;exact Nat.le_trans (List.length_filter_le _ _) (by rw [List.length_take];omega)
theorem ZnF (v u:Value)(ps:List RP)(al:List Int)(hi:Nat)(src area:Int)(w:World)(hv:RecsIn w hi v ps)(ha:ZaM w u al hi)(hhi:hi<=w.heap.size)(hn:tot ps<=1048576)(hal:al.length<=1048576):
  Calls Tryz.prog 142 #[v,u,.int .i64 src,.int .i64 area] w fun e w'=>∃ x qs,e=.returned x/\ZbH (fsts ps) al src area (fsts qs)/\RecsOwn w' w.heap.size w'.heap.size x qs/\Below w.heap.size w w':=by
 obtain⟨a1,c1,rfl⟩:=Zac hv.row;obtain⟨a2,c2,rfl⟩:=ha.shape;have LIT:=Zct w w.heap.size (Nat.le_refl _);have hs1:(w.alloc (.cells #[] 39)).heap.size=w.heap.size+1:=by simp
 have B1:Below w.heap.size w (w.alloc (.cells #[] 39)):=(Below.refl _ _).alloc (Nat.le_refl _) _;obtain⟨w1,hw1⟩:∃ W,W=w.alloc (.cells #[] 39):=⟨_,rfl⟩;rw [<-hw1] at LIT hs1 B1;have HSK:=hide (ZdL (.slice a1 ps.length c1) ps w1 hn (Zbn.more ((hv.below B1 hhi).at) (Nat.le_trans hhi B1.size)));have HWI:=hide (fun W (hb:Below w.heap.size w W)=>Zew (.slice a1 ps.length c1) ps hi area src W (hv.below hb hhi) (Nat.le_trans hhi hb.size) hn)
 have HWN:=hide (fun (u2:Value) (l2:List Int) W (hb:Below w.heap.size w W) (h2:ZaM W u2 l2 W.heap.size) (hl:l2.length<=1048576)=>ZgA (.slice a1 ps.length c1) u2 ps l2 W.heap.size src W ((hv.below hb hhi).wide (Nat.le_trans hhi hb.size)) h2 (Nat.le_refl _) hn hl)
 have HWB:=hide (fun W (hb:Below w.heap.size w W)=>Zkd (.slice a1 ps.length c1) (.slice a2 al.length c2) ps al hi true src W (hv.below hb hhi) (ZaE.later ha hb hhi) (Nat.le_trans hhi hb.size) hn hal)
 have HA:=hide ha;clear hv ha;have HLIT:=hide LIT;have HS1:=hide hs1;clear LIT hs1;obtain⟨SB,hSB⟩:∃ b,b=ZaI (fsts ps):=⟨_,rfl⟩;rw [<-hSB] at HSK;have HSB:=hide hSB;clear hSB
 go_enter Tryz.func142,Tryz.ntmps142
 go_wp2_with fail
 rw [<-hw1];clear hw1;refine HSK.out.mono ?_
 rintro e w2 ⟨rfl,b2⟩;have hb2:=b2.size;have hB1s:=B1.size;have B2:Below w.heap.size w w2:=B1.trans (b2.mono hB1s);have HL2:=hide (HLIT.out.below b2 (Nat.le_refl _));clear HSK HLIT b2;cases SB
 ·have HE:=hide (show ZbH (fsts ps) al src area (fsts []) from ⟨List.Pairwise.nil,fun r=>⟨fun h=>by simp [fsts] at h,fun ⟨to,c,_,h⟩=>by have h9:=Zme h;rw [<-HSB.out] at h9;cases h9⟩⟩)
  have HO:=hide (HL2.out.wide (Nat.le_refl _) hb2);have HN:=hide B2;clear HL2 HWI HWN HWB B2
  go_wp2
  go_ret
  first
   | exact ⟨_,[],rfl,HE.out,HO.out,HN.out⟩
   | exact ⟨_,rfl,[],HE.out,HO.out,HN.out⟩
 have OI:=Zc0 w2 w2.heap.size w2.heap.size rfl (Nat.le_refl _);have BI:Below w2.heap.size w2 (w2.alloc (.cells #[] 3)):=(Below.refl _ _).alloc (Nat.le_refl _) _;obtain⟨w0,hw0⟩:∃ W,W=w2.alloc (.cells #[] 3):=⟨_,rfl⟩;rw [<-hw0] at OI BI;have HOI:=hide OI;clear OI
 go_wp2
 rw [<-hw0];clear hw0
 go_loopw [11,10] (fun i o wr=>∃ (k:Nat) (x:Value),k<=al.length/\i=.int .i64 (k:Int)/\o=x/\wr.ownsRow w2.heap.size 3 1 x (ZcO al area k).length (flat intE (ZcO al area k))/\Below w2.heap.size w2 wr) (fun i _ _=>al.length-(intOf i).toNat)
 case atStart=>exact ⟨0,_,by omega,rfl,rfl,HOI.out,BI⟩
 case round=>
  obtain⟨k,x,hk,rfl,rfl,hown,hnx⟩:=hrel;clear HOI BI;obtain⟨xa,xc,rfl⟩:=Zac hown;have hsz:=hnx.size;have hol:=ZlS al area k;have BW:Below w.heap.size w wr:=B2.trans (hnx.mono B2.size);have OW:=hide hown;clear hown;by_cases hlt:k<al.length
  ·obtain ⟨a,har⟩:∃ a,al[k]? = some a:=⟨al[k],List.getElem?_eq_getElem hlt⟩
   obtain⟨b,off,cap',hve,hbb,c0⟩:=HA.out.cell k a har;cases hve
   have hbw:b<w.heap.size:=by omega
   rw [<-BW.cell (p:=⟨b,off+k,none⟩) hbw] at c0;have hki:(0:Int)<=(k:Int):=by omega
   have hkj:(k:Int)<(al.length:Int):=by omega
   have HST:=hide (Zkb (area:=area) har);obtain⟨C,hC⟩:∃ C,C=ZcO al area k:=⟨_,rfl⟩;rw [<-hC] at OW HST hol |-;clear hC har;obtain⟨dd,hdd⟩:∃ d,d=(a != area):=⟨_,rfl⟩;rw [<-hdd] at HST;have hd:(a != area)=dd:=hdd.symm;clear hdd;cases dd
   ·have HOW:=hide (show wr.ownsRow w2.heap.size 3 1 (.slice xa C.length xc) (ZcO al area (k+1)).length (flat intE (ZcO al area (k+1))) by rw [HST.out];simpa using OW.out)
    clear OW HST
    go_wp2
    go_roundw
    case rel=>exact ⟨k+1,_,by omega,by go_num,rfl,HOW.out,hnx⟩
    case measure=>simp [intOf];omega
   ·go_wp2_with (first
     | (at_builtin;refine ZaL ZdV (by omega) (by omega) _ rfl _ _ 28 rfl w2.heap.size 3 Tryz.underlying28 (.int .i64 0) rfl Tryz.info3 _ C a (ZcY _) rfl (OW.out.alloc _) ⟨wr.heap.size,0,none⟩ 1 rfl (Zay (cs:=intE a)) (by omega) (by simp;omega) ?_))
    intro v' w4 hown' hgrow;have B4:Below w2.heap.size w2 w4:=(hnx.alloc hsz _).grown hgrow (by simp;omega) (fun j hj=>(OW.out.lt j hj).1)
    have O4:=hide (show w4.ownsRow w2.heap.size 3 1 v' (ZcO al area (k+1)).length (flat intE (ZcO al area (k+1))) by rw [HST.out];simpa using hown')
    obtain⟨va,vc,rfl⟩:=Zac hown';clear hown' hgrow
    go_wp2
    go_roundw
    case rel=>exact ⟨k+1,_,by omega,by go_num,rfl,O4.out,B4⟩
    case measure=>simp [intOf];omega
  ·have hkn:¬(k:Int)<(al.length:Int):=by omega
   obtain⟨C,hC⟩:∃ C,C=ZcO al area k:=⟨_,rfl⟩;have HCE:=hide (show C=al.filter (fun a=>a != area) by rw [hC];unfold ZcO;rw [List.take_of_length_le (by omega)])
   rw [<-hC] at OW hol |-;have HO:=hide ((HL2.out.below hnx (by omega)).wide (Nat.le_refl _) (show w1.heap.size<=wr.heap.size by omega))
   rename World=>wo
   clear hC HL2 hnx
   go_wp2_with fail
   refine (HWI.out _ BW).mono ?_
   rintro e wh ⟨uh,hs,rfl,hhs0,hoh,bh⟩;obtain⟨uha,uhc,rfl⟩:=Zac hoh.row;have hhs:=hhs0.eq;have hbh:=bh.size;have BWH:Below w.heap.size w wh:=BW.trans (bh.mono BW.size);have OWH:=Zce (Zae OW.out bh (Nat.le_refl _));have HO2:=hide ((HO.out.below bh (Nat.le_refl _)).wide (Nat.le_refl _) hbh);have HOH:=hide hoh;clear hhs0 hoh HO
   go_wp2_with fail
   refine (HWN.out _ C _ BWH OWH (by omega)).mono ?_
   rintro e wn ⟨un,ns,rfl,hbn,hon,bn⟩;obtain⟨una,unc,rfl⟩:=Zac hon.row;have hbns:=bn.size;have BWN:Below w.heap.size w wn:=BWH.trans (bn.mono BWH.size);have HO3:=hide ((HO2.out.below bn (Nat.le_refl _)).wide (Nat.le_refl _) hbns);have HON:=hide hon;have HBN:=hide hbn;clear hon hbn OWH HO2
   go_wp2_with fail
   refine (HWB.out _ BWN).mono ?_
   rintro e wB ⟨ub,bs,rfl,hbb0,hob,bB⟩;obtain⟨uba,ubc,rfl⟩:=Zac hob.row;have hbB:=bB.size;have BWB:Below w.heap.size w wB:=BWN.trans (bB.mono BWN.size);have HO4:=hide ((HO3.out.below bB (Nat.le_refl _)).wide (Nat.le_refl _) hbB);have HHER:=hide (show HerW wB w1.heap.size wB.heap.size (.slice uha hs.length uhc) hs (.slice una ns.length unc) ns (.slice uba bs.length ubc) bs from ⟨(HOH.out.below (bn.trans (bB.mono hbns)) (Nat.le_refl _)).wide (by omega) (by omega),(HON.out.below bB (Nat.le_refl _)).wide (by omega) (by omega),hob.wide (by omega) (Nat.le_refl _)⟩)
   have HBB:=hide hbb0;have hht:totW hs<=1048576:=by have:=Zij hhs;omega
   have hnt:totW ns<=1048576:=by have:=ZfS HBN.out (fun to d h=>Zbc h);omega
   have hbt:totW bs<=1048576:=by have:=ZfS HBB.out (fun to d h=>ZbM h);omega
   obtain⟨uh,huh⟩:∃ v,v=Value.slice uha hs.length uhc:=⟨_,rfl⟩;obtain⟨un,hun⟩:∃ v,v=Value.slice una ns.length unc:=⟨_,rfl⟩;obtain⟨ub,hub⟩:∃ v,v=Value.slice uba bs.length ubc:=⟨_,rfl⟩;have HTH:=hide (fun (z:Int) (W:World) (h:HerW W w1.heap.size wB.heap.size uh hs un ns ub bs) (hh:wB.heap.size<=W.heap.size)=>by have r:=ZcD uh hs w1.heap.size wB.heap.size z W h.h hh hht;rw [hhs] at r;exact r)
   have HTN:=hide (fun (z:Int) (W:World) (h:HerW W w1.heap.size wB.heap.size uh hs un ns ub bs) (hh:wB.heap.size<=W.heap.size)=>ZcD un ns w1.heap.size wB.heap.size z W h.n hh hnt)
   have HTB:=hide (fun (z:Int) (W:World) (h:HerW W w1.heap.size wB.heap.size uh hs un ns ub bs) (hh:wB.heap.size<=W.heap.size)=>ZcD ub bs w1.heap.size wB.heap.size z W h.b hh hbt)
   rw [<-huh, <-hun, <-hub] at HHER |-;have HHER0:=HHER;clear HHER hob hbb0 HOH HON bn bB bh HO3 hhs huh hun hub BW BWH BWN OW HWI HWN HWB
   go_wp2
   go_loopw [15,9] (fun i o wr=>∃ (t:Nat) (x:Value) (qs:List RP),1<=t/\t<=7/\i=.int .i64 (t:Int)/\o=x/\RecsOwn wr w.heap.size wr.heap.size x qs/\Hid (ZaW (fsts ps) al src area (t:Int) (fsts qs))/\Off x w1.heap.size wB.heap.size/\HerW wr w1.heap.size wB.heap.size uh hs un ns ub bs/\Below w.heap.size w wr/\wB.heap.size<=wr.heap.size) (fun i _ _=>8-(intOf i).toNat)
   case atStart=>exact ⟨1,_,[],by omega,by omega,rfl,rfl,HO4.out,hide ZaW.none,fun b hb=>by simp [Value.ownBlock] at hb;have:=HS1.out;omega,HHER0.out,BWB,Nat.le_refl _⟩
   case round=>
    obtain⟨t,x,qs,ht1,ht7,rfl,rfl,hown,HB,hoff,hher,hnx,hsz⟩:=hrel;clear HO4 HHER0 BWB;obtain⟨xa,xc,rfl⟩:=Zac hown.row
    rename World=>wt
    by_cases ht:t<=6
    ·have ht6:(t:Int)<=6:=by omega
     have HOWN:=hide hown;have HHER:=hide hher;have HOFF:=hide hoff;have hq6:qs.length<=6:=by have h:=HB.out.len.1;simpa [fsts] using h
     have hnh:=ZkW (fsts ps) area src (t:Int);have HW1:=HTH.out (t:Int) wt hher hsz;obtain⟨D,hD⟩:∃ D,D=ZbD (ZbE (fsts ps) area src) (t:Int):=⟨_,rfl⟩;obtain⟨F1,hF1⟩:∃ F,F=Zbs (ZbE (fsts ps) area src) (t:Int):=⟨_,rfl⟩;rw [<-hD, <-hF1] at HW1;rw [<-hF1] at hnh;have HNH:=hide hnh;have H1:=hide HW1;unfold wayC at H1;clear hown hher hoff hnh HW1 hD hF1
     go_wp2_with fail
     refine (H1.out).mono ?_
     rintro e w3 ⟨du,rfl,hdu,b3⟩;obtain⟨dua,duc,rfl⟩:=Zac hdu;have hb3:=b3.size;have BT:Below wt.heap.size wt (w3.alloc (.cells #[.int .i64 D.to,.int .i64 D.cost,.slice dua D.hops.length duc] 194)):=b3.trans (((Below.refl w3.heap.size w3).alloc (Nat.le_refl _) _).mono hb3);clear hdu b3 H1;cases F1
     case true=>
      have N1:=hide ((HOWN.out.below BT (Nat.le_refl _)).wide (Nat.le_refl _) BT.size);have N2:=hide (show ZaW (fsts ps) al src area ((t+1:Nat):Int) (fsts qs) from by
       have h:=HB.out.skip (t:=(t:Int)) (fun c hc=>by rcases HNH.out with ⟨_,h2⟩ | ⟨h1,_⟩;exact h2 hc.1;cases h1)
       rw [show ((t+1:Nat):Int)=(t:Int)+1 by omega]
       exact h)
      have N3:=hide (HHER.out.below BT hsz);have N4:=hide (hnx.trans (BT.mono hnx.size));have hszr:wB.heap.size<=(w3.alloc (.cells #[.int .i64 D.to,.int .i64 D.cost,.slice dua D.hops.length duc] 194)).heap.size:=by have:=BT.size;omega
      clear HOWN HHER BT
      go_wp2
      go_roundw
      case rel=>exact ⟨t+1,_,qs,by omega,by omega,by go_num,rfl,N1.out,N2,HOFF.out,N3.out,N4.out,hszr⟩
      case measure=>simp [intOf];omega
     have hnn:Zcj (fsts ps) area src (t:Int):=by
      rcases HNH.out with ⟨h1,_⟩ | ⟨_,h2⟩
      ·cases h1
      ·exact h2
     have HNN:=hide hnn;clear hnn HNH;by_cases hts:(t:Int)=src
     case pos=>
      have hd:((t:Int)==src)=true:=by simpa using hts
      have HTS:=hide hts;clear hts;have N1:=hide ((HOWN.out.below BT (Nat.le_refl _)).wide (Nat.le_refl _) BT.size);have N2:=hide (show ZaW (fsts ps) al src area ((t+1:Nat):Int) (fsts qs) from by
       have h:=HB.out.skip (t:=(t:Int)) (fun c hc=>hc.2.1 HTS.out)
       rw [show ((t+1:Nat):Int)=(t:Int)+1 by omega]
       exact h)
      have N3:=hide (HHER.out.below BT hsz);have N4:=hide (hnx.trans (BT.mono hnx.size));have hszr:wB.heap.size<=(w3.alloc (.cells #[.int .i64 D.to,.int .i64 D.cost,.slice dua D.hops.length duc] 194)).heap.size:=by have:=BT.size;omega
      clear HOWN HHER BT
      go_wp2
      go_roundw
      case rel=>exact ⟨t+1,_,qs,by omega,by omega,by go_num,rfl,N1.out,N2,HOFF.out,N3.out,N4.out,hszr⟩
      case measure=>simp [intOf];omega
     have hd:((t:Int)==src)=false:=by simpa using hts
     have HTS:=hide hts;clear hts;have hwn2:∀ d,Zau (fsts ps) C src (t:Int) d↔Zau (fsts ps) al src (t:Int) d:=fun d=>by rw [HCE.out];exact ZgP HNN.out d
     have hbh:=Zkx HBN.out (t:Int);have hbb:=Zkx HBB.out (t:Int);obtain⟨E,hE⟩:∃ E,E=ZbD (Zal ns) (t:Int):=⟨_,rfl⟩;obtain⟨F2,hF2⟩:∃ F,F=Zbs (Zal ns) (t:Int):=⟨_,rfl⟩;obtain⟨w4,hw4⟩:∃ W,W=(w3.alloc (.cells #[.int .i64 D.to,.int .i64 D.cost,.slice dua D.hops.length duc] 194)):=⟨_,rfl⟩;rw [<-hw4] at BT;have HW2:=HTN.out (t:Int) w4 (HHER.out.below BT hsz) (by have:=BT.size;omega)
     rw [<-hE, <-hF2] at HW2 hbh;have HBH:=hide hbh;have HBY:=hide hbb;have HWN2:=hide hwn2;have H2:=hide HW2;unfold wayC at H2;clear hbh hbb hwn2 HW2 hE hF2
     go_wp2_with fail
     rw [<-hw4];clear hw4;refine (H2.out).mono ?_
     rintro e w5 ⟨eu,rfl,heu,b5⟩;obtain⟨eua,euc,rfl⟩:=Zac heu;have hb5:=b5.size;have hwt4:wt.heap.size<=w4.heap.size:=BT.size;have BT0:=BT;have BT6:Below wt.heap.size wt (w5.alloc (.cells #[.int .i64 E.to,.int .i64 E.cost,.slice eua E.hops.length euc] 194)):=BT.trans ((b5.trans (((Below.refl w5.heap.size w5).alloc (Nat.le_refl _) _).mono hb5)).mono BT.size);have hx6:=heap_alloc_new w5 (.cells #[.int .i64 E.to,.int .i64 E.cost,.slice eua E.hops.length euc] 194);have d1:=Zaa hx6 1;simp at d1
     clear heu b5 H2 BT BT0;have BT:=BT6;clear BT6;cases F2
     case true=>
      have hbe:ZaQ (t:Int) (Zau (fsts ps) al src (t:Int)) (some E):=by
       rcases HBH.out with ⟨_,h2⟩ | ⟨h1,_⟩
       ·exact h2.congr HWN2.out
       ·cases h1
      have HTO:=hide (show Zb8 (fsts ps) al src area (t:Int) E.cost from ⟨HNN.out,HTS.out,.inl ⟨E,hbe,rfl⟩⟩)
      clear hbe;clear HBH HBY HWN2 hx6;have BN:Below wt.heap.size wt ((w5.alloc (.cells #[.int .i64 E.to,.int .i64 E.cost,.slice eua E.hops.length euc] 194)).alloc (.cells #[.int .i64 area,.int .i64 2,.int .i64 src,.int .i64 (t:Int),.int .i64 0,.slice none 0 0,.int .i64 E.cost,.bool false] 39)):=BT.trans (((Below.refl _ _).alloc (Nat.le_refl _) _).mono BT.size);have OW:=hide ((Zae HOWN.out.row BT (Nat.le_refl _)).alloc (.cells #[.int .i64 area,.int .i64 2,.int .i64 src,.int .i64 (t:Int),.int .i64 0,.slice none 0 0,.int .i64 E.cost,.bool false] 39));have HHO:=hide (show ZaD ((w5.alloc (.cells #[.int .i64 E.to,.int .i64 E.cost,.slice eua E.hops.length euc] 194)).alloc (.cells #[.int .i64 area,.int .i64 2,.int .i64 src,.int .i64 (t:Int),.int .i64 0,.slice none 0 0,.int .i64 E.cost,.bool false] 39)) wt.heap.size ((w5.alloc (.cells #[.int .i64 E.to,.int .i64 E.cost,.slice eua E.hops.length euc] 194)).alloc (.cells #[.int .i64 area,.int .i64 2,.int .i64 src,.int .i64 (t:Int),.int .i64 0,.slice none 0 0,.int .i64 E.cost,.bool false] 39)).heap.size (ZbC area src (t:Int) E.cost,Value.slice none 0 0) from ⟨World.ownsRow_nil _ _ _ _,fun k hk=>by simp [Value.ownBlock] at hk⟩)
      have HKP:=hide (show (HerW ((w5.alloc (.cells #[.int .i64 E.to,.int .i64 E.cost,.slice eua E.hops.length euc] 194)).alloc (.cells #[.int .i64 area,.int .i64 2,.int .i64 src,.int .i64 (t:Int),.int .i64 0,.slice none 0 0,.int .i64 E.cost,.bool false] 39)) w1.heap.size wB.heap.size uh hs un ns ub bs) from HHER.out.below BN hsz)
      have N2:=hide (show ZaW (fsts ps) al src area ((t+1:Nat):Int) (fsts (qs++[(ZbC area src (t:Int) E.cost,Value.slice none 0 0)])) from by
       have h:=HB.out.push HTO.out;rw [show ((t+1:Nat):Int)=(t:Int)+1 by omega]
       have e:fsts (qs++[(ZbC area src (t:Int) E.cost,Value.slice none 0 0)])=fsts qs++[ZbC area src (t:Int) E.cost]:=by simp [fsts]
       rw [e];exact h)
      have hws:=hnx.size;have HAS:=hide (show (w5.alloc (.cells #[.int .i64 E.to,.int .i64 E.cost,.slice eua E.hops.length euc] 194)).heap.size=w5.heap.size+1 by simp)
      have hBTs:wt.heap.size<=w5.heap.size+1:=by have h:=BT.size;rw [HAS.out] at h;exact h
      go_wp2_with (first
       | (at_builtin;refine Zbp Zav (by omega) (by omega) _ rfl _ _ 29 rfl w.heap.size 39 Tryz.underlying29 (.agg (recC Za6 (.slice none 0 0))) rfl Tryz.infoRec _ qs (ZbC area src (t:Int) E.cost,Value.slice none 0 0) (ZbS _ _ _ _) rfl OW.out ⟨w5.heap.size+1,0,none⟩ 1 rfl (fun j u hj=>by
         have h:=Zay (w:=(w5.alloc (.cells #[.int .i64 E.to,.int .i64 E.cost,.slice eua E.hops.length euc] 194))) (cs:=encP (ZbC area src (t:Int) E.cost,Value.slice none 0 0)) (t:=39) j u hj;rw [HAS.out] at h;exact h) (by omega) (by simp;omega) ?_))
      intro v' w9 hown' hgrow hat;have N1:=hide (HOWN.out.push BN hws HHO.out (by simpa using hown') hgrow)
      have N3:=hide (HKP.out.keep (HOFF.out.kept hgrow));have N4:=hide ((hnx.trans (BN.mono hws)).grown hgrow (by have:=BN.size;omega) (fun j hj=>(HOWN.out.row.lt j hj).1))
      have N5:=hide (HOFF.out.next (x':=v') (B:=wB.heap.size) (fun j hj=>by
       rcases hat with h1 | h1
       ·exact .inl (by rw [<-h1];exact hj)
       ·right
        rw [h1] at hj;simp at hj
        have:=BT.size
        first | omega | (simp at this;omega)) (Nat.le_refl _))
      have hszr:wB.heap.size<=w9.heap.size:=by
       have h1:=hgrow.size;simp at h1
       omega
      obtain⟨va,vc,rfl⟩:=Zac hown';clear hown' hgrow hat BN OW HHO HKP BT
      go_wp2
      go_roundw
      case rel=>exact ⟨t+1,_,qs++[(ZbC area src (t:Int) E.cost,Value.slice none 0 0)],by omega,by omega,by go_num,rfl,N1.out,N2,N5.out,N3.out,N4.out,hszr⟩
      case measure=>simp [intOf];omega
     have hnw:∀ d,¬Zau (fsts ps) al src (t:Int) d:=fun d h=>by
      rcases HBH.out with ⟨h1,_⟩ | ⟨_,h2⟩
      ·cases h1
      ·exact h2 d ((HWN2.out d).2 h)
     have HNW:=hide hnw;clear hnw HBH HWN2;by_cases ha0:area=0
     case pos=>
      have hda:(area != 0)=false:=by simpa using ha0
      have HA0:=hide ha0;clear ha0;have N1:=hide ((HOWN.out.below BT (Nat.le_refl _)).wide (Nat.le_refl _) BT.size);have N2:=hide (show ZaW (fsts ps) al src area ((t+1:Nat):Int) (fsts qs) from by
       have h:=HB.out.skip (t:=(t:Int)) (fun c hc=>by rcases hc.2.2 with ⟨w,h1,_⟩ | ⟨h1,_⟩;exact ZhY HNW.out h1;exact h1 HA0.out)
       rw [show ((t+1:Nat):Int)=(t:Int)+1 by omega]
       exact h)
      have N3:=hide (HHER.out.below BT hsz);have N4:=hide (hnx.trans (BT.mono hnx.size));have hszr:wB.heap.size<=(w5.alloc (.cells #[.int .i64 E.to,.int .i64 E.cost,.slice eua E.hops.length euc] 194)).heap.size:=by have:=BT.size;omega
      clear hx6 d1;clear HOWN HHER BT
      go_wp2
      go_roundw
      case rel=>exact ⟨t+1,_,qs,by omega,by omega,by go_num,rfl,N1.out,N2,HOFF.out,N3.out,N4.out,hszr⟩
      case measure=>simp [intOf];omega
     have hda:(area != 0)=true:=by simpa using ha0
     have HA0:=hide ha0;clear ha0;obtain⟨G,hG⟩:∃ G,G=ZbD (Zal bs) (t:Int):=⟨_,rfl⟩;obtain⟨F3,hF3⟩:∃ F,F=Zbs (Zal bs) (t:Int):=⟨_,rfl⟩;obtain⟨w6,hw6⟩:∃ W,W=(w5.alloc (.cells #[.int .i64 E.to,.int .i64 E.cost,.slice eua E.hops.length euc] 194)):=⟨_,rfl⟩;rw [<-hw6] at BT hx6;have HW3:=HTB.out (t:Int) w6 (HHER.out.below BT hsz) (by have:=BT.size;omega)
     rw [<-hG, <-hF3] at HW3;rw [<-hG, <-hF3] at HBY;have H3:=hide HW3;unfold wayC at H3;have hz6:=Zab hx6;have HX6:=hide hx6;clear HW3 hG hF3 hx6 d1
     go_wp2_with fail
     rw [<-hw6];clear hw6;refine (H3.out).mono ?_
     rintro e w7 ⟨gu,rfl,hgu,b7⟩;obtain⟨gua,guc,rfl⟩:=Zac hgu;have hb7:=b7.size;have hx7:=(b7.block _ hz6).trans HX6.out;have BT7:Below wt.heap.size wt w7:=BT.trans (b7.mono BT.size);have hwt3:wt.heap.size<=w5.heap.size:=by omega
     have BT8:Below wt.heap.size wt (Za8 w7 w5.heap.size G (.slice gua G.hops.length guc)):=BT7.grown (Za2 w7 w5.heap.size G (.slice gua G.hops.length guc)) BT7.size (fun j hj=>by simp at hj;omega)
     have d0:=Zaa hx7 0;have d1:=Zaa hx7 1;have d2:=Zaa hx7 2;simp at d0 d1 d2
     have fd:=Zaf hx7;clear hgu b7 H3 HX6 hx7 BT BT7;have BT:=BT8;clear BT8;cases F3
     case false=>
      have N1:=hide ((HOWN.out.below BT (Nat.le_refl _)).wide (Nat.le_refl _) BT.size);have N2:=hide (show ZaW (fsts ps) al src area ((t+1:Nat):Int) (fsts qs) from by
       have h:=HB.out.skip (t:=(t:Int)) (fun c hc=>by rcases hc.2.2 with ⟨w,h1,_⟩ | ⟨_,w,h1,_⟩;exact ZhY HNW.out h1;rcases HBY.out with ⟨h2,_⟩ | ⟨_,h2⟩;cases h2;exact ZhY h2 h1)
       rw [show ((t+1:Nat):Int)=(t:Int)+1 by omega]
       exact h)
      have N3:=hide (HHER.out.below BT hsz);have N4:=hide (hnx.trans (BT.mono hnx.size));have hszr:wB.heap.size<=(Za8 w7 w5.heap.size G (.slice gua G.hops.length guc)).heap.size:=by have:=BT.size;omega
      clear HOWN HHER BT
      go_wp2
      go_roundw
      case rel=>exact ⟨t+1,_,qs,by omega,by omega,by go_num,rfl,N1.out,N2,HOFF.out,N3.out,N4.out,hszr⟩
      case measure=>simp [intOf];omega
     have hbe:ZaQ (t:Int) (Zbq (fsts ps) al true src (t:Int)) (some G):=by
      rcases HBY.out with ⟨_,h2⟩ | ⟨h1,_⟩
      ·exact h2
      ·cases h1
     have HTO:=hide (show Zb8 (fsts ps) al src area (t:Int) G.cost from ⟨HNN.out,HTS.out,.inr ⟨HA0.out,G,hbe,rfl⟩⟩)
     clear hbe;clear HBY HNW;have BN:Below wt.heap.size wt ((Za8 w7 w5.heap.size G (.slice gua G.hops.length guc)).alloc (.cells #[.int .i64 area,.int .i64 2,.int .i64 src,.int .i64 (t:Int),.int .i64 0,.slice none 0 0,.int .i64 G.cost,.bool false] 39)):=BT.trans (((Below.refl _ _).alloc (Nat.le_refl _) _).mono BT.size);have OW:=hide ((Zae HOWN.out.row BT (Nat.le_refl _)).alloc (.cells #[.int .i64 area,.int .i64 2,.int .i64 src,.int .i64 (t:Int),.int .i64 0,.slice none 0 0,.int .i64 G.cost,.bool false] 39));have HHO:=hide (show ZaD ((Za8 w7 w5.heap.size G (.slice gua G.hops.length guc)).alloc (.cells #[.int .i64 area,.int .i64 2,.int .i64 src,.int .i64 (t:Int),.int .i64 0,.slice none 0 0,.int .i64 G.cost,.bool false] 39)) wt.heap.size ((Za8 w7 w5.heap.size G (.slice gua G.hops.length guc)).alloc (.cells #[.int .i64 area,.int .i64 2,.int .i64 src,.int .i64 (t:Int),.int .i64 0,.slice none 0 0,.int .i64 G.cost,.bool false] 39)).heap.size (ZbC area src (t:Int) G.cost,Value.slice none 0 0) from ⟨World.ownsRow_nil _ _ _ _,fun k hk=>by simp [Value.ownBlock] at hk⟩)
     have HKP:=hide (show (HerW ((Za8 w7 w5.heap.size G (.slice gua G.hops.length guc)).alloc (.cells #[.int .i64 area,.int .i64 2,.int .i64 src,.int .i64 (t:Int),.int .i64 0,.slice none 0 0,.int .i64 G.cost,.bool false] 39)) w1.heap.size wB.heap.size uh hs un ns ub bs) from HHER.out.below BN hsz)
     have N2:=hide (show ZaW (fsts ps) al src area ((t+1:Nat):Int) (fsts (qs++[(ZbC area src (t:Int) G.cost,Value.slice none 0 0)])) from by
      have h:=HB.out.push HTO.out;rw [show ((t+1:Nat):Int)=(t:Int)+1 by omega]
      have e:fsts (qs++[(ZbC area src (t:Int) G.cost,Value.slice none 0 0)])=fsts qs++[ZbC area src (t:Int) G.cost]:=by simp [fsts]
      rw [e];exact h)
     have hws:=hnx.size;have HAS:=hide (show (Za8 w7 w5.heap.size G (.slice gua G.hops.length guc)).heap.size=w7.heap.size by simp)
     have hBTs:wt.heap.size<=w7.heap.size:=by have h:=BT.size;rw [HAS.out] at h;exact h
     go_wp2_with (first
      | (at_builtin;refine Zbp Zav (by omega) (by omega) _ rfl _ _ 29 rfl w.heap.size 39 Tryz.underlying29 (.agg (recC Za6 (.slice none 0 0))) rfl Tryz.infoRec _ qs (ZbC area src (t:Int) G.cost,Value.slice none 0 0) (ZbS _ _ _ _) rfl OW.out ⟨w7.heap.size,0,none⟩ 1 rfl (fun j u hj=>by
        have h:=Zay (w:=(Za8 w7 w5.heap.size G (.slice gua G.hops.length guc))) (cs:=encP (ZbC area src (t:Int) G.cost,Value.slice none 0 0)) (t:=39) j u hj;rw [HAS.out] at h;exact h) (by omega) (by simp;omega) ?_))
     intro v' w9 hown' hgrow hat;have N1:=hide (HOWN.out.push BN hws HHO.out (by simpa using hown') hgrow)
     have N3:=hide (HKP.out.keep (HOFF.out.kept hgrow));have N4:=hide ((hnx.trans (BN.mono hws)).grown hgrow (by have:=BN.size;omega) (fun j hj=>(HOWN.out.row.lt j hj).1))
     have N5:=hide (HOFF.out.next (x':=v') (B:=wB.heap.size) (fun j hj=>by
      rcases hat with h1 | h1
      ·exact .inl (by rw [<-h1];exact hj)
      ·right
       rw [h1] at hj;simp at hj
       have:=BT.size
       first | omega | (simp at this;omega)) (Nat.le_refl _))
     have hszr:wB.heap.size<=w9.heap.size:=by
      have h1:=hgrow.size;simp at h1
      omega
     obtain⟨va,vc,rfl⟩:=Zac hown';clear hown' hgrow hat BN OW HHO HKP BT
     go_wp2
     go_roundw
     case rel=>exact ⟨t+1,_,qs++[(ZbC area src (t:Int) G.cost,Value.slice none 0 0)],by omega,by omega,by go_num,rfl,N1.out,N2,N5.out,N3.out,N4.out,hszr⟩
     case measure=>simp [intOf];omega
    ·have ht6:¬(t:Int)<=6:=by omega
     have htt:(t:Int)=7:=by omega
     have HE:=hide (show ZbH (fsts ps) al src area (fsts qs) from ZaW.all (by have h:=HB.out;rw [htt] at h;exact h))
     have HO:=hide hown;have HN:=hide hnx;clear hown hnx HB hoff hher htt
     go_wp2
     go_ret
     first
      | exact ⟨_,qs,rfl,HE.out,HO.out,HN.out⟩
      | exact ⟨_,rfl,qs,HE.out,HO.out,HN.out⟩
def byS (xs:List RecD)(al L:List Int)(src to:Int)(d:WayD):Prop:=(∀ y,¬Zau xs al src to y)/\∃ a∈L,outS xs xs a src to d
theorem Zn7 {xs:List RecD}{al L:List Int}{src to:Int}{d:WayD}(h:byS xs al L src to d):GoodW d/\d.to=to:=by
 obtain⟨_,a,_,h2⟩:=h;exact ZeW (fun _ h=>h) h2
theorem Zn8 {xs:List RecD}{al L:List Int}{src to a:Int}{k:Nat}(h:L[k]? = some a)(d:WayD):byS xs al (L.take (k+1)) src to d↔byS xs al (L.take k) src to d\/((∀ y,¬Zau xs al src to y)/\outS xs xs a src to d):=by
 obtain⟨hk,e⟩:=List.getElem?_eq_some_iff.1 h;unfold byS;rw [List.take_succ_eq_append_getElem hk,e]
 constructor
 ·rintro ⟨h0,b,h2,h3⟩
  rcases List.mem_append.1 h2 with h5 | h5
  ·exact .inl ⟨h0,b,h5,h3⟩
  ·have:b=a:=by simpa using h5
   subst this;exact .inr ⟨h0,h3⟩
 ·rintro (⟨h0,b,h2,h3⟩ | ⟨h0,h3⟩)
  ·exact ⟨h0,b,List.mem_append.2 (.inl h2),h3⟩
  ·exact ⟨h0,a,List.mem_append.2 (.inr (by simp)),h3⟩
theorem Zpy {xs:List RecD}{al:List Int}{border:Bool}{src:Int}(to:Int)(d:WayD):byS xs al (ZcZ al border) src to d↔Zbq xs al border src to d:=by
 constructor
 ·rintro ⟨h0,a,h2,h3⟩
  have h4:=Zft.1 h2;exact⟨h0,a,h4.1.1,h4.2,h3⟩
 ·rintro ⟨h0,a,h2,h3,h4⟩
  have h5:=Zgm h4;exact⟨h0,a,Zft.2 ⟨⟨h2,h5.2.1,h5.2.2⟩,h3⟩,h4⟩
theorem Zmg {xs:List RecD}{al:List Int}{src:Int}{ds:List WayD}(h:ZaR (Zau xs al src) ds)(to:Int):(Zbs ds to=true/\∃ y,Zau xs al src to y)\/(Zbs ds to=false/\∀ y,¬Zau xs al src to y):=by
 have hb:=h.2 to
 rcases Zcp ds to with ⟨h1,h2⟩ | ⟨h1,h2⟩
 ·rw [h2] at hb
  obtain⟨_,⟨y,hy,_⟩,_⟩:=hb;exact .inl ⟨h1,y,hy⟩
 ·rw [h2] at hb
  exact .inr ⟨h1,hb⟩
theorem Zn4 {S:Int->WayD->Prop}{qs:List WP}(h:ZaR S (Zal qs))(hS:∀ to w,S to w->GoodW w/\w.to=to):totW qs<=42:=
 ZfG (by have h2:=Zc2 h.1 (fun d hd=>(h.good hS d hd).node);simpa [Zal] using h2) (fun d hd=>(h.good hS d hd).len)
theorem ZjM (v u:Value)(ps:List RP)(al:List Int)(hi:Nat)(border:Bool)(src:Int)(w:World)(hv:RecsIn w hi v ps)(ha:ZaM w u al hi)(hhi:hi<=w.heap.size)(hn:tot ps<=1048576)(hal:al.length<=1048576):
  Calls Tryz.prog 164 #[v,u,.bool border,.int .i64 src] w fun e w'=>∃ x qs,e=.returned x/\ZaR (Zbq (fsts ps) al border src) (Zal qs)/\WaysOwn w' w.heap.size w'.heap.size x qs/\Below w.heap.size w w':=by
 have hnl:=Zbh ps;obtain⟨a1,c1,rfl⟩:=Zac hv.row;obtain⟨a2,c2,rfl⟩:=ha.shape;have HWI:=hide (Zf7 (.slice a1 ps.length c1) (.slice a2 al.length c2) ps al hi src w hv ha hhi hn hal);have HAO:=hide (fun W (hb:Below w.heap.size w W)=>Zit (.slice a2 al.length c2) al border hi W hal (ZaE.later ha hb hhi) (Nat.le_trans hhi hb.size))
 have HWO:=hide (fun area W (hb:Below w.heap.size w W)=>Zko (.slice a1 ps.length c1) ps hi area src W (hv.below hb hhi) (Nat.le_trans hhi hb.size) hn)
 clear hv ha;obtain⟨L,hL⟩:∃ L,L=ZcZ al border:=⟨_,rfl⟩;have hLl:L.length<=3:=by rw [hL];exact Zi3 al border
 have HFIN:=hide (show ∀ to d,byS (fsts ps) al L src to d↔Zbq (fsts ps) al border src to d from fun to d=>by rw [hL];exact Zpy to d)
 rw [<-hL] at HAO;clear hL
 go_enter Tryz.func164,Tryz.ntmps164
 go_wp2_with fail
 refine HWI.out.mono ?_
 rintro e w1 ⟨uw,ws,rfl,hbw,how,b1⟩;obtain⟨wsa,wsc,rfl⟩:=Zac how.row;have hb1:=b1.size;have hwt:totW ws<=1048576:=by have:=Zn4 hbw (fun to d h=>Zbc h);omega
 have HWT:=hide (fun (z:Int) (W:World) (hb:Below w1.heap.size w1 W)=>Zff (.slice wsa ws.length wsc) ws w.heap.size w1.heap.size z W (how.below hb (Nat.le_refl _)) hb.size hwt)
 have HHAS:=hide (fun to=>Zmg hbw to)
 have BX:Below w1.heap.size w1 (w1.alloc (.cells #[] 194)):=(Below.refl _ _).alloc (Nat.le_refl _) _;have LIT:=Zm5 w1 w1.heap.size (Nat.le_refl _);have hs0:(w1.alloc (.cells #[] 194)).heap.size=w1.heap.size+1:=by simp
 obtain⟨w0,hw0⟩:∃ W,W=w1.alloc (.cells #[] 194):=⟨_,rfl⟩;rw [<-hw0] at BX LIT hs0;have BX0:Below w.heap.size w w0:=b1.trans (BX.mono hb1);have HLIT:=hide LIT;have HS0:=hide hs0;clear LIT hs0 HWI how hbw hwt
 go_wp2_with fail
 rw [<-hw0];clear hw0;refine (HAO.out _ BX0).mono ?_
 rintro e w2 ⟨ra,rfl,hra,b2⟩;obtain⟨raa,rac,rfl⟩:=Zac hra.row;have b2s:=b2.size;have hx0:=BX.size;have B2:Below w1.heap.size w1 w2:=BX.trans (b2.mono hx0);have HO1:=hide ((HLIT.out.below b2 (Nat.le_refl _)).wide (Nat.le_refl _) b2s);have HRA:=hide hra;clear hra HLIT HAO b2
 go_wp2
 go_loopw [26,10] (fun i o wr=>∃ (k:Nat) (x:Value) (qs:List WP),k<=L.length/\i=.int .i64 (k:Int)/\o=x/\WaysOwn wr w1.heap.size wr.heap.size x qs/\Hid (ZaR (byS (fsts ps) al (L.take k) src) (Zal qs))/\Off x w0.heap.size w2.heap.size/\IntsOwn wr w0.heap.size w2.heap.size (.slice raa L.length rac) L/\Below w1.heap.size w1 wr/\w2.heap.size<=wr.heap.size) (fun i _ _=>L.length-(intOf i).toNat)
 case atStart=>exact ⟨0,_,[],by omega,rfl,rfl,HO1.out,hide (ZcK (fun to d ⟨_,a,h,_⟩=>by simp at h)),fun b hb=>by simp [Value.ownBlock] at hb;have:=HS0.out;omega,HRA.out,B2,Nat.le_refl _⟩
 case round=>
  obtain⟨k,x,qs,hk,rfl,rfl,hown,HB,hoff,hra,hnx,hsz⟩:=hrel;clear HO1 HRA B2;obtain⟨xa,xc,rfl⟩:=Zac hown.row
  rename World=>wa
  have BWA:Below w.heap.size w wa:=b1.trans (hnx.mono hb1);by_cases hlt:k<L.length
  ·obtain ⟨area,har⟩:∃ a,L[k]? = some a:=⟨L[k],List.getElem?_eq_getElem hlt⟩
   obtain⟨b,off,cap',hve,hbb,c0⟩:=hra.at.cell k area har;cases hve
   have hki:(0:Int)<=(k:Int):=by omega
   have hkj:(k:Int)<(L.length:Int):=by omega
   have HOWN:=hide hown;have HOFF:=hide hoff;have HRA:=hide hra;have HAR:=hide har;clear hown hoff hra har
   go_wp2_with fail
   refine (HWO.out area _ BWA).mono ?_
   rintro e w3 ⟨uo,os,rfl,hos,hol,hoo,b3⟩;obtain⟨osa,osc,rfl⟩:=Zac hoo.row;have hb3:=b3.size;have ST0:=PutSt.start HOWN.out HB.out HOFF.out hsz hnx.size b3 hoo;have RA3:=HRA.out.below b3 hsz;have B3:Below w1.heap.size w1 w3:=hnx.trans (b3.mono hnx.size);have HOS:=hide (show ∀ d,d∈Zal os↔∃ r∈fsts ps,Zcm (fsts ps) area src r d from fun d=>by
    have h:=hos d;rw [List.take_of_length_le (by simp [fsts])] at h
    exact h)
   have HST0:=hide ST0;have HRA3:=hide RA3;clear hos hoo ST0 RA3 HOWN HOFF HRA HB b3
   go_wp2
   go_loopw [35,10] (fun i o wr=>∃ (j:Nat) (x:Value) (qs:List WP),j<=os.length/\i=.int .i64 (j:Int)/\o=x/\PutSt wr w1.heap.size w0.heap.size w2.heap.size wa.heap.size w3.heap.size (fun to d=>byS (fsts ps) al (L.take k) src to d\/((∀ y,¬Zau (fsts ps) al src to y)/\d.to=to/\d∈(Zal os).take j)) x qs (.slice osa os.length osc) os j/\IntsOwn wr w0.heap.size w2.heap.size (.slice (some ⟨b,off,none⟩) L.length rac) L/\Below w1.heap.size w1 wr/\w3.heap.size<=wr.heap.size) (fun i _ _=>os.length-(intOf i).toNat)
   case atStart=>exact ⟨0,_,qs,by omega,rfl,rfl, { HST0.out with best:=HST0.out.best.congr (fun to d=>⟨.inl,by rintro (h | ⟨_,_,h⟩);exact h;simp at h⟩) },HRA3.out,B3,Nat.le_refl _⟩
   case round=>
    obtain⟨j,y,qs2,hj,rfl,rfl,st,hra2,hnx2,hsz2⟩:=hrel;clear HST0 HRA3 B3;obtain⟨ya,yc,rfl⟩:=Zac st.own.row;have hgd0:∀ d∈Zal os,GoodW d:=fun d hd=>by
     obtain⟨r,hr,ht⟩:=(HOS.out d).1 hd;exact ZdM hr ht
    have hS:∀ to d,(byS (fsts ps) al (L.take k) src to d\/((∀ y,¬Zau (fsts ps) al src to y)/\d.to=to/\d∈(Zal os).take j))->GoodW d/\d.to=to:=by
     rintro to d (h | ⟨_,h1,h2⟩)
     ·exact Zn7 h
     ·exact ⟨hgd0 d (List.mem_of_mem_take h2),h1⟩
    by_cases hjl:j<os.length
    ·obtain ⟨r,hr⟩:∃ r,os[j]? = some r:=⟨os[j],List.getElem?_eq_getElem hjl⟩
     obtain⟨bo,offo,cpo,hve,hbbo,c0,c1,c2,_⟩:=st.from_.at.cells j r hr;cases hve
     have hgr:GoodW r.1:=hgd0 r.1 (by simp only [Zal,List.mem_map];exact⟨r,List.mem_of_getElem? hr,rfl⟩)
     have hji:(0:Int)<=(j:Int):=by omega
     have hjj:(j:Int)<(os.length:Int):=by omega
     obtain⟨rra,rrc,hrn⟩:=Zac (st.from_.nears r (List.mem_of_getElem? hr)).1;rw [hrn] at c2;have hgd:=st.good hS;have BA:Below wr.heap.size wr (wr.alloc (.cells #[.int .i64 r.1.to,.int .i64 r.1.cost,.slice rra r.1.hops.length rrc] 194)):=(Below.refl _ _).alloc (Nat.le_refl _) _;have hxb:=heap_alloc_new wr (.cells #[.int .i64 r.1.to,.int .i64 r.1.cost,.slice rra r.1.hops.length rrc] 194);obtain⟨w4,hw4⟩:∃ W,W=wr.alloc (.cells #[.int .i64 r.1.to,.int .i64 r.1.cost,.slice rra r.1.hops.length rrc] 194):=⟨_,rfl⟩;rw [<-hw4] at BA hxb;have hs4:=BA.size;have hl4:=Zab hxb;have HW:=HWT.out r.1.to w4 (hnx2.trans (BA.mono hnx2.size));have hh:=HHAS.out r.1.to;obtain⟨D,hD⟩:∃ D,D=ZbD (Zal ws) r.1.to:=⟨_,rfl⟩;obtain⟨FB,hFB⟩:∃ F,F=Zbs (Zal ws) r.1.to:=⟨_,rfl⟩;rw [<-hD, <-hFB] at HW;rw [<-hFB] at hh;have HWW:=hide HW;have HH:=hide hh;have HST:=hide st;have HRX:=hide hra2;have HRR:=hide hr;have HRN:=hide hrn;have HGD:=hide hgd;have HGR:=hide hgr;have HSS:=hide hS;have HXB:=hide hxb;have HBA:=hide BA;unfold wayC at HWW;clear HW hh st hra2 hr hrn hgd hgr hS hxb BA hgd0 hD hFB
     go_wp2_with fail
     rw [<-hw4];clear hw4;refine HWW.out.mono ?_
     rintro e w5 ⟨du,rfl,hdu,b5⟩;obtain⟨da,dc,rfl⟩:=Zac hdu;have hb5:=b5.size;have BC:Below w5.heap.size w5 (w5.alloc (.cells #[.int .i64 D.to,.int .i64 D.cost,.slice da D.hops.length dc] 194)):=(Below.refl _ _).alloc (Nat.le_refl _) _;have hxb5:=(b5.block _ hl4).trans HXB.out;have hxb6:=(BC.block _ (Zab hxb5)).trans hxb5;have d0:=Zaa hxb6 0;have d1:=Zaa hxb6 1;have d2:=Zaa hxb6 2;simp at d0 d1 d2
     obtain⟨w6,hw6⟩:∃ W,W=w5.alloc (.cells #[.int .i64 D.to,.int .i64 D.cost,.slice da D.hops.length dc] 194):=⟨_,rfl⟩;rw [<-hw6] at BC;have B6:Below wr.heap.size wr w6:=HBA.out.trans ((b5.mono hs4).trans (BC.mono (by omega)))
     have st6:=HST.out.below B6;have ra6:=HRX.out.below B6 (by omega)
     have N6:Below w1.heap.size w1 w6:=hnx2.trans (B6.mono hnx2.size);have hs6:=B6.size;clear hdu b5 BC hxb5 hxb6 HST HRX HWW HXB HBA B6;cases FB
     ·have hno:∀ y,¬Zau (fsts ps) al src r.1.to y:=by
       rcases HH.out with ⟨h1,_⟩ | ⟨_,h2⟩
       ·cases h1
       ·exact h2
      have hT:∀ to d,((byS (fsts ps) al (L.take k) src to d\/((∀ y,¬Zau (fsts ps) al src to y)/\d.to=to/\d∈(Zal os).take j))\/(d=r.1/\r.1.to=to))↔(byS (fsts ps) al (L.take k) src to d\/((∀ y,¬Zau (fsts ps) al src to y)/\d.to=to/\d∈(Zal os).take (j+1))):=by
       intro to d;rw [Zbo (ZcA HRR.out)]
       constructor
       ·rintro ((h | ⟨h0,h1,h2⟩) | ⟨h1,h2⟩)
        ·exact .inl h
        ·exact .inr ⟨h0,h1,.inl h2⟩
        ·exact .inr ⟨by rw [<-h2];exact hno,by rw [h1];exact h2,.inr h1⟩
       ·rintro (h | ⟨h0,h1,h2 | h2⟩)
        ·exact .inl (.inl h)
        ·exact .inl (.inr ⟨h0,h1,h2⟩)
        ·exact .inr ⟨h2,by rw [<-h2];exact h1⟩
      have HPW:=Zhd (.slice ya qs2.length yc) qs2 w1.heap.size r w6 st6.own N6.size (by have:=HGD.out;omega) (fun p hp=>by have:=HGD.out.2 p hp;omega) (by have:=HGR.out.len;omega) st6.best.1 (st6.hop HRR.out) (st6.apartR HRR.out)
      unfold wayC at HPW;rw [HRN.out] at HPW;have HNX:=hide (fun (W':World) (x':Value) (qs':List WP) (hp:PutD (Zal qs2) r.1 (Zal qs')) (ho:WaysOwn W' w1.heap.size W'.heap.size x' qs') (hf:Zed w6.heap.size qs2 r qs') hn (hg:w6.grownBy W' (Value.slice ya qs2.length yc).ownBlock)=>(⟨st6.put HRR.out HSS.out HGR.out hT hp ho hf hn hg,ra6.keep (st6.offR.kept hg),N6.grown hg N6.size (fun b hb=>(st6.own.row.lt b hb).1),hg.size⟩:_/\_/\_/\_))
      have HP:=hide HPW;clear HPW hT hno HH HRR HRN HGD HGR HSS st6 ra6 N6
      go_wp2_with fail
      rw [<-hw6];clear hw6;refine HP.out.mono ?_
      rintro e w7 ⟨x',qs',rfl,hp,ho,hf,hn',hg⟩;obtain⟨n1,n2,n3,n4⟩:=HNX.out w7 x' qs' hp ho hf hn' hg;obtain⟨x'a,x'c,rfl⟩:=Zac ho.row;have N1:=hide n1;have N2:=hide n2;have N3:=hide n3;clear n1 n2 n3 hp ho hf hn' hg HNX HP
      go_wp2
      go_roundw
      case rel=>exact ⟨j+1,_,qs',by omega,by go_num,rfl,N1.out,N2.out,N3.out,by omega⟩
      case measure=>simp [intOf];omega
     ·have hyes:∃ y,Zau (fsts ps) al src r.1.to y:=by
       rcases HH.out with ⟨_,h2⟩ | ⟨h1,_⟩
       ·exact h2
       ·cases h1
      have N1:=hide (st6.pass HRR.out (T:=fun to d=>byS (fsts ps) al (L.take k) src to d\/((∀ y,¬Zau (fsts ps) al src to y)/\d.to=to/\d∈(Zal os).take (j+1))) (fun to d=>by
       rw [Zbo (ZcA HRR.out)]
       constructor
       ·rintro (h | ⟨h0,h1,h2⟩)
        ·exact .inl h
        ·exact .inr ⟨h0,h1,.inl h2⟩
       ·rintro (h | ⟨h0,h1,h2 | h2⟩)
        ·exact .inl h
        ·exact .inr ⟨h0,h1,h2⟩
        ·obtain ⟨y,hy⟩:=hyes
         exact absurd (by rw [<-h1,h2];exact hy) (h0 y)))
      have N2:=hide ra6;have N3:=hide N6;have hsf:w3.heap.size<=w6.heap.size:=by omega
      rw [hw6] at N1 N2 N3 hsf;clear st6 ra6 N6 hyes HH HRR HRN HGD HGR HSS hw6
      go_wp2
      go_roundw
      case rel=>exact ⟨j+1,_,qs2,by omega,by go_num,rfl,N1.out,N2.out,N3.out,hsf⟩
      case measure=>simp [intOf];omega
    ·have hjn:¬(j:Int)<(os.length:Int):=by omega
     have HBX:=hide (show ZaR (byS (fsts ps) al (L.take (k+1)) src) (Zal qs2) from st.best.congr (fun to d=>by
      rw [Zn8 HAR.out,show (Zal os).take j=Zal os from List.take_of_length_le (by simp [Zal];omega),HOS.out]
      rfl))
     have HOX:=hide st.own;have HFX:=hide st.offR;have HRX:=hide hra2;have HNX:=hide hnx2;have hsf:w2.heap.size<=wr.heap.size:=by omega
     clear st hra2 hnx2 hS hgd0
     go_wp2
     go_roundw
     case rel=>exact ⟨k+1,_,qs2,by omega,by go_num,rfl,HOX.out,HBX,HFX.out,HRX.out,HNX.out,hsf⟩
     case measure=>simp [intOf];omega
  ·have hkn:¬(k:Int)<(L.length:Int):=by omega
   have HE:=hide (show ZaR (Zbq (fsts ps) al border src) (Zal qs) from by
    have h:=HB.out;rw [List.take_of_length_le (by omega)] at h
    exact h.congr HFIN.out)
   have HO:=hide (hown.wide (lo':=w.heap.size) hb1 (Nat.le_refl _));have HN:=hide BWA;clear hown hnx HB hoff hra BWA
   go_wp2
   go_ret
   first
    | exact ⟨_,qs,rfl,HE.out,HO.out,HN.out⟩
    | exact ⟨_,rfl,qs,HE.out,HO.out,HN.out⟩
end Go.Proofs.YtadokhjefnkajaaGreat
