/-
  TellB TellI IdealM TellC
-/
import Derived.Test.YtadokhjefnkajaaGreatIe32
import Derived.Test.YtadokhjefnkajaaGreatIe42
import Derived.Test.YtadokhjefnkajaaGreatIe39
import Derived.Test.YtadokhjefnkajaaGreatIe13
import Derived.Test.YtadokhjefnkajaaGreatIe34
import Derived.Test.YtadokhjefnkajaaGreatIe8
import Derived.Test.YtadokhjefnkajaaGreatIe21
namespace Go.Proofs.YtadokhjefnkajaaGreat
open Go.RowKit

set_option linter.unusedSimpArgs false

open Classical in
noncomputable def tolD (xs:List RecD) (al:List Int) (src area:Int):List RecD:=if h:∃ ds,ZbH xs al src area ds then Classical.choose h else []

theorem ZbH.eq {xs:List RecD}{al:List Int}{src area:Int}{ds:List RecD}(h:ZbH xs al src area ds):ds=tolD xs al src area:=by
 unfold tolD;rw [dif_pos ⟨ds,h⟩];exact h.unique (Classical.choose_spec (⟨ds,h⟩:∃ ds,ZbH xs al src area ds))

noncomputable def Za7 (xs:List RecD) (al:List Int) (src:Int) (bl:List Int):List RecD:=bl.flatMap (fun a=>tolD xs al src a)

theorem Zip {xs:List RecD}{al bl:List Int}{src a:Int}{k:Nat}(h:bl[k]? = some a):Za7 xs al src (bl.take (k+1))=Za7 xs al src (bl.take k)++tolD xs al src a:=by
 obtain⟨hk,e⟩:=List.getElem?_eq_some_iff.1 h;unfold Za7;rw [List.take_succ_eq_append_getElem hk,e,List.flatMap_append];simp

def ZbI (node:Int)(r:RecD):Bool:=r.kind != 2||r.owner != node

noncomputable def beyD (xs:List RecD) (al:List Int) (node:Int):List RecD:=Zdq (xs.filter (ZbI node)) (Za7 xs al node al)

theorem RecsOwn.join {W Wa W2:World}{lo:Nat}{v v' u:Value}{qs bs:List RP}(h:RecsOwn W lo W.heap.size v qs)(hb:Below W.heap.size W Wa)(hlo:lo<=W.heap.size)(hu:RecsOwn Wa W.heap.size Wa.heap.size u bs)
  (row:W2.ownsRow lo 39 8 v' (qs++bs).length (flat encP (qs++bs))) (hg:Wa.grownBy W2 v.ownBlock):RecsOwn W2 lo W2.heap.size v' (qs++bs) where
 row:=row
 top:=fun k hk=>(row.lt k hk).2
 apart:=by
  rw [List.pairwise_append];refine⟨h.apart,hu.apart,fun p hp q hq k hk he=>?_⟩
  have h1:=(h.nears p hp).2 k hk;have h2:=((hu.nears q hq).1.lt k he).1;omega
 nears:=by
  have rowa:=Zae h.row hb (Nat.le_refl _);have key:∀ q,ZaD Wa lo Wa.heap.size q->ZaD W2 lo W2.heap.size q:=fun q hq=>
   ⟨Zan hq.1 (fun j hj=>hg.block j (hq.2 j hj) (ZcN hq rowa j hj)),fun k hk=>Nat.lt_of_lt_of_le (hq.2 k hk) hg.size⟩
  intro q hq
  rcases List.mem_append.1 hq with h1 | h1
  ·exact key q (((h.nears q h1).keep (W':=Wa) (fun j _ h2 _=>hb.block j h2)).wide (Nat.le_refl _) hb.size)
  ·exact key q ((hu.nears q h1).wide hlo (Nat.le_refl _))
end Go.Proofs.YtadokhjefnkajaaGreat
namespace Go.Proofs.YtadokhjefnkajaaGreat
open Go.RowKit
set_option linter.unusedSimpArgs false
set_option linter.unusedVariables false
set_option maxRecDepth 100000
set_option maxHeartbeats 8000000
theorem WaysOwn.join {W Wa W2:World}{lo:Nat}{v v' u:Value}{qs bs:List WP}(h:WaysOwn W lo W.heap.size v qs)(hb:Below W.heap.size W Wa)(hlo:lo<=W.heap.size)(hu:WaysOwn Wa W.heap.size Wa.heap.size u bs)
  (row:W2.ownsRow lo 194 3 v' (qs++bs).length (flat encW (qs++bs))) (hg:Wa.grownBy W2 v.ownBlock):WaysOwn W2 lo W2.heap.size v' (qs++bs) where
 row:=row
 top:=fun k hk=>(row.lt k hk).2
 apart:=by
  rw [List.pairwise_append];refine⟨h.apart,hu.apart,fun p hp q hq k hk he=>?_⟩
  have h1:=(h.nears p hp).2 k hk;have h2:=((hu.nears q hq).1.lt k he).1;omega
 nears:=by
  have rowa:=Zae h.row hb (Nat.le_refl _);have key:∀ q,Zbv Wa lo Wa.heap.size q->Zbv W2 lo W2.heap.size q:=fun q hq=>
   ⟨Zan hq.1 (fun j hj=>hg.block j (hq.2 j hj) (Zfd hq rowa j hj)),fun k hk=>Nat.lt_of_lt_of_le (hq.2 k hk) hg.size⟩
  intro q hq
  rcases List.mem_append.1 hq with h1 | h1
  ·exact key q (((h.nears q h1).keep (W':=Wa) (fun j _ h2 _=>hb.block j h2)).wide (Nat.le_refl _) hb.size)
  ·exact key q ((hu.nears q h1).wide hlo (Nat.le_refl _))
def Zd8 (xs:List RecD)(al:List Int)(src area:Int)(ds:List WayD):Prop:=∃ ns bs,ds=ns++bs/\ZaR (Zau xs al src) ns/\(area=0->bs=[])/\(area≠0->ZaR (Zbq xs al true src) bs)
theorem Zd8.good {xs:List RecD}{al:List Int}{src area:Int}{ds:List WayD}(h:Zd8 xs al src area ds):ds.length<=12/\∀ d∈ds,GoodW d:=by
 obtain⟨ns,bs,rfl,h1,h2,h3⟩:=h;have hn:=h1.good (fun to d h=>Zbc h)
 have ln:=Zc2 h1.1 (fun d hd=>(hn d hd).node)
 by_cases e:area=0
 ·rw [h2 e,List.append_nil]
  exact⟨by omega,hn⟩
 ·have hb:=(h3 e).good (fun to d h=>ZbM h)
  have lb:=Zc2 (h3 e).1 (fun d hd=>(hb d hd).node)
  refine⟨by rw [List.length_append];omega,fun d hd=>?_⟩
  rcases List.mem_append.1 hd with h4 | h4
  ·exact hn d h4
  ·exact hb d h4
theorem ZdQ {S:Int->WayD->Prop}{ds:List WayD}(h:ZaR S ds)(d:WayD):d∈ds↔ZaQ d.to (S d.to) (some d):=by
 constructor
 ·intro hd
  have:=h.2 d.to;rw [Zb2 h.1 hd] at this;exact this
 ·intro hb
  have:=(h.2 d.to).unique hb;exact (Za0 this).1
theorem Zd8.apart {xs:List RecD}{al:List Int}{src area:Int}{ds:List WayD}(h:Zd8 xs al src area ds):ds.Pairwise (fun x y=>x.to≠y.to):=by
 obtain⟨ns,bs,rfl,h1,h2,h3⟩:=h;rw [List.pairwise_append];refine⟨List.Pairwise.imp (fun h=>by omega) h1.1,?_,?_⟩
 ·by_cases e:area=0
  ·rw [h2 e];exact List.Pairwise.nil
  ·exact List.Pairwise.imp (fun h=>by omega) (h3 e).1
 ·intro x hx y hy e
  by_cases e0:area=0
  ·rw [h2 e0] at hy;cases hy
  ·have b1:=(ZdQ h1 x).1 hx
   have b2:=(ZdQ (h3 e0) y).1 hy;obtain⟨_,⟨u,hu,_⟩,_⟩:=b1;obtain⟨_,⟨u',hu',_⟩,_⟩:=b2;rw [<-e] at hu';exact hu'.1 u hu
theorem Zd8.told {xs:List RecD}{al:List Int}{src area:Int}{ds:List WayD}(h:Zd8 xs al src area ds)(to c:Int):Zb8 xs al src area to c↔(Zcj xs area src to/\to≠src/\∃ d∈ds,d.to=to/\c=d.cost):=by
 obtain⟨ns,bs,rfl,h1,h2,h3⟩:=h;unfold Zb8
 constructor
 ·rintro ⟨n1,n2,⟨w,hb,rfl⟩ | ⟨e0,w,hb,rfl⟩⟩
  ·have ht:w.to=to:=hb.1
   subst ht;exact⟨n1,n2,w,List.mem_append.2 (.inl ((ZdQ h1 w).2 hb)),rfl,rfl⟩
  ·have ht:w.to=to:=hb.1
   subst ht;exact⟨n1,n2,w,List.mem_append.2 (.inr ((ZdQ (h3 e0) w).2 hb)),rfl,rfl⟩
 ·rintro ⟨n1,n2,d,hd,rfl,rfl⟩
  refine⟨n1,n2,?_⟩
  rcases List.mem_append.1 hd with h4 | h4
  ·exact .inl ⟨d,(ZdQ h1 d).1 h4,rfl⟩
  ·by_cases e0:area=0
   ·rw [h2 e0] at h4;cases h4
   ·exact .inr ⟨e0,d,(ZdQ (h3 e0) d).1 h4,rfl⟩
theorem Zmd (v u:Value)(ps:List RP)(al:List Int)(hi:Nat)(src area:Int)(w:World)(hv:RecsIn w hi v ps)(ha:ZaM w u al hi)(hhi:hi<=w.heap.size)(hn:tot ps<=1048576)(hal:al.length<=1048576):
  Calls Tryz.prog 207 #[v,u,.int .i64 src,.int .i64 area] w fun e w'=>∃ x qs,e=.returned x/\Zd8 (fsts ps) al src area (Zal qs)/\WaysOwn w' w.heap.size w'.heap.size x qs/\Below w.heap.size w w':=by
 obtain⟨a1,c1,rfl⟩:=Zac hv.row;obtain⟨a2,c2,rfl⟩:=ha.shape;have HWI:=hide (Zf7 (.slice a1 ps.length c1) (.slice a2 al.length c2) ps al hi src w hv ha hhi hn hal);have HWB:=hide (fun W (hb:Below w.heap.size w W)=>ZjM (.slice a1 ps.length c1) (.slice a2 al.length c2) ps al hi true src W (hv.below hb hhi) (ZaE.later ha hb hhi) (Nat.le_trans hhi hb.size) hn hal)
 clear hv ha;by_cases ha0:area=0
 ·have hd:(area==0)=true:=by simpa using ha0
  have HA0:=hide ha0;clear ha0 HWB
  go_enter Tryz.func207,Tryz.ntmps207
  go_wp2_with fail
  refine HWI.out.mono ?_
  rintro e w1 ⟨x,ns,rfl,hbn,hon,b1⟩;obtain⟨xa,xc,rfl⟩:=Zac hon.row;have HE:=hide (show Zd8 (fsts ps) al src area (Zal ns) from ⟨Zal ns,[],by simp,hbn,fun _=>rfl,fun h=>absurd HA0.out h⟩)
  have HO:=hide hon;clear hbn hon
  go_wp2
  go_ret
  first
   | exact ⟨_,ns,rfl,HE.out,HO.out,b1⟩
   | exact ⟨_,rfl,ns,HE.out,HO.out,b1⟩
 ·have hd:(area==0)=false:=by simpa using ha0
  have HA0:=hide ha0;clear ha0
  go_enter Tryz.func207,Tryz.ntmps207
  go_wp2_with fail
  refine HWI.out.mono ?_
  rintro e w1 ⟨x,ns,rfl,hbn,hon,b1⟩;obtain⟨xa,xc,rfl⟩:=Zac hon.row;have hb1:=b1.size;have HO:=hide hon;have HN:=hide hbn;clear hbn hon
  go_wp2_with fail
  refine (HWB.out _ b1).mono ?_
  rintro e w2 ⟨y,bs,rfl,hbb,hob,b2⟩;obtain⟨ya,yc,rfl⟩:=Zac hob.row;have hb2:=b2.size;have HE:=hide (show Zd8 (fsts ps) al src area (Zal (ns++bs)) from ⟨Zal ns,Zal bs,by simp [Zal],HN.out,fun h=>absurd h HA0.out,fun _=>hbb⟩)
  have hls:=HE.out.good.1;have hls2:ns.length+bs.length<=12:=by simpa [Zal] using hls
  have HOB:=hide hob;have OW:=hide (Zae HO.out.row b2 (Nat.le_refl _));have HB2:=hide b2;clear hbb hob b2 hls
  go_wp2_with (first
   | (at_builtin;refine Zef (fun l=>ZaF Zbg l) (by omega) (by omega) _ rfl _ _ 188 rfl w.heap.size 194 Tryz.underlying188 (.agg (wayC Zbt (.slice none 0 0))) rfl Tryz.infoWay _ ns rfl OW.out w1.heap.size _ bs (fun q hq=>ZmJ (HOB.out.nears q hq)) rfl HOB.out.row (by omega) (by omega) ?_))
  intro v' w3 hown' hgrow;have N1:=hide (HO.out.join HB2.out hb1 HOB.out (by rw [List.length_append];exact hown') hgrow)
  have N2:=hide ((b1.trans (HB2.out.mono hb1)).grown hgrow (by omega) (fun j hj=>(HO.out.row.lt j hj).1))
  obtain⟨va,vc,rfl⟩:=Zac hown';clear hown' hgrow OW HOB HO HB2
  go_wp2
  go_ret
  first
   | exact ⟨_,ns++bs,rfl,HE.out,N1.out,N2.out⟩
   | exact ⟨_,rfl,ns++bs,HE.out,N1.out,N2.out⟩
def Zc3 (xs:List RecD)(src area:Int)(ds:List WayD)(j:Nat)(rs:List RecD):Prop:=Asc rs/\∀ r,r∈rs↔∃ d∈ds.take j,r=ZbC area src d.to d.cost/\Zcj xs area src d.to/\d.to≠src
theorem Zc3.skip {xs:List RecD}{src area:Int}{ds:List WayD}{j:Nat}{rs:List RecD}{d:WayD}(h:Zc3 xs src area ds j rs)(hd:ds[j]? = some d)(hn:¬(Zcj xs area src d.to/\d.to≠src)):Zc3 xs src area ds (j+1) rs:=by
 refine⟨h.1,fun r=>?_⟩
 rw [h.2]
 constructor
 ·rintro ⟨x,hx,h2⟩
  exact⟨x,(Zbo hd x).2 (.inl hx),h2⟩
 ·rintro ⟨x,hx,h2,h3⟩
  rcases (Zbo hd x).1 hx with h4 | h4
  ·exact ⟨x,h4,h2,h3⟩
  ·subst h4;exact absurd h3 hn
theorem ZpQ {rs:List RecD}{r:RecD}(h:∀ x∈rs,Zaw x r=false)(x:RecD):x∈putD rs r↔x∈rs\/x=r:=by
 unfold putD;simp only [List.mem_append,List.mem_filter,List.mem_singleton]
 constructor
 ·rintro ((⟨h1,_⟩ | h1) | ⟨h1,_⟩)
  ·exact .inl h1
  ·exact .inr h1
  ·exact .inl h1
 ·rintro (h1 | h1)
  ·rcases Zhx x r with h2 | h2 | h2
   ·exact .inl (.inl ⟨h1,h2⟩)
   ·rw [h x h1] at h2;cases h2
   ·exact .inr ⟨h1,h2⟩
  ·exact .inl (.inr h1)
theorem Zpx {rs:List RecD}(h:Asc rs)(r:RecD):Asc (putD rs r):=by
 unfold putD Asc;rw [List.append_assoc,List.pairwise_append];refine⟨List.Pairwise.filter _ h,?_,?_⟩
 ·rw [List.pairwise_append]
  refine⟨by simp,List.Pairwise.filter _ h,fun a ha b hb=>?_⟩
  have:a=r:=by simpa using ha
  subst this;exact (List.mem_filter.1 hb).2
 ·intro a ha b hb
  have h1:=(List.mem_filter.1 ha).2
  rcases List.mem_append.1 hb with h2 | h2
  ·have:b=r:=by simpa using h2
   subst this;exact h1
  ·exact Zcv h1 (List.mem_filter.1 h2).2
theorem Zc3.put {xs:List RecD}{src area:Int}{ds:List WayD}{j:Nat}{rs:List RecD}{d:WayD}(h:Zc3 xs src area ds j rs)(hd:ds[j]? = some d)(hn:Zcj xs area src d.to/\d.to≠src)(hap:ds.Pairwise (fun x y=>x.to≠y.to)):Zc3 xs src area ds (j+1) (putD rs (ZbC area src d.to d.cost)):=by
 obtain⟨hj,e⟩:=List.getElem?_eq_some_iff.1 hd;have hne:∀ x∈ds.take j,x.to≠d.to:=by
  intro x hx;rw [<-List.take_append_drop j ds,List.pairwise_append] at hap;exact hap.2.2 x hx d (by rw [List.drop_eq_getElem_cons hj,e];exact List.mem_cons_self)
 have hk:∀ x∈rs,Zaw x (ZbC area src d.to d.cost)=false:=by
  intro x hx;obtain⟨y,hy,rfl,_⟩:=(h.2 x).1 hx;have:=hne y hy;simp [Zaw,ZbC,this]
 refine⟨Zpx h.1 _,fun r=>?_⟩
 rw [ZpQ hk,h.2]
 constructor
 ·rintro (⟨x,hx,h2⟩ | h2)
  ·exact ⟨x,(Zbo hd x).2 (.inl hx),h2⟩
  ·exact ⟨d,(Zbo hd d).2 (.inr rfl),h2,hn⟩
 ·rintro ⟨x,hx,h2,h3⟩
  rcases (Zbo hd x).1 hx with h4 | h4
  ·exact .inl ⟨x,h4,h2,h3⟩
  ·subst h4;exact .inr h2
theorem Zc3.all {xs:List RecD}{al:List Int}{src area:Int}{ds:List WayD}{rs:List RecD}(h:Zc3 xs src area ds ds.length rs)(ht:Zd8 xs al src area ds):ZbH xs al src area rs:=by
 refine⟨h.1,fun r=>?_⟩
 rw [h.2,List.take_length]
 constructor
 ·rintro ⟨d,hd,h1,h2,h3⟩
  exact⟨d.to,d.cost,h1,(ht.told d.to d.cost).2 ⟨h2,h3,d,hd,rfl,rfl⟩⟩
 ·rintro ⟨to,c,h1,h2⟩
  obtain⟨n1,n2,d,hd,rfl,rfl⟩:=(ht.told to c).1 h2;exact⟨d,hd,h1,n1,n2⟩
theorem Zc3.tot {xs:List RecD}{src area:Int}{ds:List WayD}{j:Nat}{rs:List RecD}(h:Zc3 xs src area ds j rs)(hg:∀ d∈ds,GoodW d):rs.length<=6/\∀ r∈rs,r.near=[]:=by
 constructor
 ·have h1:(rs.map (·.key)).Pairwise (· < ·):=by
   rw [List.pairwise_map];refine List.Pairwise.imp_of_mem ?_ h.1
   intro a b ha hb hab;obtain⟨x,_,rfl,_⟩:=(h.2 a).1 ha;obtain⟨y,_,rfl,_⟩:=(h.2 b).1 hb;rw [Zc1] at hab;exact of_decide_eq_true hab
  have h2:=ZeA h1 (fun z hz=>by
   obtain⟨r,hr,rfl⟩:=List.mem_map.1 hz;obtain⟨x,hx,rfl,_⟩:=(h.2 r).1 hr;exact (hg x (List.mem_of_mem_take hx)).node)
  simpa using h2
 ·intro r hr
  obtain⟨x,_,rfl,_⟩:=(h.2 r).1 hr
  rfl
theorem Zpb {qs:List RP}(hl:qs.length<=6)(hg:∀ r∈fsts qs,r.near=[]):tot qs<=1048576:=by
 have:∀ l:List RP,(∀ r∈fsts l,r.near=[])->tot l<=l.length:=by
  intro l
  induction l with
  | nil=>intro _;simp [tot]
  | cons q l ih=>
   intro h;rw [Zb9,List.length_cons];have h1:=h q.1 (by simp [fsts])
   have h2:=ih (fun r hr=>h r (by simp only [fsts,List.map_cons,List.mem_cons] at hr |-;exact .inr hr))
   rw [h1];simp only [List.length_nil]
   omega
 have:=this qs hg;omega
theorem ZmZ (v u:Value)(ps:List RP)(al:List Int)(hi:Nat)(src area:Int)(w:World)(hv:RecsIn w hi v ps)(ha:ZaM w u al hi)(hhi:hi<=w.heap.size)(hn:tot ps<=1048576)(hal:al.length<=1048576):
  Calls Tryz.prog 151 #[v,u,.int .i64 src,.int .i64 area] w fun e w'=>∃ x qs,e=.returned x/\ZbH (fsts ps) al src area (fsts qs)/\RecsOwn w' w.heap.size w'.heap.size x qs/\Below w.heap.size w w':=by
 obtain⟨a1,c1,rfl⟩:=Zac hv.row;obtain⟨a2,c2,rfl⟩:=ha.shape;have HWI:=hide (Zei (.slice a1 ps.length c1) ps hi area src w hv hhi hn);have HTT:=hide (fun W (hb:Below w.heap.size w W)=>Zmd (.slice a1 ps.length c1) (.slice a2 al.length c2) ps al hi src area W (hv.below hb hhi) (ZaE.later ha hb hhi) (Nat.le_trans hhi hb.size) hn hal)
 clear hv ha
 go_enter Tryz.func151,Tryz.ntmps151
 go_wp2_with fail
 refine HWI.out.mono ?_
 rintro e w1 ⟨uh,hs,rfl,hhs0,hoh,b1⟩;obtain⟨uha,uhc,rfl⟩:=Zac hoh.row;have hhs:=hhs0.eq;have hb1:=b1.size;have hht:totW hs<=1048576:=by have:=Zjo hhs;omega
 have HTH:=hide (fun (z:Int) (W:World) (h:WaysOwn W w.heap.size w1.heap.size (.slice uha hs.length uhc) hs) (hh:w1.heap.size<=W.heap.size)=>by have r:=Zff (.slice uha hs.length uhc) hs w.heap.size w1.heap.size z W h hh hht;rw [hhs] at r;exact r)
 have LIT:=Zct w1 w1.heap.size (Nat.le_refl _);have hs2:(w1.alloc (.cells #[] 39)).heap.size=w1.heap.size+1:=by simp
 have B2:Below w1.heap.size w1 (w1.alloc (.cells #[] 39)):=(Below.refl _ _).alloc (Nat.le_refl _) _;obtain⟨w2,hw2⟩:∃ W,W=w1.alloc (.cells #[] 39):=⟨_,rfl⟩;rw [<-hw2] at LIT hs2 B2;have BW2:Below w.heap.size w w2:=b1.trans (B2.mono hb1);have HS2:=hide hs2;have HLIT:=hide LIT;have HOH:=hide hoh;clear hs2 LIT hoh hhs0 hhs hht HWI
 go_wp2_with fail
 rw [<-hw2];clear hw2;refine (HTT.out _ BW2).mono ?_
 rintro e w3 ⟨ut,ws,rfl,htt,hot,b3⟩;obtain⟨uta,utc,rfl⟩:=Zac hot.row;have hb2:=B2.size;have hb3:=b3.size;have hgd:=htt.good;have hwl:ws.length<=12:=by simpa [Zal] using hgd.1
 have BW3:Below w1.heap.size w1 w3:=B2.trans (b3.mono hb2);have HO3:=hide ((HLIT.out.below b3 (Nat.le_refl _)).wide (Nat.le_refl _) hb3);have HH3:=hide (HOH.out.below BW3 (Nat.le_refl _));have HW3:=hide hot;have HTT2:=hide htt;have HGD:=hide hgd.2;clear hot htt b3 HLIT HOH HTT hgd
 go_wp2
 go_loopw [26,10] (fun i o wr=>∃ (j:Nat) (x:Value) (qs:List RP),j<=ws.length/\i=.int .i64 (j:Int)/\o=x/\RecsOwn wr w1.heap.size wr.heap.size x qs/\Hid (Zc3 (fsts ps) src area (Zal ws) j (fsts qs))/\Off x w2.heap.size w3.heap.size/\WaysOwn wr w.heap.size w1.heap.size (.slice uha hs.length uhc) hs/\WaysOwn wr w2.heap.size w3.heap.size (.slice uta ws.length utc) ws/\Below w1.heap.size w1 wr/\w3.heap.size<=wr.heap.size) (fun i _ _=>ws.length-(intOf i).toNat)
 case atStart=>exact ⟨0,_,[],by omega,rfl,rfl,HO3.out,hide ⟨List.Pairwise.nil,fun r=>by simp [fsts]⟩,fun b hb=>by simp [Value.ownBlock] at hb;have:=HS2.out;omega,HH3.out,HW3.out,BW3,Nat.le_refl _⟩
 case round=>
  obtain⟨j,x,qs,hj,rfl,rfl,hown,HT0,hoff,hhw,hww,hnx,hsz⟩:=hrel;clear HO3 HH3 HW3 BW3;obtain⟨xa,xc,rfl⟩:=Zac hown.row;by_cases hjl:j<ws.length
  ·obtain ⟨r,hr⟩:∃ r,ws[j]? = some r:=⟨ws[j],List.getElem?_eq_getElem hjl⟩
   obtain⟨bo,offo,cpo,hve,hbbo,c0,c1,c2,_⟩:=hww.at.cells j r hr;cases hve
   have hji:(0:Int)<=(j:Int):=by omega
   have hjj:(j:Int)<(ws.length:Int):=by omega
   obtain⟨rra,rrc,hrn⟩:=Zac (hww.nears r (List.mem_of_getElem? hr)).1;rw [hrn] at c2;have HRD:=hide (ZcA hr);have BA:Below wr.heap.size wr (wr.alloc (.cells #[.int .i64 r.1.to,.int .i64 r.1.cost,.slice rra r.1.hops.length rrc] 194)):=(Below.refl _ _).alloc (Nat.le_refl _) _;have hxb:=heap_alloc_new wr (.cells #[.int .i64 r.1.to,.int .i64 r.1.cost,.slice rra r.1.hops.length rrc] 194);obtain⟨w4,hw4⟩:∃ W,W=wr.alloc (.cells #[.int .i64 r.1.to,.int .i64 r.1.cost,.slice rra r.1.hops.length rrc] 194):=⟨_,rfl⟩;rw [<-hw4] at BA hxb;have hs4:=BA.size;have hl4:=Zab hxb;have HW:=HTH.out r.1.to w4 (hhw.below BA (by have:=hnx.size;omega)) (by have:=hnx.size;omega)
   have hnh:=ZkW (fsts ps) area src r.1.to;obtain⟨D,hD⟩:∃ D,D=ZbD (ZbE (fsts ps) area src) r.1.to:=⟨_,rfl⟩;obtain⟨FB,hFB⟩:∃ F,F=Zbs (ZbE (fsts ps) area src) r.1.to:=⟨_,rfl⟩;rw [<-hD, <-hFB] at HW;rw [<-hFB] at hnh;have HWW:=hide HW;have HNH:=hide hnh;have HOW:=hide hown;have HOFF:=hide hoff;have HHS:=hide hhw;have HWS:=hide hww;have HXB:=hide hxb;have HBA:=hide BA;unfold wayC at HWW;clear HW hnh hown hoff hhw hww hr hrn hxb BA hD hFB
   go_wp2_with fail
   rw [<-hw4];clear hw4;refine HWW.out.mono ?_
   rintro e w5 ⟨du,rfl,hdu,b5⟩;obtain⟨da,dc,rfl⟩:=Zac hdu;have hb5:=b5.size;have BC:Below w5.heap.size w5 (w5.alloc (.cells #[.int .i64 D.to,.int .i64 D.cost,.slice da D.hops.length dc] 194)):=(Below.refl _ _).alloc (Nat.le_refl _) _;have hxb5:=(b5.block _ hl4).trans HXB.out;have hxb6:=(BC.block _ (Zab hxb5)).trans hxb5;have d0:=Zaa hxb6 0;have d1:=Zaa hxb6 1;have d2:=Zaa hxb6 2;simp at d0 d1 d2
   have BT:Below wr.heap.size wr (w5.alloc (.cells #[.int .i64 D.to,.int .i64 D.cost,.slice da D.hops.length dc] 194)):=HBA.out.trans ((b5.mono hs4).trans (BC.mono (by omega)))
   clear hdu b5 BC hxb5 hxb6 HWW HXB HBA;cases FB
   case true=>
    have N1:=hide ((HOW.out.below BT (Nat.le_refl _)).wide (Nat.le_refl _) BT.size);have N2:=hide (HT0.out.skip HRD.out (fun h=>by rcases HNH.out with ⟨_,h2⟩ | ⟨h1,_⟩;exact h2 h.1;cases h1))
    have N3:=hide (HHS.out.below BT (by omega))
    have N4:=hide (HWS.out.below BT (by omega))
    have N5:=hide (hnx.trans (BT.mono hnx.size));have hszr:w3.heap.size<=(w5.alloc (.cells #[.int .i64 D.to,.int .i64 D.cost,.slice da D.hops.length dc] 194)).heap.size:=by have:=BT.size;omega
    clear HOW HT0 HHS HWS BT
    go_wp2
    go_roundw
    case rel=>exact ⟨j+1,_,qs,by omega,by go_num,rfl,N1.out,N2,HOFF.out,N3.out,N4.out,N5.out,hszr⟩
    case measure=>simp [intOf];omega
   have hnn:Zcj (fsts ps) area src r.1.to:=by
    rcases HNH.out with ⟨h1,_⟩ | ⟨_,h2⟩
    ·cases h1
    ·exact h2
   have HNN:=hide hnn;clear hnn HNH;by_cases hts:r.1.to=src
   case pos=>
    have hd:(r.1.to != src)=false:=by simpa using hts
    have HTS:=hide hts;clear hts;have N1:=hide ((HOW.out.below BT (Nat.le_refl _)).wide (Nat.le_refl _) BT.size);have N2:=hide (HT0.out.skip HRD.out (fun h=>h.2 HTS.out))
    have N3:=hide (HHS.out.below BT (by omega))
    have N4:=hide (HWS.out.below BT (by omega))
    have N5:=hide (hnx.trans (BT.mono hnx.size));have hszr:w3.heap.size<=(w5.alloc (.cells #[.int .i64 D.to,.int .i64 D.cost,.slice da D.hops.length dc] 194)).heap.size:=by have:=BT.size;omega
    clear HOW HT0 HHS HWS BT
    go_wp2
    go_roundw
    case rel=>exact ⟨j+1,_,qs,by omega,by go_num,rfl,N1.out,N2,HOFF.out,N3.out,N4.out,N5.out,hszr⟩
    case measure=>simp [intOf];omega
   have hd:(r.1.to != src)=true:=by simpa using hts
   have HTS:=hide hts;clear hts;have hrt:=HT0.out.tot HGD.out;have hql:qs.length<=6:=by simpa [fsts] using hrt.1
   have hqt:tot qs<=1048576:=Zpb hql hrt.2;have own6:=(HOW.out.below BT (Nat.le_refl _)).wide (Nat.le_refl _) BT.size;have hs6:=BT.size;have hn1:=hnx.size;have HPW:=ZmX (.slice xa qs.length xc) qs w1.heap.size (ZbC area src r.1.to r.1.cost,.slice none 0 0) (w5.alloc (.cells #[.int .i64 D.to,.int .i64 D.cost,.slice da D.hops.length dc] 194)) own6 (by omega) hqt HT0.out.1 ⟨World.ownsRow_nil _ _ _ _,fun k hk=>by simp [Value.ownBlock] at hk⟩ (fun p _ k _ he=>by simp [Value.ownBlock] at he)
   have HP:=hide HPW;have HN2:=hide (HT0.out.put HRD.out ⟨HNN.out,HTS.out⟩ HTT2.out.apart);have HH6:=hide (HHS.out.below BT (by omega))
   have HW6:=hide (HWS.out.below BT (by omega))
   have HB6:=hide (hnx.trans (BT.mono hn1));have HOW6:=hide own6;unfold recC ZbC at HP;simp only [] at HP
   clear HPW hrt own6 HOW HHS HWS HT0
   go_wp2_with fail
   refine HP.out.mono ?_
   rintro e w7 ⟨x',qs',rfl,hf',ho',hbk,hg⟩;have N1:=hide ho';have N2:=hide (show Zc3 (fsts ps) src area (Zal ws) (j+1) (fsts qs') by rw [hf'];exact HN2.out)
   have N3:=hide (HOFF.out.next hbk (by omega))
   have N4:=hide (HH6.out.keep (fun k _ h2 h3=>hg.block k h3 (fun e=>by have:=(HOW6.out.row.lt k e.symm).1;omega)))
   have N5:=hide (HW6.out.keep (HOFF.out.kept hg));have N6:=hide (HB6.out.grown hg (by omega) (fun k hk=>(HOW6.out.row.lt k hk).1))
   have hszr:w3.heap.size<=w7.heap.size:=by have:=hg.size;omega
   obtain⟨x'a,x'c,rfl⟩:=Zac ho'.row;clear hf' ho' hbk hg HP HN2 HH6 HW6 HB6 HOW6 BT
   go_wp2
   go_roundw
   case rel=>exact ⟨j+1,_,qs',by omega,by go_num,rfl,N1.out,N2,N3.out,N4.out,N5.out,N6.out,hszr⟩
   case measure=>simp [intOf];omega
  ·have hjn:¬(j:Int)<(ws.length:Int):=by omega
   have hje:j=(Zal ws).length:=by simp [Zal];omega
   have HE:=hide (show ZbH (fsts ps) al src area (fsts qs) from Zc3.all (by rw [<-hje];exact HT0.out) HTT2.out)
   have HO:=hide (hown.wide (lo':=w.heap.size) hb1 (Nat.le_refl _));have HB:=hide (b1.trans (hnx.mono hb1));clear hown hoff hhw hww hnx hje HT0
   go_wp2
   go_ret
   first
    | exact ⟨_,qs,rfl,HE.out,HO.out,HB.out⟩
    | exact ⟨_,rfl,qs,HE.out,HO.out,HB.out⟩
def upB (zs:List Bool)(k:Nat):Bool:=(zs[k]?).getD false
def ZbP (ls:List Lk)(bs zs:List Bool)(v a:Int):Nat->List Nr
 | 0=>[]
 | k+1=>ZbP ls bs zs v a k++(if decide (0<ZcS ls bs v ((k:Int)+1) a)&&upB zs k then [⟨(k:Int)+1,ZcS ls bs v ((k:Int)+1) a⟩] else [])
theorem ZiY (ls:List Lk)(bs zs:List Bool)(v a:Int):∀ k,(ZbP ls bs zs v a k).length<=k
 | 0=>by simp [ZbP]
 | k+1=>by
  have:=ZiY ls bs zs v a k;unfold ZbP;rw [List.length_append]
  split <;> simp <;> omega
def ZbU (v a:Int)(near:List Nr):RecD:=⟨a,1,v,0,1,near,0,false⟩
def Zb7 (t:Th):RecD:=⟨9,3,t.o,t.k,1,[],t.c,t.f⟩
def Ze8 (ls:List Lk)(bs zs:List Bool)(N:Nat)(v:Int)(al:List Int)(xs:List RecD):Nat->List RecD
 | 0=>xs
 | j+1=>putD (Ze8 ls bs zs N v al xs j) (ZbU v (al.getD j 0) (ZbP ls bs zs v (al.getD j 0) N))
def idA (ls:List Lk)(bs zs:List Bool)(N:Nat):Nat->List RecD
 | 0=>[]
 | k+1=>if upB zs k then Ze8 ls bs zs N ((k:Int)+1) (ZaB ls ((k:Int)+1)) (idA ls bs zs N k) (ZaB ls ((k:Int)+1)).length else idA ls bs zs N k
def idB (ts:List Th)(zs:List Bool)(xs:List RecD):Nat->List RecD
 | 0=>xs
 | k+1=>match ts[k]? with
  | some t=>if upB zs (t.o-1).toNat then putD (idB ts zs xs k) (Zb7 t) else idB ts zs xs k
  | none=>idB ts zs xs k
noncomputable def idC (ls:List Lk) (zs:List Bool) (xs:List RecD):Nat->List RecD
 | 0=>xs
 | k+1=>if upB zs k&&Ze9 ls ((k:Int)+1) then beyD (idC ls zs xs k) (ZaB ls ((k:Int)+1)) ((k:Int)+1) else idC ls zs xs k
noncomputable def idR (ls:List Lk) (zs:List Bool) (N:Nat) (xs:List RecD):Nat->List RecD
 | 0=>xs
 | r+1=>idC ls zs (idR ls zs N xs r) N
noncomputable def ZiS (ls:List Lk) (ts:List Th) (bs zs:List Bool) (N:Nat):List RecD:=idR ls zs N (idB ts zs (idA ls bs zs N N) ts.length) 3
theorem ZcB (ls:List Lk)(v:Int):(ZaB ls v).length<=3:=by
 unfold ZaB;exact Nat.le_trans (List.length_filter_le _ _) (by simp)
theorem Ze4 {zs:List Bool}{k:Nat}{b:Bool}(h:zs[k]? = some b):upB zs k=b:=by simp [upB,h]
theorem ZgU {ls:List Lk}{bs zs:List Bool}{N:Nat}{v:Int}{al:List Int}{xs:List RecD}{j:Nat}{a:Int}(h:al[j]? = some a):Ze8 ls bs zs N v al xs (j+1)=putD (Ze8 ls bs zs N v al xs j) (ZbU v a (ZbP ls bs zs v a N)):=by
 have:al.getD j 0=a:=by simp [List.getD,h]
 simp only [Ze8,this]
theorem Zm9 {ls:List Lk}{bs zs:List Bool}{v a q:Int}{k:Nat}(hq:q=ZcS ls bs v ((k:Int)+1) a)(h0:0<q)(hz:zs[k]? = some true):ZbP ls bs zs v a (k+1)=ZbP ls bs zs v a k++[⟨(k:Int)+1,q⟩]:=by
 subst hq;simp only [ZbP,Ze4 hz,decide_eq_true h0,Bool.and_self,if_true]
theorem ZkV {ls:List Lk}{bs zs:List Bool}{v a q:Int}{k:Nat}{b:Bool}(hq:q=ZcS ls bs v ((k:Int)+1) a)(hz:zs[k]? = some b)(h0:¬0<q\/b=false):ZbP ls bs zs v a (k+1)=ZbP ls bs zs v a k:=by
 subst hq;simp only [ZbP,Ze4 hz]
 rcases h0 with h | h
 ·simp [h]
 ·subst h;simp
theorem idA_up {ls:List Lk}{bs zs:List Bool}{N k:Nat}(hz:zs[k]? = some true):idA ls bs zs N (k+1)=Ze8 ls bs zs N ((k:Int)+1) (ZaB ls ((k:Int)+1)) (idA ls bs zs N k) (ZaB ls ((k:Int)+1)).length:=by
 simp only [idA,Ze4 hz,if_true]
theorem Zoo {ls:List Lk}{bs zs:List Bool}{N k:Nat}(hz:zs[k]? = some false):idA ls bs zs N (k+1)=idA ls bs zs N k:=by
 simp [idA,Ze4 hz]
theorem idB_up {ts:List Th}{zs:List Bool}{xs:List RecD}{k m:Nat}{t:Th}(ht:ts[k]? = some t)(hm:t.o=(m:Int)+1)(hz:zs[m]? = some true):idB ts zs xs (k+1)=putD (idB ts zs xs k) (Zb7 t):=by
 have:(t.o-1).toNat=m:=by omega
 simp only [idB,ht,this,Ze4 hz,if_true]
theorem Zop {ts:List Th}{zs:List Bool}{xs:List RecD}{k m:Nat}{t:Th}(ht:ts[k]? = some t)(hm:t.o=(m:Int)+1)(hz:zs[m]? = some false):idB ts zs xs (k+1)=idB ts zs xs k:=by
 have:(t.o-1).toNat=m:=by omega
 simp [idB,ht,this,Ze4 hz]
theorem ZpI {ls:List Lk}{zs:List Bool}{xs:List RecD}{k:Nat}(hz:zs[k]? = some true)(hb:Ze9 ls ((k:Int)+1)=true):idC ls zs xs (k+1)=beyD (idC ls zs xs k) (ZaB ls ((k:Int)+1)) ((k:Int)+1):=by
 simp [idC,Ze4 hz,hb]
theorem Zpl {ls:List Lk}{zs:List Bool}{xs:List RecD}{k:Nat}{b:Bool}(hz:zs[k]? = some b)(hb:b=false\/Ze9 ls ((k:Int)+1)=false):idC ls zs xs (k+1)=idC ls zs xs k:=by
 rcases hb with h | h
 ·subst h;simp [idC,Ze4 hz]
 ·simp [idC,h]
theorem ZdE {W:World}{lo hi:Nat}{r:RP}(h:ZaD W lo hi r):∀ u∈encP r,u.oneCell'=true:=by
 obtain⟨a,c,e⟩:=Zac h.1;obtain⟨x,v⟩:=r;simp only at e
 subst e;exact ZbS x a _ c
theorem Zpd {qs:List RP}{xs:List RecD}{al:List Int}{src area:Int}(h:ZbH xs al src area (fsts qs)):tot qs<=6:=by
 have ht:=h.tot;have:∀ l:List RP,(∀ r∈fsts l,r.near=[])->tot l<=l.length:=by
  intro l
  induction l with
  | nil=>intro _;simp [tot]
  | cons q l ih=>
   intro h;rw [Zb9,List.length_cons];have h1:=h q.1 (by simp [fsts])
   have h2:=ih (fun r hr=>h r (by simp only [fsts,List.map_cons,List.mem_cons] at hr |-;exact .inr hr))
   rw [h1];simp only [List.length_nil]
   omega
 have h1:=this qs ht.2;have h2:qs.length<=6:=by simpa [fsts] using ht.1
 omega
def ZcR (ps:List RP)(node:Int)(k:Nat):List RP:=(ps.take k).filter (fun p=>ZbI node p.1)
theorem ZmB (ps:List RP)(node:Int)(k:Nat):(ZcR ps node k).length<=k:=by
 unfold ZcR;exact Nat.le_trans (List.length_filter_le _ _) (by rw [List.length_take];omega)
theorem ZnU (ps:List RP)(node:Int):tot (ZcR ps node ps.length)<=tot ps:=by
 unfold ZcR;rw [List.take_length];exact Zpc _ ps
theorem Zlp (ps:List RP)(node:Int):fsts (ZcR ps node ps.length)=(fsts ps).filter (ZbI node):=by
 unfold ZcR fsts;rw [List.take_length,List.filter_map]
 rfl
theorem Zov (v u:Value)(ps:List RP)(al:List Int)(hi:Nat)(node:Int)(w:World)(hv:RecsIn w hi v ps)(ha:ZaM w u al hi)(hhi:hi<=w.heap.size)(hn:tot ps<=100000)(hal:al.length<=1000):
  Calls Tryz.prog 87 #[v,u,.int .i64 node] w fun e w'=>∃ x qs,e=.returned x/\fsts qs=beyD (fsts ps) al node/\RecsIn w' w'.heap.size x qs/\tot qs<=tot ps+6*al.length/\Below w.heap.size w w':=by
 have hnl:=Zbh ps;obtain⟨a1,c1,rfl⟩:=Zac hv.row;obtain⟨a2,c2,rfl⟩:=ha.shape;have LIT:=Zct w w.heap.size (Nat.le_refl _);have BX:Below w.heap.size w (w.alloc (.cells #[] 39)):=(Below.refl _ _).alloc (Nat.le_refl _) _;obtain⟨w0,hw0⟩:∃ W,W=w.alloc (.cells #[] 39):=⟨_,rfl⟩;rw [<-hw0] at BX LIT;have HTL:=hide (fun (area:Int) W (hb:Below w.heap.size w W)=>ZnF (.slice a1 ps.length c1) (.slice a2 al.length c2) ps al hi node area W (hv.below hb hhi) (ZaE.later ha hb hhi) (Nat.le_trans hhi hb.size) (by omega) (by omega))
 have HV:=hide hv;have HA:=hide ha;have HLIT:=hide LIT;clear hv ha LIT
 go_enter Tryz.func87,Tryz.ntmps87
 go_wp2
 rw [<-hw0];clear hw0
 go_loopw [8,7] (fun i o wr=>∃ (k:Nat) (x:Value) (qs:List RP),k<=al.length/\i=.int .i64 (k:Int)/\o=x/\RecsOwn wr w.heap.size wr.heap.size x qs/\Hid (fsts qs=Za7 (fsts ps) al node (al.take k))/\tot qs<=6*k/\Below w.heap.size w wr) (fun i _ _=>al.length-(intOf i).toNat)
 case atStart=>exact ⟨0,_,[],by omega,rfl,rfl,HLIT.out,hide (by simp [Za7,fsts]),by simp [tot],BX⟩
 case round=>
  obtain⟨k,x,qs,hk,rfl,rfl,hown,HF,htq,hnx⟩:=hrel;clear HLIT BX;obtain⟨xa,xc,rfl⟩:=Zac hown.row;have hsz:=hnx.size;have hql:=Zbh qs;by_cases hlt:k<al.length
  ·obtain ⟨area,har⟩:∃ a,al[k]? = some a:=⟨al[k],List.getElem?_eq_getElem hlt⟩
   obtain⟨b,off,cap',hve,hbb,c0⟩:=HA.out.cell k area har;cases hve
   rw [<-hnx.cell (p:=⟨b,off+k,none⟩) (by show b<w.heap.size;omega)] at c0
   have hki:(0:Int)<=(k:Int):=by omega
   have hkj:(k:Int)<(al.length:Int):=by omega
   have HAR:=hide har;have HOW:=hide hown;clear har hown
   go_wp2_with fail
   refine (HTL.out area _ hnx).mono ?_
   rintro e w2 ⟨y,bs,rfl,hbs,hob,b2⟩;obtain⟨ya,yc,rfl⟩:=Zac hob.row;have hb2:=b2.size;have htb:=Zpd hbs;have hbl:=Zbh bs;have HF2:=hide (show fsts (qs++bs)=Za7 (fsts ps) al node (al.take (k+1)) by
    rw [Zip HAR.out, <-HF.out, <-hbs.eq];simp [fsts])
   have HOB:=hide hob;have HB2:=hide b2;have OW:=hide (Zae HOW.out.row b2 (Nat.le_refl _));clear hbs hob b2
   go_wp2_with (first
    | (at_builtin;refine Zef (fun l=>ZaF Zav l) (by omega) (by omega) _ rfl _ _ 29 rfl w.heap.size 39 Tryz.underlying29 (.agg (recC Za6 (.slice none 0 0))) rfl Tryz.infoRec _ qs rfl OW.out wr.heap.size _ bs (fun q hq=>ZdE (HOB.out.nears q hq)) rfl HOB.out.row (by omega) (by omega) ?_))
   intro v' w3 hown' hgrow;have N1:=hide (HOW.out.join HB2.out hsz HOB.out (by rw [List.length_append];exact hown') hgrow)
   have N2:=hide ((hnx.trans (HB2.out.mono hsz)).grown hgrow (by omega) (fun j hj=>(HOW.out.row.lt j hj).1))
   have ht2:tot (qs++bs)<=6*(k+1):=by rw [ZcE];omega
   obtain⟨va,vc,rfl⟩:=Zac hown';clear hown' hgrow OW HOB HOW HB2
   go_wp2
   go_roundw
   case rel=>exact ⟨k+1,_,qs++bs,by omega,by go_num,rfl,by simpa using N1.out,HF2,ht2,N2.out⟩
   case measure=>simp [intOf];omega
  ·have hkn:¬(k:Int)<(al.length:Int):=by omega
   have HFA:=hide (show fsts qs=Za7 (fsts ps) al node al by have h:=HF.out;rw [List.take_of_length_le (by omega)] at h;exact h)
   have HOW:=hide hown;have ht6:tot qs<=6*al.length:=by omega
   rename World=>wo
   have OL:(wo.alloc (.cells #[] 39)).ownsRow wo.heap.size 39 8 (.slice (some ⟨wo.heap.size,0,none⟩) 0 0) 0 (flat encP []):=World.ownsRow_lit wo #[] 0 (Nat.le_refl _) (by unfold maxLen;omega) (by simp)
   have BL:Below wo.heap.size wo (wo.alloc (.cells #[] 39)):=(Below.refl _ _).alloc (Nat.le_refl _) _;obtain⟨w4,hw4⟩:∃ W,W=wo.alloc (.cells #[] 39):=⟨_,rfl⟩;rw [<-hw4] at OL BL;have HOL:=hide OL;clear hown HF OL HTL
   go_wp2
   rw [<-hw4];clear hw4
   go_loopw [10,9] (fun i o wr=>∃ (j:Nat) (x:Value),j<=ps.length/\i=.int .i64 (j:Int)/\o=x/\wr.ownsRow wo.heap.size 39 8 x (ZcR ps node j).length (flat encP (ZcR ps node j))/\Below wo.heap.size wo wr) (fun i _ _=>ps.length-(intOf i).toNat)
   case atStart=>exact ⟨0,_,by omega,rfl,rfl,HOL.out,BL⟩
   case round=>
    obtain⟨j,x,hj,rfl,rfl,hown,hnx2⟩:=hrel;clear HOL BL;obtain⟨ya,yc,rfl⟩:=Zac hown;have hsz2:=hnx2.size;have BW:Below w.heap.size w wr:=hnx.trans (hnx2.mono hsz);have hfl:=ZmB ps node j;have OW:=hide hown;clear hown;by_cases hjl:j<ps.length
    ·obtain ⟨p,hp⟩:∃ p,ps[j]? = some p:=⟨ps[j],List.getElem?_eq_getElem hjl⟩
     obtain⟨bb,off,cap',hve,hbb,c0,c1,c2,c3,c4,c5,c6,c7,hnr⟩:=HV.out.at.cells j p hp;cases hve
     obtain⟨pa,pc,hpn⟩:=ZaC.shape hnr;rw [hpn] at c5;rw [<-BW.cell (p:=⟨bb,off+j*8,none⟩) (Nat.lt_of_lt_of_le hbb hhi)] at c0;rw [<-BW.cell (p:=⟨bb,off+j*8+1,none⟩) (Nat.lt_of_lt_of_le hbb hhi)] at c1;rw [<-BW.cell (p:=⟨bb,off+j*8+2,none⟩) (Nat.lt_of_lt_of_le hbb hhi)] at c2;rw [<-BW.cell (p:=⟨bb,off+j*8+3,none⟩) (Nat.lt_of_lt_of_le hbb hhi)] at c3;rw [<-BW.cell (p:=⟨bb,off+j*8+4,none⟩) (Nat.lt_of_lt_of_le hbb hhi)] at c4;rw [<-BW.cell (p:=⟨bb,off+j*8+5,none⟩) (Nat.lt_of_lt_of_le hbb hhi)] at c5;rw [<-BW.cell (p:=⟨bb,off+j*8+6,none⟩) (Nat.lt_of_lt_of_le hbb hhi)] at c6;rw [<-BW.cell (p:=⟨bb,off+j*8+7,none⟩) (Nat.lt_of_lt_of_le hbb hhi)] at c7;have HP:=hide hp;have HPN:=hide hpn;obtain⟨C,hC⟩:∃ C,C=ZcR ps node j:=⟨_,rfl⟩;rw [<-hC] at OW hfl |-;have HC:=hide hC;have hki:(0:Int)<=(j:Int):=by omega
     have hkj:(j:Int)<(ps.length:Int):=by omega
     clear hp hpn hnr hC;by_cases hK:p.1.kind=2
     ·have hdK:(p.1.kind != 2)=false:=by simpa using hK
      clear hK;by_cases hO:p.1.owner=node
      ·have hdO:(p.1.owner != node)=false:=by simpa using hO
       have HN:=hide (show wr.ownsRow wo.heap.size 39 8 (.slice ya C.length yc) (ZcR ps node (j+1)).length (flat encP (ZcR ps node (j+1))) by
        have e:ZcR ps node (j+1)=C:=by
         rw [HC.out];unfold ZcR;rw [Zdu (fun p=>ZbI node p.1) HP.out,show ZbI node p.1=false by simp [ZbI,hdK,hdO]]
         simp
        rw [e];exact OW.out)
       clear hO OW
       go_wp2
       go_roundw
       case rel=>exact ⟨j+1,_,by omega,by go_num,rfl,HN.out,hnx2⟩
       case measure=>simp [intOf];omega
      ·have hdO:(p.1.owner != node)=true:=by simpa using hO
       clear hO;have HST:=hide (show ZcR ps node (j+1)=C++[(p.1,.slice pa p.1.near.length pc)] by
        rw [HC.out];unfold ZcR;rw [Zdu (fun p=>ZbI node p.1) HP.out,show ZbI node p.1=true by simp [ZbI,hdO]]
        simp [<-HPN.out])
       go_wp2_with (first
        | (at_builtin;refine ZaL Zav (by omega) (by omega) _ rfl _ _ 29 rfl wo.heap.size 39 Tryz.underlying29 (.agg (recC Za6 (.slice none 0 0))) rfl Tryz.infoRec _ C (p.1,.slice pa p.1.near.length pc) (ZbS _ _ _ _) rfl (OW.out.alloc _) ⟨wr.heap.size,0,none⟩ 1 rfl (Zay (cs:=encP (p.1,.slice pa p.1.near.length pc))) (by omega) (by simp;omega) ?_))
       intro v' w6 hown' hgrow;have N1:=hide (show w6.ownsRow wo.heap.size 39 8 v' (ZcR ps node (j+1)).length (flat encP (ZcR ps node (j+1))) by rw [HST.out];simpa using hown')
       have N2:=hide ((hnx2.alloc hsz2 _).grown hgrow (by simp;omega) (fun i hi=>(OW.out.lt i hi).1))
       obtain⟨va,vc,rfl⟩:=Zac hown';clear hown' hgrow OW HST
       go_wp2
       go_roundw
       case rel=>exact ⟨j+1,_,by omega,by go_num,rfl,N1.out,N2.out⟩
       case measure=>simp [intOf];omega
     ·have hdK:(p.1.kind != 2)=true:=by simpa using hK
      clear hK;have HST:=hide (show ZcR ps node (j+1)=C++[(p.1,.slice pa p.1.near.length pc)] by
       rw [HC.out];unfold ZcR;rw [Zdu (fun p=>ZbI node p.1) HP.out,show ZbI node p.1=true by simp [ZbI,hdK]]
       simp [<-HPN.out])
      go_wp2_with (first
       | (at_builtin;refine ZaL Zav (by omega) (by omega) _ rfl _ _ 29 rfl wo.heap.size 39 Tryz.underlying29 (.agg (recC Za6 (.slice none 0 0))) rfl Tryz.infoRec _ C (p.1,.slice pa p.1.near.length pc) (ZbS _ _ _ _) rfl (OW.out.alloc _) ⟨wr.heap.size,0,none⟩ 1 rfl (Zay (cs:=encP (p.1,.slice pa p.1.near.length pc))) (by omega) (by simp;omega) ?_))
      intro v' w6 hown' hgrow;have N1:=hide (show w6.ownsRow wo.heap.size 39 8 v' (ZcR ps node (j+1)).length (flat encP (ZcR ps node (j+1))) by rw [HST.out];simpa using hown')
      have N2:=hide ((hnx2.alloc hsz2 _).grown hgrow (by simp;omega) (fun i hi=>(OW.out.lt i hi).1))
      obtain⟨va,vc,rfl⟩:=Zac hown';clear hown' hgrow OW HST
      go_wp2
      go_roundw
      case rel=>exact ⟨j+1,_,by omega,by go_num,rfl,N1.out,N2.out⟩
      case measure=>simp [intOf];omega
    ·have hjn:¬(j:Int)<(ps.length:Int):=by omega
     have hje:j=ps.length:=by omega
     obtain⟨C,hC⟩:∃ C,C=ZcR ps node j:=⟨_,rfl⟩;rw [<-hC] at OW hfl |-;have hCt:tot C<=tot ps:=by rw [hC,hje];exact ZnU ps node
     have HCF:=hide (show fsts C=(fsts ps).filter (ZbI node) by rw [hC,hje];exact Zlp ps node)
     have hCn:∀ p∈C,ZaD wr 0 wr.heap.size p:=fun p hp=>by
      have hm:p∈ps:=by rw [hC] at hp;exact List.mem_of_mem_take (List.mem_filter.1 hp).1
      exact ((HV.out.nears p hm).keep (W':=wr) (fun i _ h2 _=>BW.block i (by omega))).wide (Nat.le_refl _) (by omega)
     have HIN:RecsIn wr wr.heap.size (.slice ya C.length yc) C:=⟨Zaj OW.out (Nat.zero_le _),fun i hi=>(OW.out.lt i hi).2,hCn⟩
     have HALL:RecsIn wr wr.heap.size (.slice xa qs.length xc) qs:=((HOW.out.below hnx2 (Nat.le_refl _)).wide (Nat.le_refl _) hsz2).in;have HWW:=hide (Zph _ _ C qs wr.heap.size wr HIN HALL (Nat.le_refl _) (by omega))
     rw [HCF.out,HFA.out] at HWW;have HBW:=hide BW;clear hC hje hCn HIN HALL OW HOW HCF HFA BW
     go_wp2_with fail
     refine HWW.out.mono ?_
     rintro e w7 ⟨y,rs,rfl,hf,hin,htt,b7⟩;obtain⟨yya,yyc,rfl⟩:=Zac hin.row;have HE:=hide (show fsts rs=beyD (fsts ps) al node from hf)
     have HI:=hide hin;have HB:=hide (HBW.out.trans (b7.mono HBW.out.size));have hq:tot rs<=tot ps+6*al.length:=by omega
     clear hf hin b7
     go_wp2
     go_ret
     first
      | exact ⟨_,rs,rfl,HE.out,HI.out,hq,HB.out⟩
      | exact ⟨_,rfl,rs,HE.out,HI.out,hq,HB.out⟩
end Go.Proofs.YtadokhjefnkajaaGreat
