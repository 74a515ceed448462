/-
  TellI RtLawK RtTot
-/
import Derived.Test.YtgdgkgmjpnbbcaaGreatOn12
import Derived.Test.YtgdgkgmjpnbbcaaGreatOn20
import Derived.Test.YtgdgkgmjpnbbcaaGreatOn37
import Derived.Test.YtgdgkgmjpnbbcaaGreatOn41
import Derived.Test.YtgdgkgmjpnbbcaaGreatOn21
namespace Go.Proofs.YtgdgkgmjpnbbcaaGreat
open Go.RowKit
set_option linter.unusedSimpArgs false
set_option linter.unusedVariables false
set_option maxRecDepth 100000
set_option maxHeartbeats 8000000
theorem WaysOwn.join {W Wa W2:World}{lo:Nat}{v v' u:Value}{qs bs:List WP}(h:WaysOwn W lo W.heap.size v qs)(hb:Below W.heap.size W Wa)(hlo:lo<=W.heap.size)(hu:WaysOwn Wa W.heap.size Wa.heap.size u bs)
  (row:W2.ownsRow lo 48 3 v' (qs++bs).length (flat encW (qs++bs))) (hg:Wa.grownBy W2 v.ownBlock):WaysOwn W2 lo W2.heap.size v' (qs++bs) where
 row:=row
 top:=fun k hk=>(row.lt k hk).2
 apart:=by
  rw [List.pairwise_append];refine⟨h.apart,hu.apart,fun p hp q hq k hk he=>?_⟩
  have h1:=(h.nears p hp).2 k hk;have h2:=((hu.nears q hq).1.lt k he).1;omega
 nears:=by
  have rowa:=Zaf h.row hb (Nat.le_refl _);have key:∀ q,Zbu Wa lo Wa.heap.size q->Zbu W2 lo W2.heap.size q:=fun q hq=>
   ⟨Zao hq.1 (fun j hj=>hg.block j (hq.2 j hj) (Zfw hq rowa j hj)),fun k hk=>Nat.lt_of_lt_of_le (hq.2 k hk) hg.size⟩
  intro q hq
  rcases List.mem_append.1 hq with h1 | h1
  ·exact key q (((h.nears q h1).keep (W':=Wa) (fun j _ h2 _=>hb.block j h2)).wide (Nat.le_refl _) hb.size)
  ·exact key q ((hu.nears q h1).wide hlo (Nat.le_refl _))
def Zen (xs:List RecD)(al:List Int)(src area:Int)(ds:List WayD):Prop:=∃ ns bs,ds=ns++bs/\Zay (Zau xs al src) ns/\(area=0->bs=[])/\(area≠0->Zay (Zbz xs al true src) bs)
theorem Zen.good {xs:List RecD}{al:List Int}{src area:Int}{ds:List WayD}(h:Zen xs al src area ds):ds.length<=12/\∀ d∈ds,GoodW d:=by
 obtain⟨ns,bs,rfl,h1,h2,h3⟩:=h;have hn:=h1.good (fun to d h=>ZaI h)
 have ln:=Zci h1.1 (fun d hd=>(hn d hd).node)
 by_cases e:area=0
 ·rw [h2 e,List.append_nil]
  exact⟨by omega,hn⟩
 ·have hb:=(h3 e).good (fun to d h=>Zba h)
  have lb:=Zci (h3 e).1 (fun d hd=>(hb d hd).node)
  refine⟨by rw [List.length_append];omega,fun d hd=>?_⟩
  rcases List.mem_append.1 hd with h4 | h4
  ·exact hn d h4
  ·exact hb d h4
theorem Zd7 {S:Int->WayD->Prop}{ds:List WayD}(h:Zay S ds)(d:WayD):d∈ds↔ZaF d.to (S d.to) (some d):=by
 constructor
 ·intro hd
  have:=h.2 d.to;rw [Zbw h.1 hd] at this;exact this
 ·intro hb
  have:=(h.2 d.to).unique hb;exact (ZaM this).1
theorem Zen.apart {xs:List RecD}{al:List Int}{src area:Int}{ds:List WayD}(h:Zen xs al src area ds):ds.Pairwise (fun x y=>x.to≠y.to):=by
 obtain⟨ns,bs,rfl,h1,h2,h3⟩:=h;rw [List.pairwise_append];refine⟨List.Pairwise.imp (fun h=>by omega) h1.1,?_,?_⟩
 ·by_cases e:area=0
  ·rw [h2 e];exact List.Pairwise.nil
  ·exact List.Pairwise.imp (fun h=>by omega) (h3 e).1
 ·intro x hx y hy e
  by_cases e0:area=0
  ·rw [h2 e0] at hy;cases hy
  ·have b1:=(Zd7 h1 x).1 hx
   have b2:=(Zd7 (h3 e0) y).1 hy;obtain⟨_,⟨u,hu,_⟩,_⟩:=b1;obtain⟨_,⟨u',hu',_⟩,_⟩:=b2;rw [<-e] at hu';exact hu'.1 u hu
theorem Zen.told {xs:List RecD}{al:List Int}{src area:Int}{ds:List WayD}(h:Zen xs al src area ds)(to c:Int):ZcZ xs al src area to c↔(Zdd xs area src to/\to≠src/\∃ d∈ds,d.to=to/\c=d.cost):=by
 obtain⟨ns,bs,rfl,h1,h2,h3⟩:=h;unfold ZcZ
 constructor
 ·rintro ⟨n1,n2,⟨w,hb,rfl⟩ | ⟨e0,w,hb,rfl⟩⟩
  ·have ht:w.to=to:=hb.1
   subst ht;exact⟨n1,n2,w,List.mem_append.2 (.inl ((Zd7 h1 w).2 hb)),rfl,rfl⟩
  ·have ht:w.to=to:=hb.1
   subst ht;exact⟨n1,n2,w,List.mem_append.2 (.inr ((Zd7 (h3 e0) w).2 hb)),rfl,rfl⟩
 ·rintro ⟨n1,n2,d,hd,rfl,rfl⟩
  refine⟨n1,n2,?_⟩
  rcases List.mem_append.1 hd with h4 | h4
  ·exact .inl ⟨d,(Zd7 h1 d).1 h4,rfl⟩
  ·by_cases e0:area=0
   ·rw [h2 e0] at h4;cases h4
   ·exact .inr ⟨e0,d,(Zd7 (h3 e0) d).1 h4,rfl⟩
theorem ZlF (v u:Value)(ps:List RP)(al:List Int)(hi:Nat)(src area:Int)(w:World)(hv:RecsIn w hi v ps)(ha:ZaP w u al hi)(hhi:hi<=w.heap.size)(hn:tot ps<=1048576)(hal:al.length<=1048576):
  Calls Tryz.prog 24 #[v,u,.int .i64 src,.int .i64 area] w fun e w'=>∃ x qs,e=.returned x/\Zen (fsts ps) al src area (Zag qs)/\WaysOwn w' w.heap.size w'.heap.size x qs/\Below w.heap.size w w':=by
 obtain⟨a1,c1,rfl⟩:=Zac hv.row;obtain⟨a2,c2,rfl⟩:=ha.shape;have HWI:=hide (ZdC (.slice a1 ps.length c1) (.slice a2 al.length c2) ps al hi src w hv ha hhi hn hal);have HWB:=hide (fun W (hb:Below w.heap.size w W)=>Zgv (.slice a1 ps.length c1) (.slice a2 al.length c2) ps al hi true src W (hv.below hb hhi) (ZaR.later ha hb hhi) (Nat.le_trans hhi hb.size) hn hal)
 clear hv ha;by_cases ha0:area=0
 ·have hd:(area==0)=true:=by simpa using ha0
  have HA0:=hide ha0;clear ha0 HWB
  go_enter Tryz.func24,Tryz.ntmps24
  go_wp2_with fail
  refine HWI.out.mono ?_
  rintro e w1 ⟨x,ns,rfl,hbn,hon,b1⟩;obtain⟨xa,xc,rfl⟩:=Zac hon.row;have HE:=hide (show Zen (fsts ps) al src area (Zag ns) from ⟨Zag ns,[],by simp,hbn,fun _=>rfl,fun h=>absurd HA0.out h⟩)
  have HO:=hide hon;clear hbn hon
  go_wp2
  go_ret
  first
   | exact ⟨_,ns,rfl,HE.out,HO.out,b1⟩
   | exact ⟨_,rfl,ns,HE.out,HO.out,b1⟩
 ·have hd:(area==0)=false:=by simpa using ha0
  have HA0:=hide ha0;clear ha0
  go_enter Tryz.func24,Tryz.ntmps24
  go_wp2_with fail
  refine HWI.out.mono ?_
  rintro e w1 ⟨x,ns,rfl,hbn,hon,b1⟩;obtain⟨xa,xc,rfl⟩:=Zac hon.row;have hb1:=b1.size;have HO:=hide hon;have HN:=hide hbn;clear hbn hon
  go_wp2_with fail
  refine (HWB.out _ b1).mono ?_
  rintro e w2 ⟨y,bs,rfl,hbb,hob,b2⟩;obtain⟨ya,yc,rfl⟩:=Zac hob.row;have hb2:=b2.size;have HE:=hide (show Zen (fsts ps) al src area (Zag (ns++bs)) from ⟨Zag ns,Zag bs,by simp [Zag],HN.out,fun h=>absurd h HA0.out,fun _=>hbb⟩)
  have hls:=HE.out.good.1;have hls2:ns.length+bs.length<=12:=by simpa [Zag] using hls
  have HOB:=hide hob;have OW:=hide (Zaf HO.out.row b2 (Nat.le_refl _));have HB2:=hide b2;clear hbb hob b2 hls
  go_wp2_with (first
   | (at_builtin;refine Zdz (fun l=>ZaX Zbd l) (by omega) (by omega) _ rfl _ _ 41 rfl w.heap.size 48 Tryz.underlying41 (.agg (wayC Zbg (.slice none 0 0))) rfl Tryz.infoWay _ ns rfl OW.out w1.heap.size _ bs (fun q hq=>Zmf (HOB.out.nears q hq)) rfl HOB.out.row (by omega) (by omega) ?_))
  intro v' w3 hown' hgrow;have N1:=hide (HO.out.join HB2.out hb1 HOB.out (by rw [List.length_append];exact hown') hgrow)
  have N2:=hide ((b1.trans (HB2.out.mono hb1)).grown hgrow (by omega) (fun j hj=>(HO.out.row.lt j hj).1))
  obtain⟨va,vc,rfl⟩:=Zac hown';clear hown' hgrow OW HOB HO HB2
  go_wp2
  go_ret
  first
   | exact ⟨_,ns++bs,rfl,HE.out,N1.out,N2.out⟩
   | exact ⟨_,rfl,ns++bs,HE.out,N1.out,N2.out⟩
def Zdh (xs:List RecD)(src area:Int)(ds:List WayD)(j:Nat)(rs:List RecD):Prop:=Asc rs/\∀ r,r∈rs↔∃ d∈ds.take j,r=ZbX area src d.to d.cost/\Zdd xs area src d.to/\d.to≠src
theorem Zdh.skip {xs:List RecD}{src area:Int}{ds:List WayD}{j:Nat}{rs:List RecD}{d:WayD}(h:Zdh xs src area ds j rs)(hd:ds[j]? = some d)(hn:¬(Zdd xs area src d.to/\d.to≠src)):Zdh xs src area ds (j+1) rs:=by
 refine⟨h.1,fun r=>?_⟩
 rw [h.2]
 constructor
 ·rintro ⟨x,hx,h2⟩
  exact⟨x,(Zbs hd x).2 (.inl hx),h2⟩
 ·rintro ⟨x,hx,h2,h3⟩
  rcases (Zbs hd x).1 hx with h4 | h4
  ·exact ⟨x,h4,h2,h3⟩
  ·subst h4;exact absurd h3 hn
theorem Zpc {rs:List RecD}{r:RecD}(h:∀ x∈rs,ZaN x r=false)(x:RecD):x∈putD rs r↔x∈rs\/x=r:=by
 unfold putD;simp only [List.mem_append,List.mem_filter,List.mem_singleton]
 constructor
 ·rintro ((⟨h1,_⟩ | h1) | ⟨h1,_⟩)
  ·exact .inl h1
  ·exact .inr h1
  ·exact .inl h1
 ·rintro (h1 | h1)
  ·rcases ZlS x r with h2 | h2 | h2
   ·exact .inl (.inl ⟨h1,h2⟩)
   ·rw [h x h1] at h2;cases h2
   ·exact .inr ⟨h1,h2⟩
  ·exact .inl (.inr h1)
theorem ZoR {rs:List RecD}(h:Asc rs)(r:RecD):Asc (putD rs r):=by
 unfold putD Asc;rw [List.append_assoc,List.pairwise_append];refine⟨List.Pairwise.filter _ h,?_,?_⟩
 ·rw [List.pairwise_append]
  refine⟨by simp,List.Pairwise.filter _ h,fun a ha b hb=>?_⟩
  have:a=r:=by simpa using ha
  subst this;exact (List.mem_filter.1 hb).2
 ·intro a ha b hb
  have h1:=(List.mem_filter.1 ha).2
  rcases List.mem_append.1 hb with h2 | h2
  ·have:b=r:=by simpa using h2
   subst this;exact h1
  ·exact ZdM h1 (List.mem_filter.1 h2).2
theorem Zdh.put {xs:List RecD}{src area:Int}{ds:List WayD}{j:Nat}{rs:List RecD}{d:WayD}(h:Zdh xs src area ds j rs)(hd:ds[j]? = some d)(hn:Zdd xs area src d.to/\d.to≠src)(hap:ds.Pairwise (fun x y=>x.to≠y.to)):Zdh xs src area ds (j+1) (putD rs (ZbX area src d.to d.cost)):=by
 obtain⟨hj,e⟩:=List.getElem?_eq_some_iff.1 hd;have hne:∀ x∈ds.take j,x.to≠d.to:=by
  intro x hx;rw [<-List.take_append_drop j ds,List.pairwise_append] at hap;exact hap.2.2 x hx d (by rw [List.drop_eq_getElem_cons hj,e];exact List.mem_cons_self)
 have hk:∀ x∈rs,ZaN x (ZbX area src d.to d.cost)=false:=by
  intro x hx;obtain⟨y,hy,rfl,_⟩:=(h.2 x).1 hx;have:=hne y hy;simp [ZaN,ZbX,this]
 refine⟨ZoR h.1 _,fun r=>?_⟩
 rw [Zpc hk,h.2]
 constructor
 ·rintro (⟨x,hx,h2⟩ | h2)
  ·exact ⟨x,(Zbs hd x).2 (.inl hx),h2⟩
  ·exact ⟨d,(Zbs hd d).2 (.inr rfl),h2,hn⟩
 ·rintro ⟨x,hx,h2,h3⟩
  rcases (Zbs hd x).1 hx with h4 | h4
  ·exact .inl ⟨x,h4,h2,h3⟩
  ·subst h4;exact .inr h2
theorem Zdh.all {xs:List RecD}{al:List Int}{src area:Int}{ds:List WayD}{rs:List RecD}(h:Zdh xs src area ds ds.length rs)(ht:Zen xs al src area ds):Zcg xs al src area rs:=by
 refine⟨h.1,fun r=>?_⟩
 rw [h.2,List.take_length]
 constructor
 ·rintro ⟨d,hd,h1,h2,h3⟩
  exact⟨d.to,d.cost,h1,(ht.told d.to d.cost).2 ⟨h2,h3,d,hd,rfl,rfl⟩⟩
 ·rintro ⟨to,c,h1,h2⟩
  obtain⟨n1,n2,d,hd,rfl,rfl⟩:=(ht.told to c).1 h2;exact⟨d,hd,h1,n1,n2⟩
theorem Zdh.tot {xs:List RecD}{src area:Int}{ds:List WayD}{j:Nat}{rs:List RecD}(h:Zdh xs src area ds j rs)(hg:∀ d∈ds,GoodW d):rs.length<=6/\∀ r∈rs,r.near=[]:=by
 constructor
 ·have h1:(rs.map (·.key)).Pairwise (· < ·):=by
   rw [List.pairwise_map];refine List.Pairwise.imp_of_mem ?_ h.1
   intro a b ha hb hab;obtain⟨x,_,rfl,_⟩:=(h.2 a).1 ha;obtain⟨y,_,rfl,_⟩:=(h.2 b).1 hb;rw [Zc9] at hab;exact of_decide_eq_true hab
  have h2:=ZcE h1 (fun z hz=>by
   obtain⟨r,hr,rfl⟩:=List.mem_map.1 hz;obtain⟨x,hx,rfl,_⟩:=(h.2 r).1 hr;exact (hg x (List.mem_of_mem_take hx)).node)
  simpa using h2
 ·intro r hr
  obtain⟨x,_,rfl,_⟩:=(h.2 r).1 hr
  rfl
theorem Zoz {qs:List RP}(hl:qs.length<=6)(hg:∀ r∈fsts qs,r.near=[]):tot qs<=1048576:=by
 have:∀ l:List RP,(∀ r∈fsts l,r.near=[])->tot l<=l.length:=by
  intro l
  induction l with
  | nil=>intro _;simp [tot]
  | cons q l ih=>
   intro h;rw [Zcs,List.length_cons];have h1:=h q.1 (by simp [fsts])
   have h2:=ih (fun r hr=>h r (by simp only [fsts,List.map_cons,List.mem_cons] at hr |-;exact .inr hr))
   rw [h1];simp only [List.length_nil]
   omega
 have:=this qs hg;omega
theorem Zmm (v u:Value)(ps:List RP)(al:List Int)(hi:Nat)(src area:Int)(w:World)(hv:RecsIn w hi v ps)(ha:ZaP w u al hi)(hhi:hi<=w.heap.size)(hn:tot ps<=1048576)(hal:al.length<=1048576):
  Calls Tryz.prog 7 #[v,u,.int .i64 src,.int .i64 area] w fun e w'=>∃ x qs,e=.returned x/\Zcg (fsts ps) al src area (fsts qs)/\RecsOwn w' w.heap.size w'.heap.size x qs/\Below w.heap.size w w':=by
 obtain⟨a1,c1,rfl⟩:=Zac hv.row;obtain⟨a2,c2,rfl⟩:=ha.shape;have HWI:=hide (Zey (.slice a1 ps.length c1) ps hi area src w hv hhi hn);have HTT:=hide (fun W (hb:Below w.heap.size w W)=>ZlF (.slice a1 ps.length c1) (.slice a2 al.length c2) ps al hi src area W (hv.below hb hhi) (ZaR.later ha hb hhi) (Nat.le_trans hhi hb.size) hn hal)
 clear hv ha
 go_enter Tryz.func7,Tryz.ntmps7
 go_wp2_with fail
 refine HWI.out.mono ?_
 rintro e w1 ⟨uh,hs,rfl,hhs0,hoh,b1⟩;obtain⟨uha,uhc,rfl⟩:=Zac hoh.row;have hhs:=hhs0.eq;have hb1:=b1.size;have hht:totW hs<=1048576:=by have:=Zjn hhs;omega
 have HTH:=hide (fun (z:Int) (W:World) (h:WaysOwn W w.heap.size w1.heap.size (.slice uha hs.length uhc) hs) (hh:w1.heap.size<=W.heap.size)=>by have r:=Zeb (.slice uha hs.length uhc) hs w.heap.size w1.heap.size z W h hh hht;rw [hhs] at r;exact r)
 have LIT:=Zfg w1 w1.heap.size (Nat.le_refl _);have hs2:(w1.alloc (.cells #[] 59)).heap.size=w1.heap.size+1:=by simp
 have B2:Below w1.heap.size w1 (w1.alloc (.cells #[] 59)):=(Below.refl _ _).alloc (Nat.le_refl _) _;obtain⟨w2,hw2⟩:∃ W,W=w1.alloc (.cells #[] 59):=⟨_,rfl⟩;rw [<-hw2] at LIT hs2 B2;have BW2:Below w.heap.size w w2:=b1.trans (B2.mono hb1);have HS2:=hide hs2;have HLIT:=hide LIT;have HOH:=hide hoh;clear hs2 LIT hoh hhs0 hhs hht HWI
 go_wp2_with fail
 rw [<-hw2];clear hw2;refine (HTT.out _ BW2).mono ?_
 rintro e w3 ⟨ut,ws,rfl,htt,hot,b3⟩;obtain⟨uta,utc,rfl⟩:=Zac hot.row;have hb2:=B2.size;have hb3:=b3.size;have hgd:=htt.good;have hwl:ws.length<=12:=by simpa [Zag] using hgd.1
 have BW3:Below w1.heap.size w1 w3:=B2.trans (b3.mono hb2);have HO3:=hide ((HLIT.out.below b3 (Nat.le_refl _)).wide (Nat.le_refl _) hb3);have HH3:=hide (HOH.out.below BW3 (Nat.le_refl _));have HW3:=hide hot;have HTT2:=hide htt;have HGD:=hide hgd.2;clear hot htt b3 HLIT HOH HTT hgd
 go_wp2
 go_loopw [26,10] (fun i o wr=>∃ (j:Nat) (x:Value) (qs:List RP),j<=ws.length/\i=.int .i64 (j:Int)/\o=x/\RecsOwn wr w1.heap.size wr.heap.size x qs/\Hid (Zdh (fsts ps) src area (Zag ws) j (fsts qs))/\Off x w2.heap.size w3.heap.size/\WaysOwn wr w.heap.size w1.heap.size (.slice uha hs.length uhc) hs/\WaysOwn wr w2.heap.size w3.heap.size (.slice uta ws.length utc) ws/\Below w1.heap.size w1 wr/\w3.heap.size<=wr.heap.size) (fun i _ _=>ws.length-(intOf i).toNat)
 case atStart=>exact ⟨0,_,[],by omega,rfl,rfl,HO3.out,hide ⟨List.Pairwise.nil,fun r=>by simp [fsts]⟩,fun b hb=>by simp [Value.ownBlock] at hb;have:=HS2.out;omega,HH3.out,HW3.out,BW3,Nat.le_refl _⟩
 case round=>
  obtain⟨j,x,qs,hj,rfl,rfl,hown,HT0,hoff,hhw,hww,hnx,hsz⟩:=hrel;clear HO3 HH3 HW3 BW3;obtain⟨xa,xc,rfl⟩:=Zac hown.row;by_cases hjl:j<ws.length
  ·obtain ⟨r,hr⟩:∃ r,ws[j]? = some r:=⟨ws[j],List.getElem?_eq_getElem hjl⟩
   obtain⟨bo,offo,cpo,hve,hbbo,c0,c1,c2,_⟩:=hww.at.cells j r hr;cases hve
   have hji:(0:Int)<=(j:Int):=by omega
   have hjj:(j:Int)<(ws.length:Int):=by omega
   obtain⟨rra,rrc,hrn⟩:=Zac (hww.nears r (List.mem_of_getElem? hr)).1;rw [hrn] at c2;have HRD:=hide (ZcH hr);have BA:Below wr.heap.size wr (wr.alloc (.cells #[.int .i64 r.1.to,.int .i64 r.1.cost,.slice rra r.1.hops.length rrc] 48)):=(Below.refl _ _).alloc (Nat.le_refl _) _;have hxb:=heap_alloc_new wr (.cells #[.int .i64 r.1.to,.int .i64 r.1.cost,.slice rra r.1.hops.length rrc] 48);obtain⟨w4,hw4⟩:∃ W,W=wr.alloc (.cells #[.int .i64 r.1.to,.int .i64 r.1.cost,.slice rra r.1.hops.length rrc] 48):=⟨_,rfl⟩;rw [<-hw4] at BA hxb;have hs4:=BA.size;have hl4:=Zab hxb;have HW:=HTH.out r.1.to w4 (hhw.below BA (by have:=hnx.size;omega)) (by have:=hnx.size;omega)
   have hnh:=Zkz (fsts ps) area src r.1.to;obtain⟨D,hD⟩:∃ D,D=ZaY (Zbm (fsts ps) area src) r.1.to:=⟨_,rfl⟩;obtain⟨FB,hFB⟩:∃ F,F=Za3 (Zbm (fsts ps) area src) r.1.to:=⟨_,rfl⟩;rw [<-hD, <-hFB] at HW;rw [<-hFB] at hnh;have HWW:=hide HW;have HNH:=hide hnh;have HOW:=hide hown;have HOFF:=hide hoff;have HHS:=hide hhw;have HWS:=hide hww;have HXB:=hide hxb;have HBA:=hide BA;unfold wayC at HWW;clear HW hnh hown hoff hhw hww hr hrn hxb BA hD hFB
   go_wp2_with fail
   rw [<-hw4];clear hw4;refine HWW.out.mono ?_
   rintro e w5 ⟨du,rfl,hdu,b5⟩;obtain⟨da,dc,rfl⟩:=Zac hdu;have hb5:=b5.size;have BC:Below w5.heap.size w5 (w5.alloc (.cells #[.int .i64 D.to,.int .i64 D.cost,.slice da D.hops.length dc] 48)):=(Below.refl _ _).alloc (Nat.le_refl _) _;have hxb5:=(b5.block _ hl4).trans HXB.out;have hxb6:=(BC.block _ (Zab hxb5)).trans hxb5;have d0:=Zaa hxb6 0;have d1:=Zaa hxb6 1;have d2:=Zaa hxb6 2;simp at d0 d1 d2
   have BT:Below wr.heap.size wr (w5.alloc (.cells #[.int .i64 D.to,.int .i64 D.cost,.slice da D.hops.length dc] 48)):=HBA.out.trans ((b5.mono hs4).trans (BC.mono (by omega)))
   clear hdu b5 BC hxb5 hxb6 HWW HXB HBA;cases FB
   case true=>
    have N1:=hide ((HOW.out.below BT (Nat.le_refl _)).wide (Nat.le_refl _) BT.size);have N2:=hide (HT0.out.skip HRD.out (fun h=>by rcases HNH.out with ⟨_,h2⟩ | ⟨h1,_⟩;exact h2 h.1;cases h1))
    have N3:=hide (HHS.out.below BT (by omega))
    have N4:=hide (HWS.out.below BT (by omega))
    have N5:=hide (hnx.trans (BT.mono hnx.size));have hszr:w3.heap.size<=(w5.alloc (.cells #[.int .i64 D.to,.int .i64 D.cost,.slice da D.hops.length dc] 48)).heap.size:=by have:=BT.size;omega
    clear HOW HT0 HHS HWS BT
    go_wp2
    go_roundw
    case rel=>exact ⟨j+1,_,qs,by omega,by go_num,rfl,N1.out,N2,HOFF.out,N3.out,N4.out,N5.out,hszr⟩
    case measure=>simp [intOf];omega
   have hnn:Zdd (fsts ps) area src r.1.to:=by
    rcases HNH.out with ⟨h1,_⟩ | ⟨_,h2⟩
    ·cases h1
    ·exact h2
   have HNN:=hide hnn;clear hnn HNH;by_cases hts:r.1.to=src
   case pos=>
    have hd:(r.1.to != src)=false:=by simpa using hts
    have HTS:=hide hts;clear hts;have N1:=hide ((HOW.out.below BT (Nat.le_refl _)).wide (Nat.le_refl _) BT.size);have N2:=hide (HT0.out.skip HRD.out (fun h=>h.2 HTS.out))
    have N3:=hide (HHS.out.below BT (by omega))
    have N4:=hide (HWS.out.below BT (by omega))
    have N5:=hide (hnx.trans (BT.mono hnx.size));have hszr:w3.heap.size<=(w5.alloc (.cells #[.int .i64 D.to,.int .i64 D.cost,.slice da D.hops.length dc] 48)).heap.size:=by have:=BT.size;omega
    clear HOW HT0 HHS HWS BT
    go_wp2
    go_roundw
    case rel=>exact ⟨j+1,_,qs,by omega,by go_num,rfl,N1.out,N2,HOFF.out,N3.out,N4.out,N5.out,hszr⟩
    case measure=>simp [intOf];omega
   have hd:(r.1.to != src)=true:=by simpa using hts
   have HTS:=hide hts;clear hts;have hrt:=HT0.out.tot HGD.out;have hql:qs.length<=6:=by simpa [fsts] using hrt.1
   have hqt:tot qs<=1048576:=Zoz hql hrt.2;have own6:=(HOW.out.below BT (Nat.le_refl _)).wide (Nat.le_refl _) BT.size;have hs6:=BT.size;have hn1:=hnx.size;have HPW:=Zml (.slice xa qs.length xc) qs w1.heap.size (ZbX area src r.1.to r.1.cost,.slice none 0 0) (w5.alloc (.cells #[.int .i64 D.to,.int .i64 D.cost,.slice da D.hops.length dc] 48)) own6 (by omega) hqt HT0.out.1 ⟨World.ownsRow_nil _ _ _ _,fun k hk=>by simp [Value.ownBlock] at hk⟩ (fun p _ k _ he=>by simp [Value.ownBlock] at he)
   have HP:=hide HPW;have HN2:=hide (HT0.out.put HRD.out ⟨HNN.out,HTS.out⟩ HTT2.out.apart);have HH6:=hide (HHS.out.below BT (by omega))
   have HW6:=hide (HWS.out.below BT (by omega))
   have HB6:=hide (hnx.trans (BT.mono hn1));have HOW6:=hide own6;unfold recC ZbX at HP;simp only [] at HP
   clear HPW hrt own6 HOW HHS HWS HT0
   go_wp2_with fail
   refine HP.out.mono ?_
   rintro e w7 ⟨x',qs',rfl,hf',ho',hbk,hg⟩;have N1:=hide ho';have N2:=hide (show Zdh (fsts ps) src area (Zag ws) (j+1) (fsts qs') by rw [hf'];exact HN2.out)
   have N3:=hide (HOFF.out.next hbk (by omega))
   have N4:=hide (HH6.out.keep (fun k _ h2 h3=>hg.block k h3 (fun e=>by have:=(HOW6.out.row.lt k e.symm).1;omega)))
   have N5:=hide (HW6.out.keep (HOFF.out.kept hg));have N6:=hide (HB6.out.grown hg (by omega) (fun k hk=>(HOW6.out.row.lt k hk).1))
   have hszr:w3.heap.size<=w7.heap.size:=by have:=hg.size;omega
   obtain⟨x'a,x'c,rfl⟩:=Zac ho'.row;clear hf' ho' hbk hg HP HN2 HH6 HW6 HB6 HOW6 BT
   go_wp2
   go_roundw
   case rel=>exact ⟨j+1,_,qs',by omega,by go_num,rfl,N1.out,N2,N3.out,N4.out,N5.out,N6.out,hszr⟩
   case measure=>simp [intOf];omega
  ·have hjn:¬(j:Int)<(ws.length:Int):=by omega
   have hje:j=(Zag ws).length:=by simp [Zag];omega
   have HE:=hide (show Zcg (fsts ps) al src area (fsts qs) from Zdh.all (by rw [<-hje];exact HT0.out) HTT2.out)
   have HO:=hide (hown.wide (lo':=w.heap.size) hb1 (Nat.le_refl _));have HB:=hide (b1.trans (hnx.mono hb1));clear hown hoff hhw hww hnx hje HT0
   go_wp2
   go_ret
   first
    | exact ⟨_,qs,rfl,HE.out,HO.out,HB.out⟩
    | exact ⟨_,rfl,qs,HE.out,HO.out,HB.out⟩
def Zjk (xs:List RtD):Nat:=(xs.map (fun x=>1+x.hops.length)).sum
theorem totQ_D (ps:List QP):totQ ps=Zjk (ZaU ps):=by simp [totQ,Zjk,ZaU,List.map_map,Function.comp_def]
theorem ZlH (x:RtD)(xs:List RtD):Zjk (x::xs)=1+x.hops.length+Zjk xs:=by simp [Zjk]
theorem Zox {l:List RtD}{n m:Nat}(h:l.length<=n)(hm:∀ r∈l,r.hops.length<=m):Zjk l<=n*(m+1):=by
 induction l generalizing n with
 | nil=>simp [Zjk]
 | cons a l ih=>
  rw [ZlH];simp only [List.length_cons] at h
  obtain⟨k,rfl⟩:∃ k,n=k+1:=⟨n-1,by omega⟩
  have h1:=ih (n:=k) (by omega) (fun r hr=>hm r (by simp [hr]))
  have h2:=hm a (by simp)
  rw [Nat.add_mul];omega
theorem Zls {xs:List RecD}{al:List Int}{border:Bool}{src:Int}{l:List RtD}(h:ZcD xs al border src l)(hs:ZaE xs=true):Zjk l<=147:=by
 obtain⟨ds,es,ts,h1,h2,h3,rfl⟩:=h;have g1:=h1.good (fun to d h=>ZaI h)
 have g2:=h2.good (fun to d h=>Zba h)
 have g3:=h3.goodT (fun to d h=>ZcY hs g1 g2 h)
 have l1:=Zci h1.1 (fun d hd=>(g1 d hd).node)
 have l2:=Zci h2.1 (fun d hd=>(g2 d hd).node)
 have l3:=Zeh h3.1 (fun d hd=>(g3 d hd).node)
 have n1:(ZdI 1 src ds).length<=ds.length:=by unfold ZdI;rw [List.length_map];exact List.length_filter_le _ _
 have n2:(ZdI 2 src es).length<=es.length:=by unfold ZdI;rw [List.length_map];exact List.length_filter_le _ _
 have:=Zox (n:=21) (m:=6) (l:=ZdI 1 src ds++ZdI 2 src es++ts.map rtOf) (by simp only [List.length_append,List.length_map];omega) (fun r hr=>by
  rcases List.mem_append.1 hr with h | h
  ·rcases List.mem_append.1 h with h | h
   ·obtain ⟨d,hd,_,rfl⟩:=Zeg h;exact (g1 d hd).len
   ·obtain ⟨d,hd,_,rfl⟩:=Zeg h;exact (g2 d hd).len
  ·obtain ⟨d,hd,rfl⟩:=List.mem_map.1 h
   have:=(g3 d hd).len;unfold rtOf
   split <;> exact this)
 omega
end Go.Proofs.YtgdgkgmjpnbbcaaGreat
