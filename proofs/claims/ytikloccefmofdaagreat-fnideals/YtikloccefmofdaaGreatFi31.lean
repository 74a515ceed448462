/-
  Parts.
-/
import Derived.Test.YtikloccefmofdaaGreatFi29
import Derived.Shelf.SlSortCmp.NoneTotal
namespace Go.Proofs.YtikloccefmofdaaGreat
open Go.RowKit

set_option linter.unusedSimpArgs false

open Classical in
noncomputable def tolD (xs:List RecD) (al:List Int) (src area:Int):List RecD:=if h:∃ ds,ZbO xs al src area ds then Classical.choose h else []

theorem ZbO.eq {xs:List RecD}{al:List Int}{src area:Int}{ds:List RecD}(h:ZbO xs al src area ds):ds=tolD xs al src area:=by
 unfold tolD;rw [dif_pos ⟨ds,h⟩];exact h.unique (Classical.choose_spec (⟨ds,h⟩:∃ ds,ZbO xs al src area ds))

noncomputable def Zbd (xs:List RecD) (al:List Int) (src:Int) (bl:List Int):List RecD:=bl.flatMap (fun a=>tolD xs al src a)

theorem ZjP {xs:List RecD}{al bl:List Int}{src a:Int}{k:Nat}(h:bl[k]? = some a):Zbd xs al src (bl.take (k+1))=Zbd xs al src (bl.take k)++tolD xs al src a:=by
 obtain⟨hk,e⟩:=YAD.1 h;unfold Zbd;rw [YAI hk,e,List.flatMap_append];simp

def ZbQ (node:Int)(r:RecD):Bool:=r.kind != 2||r.owner != node

noncomputable def beyD (xs:List RecD) (al:List Int) (node:Int):List RecD:=ZdW (xs.filter (ZbQ node)) (Zbd xs al node al)

theorem RecsOwn.join {W Wa W2:World}{lo:Nat}{v v' u:Value}{qs bs:List RP}(h:RecsOwn W lo W.heap.size v qs)(hb:Below W.heap.size W Wa)(hlo:lo<=W.heap.size)(hu:RecsOwn Wa W.heap.size Wa.heap.size u bs)
  (row:W2.ownsRow lo 37 8 v' (qs++bs).length (flat encP (qs++bs))) (hg:Wa.grownBy W2 v.ownBlock):RecsOwn W2 lo W2.heap.size v' (qs++bs) where
 row:=row
 top:=fun k hk=>(row.lt k hk).2
 apart:=by
  rw [YAM];refine⟨h.apart,hu.apart,fun p hp q hq k hk he=>?_⟩;have h1:=(h.nears p hp).2 k hk;have h2:=((hu.nears q hq).1.lt k he).1;omega
 nears:=by
  have rowa:=Zad h.row hb (YA _);have key:∀ q,ZaF Wa lo Wa.heap.size q->ZaF W2 lo W2.heap.size q:=fun q hq=>
   ⟨Zal hq.1 (fun j hj=>hg.block j (hq.2 j hj) (Zc4 hq rowa j hj)),fun k hk=>YAB (hq.2 k hk) hg.size⟩
  intro q hq;rcases YAF.1 hq with h1 | h1
  ·exact key q (((h.nears q h1).keep (W':=Wa) (fun j _ h2 _=>hb.block j h2)).wide (YA _) hb.size)
  ·exact key q ((hu.nears q h1).wide hlo (YA _))
end Go.Proofs.YtikloccefmofdaaGreat
namespace Go.Proofs.YtikloccefmofdaaGreat
open Go.RowKit
set_option linter.unusedSimpArgs false
set_option linter.unusedVariables false
set_option maxRecDepth 100000
set_option maxHeartbeats 8000000
variable {a area src:Int}{bs zs:List Bool}{al:List Int}{ls:List Lk}{b0 qs:List QP}{rs xs:List RecD}{ds:List WayD}{B N cap g j k lo n:Nat}{b q:QP}{u v x:Value}{W W2 Wa w2:World}
theorem WaysOwn.join {v':Value}{qs bs:List WP}(h:WaysOwn W lo W.heap.size v qs)(hb:Below W.heap.size W Wa)(hlo:lo<=W.heap.size)(hu:WaysOwn Wa W.heap.size Wa.heap.size u bs)
  (row:W2.ownsRow lo 108 3 v' (qs++bs).length (flat encW (qs++bs))) (hg:Wa.grownBy W2 v.ownBlock):WaysOwn W2 lo W2.heap.size v' (qs++bs) where
 row:=row
 top:=fun k hk=>(row.lt k hk).2
 apart:=by
  rw [YAM];refine⟨h.apart,hu.apart,fun p hp q hq k hk he=>?_⟩;have h1:=(h.nears p hp).2 k hk;have h2:=((hu.nears q hq).1.lt k he).1;omega
 nears:=by
  have rowa:=Zad h.row hb (YA _);have key:∀ q,ZbA Wa lo Wa.heap.size q->ZbA W2 lo W2.heap.size q:=fun q hq=>
   ⟨Zal hq.1 (fun j hj=>hg.block j (hq.2 j hj) (Zgb hq rowa j hj)),fun k hk=>YAB (hq.2 k hk) hg.size⟩
  intro q hq;rcases YAF.1 hq with h1 | h1
  ·exact key q (((h.nears q h1).keep (W':=Wa) (fun j _ h2 _=>hb.block j h2)).wide (YA _) hb.size)
  ·exact key q ((hu.nears q h1).wide hlo (YA _))
def ZeN (xs:List RecD)(al:List Int)(src area:Int)(ds:List WayD):Prop:=∃ ns bs,ds=ns++bs/\ZaE (Zaq xs al src) ns/\(area=0->bs=[])/\(area≠0->ZaE (Zbw xs al true src) bs)
theorem ZeN.good (h:ZeN xs al src area ds):ds.length<=12/\∀ d∈ds,GoodW d:=by
 obtain⟨ns,bs,rfl,h1,h2,h3⟩:=h;have hn:=h1.good (fun to d h=>Za1 h);have ln:=Zdr h1.1 (fun d hd=>(hn d hd).node);by_cases e:area=0
 ·rw [h2 e,List.append_nil];exact⟨by omega,hn⟩
 ·have hb:=(h3 e).good (fun to d h=>Zby h);have lb:=Zdr (h3 e).1 (fun d hd=>(hb d hd).node);refine⟨by rw [YAN];omega,fun d hd=>?_⟩;rcases YAF.1 hd with h4 | h4
  ·exact hn d h4
  ·exact hb d h4
theorem Zeo {S:Int->WayD->Prop}(h:ZaE S ds)(d:WayD):d∈ds↔ZaN d.to (S d.to) (some d):=by
 constructor
 ·intro hd;have:=h.2 d.to;rw [ZbP h.1 hd] at this;exact this
 ·intro hb;have:=(h.2 d.to).unique hb;exact (ZaM this).1
theorem ZeN.apart (h:ZeN xs al src area ds):ds.Pairwise (fun x y=>x.to≠y.to):=by
 obtain⟨ns,bs,rfl,h1,h2,h3⟩:=h;rw [YAM];refine⟨List.Pairwise.imp (fun h=>by omega) h1.1,?_,?_⟩
 ·by_cases e:area=0
  ·rw [h2 e];exact List.Pairwise.nil
  ·exact List.Pairwise.imp (fun h=>by omega) (h3 e).1
 ·intro x hx y hy e;by_cases e0:area=0
  ·rw [h2 e0] at hy;cases hy
  ·have b1:=(Zeo h1 x).1 hx;have b2:=(Zeo (h3 e0) y).1 hy;obtain⟨_,⟨u,hu,_⟩,_⟩:=b1;obtain⟨_,⟨u',hu',_⟩,_⟩:=b2;rw [<-e] at hu';exact hu'.1 u hu
theorem ZeN.told (h:ZeN xs al src area ds)(to c:Int):Zcl xs al src area to c↔(Zcv xs area src to/\to≠src/\∃ d∈ds,d.to=to/\c=d.cost):=by
 obtain⟨ns,bs,rfl,h1,h2,h3⟩:=h;unfold Zcl;constructor
 ·rintro ⟨n1,n2,⟨w,hb,rfl⟩ | ⟨e0,w,hb,rfl⟩⟩
  ·have ht:w.to=to:=hb.1;subst ht;exact⟨n1,n2,w,YAF.2 (.inl ((Zeo h1 w).2 hb)),rfl,rfl⟩
  ·have ht:w.to=to:=hb.1;subst ht;exact⟨n1,n2,w,YAF.2 (.inr ((Zeo (h3 e0) w).2 hb)),rfl,rfl⟩
 ·rintro ⟨n1,n2,d,hd,rfl,rfl⟩;refine⟨n1,n2,?_⟩;rcases YAF.1 hd with h4 | h4
  ·exact .inl ⟨d,(Zeo h1 d).1 h4,rfl⟩
  ·by_cases e0:area=0
   ·rw [h2 e0] at h4;cases h4
   ·exact .inr ⟨e0,d,(Zeo (h3 e0) d).1 h4,rfl⟩
theorem ZnP (v u:Value)(ps:List RP)(al:List Int)(hi:Nat)(src area:Int)(w:World)(hv:RecsIn w hi v ps)(ha:ZaI w u al hi)(hhi:hi<=w.heap.size)(hn:tot ps<=1048576)(hal:al.length<=1048576):
  Calls Tryz.prog 85 #[v,u,.int .i64 src,.int .i64 area] w fun e w'=>∃ x qs,e=.returned x/\ZeN (fsts ps) al src area (Zaj qs)/\WaysOwn w' w.heap.size w'.heap.size x qs/\Below w.heap.size w w':=by
 obtain⟨a1,c1,rfl⟩:=Zac hv.row;obtain⟨a2,c2,rfl⟩:=ha.shape;have HWI:=hide (Ze3 (.slice a1 ps.length c1) (.slice a2 al.length c2) ps al hi src w hv ha hhi hn hal);have HWB:=hide (fun W (hb:Below w.heap.size w W)=>Zhd (.slice a1 ps.length c1) (.slice a2 al.length c2) ps al hi true src W (hv.below hb hhi) (Zav.later ha hb hhi) (YAK hhi hb.size) hn hal);clear hv ha;by_cases ha0:area=0
 ·have hd:(area==0)=true:=by simpa using ha0
  have HA0:=hide ha0;clear ha0 HWB
  go_enter Tryz.func85,Tryz.ntmps85
  go_wp2_with fail
  refine HWI.out.mono ?_;rintro e w1 ⟨x,ns,rfl,hbn,hon,b1⟩;obtain⟨xa,xc,rfl⟩:=Zac hon.row;have HE:=hide (show ZeN (fsts ps) al src area (Zaj ns) from ⟨Zaj ns,[],by simp,hbn,fun _=>rfl,fun h=>absurd HA0.out h⟩);have HO:=hide hon;clear hbn hon;go_wp2;go_ret
  first
   | exact ⟨_,ns,rfl,HE.out,HO.out,b1⟩
   | exact ⟨_,rfl,ns,HE.out,HO.out,b1⟩
 ·have hd:(area==0)=false:=by simpa using ha0
  have HA0:=hide ha0;clear ha0
  go_enter Tryz.func85,Tryz.ntmps85
  go_wp2_with fail
  refine HWI.out.mono ?_;rintro e w1 ⟨x,ns,rfl,hbn,hon,b1⟩;obtain⟨xa,xc,rfl⟩:=Zac hon.row;have hb1:=b1.size;have HO:=hide hon;have HN:=hide hbn;clear hbn hon
  go_wp2_with fail
  refine (HWB.out _ b1).mono ?_;rintro e w2 ⟨y,bs,rfl,hbb,hob,b2⟩;obtain⟨ya,yc,rfl⟩:=Zac hob.row;have hb2:=b2.size;have HE:=hide (show ZeN (fsts ps) al src area (Zaj (ns++bs)) from ⟨Zaj ns,Zaj bs,by simp [Zaj],HN.out,fun h=>absurd h HA0.out,fun _=>hbb⟩);have hls:=HE.out.good.1;have hls2:ns.length+bs.length<=12:=by simpa [Zaj] using hls
  have HOB:=hide hob;have OW:=hide (Zad HO.out.row b2 (YA _));have HB2:=hide b2;clear hbb hob b2 hls
  go_wp2_with (first
   | (at_builtin;refine ZcX (fun l=>ZaD Zbg l) (by omega) (by omega) _ rfl _ _ 102 rfl w.heap.size 108 Tryz.underlying102 (.agg (wayC Zbl (.slice none 0 0))) rfl Tryz.infoWay _ ns rfl OW.out w1.heap.size _ bs (fun q hq=>Zow (HOB.out.nears q hq)) rfl HOB.out.row (by omega) (by omega) ?_))
  intro v' w3 hown' hgrow;have N1:=hide (HO.out.join HB2.out hb1 HOB.out (by rw [YAN];exact hown') hgrow);have N2:=hide ((b1.trans (HB2.out.mono hb1)).grown hgrow (by omega) (fun j hj=>(HO.out.row.lt j hj).1));obtain⟨va,vc,rfl⟩:=Zac hown';clear hown' hgrow OW HOB HO HB2;go_wp2;go_ret
  first
   | exact ⟨_,ns++bs,rfl,HE.out,N1.out,N2.out⟩
   | exact ⟨_,rfl,ns++bs,HE.out,N1.out,N2.out⟩
def Zdu (xs:List RecD)(src area:Int)(ds:List WayD)(j:Nat)(rs:List RecD):Prop:=Asc rs/\∀ r,r∈rs↔∃ d∈ds.take j,r=ZbK area src d.to d.cost/\Zcv xs area src d.to/\d.to≠src
theorem Zdu.skip {d:WayD}(h:Zdu xs src area ds j rs)(hd:ds[j]? = some d)(hn:¬(Zcv xs area src d.to/\d.to≠src)):Zdu xs src area ds (j+1) rs:=by
 refine⟨h.1,fun r=>?_⟩;rw [h.2];constructor
 ·rintro ⟨x,hx,h2⟩;exact⟨x,(Zbz hd x).2 (.inl hx),h2⟩
 ·rintro ⟨x,hx,h2,h3⟩;rcases (Zbz hd x).1 hx with h4 | h4
  ·exact ⟨x,h4,h2,h3⟩
  ·subst h4;exact absurd h3 hn
theorem Zr9 {r:RecD}(h:∀ x∈rs,Zap x r=false)(x:RecD):x∈putD rs r↔x∈rs\/x=r:=by
 unfold putD;simp only [YAF,YAP,YAw];constructor
 ·rintro ((⟨h1,_⟩ | h1) | ⟨h1,_⟩)
  ·exact .inl h1
  ·exact .inr h1
  ·exact .inl h1
 ·rintro (h1 | h1)
  ·rcases ZiK x r with h2 | h2 | h2
   ·exact .inl (.inl ⟨h1,h2⟩)
   ·rw [h x h1] at h2;cases h2
   ·exact .inr ⟨h1,h2⟩
  ·exact .inl (.inr h1)
theorem ZrI (h:Asc rs)(r:RecD):Asc (putD rs r):=by
 unfold putD Asc;rw [YAY,YAM];refine⟨List.Pairwise.filter _ h,?_,?_⟩
 ·rw [YAM];refine⟨by simp,List.Pairwise.filter _ h,fun a ha b hb=>?_⟩;have:a=r:=by simpa using ha
  subst this;exact (YAP.1 hb).2
 ·intro a ha b hb;have h1:=(YAP.1 ha).2;rcases YAF.1 hb with h2 | h2
  ·have:b=r:=by simpa using h2
   subst this;exact h1
  ·exact ZcG h1 (YAP.1 h2).2
theorem Zdu.put {d:WayD}(h:Zdu xs src area ds j rs)(hd:ds[j]? = some d)(hn:Zcv xs area src d.to/\d.to≠src)(hap:ds.Pairwise (fun x y=>x.to≠y.to)):Zdu xs src area ds (j+1) (putD rs (ZbK area src d.to d.cost)):=by
 obtain⟨hj,e⟩:=YAD.1 hd;have hne:∀ x∈ds.take j,x.to≠d.to:=by
  intro x hx;rw [<-YAc j ds,YAM] at hap;exact hap.2.2 x hx d (by rw [YAl hj,e];exact List.mem_cons_self)
 have hk:∀ x∈rs,Zap x (ZbK area src d.to d.cost)=false:=by
  intro x hx;obtain⟨y,hy,rfl,_⟩:=(h.2 x).1 hx;have:=hne y hy;simp [Zap,ZbK,this]
 refine⟨ZrI h.1 _,fun r=>?_⟩;rw [Zr9 hk,h.2];constructor
 ·rintro (⟨x,hx,h2⟩ | h2)
  ·exact ⟨x,(Zbz hd x).2 (.inl hx),h2⟩
  ·exact ⟨d,(Zbz hd d).2 (.inr rfl),h2,hn⟩
 ·rintro ⟨x,hx,h2,h3⟩;rcases (Zbz hd x).1 hx with h4 | h4
  ·exact .inl ⟨x,h4,h2,h3⟩
  ·subst h4;exact .inr h2
theorem Zdu.all (h:Zdu xs src area ds ds.length rs)(ht:ZeN xs al src area ds):ZbO xs al src area rs:=by
 refine⟨h.1,fun r=>?_⟩;rw [h.2,YAh];constructor
 ·rintro ⟨d,hd,h1,h2,h3⟩;exact⟨d.to,d.cost,h1,(ht.told d.to d.cost).2 ⟨h2,h3,d,hd,rfl,rfl⟩⟩
 ·rintro ⟨to,c,h1,h2⟩;obtain⟨n1,n2,d,hd,rfl,rfl⟩:=(ht.told to c).1 h2;exact⟨d,hd,h1,n1,n2⟩
theorem Zdu.tot (h:Zdu xs src area ds j rs)(hg:∀ d∈ds,GoodW d):rs.length<=6/\∀ r∈rs,r.near=[]:=by
 constructor
 ·have h1:(rs.map (·.key)).Pairwise (· < ·):=by
   rw [YAm];refine List.Pairwise.imp_of_mem ?_ h.1;intro a b ha hb hab;obtain⟨x,_,rfl,_⟩:=(h.2 a).1 ha;obtain⟨y,_,rfl,_⟩:=(h.2 b).1 hb;rw [Zdo] at hab;exact of_decide_eq_true hab
  have h2:=Zdf h1 (fun z hz=>by
   obtain⟨r,hr,rfl⟩:=YAR.1 hz;obtain⟨x,hx,rfl,_⟩:=(h.2 r).1 hr;exact (hg x (YAj hx)).node)
  simpa using h2
 ·intro r hr;obtain⟨x,_,rfl,_⟩:=(h.2 r).1 hr;rfl
theorem Zrl {qs:List RP}(hl:qs.length<=6)(hg:∀ r∈fsts qs,r.near=[]):tot qs<=1048576:=by
 have:∀ l:List RP,(∀ r∈fsts l,r.near=[])->tot l<=l.length:=by
  intro l
  induction l with
  | nil=>intro _;simp [tot]
  | cons q l ih=>
   intro h;rw [ZcE,YAk];have h1:=h q.1 (by simp [fsts]);have h2:=ih (fun r hr=>h r (by simp only [fsts,List.map_cons,YAb] at hr |-;exact .inr hr));rw [h1];simp only [List.length_nil];omega
 have:=this qs hg;omega
theorem ZoN (v u:Value)(ps:List RP)(al:List Int)(hi:Nat)(src area:Int)(w:World)(hv:RecsIn w hi v ps)(ha:ZaI w u al hi)(hhi:hi<=w.heap.size)(hn:tot ps<=1048576)(hal:al.length<=1048576):
  Calls Tryz.prog 52 #[v,u,.int .i64 src,.int .i64 area] w fun e w'=>∃ x qs,e=.returned x/\ZbO (fsts ps) al src area (fsts qs)/\RecsOwn w' w.heap.size w'.heap.size x qs/\Below w.heap.size w w':=by
 obtain⟨a1,c1,rfl⟩:=Zac hv.row;obtain⟨a2,c2,rfl⟩:=ha.shape;have HWI:=hide (Ze2 (.slice a1 ps.length c1) ps hi area src w hv hhi hn);have HTT:=hide (fun W (hb:Below w.heap.size w W)=>ZnP (.slice a1 ps.length c1) (.slice a2 al.length c2) ps al hi src area W (hv.below hb hhi) (Zav.later ha hb hhi) (YAK hhi hb.size) hn hal);clear hv ha
 go_enter Tryz.func52,Tryz.ntmps52
 go_wp2_with fail
 refine HWI.out.mono ?_;rintro e w1 ⟨uh,hs,rfl,hhs0,hoh,b1⟩;obtain⟨uha,uhc,rfl⟩:=Zac hoh.row;have hhs:=hhs0.eq;have hb1:=b1.size;have hht:totW hs<=1048576:=by have:=ZkP hhs;omega
 have HTH:=hide (fun (z:Int) (W:World) (h:WaysOwn W w.heap.size w1.heap.size (.slice uha hs.length uhc) hs) (hh:w1.heap.size<=W.heap.size)=>by have r:=Zew (.slice uha hs.length uhc) hs w.heap.size w1.heap.size z W h hh hht;rw [hhs] at r;exact r);have LIT:=ZcR w1 w1.heap.size (YA _);have hs2:(w1.alloc (.cells #[] 37)).heap.size=w1.heap.size+1:=by simp
 have B2:Below w1.heap.size w1 (w1.alloc (.cells #[] 37)):=(YAC _ _).alloc (YA _) _;obtain⟨w2,hw2⟩:∃ W,W=w1.alloc (.cells #[] 37):=⟨_,rfl⟩;rw [<-hw2] at LIT hs2 B2;have BW2:Below w.heap.size w w2:=b1.trans (B2.mono hb1);have HS2:=hide hs2;have HLIT:=hide LIT;have HOH:=hide hoh;clear hs2 LIT hoh hhs0 hhs hht HWI
 go_wp2_with fail
 rw [<-hw2];clear hw2;refine (HTT.out _ BW2).mono ?_;rintro e w3 ⟨ut,ws,rfl,htt,hot,b3⟩;obtain⟨uta,utc,rfl⟩:=Zac hot.row;have hb2:=B2.size;have hb3:=b3.size;have hgd:=htt.good;have hwl:ws.length<=12:=by simpa [Zaj] using hgd.1
 have BW3:Below w1.heap.size w1 w3:=B2.trans (b3.mono hb2);have HO3:=hide ((HLIT.out.below b3 (YA _)).wide (YA _) hb3);have HH3:=hide (HOH.out.below BW3 (YA _));have HW3:=hide hot;have HTT2:=hide htt;have HGD:=hide hgd.2;clear hot htt b3 HLIT HOH HTT hgd;go_wp2
 go_loopw [26,10] (fun i o wr=>∃ (j:Nat) (x:Value) (qs:List RP),j<=ws.length/\i=.int .i64 (j:Int)/\o=x/\RecsOwn wr w1.heap.size wr.heap.size x qs/\Hid (Zdu (fsts ps) src area (Zaj ws) j (fsts qs))/\Off x w2.heap.size w3.heap.size/\WaysOwn wr w.heap.size w1.heap.size (.slice uha hs.length uhc) hs/\WaysOwn wr w2.heap.size w3.heap.size (.slice uta ws.length utc) ws/\Below w1.heap.size w1 wr/\w3.heap.size<=wr.heap.size) (fun i _ _=>ws.length-(intOf i).toNat)
 case atStart=>exact ⟨0,_,[],by omega,rfl,rfl,HO3.out,hide ⟨List.Pairwise.nil,fun r=>by simp [fsts]⟩,fun b hb=>by simp [Value.ownBlock] at hb;have:=HS2.out;omega,HH3.out,HW3.out,BW3,YA _⟩
 case round=>
  obtain⟨j,x,qs,hj,rfl,rfl,hown,HT0,hoff,hhw,hww,hnx,hsz⟩:=hrel;clear HO3 HH3 HW3 BW3;obtain⟨xa,xc,rfl⟩:=Zac hown.row;by_cases hjl:j<ws.length
  ·obtain ⟨r,hr⟩:∃ r,ws[j]? = some r:=⟨ws[j],YAA hjl⟩;obtain⟨bo,offo,cpo,hve,hbbo,c0,c1,c2,_⟩:=hww.at.cells j r hr;cases hve;have hji:(0:Int)<=(j:Int):=by omega
   have hjj:(j:Int)<(ws.length:Int):=by omega
   obtain⟨rra,rrc,hrn⟩:=Zac (hww.nears r (YAG hr)).1;rw [hrn] at c2;have HRD:=hide (ZcQ hr);have BA:Below wr.heap.size wr (wr.alloc (.cells #[.int .i64 r.1.to,.int .i64 r.1.cost,.slice rra r.1.hops.length rrc] 108)):=(YAC _ _).alloc (YA _) _;have hxb:=YAE wr (.cells #[.int .i64 r.1.to,.int .i64 r.1.cost,.slice rra r.1.hops.length rrc] 108);obtain⟨w4,hw4⟩:∃ W,W=wr.alloc (.cells #[.int .i64 r.1.to,.int .i64 r.1.cost,.slice rra r.1.hops.length rrc] 108):=⟨_,rfl⟩;rw [<-hw4] at BA hxb;have hs4:=BA.size;have hl4:=Zab hxb;have HW:=HTH.out r.1.to w4 (hhw.below BA (by have:=hnx.size;omega)) (by have:=hnx.size;omega);have hnh:=Zms (fsts ps) area src r.1.to;obtain⟨D,hD⟩:∃ D,D=Zbo (ZbE (fsts ps) area src) r.1.to:=⟨_,rfl⟩;obtain⟨FB,hFB⟩:∃ F,F=Zbk (ZbE (fsts ps) area src) r.1.to:=⟨_,rfl⟩;rw [<-hD, <-hFB] at HW;rw [<-hFB] at hnh;have HWW:=hide HW;have HNH:=hide hnh;have HOW:=hide hown;have HOFF:=hide hoff;have HHS:=hide hhw;have HWS:=hide hww;have HXB:=hide hxb;have HBA:=hide BA;unfold wayC at HWW;clear HW hnh hown hoff hhw hww hr hrn hxb BA hD hFB
   go_wp2_with fail
   rw [<-hw4];clear hw4;refine HWW.out.mono ?_;rintro e w5 ⟨du,rfl,hdu,b5⟩;obtain⟨da,dc,rfl⟩:=Zac hdu;have hb5:=b5.size;have BC:Below w5.heap.size w5 (w5.alloc (.cells #[.int .i64 D.to,.int .i64 D.cost,.slice da D.hops.length dc] 108)):=(YAC _ _).alloc (YA _) _;have hxb5:=(b5.block _ hl4).trans HXB.out;have hxb6:=(BC.block _ (Zab hxb5)).trans hxb5;have d0:=Zaa hxb6 0;have d1:=Zaa hxb6 1;have d2:=Zaa hxb6 2;simp at d0 d1 d2;have BT:Below wr.heap.size wr (w5.alloc (.cells #[.int .i64 D.to,.int .i64 D.cost,.slice da D.hops.length dc] 108)):=HBA.out.trans ((b5.mono hs4).trans (BC.mono (by omega)));clear hdu b5 BC hxb5 hxb6 HWW HXB HBA;cases FB
   case true=>
    have N1:=hide ((HOW.out.below BT (YA _)).wide (YA _) BT.size);have N2:=hide (HT0.out.skip HRD.out (fun h=>by rcases HNH.out with ⟨_,h2⟩ | ⟨h1,_⟩;exact h2 h.1;cases h1));have N3:=hide (HHS.out.below BT (by omega));have N4:=hide (HWS.out.below BT (by omega));have N5:=hide (hnx.trans (BT.mono hnx.size));have hszr:w3.heap.size<=(w5.alloc (.cells #[.int .i64 D.to,.int .i64 D.cost,.slice da D.hops.length dc] 108)).heap.size:=by have:=BT.size;omega
    clear HOW HT0 HHS HWS BT;go_wp2;go_roundw
    case rel=>exact ⟨j+1,_,qs,by omega,by go_num,rfl,N1.out,N2,HOFF.out,N3.out,N4.out,N5.out,hszr⟩
    case measure=>simp [intOf];omega
   have hnn:Zcv (fsts ps) area src r.1.to:=by
    rcases HNH.out with ⟨h1,_⟩ | ⟨_,h2⟩
    ·cases h1
    ·exact h2
   have HNN:=hide hnn;clear hnn HNH;by_cases hts:r.1.to=src
   case pos=>
    have hd:(r.1.to != src)=false:=by simpa using hts
    have HTS:=hide hts;clear hts;have N1:=hide ((HOW.out.below BT (YA _)).wide (YA _) BT.size);have N2:=hide (HT0.out.skip HRD.out (fun h=>h.2 HTS.out));have N3:=hide (HHS.out.below BT (by omega));have N4:=hide (HWS.out.below BT (by omega));have N5:=hide (hnx.trans (BT.mono hnx.size));have hszr:w3.heap.size<=(w5.alloc (.cells #[.int .i64 D.to,.int .i64 D.cost,.slice da D.hops.length dc] 108)).heap.size:=by have:=BT.size;omega
    clear HOW HT0 HHS HWS BT;go_wp2;go_roundw
    case rel=>exact ⟨j+1,_,qs,by omega,by go_num,rfl,N1.out,N2,HOFF.out,N3.out,N4.out,N5.out,hszr⟩
    case measure=>simp [intOf];omega
   have hd:(r.1.to != src)=true:=by simpa using hts
   have HTS:=hide hts;clear hts;have hrt:=HT0.out.tot HGD.out;have hql:qs.length<=6:=by simpa [fsts] using hrt.1
   have hqt:tot qs<=1048576:=Zrl hql hrt.2;have own6:=(HOW.out.below BT (YA _)).wide (YA _) BT.size;have hs6:=BT.size;have hn1:=hnx.size;have HPW:=ZoL (.slice xa qs.length xc) qs w1.heap.size (ZbK area src r.1.to r.1.cost,.slice none 0 0) (w5.alloc (.cells #[.int .i64 D.to,.int .i64 D.cost,.slice da D.hops.length dc] 108)) own6 (by omega) hqt HT0.out.1 ⟨YAZ _ _ _ _,fun k hk=>by simp [Value.ownBlock] at hk⟩ (fun p _ k _ he=>by simp [Value.ownBlock] at he);have HP:=hide HPW;have HN2:=hide (HT0.out.put HRD.out ⟨HNN.out,HTS.out⟩ HTT2.out.apart);have HH6:=hide (HHS.out.below BT (by omega));have HW6:=hide (HWS.out.below BT (by omega));have HB6:=hide (hnx.trans (BT.mono hn1));have HOW6:=hide own6;unfold recC ZbK at HP;simp only [] at HP;clear HPW hrt own6 HOW HHS HWS HT0
   go_wp2_with fail
   refine HP.out.mono ?_;rintro e w7 ⟨x',qs',rfl,hf',ho',hbk,hg⟩;have N1:=hide ho';have N2:=hide (show Zdu (fsts ps) src area (Zaj ws) (j+1) (fsts qs') by rw [hf'];exact HN2.out);have N3:=hide (HOFF.out.next hbk (by omega));have N4:=hide (HH6.out.keep (fun k _ h2 h3=>hg.block k h3 (fun e=>by have:=(HOW6.out.row.lt k e.symm).1;omega)));have N5:=hide (HW6.out.keep (HOFF.out.kept hg));have N6:=hide (HB6.out.grown hg (by omega) (fun k hk=>(HOW6.out.row.lt k hk).1));have hszr:w3.heap.size<=w7.heap.size:=by have:=hg.size;omega
   obtain⟨x'a,x'c,rfl⟩:=Zac ho'.row;clear hf' ho' hbk hg HP HN2 HH6 HW6 HB6 HOW6 BT;go_wp2;go_roundw
   case rel=>exact ⟨j+1,_,qs',by omega,by go_num,rfl,N1.out,N2,N3.out,N4.out,N5.out,N6.out,hszr⟩
   case measure=>simp [intOf];omega
  ·have hjn:¬(j:Int)<(ws.length:Int):=by omega
   have hje:j=(Zaj ws).length:=by simp [Zaj];omega
   have HE:=hide (show ZbO (fsts ps) al src area (fsts qs) from Zdu.all (by rw [<-hje];exact HT0.out) HTT2.out);have HO:=hide (hown.wide (lo':=w.heap.size) hb1 (YA _));have HB:=hide (b1.trans (hnx.mono hb1));clear hown hoff hhw hww hnx hje HT0;go_wp2;go_ret
   first
    | exact ⟨_,qs,rfl,HE.out,HO.out,HB.out⟩
    | exact ⟨_,rfl,qs,HE.out,HO.out,HB.out⟩
theorem as_qs :∀ {os:List QP},(∀ q∈os,∃ a n c,q.2=.slice a n c)->∃ ss:List QS,ss.map qsP=os
 | [],_=>⟨[],rfl⟩
 | q::os,h=>by
  obtain⟨ss,hs⟩:=as_qs (os:=os) (fun x hx=>h x (by simp [hx]));obtain⟨a,n,c,e⟩:=h q (by simp);refine⟨(q.1,a,n,c)::ss,?_⟩;rw [List.map_cons,hs];congr 1;unfold qsP;rw [<-e]
theorem Tryz.aggRoute :∀ w,(isAgg 42).run Tryz.prog w=.ok true w:=fun w=>by kernel_rfl
theorem Tryz.sizeRoute :∀ w,(Go.sizeOf 42).run Tryz.prog w=.ok 6 w:=fun w=>by kernel_rfl
theorem ZpB (v:Value)(os:List QP)(base:Nat)(w:World)(h:w.ownsRow base 42 6 v os.length (flat encQ os))(hsl:∀ q∈os,∃ a n c,q.2=.slice a n c)(hlen:os.length<=1000000):
  Calls Tryz.prog 130 #[v,.func (.func 131) #[] #[]] w fun e w'=>e=.returned (.tuple #[])/\∃ qs:List QP,qs.Perm os/\Zf4 (Za7 qs)/\w'.ownsRow base 42 6 v qs.length (flat encQ qs)/\w.grownBy w' v.ownBlock:=by
 obtain⟨ss,hss⟩:=as_qs hsl;rcases h.2 with ⟨e0,hn0⟩ | ⟨g,cap,cur,e0,hb,hg,hn,hm,hs,ht⟩
 ·subst e0;have hos:os=[]:=List.length_eq_zero_iff.1 hn0;subst hos;have hc:=Go.Proofs.AnyF.slices_SortFunc_none Tryz.sortQ none 0 (.func (.func 131) #[] #[]) w;change Calls Tryz.prog 130 _ _ _ at hc;refine hc.mono fun e w' ⟨h1,h2⟩=>⟨h1,[],List.Perm.refl _,by simp [Zf4,Za7],?_,?_⟩
  ·exact YAZ _ _ _ _
  ·rw [h2];exact⟨rfl,rfl,rfl,YA _,fun _ _ _=>rfl⟩
 ·subst e0;have hsl2:ss.length=os.length:=by rw [<-hss,List.length_map]
  have hflat:flat encQ os=flat encS ss:=by
   rw [<-hss];unfold flat encS;rw [List.flatMap_map]
  have hcell:∀ i c,i<ss.length->c<6->(flat encS ss)[i*6+c]? = (encS ss[i]!)[c]? := fun i c hi hc=>by
   exact Zeq (sz:=6) (fun _=>rfl) ss i c ss[i]! (by rw [getElem!_pos _ i hi];exact YAA hi) hc
  have hgl:=Zab hg;have hH:Go.Sort.HoldsK encS 6 w g 0 ss.toArray:=by
   intro j hj;rw [Go.Sort.size_flatK] at hj;simp only [List.size_toArray] at hj;refine⟨?_,by simp [World.frozen?,hg]⟩;rw [Go.Sort.get_flatK _ _ _ j (by simpa using hj)];have hd:j / 6<ss.length:=by omega
   have e1:(flat encQ os)[j]? = (encS ss[j / 6]!)[j%6]? := by
    rw [hflat, <-hcell (j / 6) (j%6) hd (by omega)];congr 1;omega
   have e2:cur[j]? = (flat encQ os)[j]? := by
    rw [<-ht,List.getElem?_take,if_pos (by omega),Array.getElem?_toList]
   simp only [World.cell?,hg,Nat.zero_add];simp only [Option.isSome_none,Bool.false_eq_true,if_false];rw [e2,e1];have e3:(ss.toArray[j / 6]! : QS)=ss[j / 6]! := by simp
   rw [e3,YAA (show j%6<(encS ss[j / 6]!).length by show j%6<6;omega),getElem!_pos _ (j%6) (show j%6<(encS ss[j / 6]!).length by show j%6<6;omega)];rfl
  have hc:=Go.Proofs.AnyQ.slices_SortFunc Tryz.sortQ 6 Tryz.aggRoute Tryz.sizeRoute encS (fun _=>rfl) (fun x u hu=>Zep _ _ _ _ u hu) cfS swoS 131 #[] g 0 cap ss.toArray w (enters_of Tryz.func131 (by kernel_rfl) rfl) (Zp8 g 0 ss.toArray.size w) hH hgl (by simp;omega);change Calls Tryz.prog 130 _ _ _ at hc;rw [show ss.toArray.size=os.length by simp [hsl2]] at hc;refine hc.mono fun e w' ⟨h1,d',n,os',hp,hso,hw⟩=>⟨h1,d'.toList.map qsP,?_,?_,?_,?_⟩
  ·have hpp:=hp.2.2;have hds:d'.size=os.length:=by rw [hp.1];simp [hsl2]
   rw [Array.extract_eq_self_of_le (by omega),Array.extract_eq_self_of_le (by simp [hsl2])] at hpp;have:=hpp.map qsP;rw [hss] at this;exact this
  ·have hds:d'.size=os.length:=by rw [hp.1];simp [hsl2]
   unfold Zf4 Za7;rw [List.map_map,YAm,YAa];intro i j hi hj hij;simp only [Array.length_toList] at hi hj;have h3:=hso i j (by omega) hij (by omega);rw [getElem!_pos d' i hi,getElem!_pos d' j hj] at h3;unfold Go.Proofs.ltOf cfS at h3;have h4:¬ordQ d'[j].1 d'[i].1<0:=by simpa using h3
   exact h4
  ·have hds:d'.size=os.length:=by rw [hp.1];simp [hsl2]
   obtain⟨cur',hg',hs'⟩:=ZhA (enc:=encS) (k:=6) (m:=n) (dk:=d') (os:=os') hg;have hH':=Go.Proofs.holdsK_sortWorldK_c encS 6 w g 0 ss.toArray d' n os' hH hgl (by rw [hds];simp [hsl2]);rw [hw];have hlm:(d'.toList.map qsP).length=os.length:=by simp [hds]
   rw [hlm];refine Znv hg' hb hn hm (by rw [hs',hs]) (by rw [ZaD Zcg,hlm]) (fun j hj=>?_);have hd:j / 6<d'.size:=by omega
   have h6:=hH'.cell (i:=j / 6) (c:=j%6) hd (by omega);rw [show 0+j / 6*6+j%6=j by omega] at h6;rw [h6.1];have e1:(flat encQ (d'.toList.map qsP))[j / 6*6+j%6]? = (encQ (qsP d'[j / 6]!))[j%6]? := Zeq Zcg _ _ _ _ (by rw [List.getElem?_map,Array.getElem?_toList,Array.getElem?_eq_getElem hd,getElem!_pos d' _ hd];rfl) (by omega);rw [show j / 6*6+j%6=j by omega] at e1;rw [e1];show some (encS d'[j / 6]!)[j%6]! = (encS d'[j / 6]!)[j%6]?;rw [YAA (show j%6<(encS d'[j / 6]!).length by show j%6<6;omega),getElem!_pos _ (j%6) (show j%6<(encS d'[j / 6]!).length by show j%6<6;omega)]
  ·rw [hw];exact ZhB
def upB (zs:List Bool)(k:Nat):Bool:=(zs[k]?).getD false
def ZbI (ls:List Lk)(bs zs:List Bool)(v a:Int):Nat->List Nr
 | 0=>[]
 | k+1=>ZbI ls bs zs v a k++(if decide (0<Zcw ls bs v ((k:Int)+1) a)&&upB zs k then [⟨(k:Int)+1,Zcw ls bs v ((k:Int)+1) a⟩] else [])
theorem Zkp (ls:List Lk)(bs zs:List Bool)(v a:Int):∀ k,(ZbI ls bs zs v a k).length<=k
 | 0=>by simp [ZbI]
 | k+1=>by
  have:=Zkp ls bs zs v a k;unfold ZbI;rw [YAN]
  split <;> simp <;> omega
def Zb2 (v a:Int)(near:List Nr):RecD:=⟨a,1,v,0,1,near,0,false⟩
def Zb6 (t:Th):RecD:=⟨9,3,t.o,t.k,1,[],t.c,t.f⟩
def ZeJ (ls:List Lk)(bs zs:List Bool)(N:Nat)(v:Int)(al:List Int)(xs:List RecD):Nat->List RecD
 | 0=>xs
 | j+1=>putD (ZeJ ls bs zs N v al xs j) (Zb2 v (al.getD j 0) (ZbI ls bs zs v (al.getD j 0) N))
def idA (ls:List Lk)(bs zs:List Bool)(N:Nat):Nat->List RecD
 | 0=>[]
 | k+1=>if upB zs k then ZeJ ls bs zs N ((k:Int)+1) (Zas ls ((k:Int)+1)) (idA ls bs zs N k) (Zas ls ((k:Int)+1)).length else idA ls bs zs N k
def idB (ts:List Th)(zs:List Bool)(xs:List RecD):Nat->List RecD
 | 0=>xs
 | k+1=>match ts[k]? with
  | some t=>if upB zs (t.o-1).toNat then putD (idB ts zs xs k) (Zb6 t) else idB ts zs xs k
  | none=>idB ts zs xs k
noncomputable def idC (ls:List Lk) (zs:List Bool) (xs:List RecD):Nat->List RecD
 | 0=>xs
 | k+1=>if upB zs k&&ZeW ls ((k:Int)+1) then beyD (idC ls zs xs k) (Zas ls ((k:Int)+1)) ((k:Int)+1) else idC ls zs xs k
noncomputable def idR (ls:List Lk) (zs:List Bool) (N:Nat) (xs:List RecD):Nat->List RecD
 | 0=>xs
 | r+1=>idC ls zs (idR ls zs N xs r) N
noncomputable def ZcI (ls:List Lk) (ts:List Th) (bs zs:List Bool) (N:Nat):List RecD:=idR ls zs N (idB ts zs (idA ls bs zs N N) ts.length) 3
theorem Zco (ls:List Lk)(v:Int):(Zas ls v).length<=3:=by
 unfold Zas;exact YAK (List.length_filter_le _ _) (by simp)
theorem ZfZ {b:Bool}(h:zs[k]? = some b):upB zs k=b:=by simp [upB,h]
theorem Zf5 {v:Int}(h:al[j]? = some a):ZeJ ls bs zs N v al xs (j+1)=putD (ZeJ ls bs zs N v al xs j) (Zb2 v a (ZbI ls bs zs v a N)):=by
 have:al.getD j 0=a:=by simp [List.getD,h]
 simp only [ZeJ,this]
theorem ZoV {v q:Int}(hq:q=Zcw ls bs v ((k:Int)+1) a)(h0:0<q)(hz:zs[k]? = some true):ZbI ls bs zs v a (k+1)=ZbI ls bs zs v a k++[⟨(k:Int)+1,q⟩]:=by
 subst hq;simp only [ZbI,ZfZ hz,YAT h0,Bool.and_self,if_true]
theorem Zmr {v q:Int}{b:Bool}(hq:q=Zcw ls bs v ((k:Int)+1) a)(hz:zs[k]? = some b)(h0:¬0<q\/b=false):ZbI ls bs zs v a (k+1)=ZbI ls bs zs v a k:=by
 subst hq;simp only [ZbI,ZfZ hz];rcases h0 with h | h
 ·simp [h]
 ·subst h;simp
theorem idA_up (hz:zs[k]? = some true):idA ls bs zs N (k+1)=ZeJ ls bs zs N ((k:Int)+1) (Zas ls ((k:Int)+1)) (idA ls bs zs N k) (Zas ls ((k:Int)+1)).length:=by
 simp only [idA,ZfZ hz,if_true]
theorem Zqo (hz:zs[k]? = some false):idA ls bs zs N (k+1)=idA ls bs zs N k:=by
 simp [idA,ZfZ hz]
theorem idB_up {ts:List Th}{m:Nat}{t:Th}(ht:ts[k]? = some t)(hm:t.o=(m:Int)+1)(hz:zs[m]? = some true):idB ts zs xs (k+1)=putD (idB ts zs xs k) (Zb6 t):=by
 have:(t.o-1).toNat=m:=by omega
 simp only [idB,ht,this,ZfZ hz,if_true]
theorem Zqp {ts:List Th}{m:Nat}{t:Th}(ht:ts[k]? = some t)(hm:t.o=(m:Int)+1)(hz:zs[m]? = some false):idB ts zs xs (k+1)=idB ts zs xs k:=by
 have:(t.o-1).toNat=m:=by omega
 simp [idB,ht,this,ZfZ hz]
theorem ZrV (hz:zs[k]? = some true)(hb:ZeW ls ((k:Int)+1)=true):idC ls zs xs (k+1)=beyD (idC ls zs xs k) (Zas ls ((k:Int)+1)) ((k:Int)+1):=by
 simp [idC,ZfZ hz,hb]
theorem Zrz {b:Bool}(hz:zs[k]? = some b)(hb:b=false\/ZeW ls ((k:Int)+1)=false):idC ls zs xs (k+1)=idC ls zs xs k:=by
 rcases hb with h | h
 ·subst h;simp [idC,ZfZ hz]
 ·simp [idC,h]
theorem Zec {hi:Nat}{r:RP}(h:ZaF W lo hi r):∀ u∈encP r,u.oneCell'=true:=by
 obtain⟨a,c,e⟩:=Zac h.1;obtain⟨x,v⟩:=r;simp only at e;subst e;exact ZbY x a _ c
theorem Zrn {qs:List RP}(h:ZbO xs al src area (fsts qs)):tot qs<=6:=by
 have ht:=h.tot;have:∀ l:List RP,(∀ r∈fsts l,r.near=[])->tot l<=l.length:=by
  intro l
  induction l with
  | nil=>intro _;simp [tot]
  | cons q l ih=>
   intro h;rw [ZcE,YAk];have h1:=h q.1 (by simp [fsts]);have h2:=ih (fun r hr=>h r (by simp only [fsts,List.map_cons,YAb] at hr |-;exact .inr hr));rw [h1];simp only [List.length_nil];omega
 have h1:=this qs ht.2;have h2:qs.length<=6:=by simpa [fsts] using ht.1
 omega
def Zdb (ps:List RP)(node:Int)(k:Nat):List RP:=(ps.take k).filter (fun p=>ZbQ node p.1)
theorem Zoh (ps:List RP)(node:Int)(k:Nat):(Zdb ps node k).length<=k:=by
 unfold Zdb;exact YAK (List.length_filter_le _ _) (by rw [YAV];omega)
theorem ZpN (ps:List RP)(node:Int):tot (Zdb ps node ps.length)<=tot ps:=by
 unfold Zdb;rw [YAh];exact Zrm _ ps
theorem Zm2 (ps:List RP)(node:Int):fsts (Zdb ps node ps.length)=(fsts ps).filter (ZbQ node):=by
 unfold Zdb fsts;rw [YAh,List.filter_map];rfl
theorem Zqx (v u:Value)(ps:List RP)(al:List Int)(hi:Nat)(node:Int)(w:World)(hv:RecsIn w hi v ps)(ha:ZaI w u al hi)(hhi:hi<=w.heap.size)(hn:tot ps<=100000)(hal:al.length<=1000):
  Calls Tryz.prog 26 #[v,u,.int .i64 node] w fun e w'=>∃ x qs,e=.returned x/\fsts qs=beyD (fsts ps) al node/\RecsIn w' w'.heap.size x qs/\tot qs<=tot ps+6*al.length/\Below w.heap.size w w':=by
 have hnl:=Zbj ps;obtain⟨a1,c1,rfl⟩:=Zac hv.row;obtain⟨a2,c2,rfl⟩:=ha.shape;have LIT:=ZcR w w.heap.size (YA _);have BX:Below w.heap.size w (w.alloc (.cells #[] 37)):=(YAC _ _).alloc (YA _) _;obtain⟨w0,hw0⟩:∃ W,W=w.alloc (.cells #[] 37):=⟨_,rfl⟩;rw [<-hw0] at BX LIT;have HTL:=hide (fun (area:Int) W (hb:Below w.heap.size w W)=>ZpC (.slice a1 ps.length c1) (.slice a2 al.length c2) ps al hi node area W (hv.below hb hhi) (Zav.later ha hb hhi) (YAK hhi hb.size) (by omega) (by omega));have HV:=hide hv;have HA:=hide ha;have HLIT:=hide LIT;clear hv ha LIT
 go_enter Tryz.func26,Tryz.ntmps26
 go_wp2;rw [<-hw0];clear hw0
 go_loopw [8,7] (fun i o wr=>∃ (k:Nat) (x:Value) (qs:List RP),k<=al.length/\i=.int .i64 (k:Int)/\o=x/\RecsOwn wr w.heap.size wr.heap.size x qs/\Hid (fsts qs=Zbd (fsts ps) al node (al.take k))/\tot qs<=6*k/\Below w.heap.size w wr) (fun i _ _=>al.length-(intOf i).toNat)
 case atStart=>exact ⟨0,_,[],by omega,rfl,rfl,HLIT.out,hide (by simp [Zbd,fsts]),by simp [tot],BX⟩
 case round=>
  obtain⟨k,x,qs,hk,rfl,rfl,hown,HF,htq,hnx⟩:=hrel;clear HLIT BX;obtain⟨xa,xc,rfl⟩:=Zac hown.row;have hsz:=hnx.size;have hql:=Zbj qs;by_cases hlt:k<al.length
  ·obtain ⟨area,har⟩:∃ a,al[k]? = some a:=⟨al[k],YAA hlt⟩;obtain⟨b,off,cap',hve,hbb,c0⟩:=HA.out.cell k area har;cases hve;replace c0:=(hnx.cell (by show b<w.heap.size;omega)).trans c0;have hki:(0:Int)<=(k:Int):=by omega
   have hkj:(k:Int)<(al.length:Int):=by omega
   have HAR:=hide har;have HOW:=hide hown;clear har hown
   go_wp2_with fail
   refine (HTL.out area _ hnx).mono ?_;rintro e w2 ⟨y,bs,rfl,hbs,hob,b2⟩;obtain⟨ya,yc,rfl⟩:=Zac hob.row;have hb2:=b2.size;have htb:=Zrn hbs;have hbl:=Zbj bs;have HF2:=hide (show fsts (qs++bs)=Zbd (fsts ps) al node (al.take (k+1)) by
    rw [ZjP HAR.out, <-HF.out, <-hbs.eq];simp [fsts])
   have HOB:=hide hob;have HB2:=hide b2;have OW:=hide (Zad HOW.out.row b2 (YA _));clear hbs hob b2
   go_wp2_with (first
    | (at_builtin;refine ZcX (fun l=>ZaD Zay l) (by omega) (by omega) _ rfl _ _ 31 rfl w.heap.size 37 Tryz.underlying31 (.agg (recC Za9 (.slice none 0 0))) rfl Tryz.infoRec _ qs rfl OW.out wr.heap.size _ bs (fun q hq=>Zec (HOB.out.nears q hq)) rfl HOB.out.row (by omega) (by omega) ?_))
   intro v' w3 hown' hgrow;have N1:=hide (HOW.out.join HB2.out hsz HOB.out (by rw [YAN];exact hown') hgrow);have N2:=hide ((hnx.trans (HB2.out.mono hsz)).grown hgrow (by omega) (fun j hj=>(HOW.out.row.lt j hj).1));have ht2:tot (qs++bs)<=6*(k+1):=by rw [ZdJ];omega
   obtain⟨va,vc,rfl⟩:=Zac hown';clear hown' hgrow OW HOB HOW HB2;go_wp2;go_roundw
   case rel=>exact ⟨k+1,_,qs++bs,by omega,by go_num,rfl,by simpa using N1.out,HF2,ht2,N2.out⟩
   case measure=>simp [intOf];omega
  ·have hkn:¬(k:Int)<(al.length:Int):=by omega
   have HFA:=hide (show fsts qs=Zbd (fsts ps) al node al by have h:=HF.out;rw [YAL (by omega)] at h;exact h);have HOW:=hide hown;have ht6:tot qs<=6*al.length:=by omega
   rename World=>wo
   have OL:(wo.alloc (.cells #[] 37)).ownsRow wo.heap.size 37 8 (.slice (some ⟨wo.heap.size,0,none⟩) 0 0) 0 (flat encP []):=World.ownsRow_lit wo #[] 0 (YA _) (by unfold maxLen;omega) (by simp);have BL:Below wo.heap.size wo (wo.alloc (.cells #[] 37)):=(YAC _ _).alloc (YA _) _;obtain⟨w4,hw4⟩:∃ W,W=wo.alloc (.cells #[] 37):=⟨_,rfl⟩;rw [<-hw4] at OL BL;have HOL:=hide OL;clear hown HF OL HTL;go_wp2;rw [<-hw4];clear hw4
   go_loopw [10,9] (fun i o wr=>∃ (j:Nat) (x:Value),j<=ps.length/\i=.int .i64 (j:Int)/\o=x/\wr.ownsRow wo.heap.size 37 8 x (Zdb ps node j).length (flat encP (Zdb ps node j))/\Below wo.heap.size wo wr) (fun i _ _=>ps.length-(intOf i).toNat)
   case atStart=>exact ⟨0,_,by omega,rfl,rfl,HOL.out,BL⟩
   case round=>
    obtain⟨j,x,hj,rfl,rfl,hown,hnx2⟩:=hrel;clear HOL BL;obtain⟨ya,yc,rfl⟩:=Zac hown;have hsz2:=hnx2.size;have BW:Below w.heap.size w wr:=hnx.trans (hnx2.mono hsz);have hfl:=Zoh ps node j;have OW:=hide hown;clear hown;by_cases hjl:j<ps.length
    ·obtain ⟨p,hp⟩:∃ p,ps[j]? = some p:=⟨ps[j],YAA hjl⟩;obtain⟨bb,off,cap',hve,hbb,c0,c1,c2,c3,c4,c5,c6,c7,hnr⟩:=HV.out.at.cells j p hp;cases hve;obtain⟨pa,pc,hpn⟩:=Zat.shape hnr;rw [hpn] at c5;replace c0:=(BW.cell (YAB hbb hhi)).trans c0;replace c1:=(BW.cell (YAB hbb hhi)).trans c1;replace c2:=(BW.cell (YAB hbb hhi)).trans c2;replace c3:=(BW.cell (YAB hbb hhi)).trans c3;replace c4:=(BW.cell (YAB hbb hhi)).trans c4;replace c5:=(BW.cell (YAB hbb hhi)).trans c5;replace c6:=(BW.cell (YAB hbb hhi)).trans c6;replace c7:=(BW.cell (YAB hbb hhi)).trans c7;have HP:=hide hp;have HPN:=hide hpn;obtain⟨C,hC⟩:∃ C,C=Zdb ps node j:=⟨_,rfl⟩;rw [<-hC] at OW hfl |-;have HC:=hide hC;have hki:(0:Int)<=(j:Int):=by omega
     have hkj:(j:Int)<(ps.length:Int):=by omega
     clear hp hpn hnr hC;by_cases hK:p.1.kind=2
     ·have hdK:(p.1.kind != 2)=false:=by simpa using hK
      clear hK;by_cases hO:p.1.owner=node
      ·have hdO:(p.1.owner != node)=false:=by simpa using hO
       have HN:=hide (show wr.ownsRow wo.heap.size 37 8 (.slice ya C.length yc) (Zdb ps node (j+1)).length (flat encP (Zdb ps node (j+1))) by
        have e:Zdb ps node (j+1)=C:=by
         rw [HC.out];unfold Zdb;rw [Zd2 (fun p=>ZbQ node p.1) HP.out,show ZbQ node p.1=false by simp [ZbQ,hdK,hdO]];simp
        rw [e];exact OW.out)
       clear hO OW;go_wp2;go_roundw
       case rel=>exact ⟨j+1,_,by omega,by go_num,rfl,HN.out,hnx2⟩
       case measure=>simp [intOf];omega
      ·have hdO:(p.1.owner != node)=true:=by simpa using hO
       clear hO;have HST:=hide (show Zdb ps node (j+1)=C++[(p.1,.slice pa p.1.near.length pc)] by
        rw [HC.out];unfold Zdb;rw [Zd2 (fun p=>ZbQ node p.1) HP.out,show ZbQ node p.1=true by simp [ZbQ,hdO]];simp [<-HPN.out])
       go_wp2_with (first
        | (at_builtin;refine ZaL Zay (by omega) (by omega) _ rfl _ _ 31 rfl wo.heap.size 37 Tryz.underlying31 (.agg (recC Za9 (.slice none 0 0))) rfl Tryz.infoRec _ C (p.1,.slice pa p.1.near.length pc) (ZbY _ _ _ _) rfl (OW.out.alloc _) ⟨wr.heap.size,0,none⟩ 1 rfl (Zan (cs:=encP (p.1,.slice pa p.1.near.length pc))) (by omega) (by simp;omega) ?_))
       intro v' w6 hown' hgrow;have N1:=hide (show w6.ownsRow wo.heap.size 37 8 v' (Zdb ps node (j+1)).length (flat encP (Zdb ps node (j+1))) by rw [HST.out];simpa using hown');have N2:=hide ((hnx2.alloc hsz2 _).grown hgrow (by simp;omega) (fun i hi=>(OW.out.lt i hi).1));obtain⟨va,vc,rfl⟩:=Zac hown';clear hown' hgrow OW HST;go_wp2;go_roundw
       case rel=>exact ⟨j+1,_,by omega,by go_num,rfl,N1.out,N2.out⟩
       case measure=>simp [intOf];omega
     ·have hdK:(p.1.kind != 2)=true:=by simpa using hK
      clear hK;have HST:=hide (show Zdb ps node (j+1)=C++[(p.1,.slice pa p.1.near.length pc)] by
       rw [HC.out];unfold Zdb;rw [Zd2 (fun p=>ZbQ node p.1) HP.out,show ZbQ node p.1=true by simp [ZbQ,hdK]];simp [<-HPN.out])
      go_wp2_with (first
       | (at_builtin;refine ZaL Zay (by omega) (by omega) _ rfl _ _ 31 rfl wo.heap.size 37 Tryz.underlying31 (.agg (recC Za9 (.slice none 0 0))) rfl Tryz.infoRec _ C (p.1,.slice pa p.1.near.length pc) (ZbY _ _ _ _) rfl (OW.out.alloc _) ⟨wr.heap.size,0,none⟩ 1 rfl (Zan (cs:=encP (p.1,.slice pa p.1.near.length pc))) (by omega) (by simp;omega) ?_))
      intro v' w6 hown' hgrow;have N1:=hide (show w6.ownsRow wo.heap.size 37 8 v' (Zdb ps node (j+1)).length (flat encP (Zdb ps node (j+1))) by rw [HST.out];simpa using hown');have N2:=hide ((hnx2.alloc hsz2 _).grown hgrow (by simp;omega) (fun i hi=>(OW.out.lt i hi).1));obtain⟨va,vc,rfl⟩:=Zac hown';clear hown' hgrow OW HST;go_wp2;go_roundw
      case rel=>exact ⟨j+1,_,by omega,by go_num,rfl,N1.out,N2.out⟩
      case measure=>simp [intOf];omega
    ·have hjn:¬(j:Int)<(ps.length:Int):=by omega
     have hje:j=ps.length:=by omega
     obtain⟨C,hC⟩:∃ C,C=Zdb ps node j:=⟨_,rfl⟩;rw [<-hC] at OW hfl |-;have hCt:tot C<=tot ps:=by rw [hC,hje];exact ZpN ps node
     have HCF:=hide (show fsts C=(fsts ps).filter (ZbQ node) by rw [hC,hje];exact Zm2 ps node);have hCn:∀ p∈C,ZaF wr 0 wr.heap.size p:=fun p hp=>by
      have hm:p∈ps:=by rw [hC] at hp;exact YAj (YAP.1 hp).1
      exact ((HV.out.nears p hm).keep (W':=wr) (fun i _ h2 _=>BW.block i (by omega))).wide (YA _) (by omega)
     have HIN:RecsIn wr wr.heap.size (.slice ya C.length yc) C:=⟨Zaf OW.out (Nat.zero_le _),fun i hi=>(OW.out.lt i hi).2,hCn⟩;have HALL:RecsIn wr wr.heap.size (.slice xa qs.length xc) qs:=((HOW.out.below hnx2 (YA _)).wide (YA _) hsz2).in;have HWW:=hide (Zru _ _ C qs wr.heap.size wr HIN HALL (YA _) (by omega));rw [HCF.out,HFA.out] at HWW;have HBW:=hide BW;clear hC hje hCn HIN HALL OW HOW HCF HFA BW
     go_wp2_with fail
     refine HWW.out.mono ?_;rintro e w7 ⟨y,rs,rfl,hf,hin,htt,b7⟩;obtain⟨yya,yyc,rfl⟩:=Zac hin.row;have HE:=hide (show fsts rs=beyD (fsts ps) al node from hf);have HI:=hide hin;have HB:=hide (HBW.out.trans (b7.mono HBW.out.size));have hq:tot rs<=tot ps+6*al.length:=by omega
     clear hf hin b7;go_wp2;go_ret
     first
      | exact ⟨_,rs,rfl,HE.out,HI.out,hq,HB.out⟩
      | exact ⟨_,rfl,rs,HE.out,HI.out,hq,HB.out⟩
theorem Zpg {base sz:Nat}{e:TypeId}{xs:List Value}(h:W.ownsRow base e sz (.slice (some ⟨g,0,none⟩) n cap) n xs)(hj:j<n*sz):(W.setCell ⟨g,j,none⟩ u).ownsRow base e sz (.slice (some ⟨g,0,none⟩) n cap) n (xs.set j u):=by
 rcases h.2 with ⟨e0,_⟩ | ⟨g',cap',cur,e0,hb,hg,hn,hm,hs,ht⟩
 ·cases e0
 ·injection e0 with e1 _ e3;injection e1 with e1;injection e1 with e1;subst e1;subst e3;refine⟨by rw [List.length_set];exact h.1,.inr ⟨g,cap,cur.setIfInBounds j u,rfl,hb,YAU W g j _ _ u hg,hn,hm,by simpa using hs,?_⟩⟩;rw [<-ht];apply List.ext_getElem?;intro i;rw [List.getElem?_take,List.getElem?_set,Array.toList_setIfInBounds,List.getElem?_set];have hcl:n*sz<=cur.size:=by rw [hs];exact Nat.mul_le_mul_right sz hn
  by_cases hi:i<n*sz
  ·rw [if_pos hi,List.getElem?_take,if_pos hi];by_cases hij:j=i
   ·subst hij;have h1:j<cur.toList.length:=by rw [Array.length_toList];omega
    have h2:j<(cur.toList.take (n*sz)).length:=by rw [YAV];omega
    rw [if_pos rfl,if_pos rfl,if_pos h1,if_pos h2]
   ·simp [hij]
  ·rw [if_neg hi,List.getElem?_take,if_neg hi];have:j≠i:=by omega
   simp [this]
theorem Zok {l:List Int}:(flat encQ (b0++[b])).set (b0.length*6+5) u=flat encQ (b0++[({ b.1 with hops:=l },u)]):=by
 rw [ZaC,ZaC,List.set_append_right _ _ (by rw [ZaD Zcg];omega),ZaD Zcg,show b0.length*6+5-b0.length*6=5 by omega];rfl
theorem Zfa {lo2 hi size2:Nat}{xs:List Value}(hq:Zbv W lo hi q)(hr:W.ownsRow lo2 42 size2 v n xs)(j:Nat)(hj:q.2.ownBlock=some j):some j≠v.ownBlock:=by
 intro e;rcases hr.2 with ⟨h0,_⟩ | ⟨g,cap,cur,hv,_,hh,_⟩
 ·rw [h0] at e;simp [Value.ownBlock] at e
 ·rw [hv] at e;simp [Value.ownBlock] at e;subst e;exact Zar hq.1 hh (by decide) hj.symm
theorem RtsOwn.push {v':Value}{p:QP}(h:RtsOwn W lo W.heap.size v qs)(hb:Below W.heap.size W Wa)(hp:Zbv Wa lo Wa.heap.size p)(hap:∀ q∈qs,ZdX q p)
  (row:W2.ownsRow lo 42 6 v' (qs++[p]).length (flat encQ (qs++[p]))) (hg:Wa.grownBy W2 v.ownBlock):RtsOwn W2 lo W2.heap.size v' (qs++[p]) where
 row:=row
 top:=fun k hk=>(row.lt k hk).2
 apart:=by
  rw [YAM];exact⟨h.apart,by simp,fun a ha b hb=>by (have:b=p:=by simpa using hb);subst this;exact hap a ha⟩
 nears:=by
  have rowa:=Zad h.row hb (YA _);have key:∀ q,Zbv Wa lo Wa.heap.size q->Zbv W2 lo W2.heap.size q:=fun q hq=>
   ⟨Zal hq.1 (fun j hj=>hg.block j (hq.2 j hj) (Zfa hq rowa j hj)),fun k hk=>YAB (hq.2 k hk) hg.size⟩
  intro q hq;rcases YAF.1 hq with h1 | h1
  ·exact key q (((h.nears q h1).keep (W':=Wa) (fun j _ h2 _=>hb.block j h2)).wide (YA _) hb.size)
  ·have:q=p:=by simpa using h1
   subst this;exact key q hp
theorem RtsOwn.last {l:List Int}(h:RtsOwn W lo W.heap.size (.slice (some ⟨g,0,none⟩) n cap) (b0++[b]))(hn:(b0++[b]).length=n)(hb:Below W.heap.size W Wa)(hu:Wa.ownsRow W.heap.size 3 1 u l.length (flat intE l))(hlo:lo<=W.heap.size):
  RtsOwn (Wa.setCell ⟨g,b0.length*6+5,none⟩ u) lo (Wa.setCell ⟨g,b0.length*6+5,none⟩ u).heap.size (.slice (some ⟨g,0,none⟩) n cap) (b0++[({ b.1 with hops:=l },u)]):=by
 subst hn;have rowa:=Zad h.row hb (YA _);have hG:=Zaw Wa g (b0.length*6+5) u;have row:=Zpg (u:=u) (j:=b0.length*6+5) rowa (by simp;omega);rw [Zok (l:=l)] at row;have hsz:(Wa.setCell ⟨g,b0.length*6+5,none⟩ u).heap.size=Wa.heap.size:=by simp
 have hlen:(b0++[({ b.1 with hops:=l },u)]:List QP).length=(b0++[b]).length:=by simp
 have key:∀ q,Zbv Wa lo Wa.heap.size q->Zbv (Wa.setCell ⟨g,b0.length*6+5,none⟩ u) lo (Wa.setCell ⟨g,b0.length*6+5,none⟩ u).heap.size q:=fun q hq=>
  ⟨Zal hq.1 (fun j hj=>hG.block j (hq.2 j hj) (by have:=Zfa hq rowa j hj;simpa [Value.ownBlock] using this)),fun k hk=>by rw [hsz];exact hq.2 k hk⟩
 refine⟨by rw [hlen];exact row,fun k hk=>?_,fun q hq=>?_,?_⟩
 ·rw [hsz];exact (rowa.lt k hk).2
 ·rcases YAF.1 hq with h1 | h1
  ·exact key q (((h.nears q (YAF.2 (.inl h1))).keep (W':=Wa) (fun j _ h2 _=>hb.block j h2)).wide (YA _) hb.size)
  ·have:q=({ b.1 with hops:=l },u):=by simpa using h1
   subst this;exact key _ ⟨Zaf hu hlo,fun k hk=>(hu.lt k hk).2⟩
 ·have ha:=h.apart;rw [YAM] at ha |-;refine⟨ha.1,by simp,fun a hA c hC=>?_⟩;have:c=({ b.1 with hops:=l },u):=by simpa using hC
  subst this;intro k hk e;have h1:=(h.nears a (YAF.2 (.inl hA))).2 k hk;have h2:=(hu.lt k e).1;omega
structure BI (W:World) (B:Nat) (w2:World) (qs:List QP) (k:Nat) (x:Value) (bs:List QP):Prop where
 own:RtsOwn W B W.heap.size x bs
 new:∀ j,x.ownBlock=some j->w2.heap.size<=j
 best:ZcP (Za7 (qs.take k)) (Za7 bs)
 off:∀ b∈bs,OffR b.1
 ord:∀ b∈bs,∀ q∈qs.drop k,¬ordQ q.1 b.1<0
 apartR:∀ b∈bs,∀ q∈qs.drop k,ZdX b q
 below:Below w2.heap.size w2 W
theorem ZbT {α:Type}{qs:List α}{q:α}(h:qs[k]? = some q):qs.drop k=q::qs.drop (k+1):=by
 obtain⟨hk,e⟩:=YAD.1 h;rw [YAl hk,e]
theorem Zga (h:qs[k]? = some q):Za7 (qs.take (k+1))=Za7 (qs.take k)++[q.1]:=by
 obtain⟨hk,e⟩:=YAD.1 h;unfold Za7;rw [YAI hk,e];simp
theorem Zbm (a b:List QP):Za7 (a++b)=Za7 a++Za7 b:=by simp [Za7]
theorem ZkA (hs:Zf4 (Za7 qs))(h:qs[k]? = some q):∀ r∈qs.drop (k+1),¬ordQ r.1 q.1<0:=by
 unfold Zf4 Za7 at hs;rw [YAm] at hs;have:=List.Pairwise.sublist (List.drop_sublist k qs) hs;rw [ZbT h] at this;exact (YAo.1 this).1
theorem ZkW (hs:qs.Pairwise ZdX)(h:qs[k]? = some q):∀ r∈qs.drop (k+1),ZdX q r:=by
 have:=List.Pairwise.sublist (List.drop_sublist k qs) hs;rw [ZbT h] at this;exact (YAo.1 this).1
theorem BI.offT {bs:List QP}(_h:BI W B w2 qs k x bs)(hq:∀ q∈qs,OffR q.1):∀ y∈Za7 (qs.take k),OffR y:=by
 intro y hy;obtain⟨q,hq',rfl⟩:=YAR.1 hy;exact hq q (YAj hq')
theorem BI.lt (h:BI W B w2 qs k x (b0++[b]))(hq:∀ q∈qs,OffR q.1)(hk:qs[k]? = some q)(hne:b.1.to≠q.1.to):∀ c∈Za7 (b0++[b]),c.to<q.1.to:=by
 have hob:=h.off b (by simp);have hoq:=hq q (YAG hk);have h1:=h.ord b (by simp) q (by rw [ZbT hk];simp);rw [hoq.lt hob] at h1;have hb:b.1.to<q.1.to:=by omega
 have hA:=h.best.1;rw [Zbm,YAf] at hA;unfold AscW at hA;rw [YAM] at hA;intro c hc;rw [Zbm] at hc;rcases YAF.1 hc with h2 | h2
 ·have:=hA.2.2 (wOf c) (List.mem_map_of_mem h2) (wOf b.1) (by simp [Za7]);have h3:c.to<b.1.to:=this;omega
 ·have:c=b.1:=by simpa [Za7] using h2
  subst this;exact hb
theorem BI.worse (h:BI W B w2 qs k x (b0++[b]))(hq:∀ q∈qs,OffR q.1)(hk:qs[k]? = some q)(ht:b.1.to=q.1.to)(hne:ordQ b.1 q.1≠0):ordQ b.1 q.1<0:=by
 have hob:=h.off b (by simp);have hoq:=hq q (YAG hk);have h1:=h.ord b (by simp) q (by rw [ZbT hk];simp);rw [hoq.lt hob] at h1;rw [hob.lt hoq];have h2:¬(b.1.to=q.1.to/\(wOf b.1).cost=(wOf q.1).cost):=fun e=>hne ((hob.eq hoq).2 e);omega
theorem BI.push {bs:List QP}{x':Value}(h:BI W B w2 qs k x bs)(hq:∀ q∈qs,OffR q.1)(hs:Zf4 (Za7 qs))(ha:qs.Pairwise ZdX)(hk:qs[k]? = some q)(hlt:∀ c∈Za7 bs,c.to<q.1.to)
  (hb:Below W.heap.size W Wa) (hp:Zbv Wa B Wa.heap.size q) (row:W2.ownsRow B 42 6 x' (bs++[q]).length (flat encQ (bs++[q]))) (hg:Wa.grownBy W2 x.ownBlock) (hat:∀ j,x'.ownBlock=some j->x.ownBlock=some j\/Wa.heap.size<=j):BI W2 B w2 qs (k+1) x' (bs++[q]) where
 own:=h.own.push hb hp (fun b hb'=>h.apartR b hb' q (by rw [ZbT hk];simp)) row hg
 new:=fun j hj=>by
  rcases hat j hj with h1 | h1
  ·exact h.new j h1
  ·have:=h.below.size;have:=hb.size;omega
 best:=by
  rw [Zga hk,Zbm];exact h.best.push (h.offT hq) (hq q (YAG hk)) hlt
 off:=fun b hb'=>by
  rcases YAF.1 hb' with h1 | h1
  ·exact h.off b h1
  ·have:b=q:=by simpa using h1
   subst this;exact hq b (YAG hk)
 ord:=fun b hb' r hr=>by
  rcases YAF.1 hb' with h1 | h1
  ·exact h.ord b h1 r (by rw [ZbT hk];exact YAg _ hr)
  ·have:b=q:=by simpa using h1
   subst this;exact ZkA hs hk r hr
 apartR:=fun b hb' r hr=>by
  rcases YAF.1 hb' with h1 | h1
  ·exact h.apartR b h1 r (by rw [ZbT hk];exact YAg _ hr)
  ·have:b=q:=by simpa using h1
   subst this;exact ZkW ha hk r hr
 below:=(h.below.trans (hb.mono h.below.size)).grown hg (YAK h.below.size hb.size) h.new
theorem BI.pass (h:BI W B w2 qs k x (b0++[b]))(hq:∀ q∈qs,OffR q.1)(hk:qs[k]? = some q)(ht:b.1.to=q.1.to)(hne:ordQ b.1 q.1≠0)(hb:Below W.heap.size W Wa):BI Wa B w2 qs (k+1) x (b0++[b]) where
 own:=(h.own.below hb (YA _)).wide (YA _) hb.size
 new:=h.new
 best:=by
  rw [Zga hk,Zbm];have h1:=h.best;rw [Zbm] at h1;exact h1.pass (h.offT hq) (h.off b (by simp)) (hq q (YAG hk)) ht (h.worse hq hk ht hne)
 off:=h.off
 ord:=fun c hc r hr=>h.ord c hc r (by rw [ZbT hk];exact YAg _ hr)
 apartR:=fun c hc r hr=>h.apartR c hc r (by rw [ZbT hk];exact YAg _ hr)
 below:=h.below.trans (hb.mono h.below.size)
theorem BI.join (h:BI W B w2 qs k (.slice (some ⟨g,0,none⟩) n cap) (b0++[b]))(hn:(b0++[b]).length=n)(hq:∀ q∈qs,OffR q.1)(hk:qs[k]? = some q)(he:ordQ b.1 q.1=0)(hB:B<=w2.heap.size)(hqt:∀ r∈qs,∀ j,r.2.ownBlock=some j->j<w2.heap.size)
  (hb:Below W.heap.size W Wa) (hu:Wa.ownsRow W.heap.size 3 1 u (Zcr b.1.hops q.1.hops).length (flat intE (Zcr b.1.hops q.1.hops))):BI (Wa.setCell ⟨g,b0.length*6+5,none⟩ u) B w2 qs (k+1) (.slice (some ⟨g,0,none⟩) n cap) (b0++[({ b.1 with hops:=Zcr b.1.hops q.1.hops },u)]) where
 own:=h.own.last hn hb hu (YAK hB h.below.size)
 new:=h.new
 best:=by
  rw [Zga hk,Zbm];have h1:=h.best;rw [Zbm] at h1;exact h1.join (h.offT hq) (h.off b (by simp)) (hq q (YAG hk)) he
 off:=fun c hc=>by
  rcases YAF.1 hc with h1 | h1
  ·exact h.off c (YAF.2 (.inl h1))
  ·have:c=({ b.1 with hops:=Zcr b.1.hops q.1.hops },u):=by simpa using h1
   subst this;have hb':=h.off b (by simp);have hq':=hq q (YAG hk);exact⟨hb'.thing,hb'.kind,hb'.cost,hb'.far,Zhc _ _,fun z hz=>by
    rcases Zfy.1 hz with h2 | h2
    ·exact hb'.hop6 z h2
    ·exact hq'.hop6 z h2,hb'.node⟩
 ord:=fun c hc r hr=>by
  have hr':r∈qs.drop k:=by rw [ZbT hk];exact YAg _ hr
  rcases YAF.1 hc with h1 | h1
  ·exact h.ord c (YAF.2 (.inl h1)) r hr'
  ·have:c=({ b.1 with hops:=Zcr b.1.hops q.1.hops },u):=by simpa using h1
   subst this;exact h.ord b (by simp) r hr'
 apartR:=fun c hc r hr=>by
  have hr':r∈qs.drop k:=by rw [ZbT hk];exact YAg _ hr
  rcases YAF.1 hc with h1 | h1
  ·exact h.apartR c (YAF.2 (.inl h1)) r hr'
  ·have:c=({ b.1 with hops:=Zcr b.1.hops q.1.hops },u):=by simpa using h1
   subst this;intro j hj e;have h2:=(hu.lt j hj).1;have h3:=hqt r (List.mem_of_mem_drop hr) j e;have:=h.below.size;omega
 below:=(h.below.trans (hb.mono h.below.size)).grown (Zaw Wa g _ u) (YAK h.below.size hb.size) (fun j hj=>h.new j hj)
end Go.Proofs.YtikloccefmofdaaGreat
