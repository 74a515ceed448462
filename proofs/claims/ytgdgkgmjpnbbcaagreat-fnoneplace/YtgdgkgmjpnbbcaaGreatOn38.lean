/-
  IRoutes ThMS
-/
import Derived.Test.YtgdgkgmjpnbbcaaGreatOn28
import Derived.Test.YtgdgkgmjpnbbcaaGreatOn29
import Derived.Test.YtgdgkgmjpnbbcaaGreatOn37
import Derived.Test.YtgdgkgmjpnbbcaaGreatOn21
import Derived.Test.YtgdgkgmjpnbbcaaGreatOn31
namespace Go.Proofs.YtgdgkgmjpnbbcaaGreat
open Go.RowKit
set_option linter.unusedSimpArgs false
set_option linter.unusedVariables false
set_option maxRecDepth 100000
set_option maxHeartbeats 8000000
theorem ZfU {S:Int->WayD->Prop}{ds:List WayD}(h:Zay S ds)(hS:∀ to w,S to w->GoodW w/\w.to=to):Zdw ds:=h.good hS
theorem ZnM {α:Type}(a b:Value)(xs ys:List α):Zcx [(a,xs),(b,ys)]=xs++ys:=by simp [Zcx]
theorem Zlb {α:Type}(a b c:Value)(xs ys zs:List α):Zcx [(a,xs),(b,ys),(c,zs)]=xs++ys++zs:=by simp [Zcx]
theorem Zko {W:World}{lo hi:Nat}{p:WP}(h:Zbu W lo hi p):∀ u∈encW p,u.oneCell'=true:=by
 obtain⟨a,c,e⟩:=Zac h.1;intro u hu;have:p=(p.1,.slice a p.1.hops.length c):=by rw [<-e]
 rw [this] at hu;exact Zc3 _ _ _ _ u hu
theorem Zh0 {W:World}{lo hi:Nat}{p:QP}(h:Zbl W lo hi p):∀ u∈encQ p,u.oneCell'=true:=by
 obtain⟨a,c,e⟩:=Zac h.1;intro u hu;have:p=(p.1,.slice a p.1.hops.length c):=by rw [<-e]
 rw [this] at hu;exact Zcp _ _ _ _ u hu
theorem ZjN (v u:Value)(ps:List RP)(al:List Int)(hi:Nat)(border:Bool)(src:Int)(w:World)(hv:RecsIn w hi v ps)(ha:ZaP w u al hi)(hhi:hi<=w.heap.size)(hn:tot ps<=1048576)(hal:al.length<=1048576)(hs:ZaE (fsts ps)=true):
  Calls Tryz.prog 9 #[v,u,.bool border,.int .i64 src] w fun e w'=>∃ x qs,e=.returned x/\ZcD (fsts ps) al border src (ZaU qs)/\RtsOwn w' w.heap.size w'.heap.size x qs/\Below w.heap.size w w':=by
 obtain⟨a1,c1,rfl⟩:=Zac hv.row;obtain⟨a2,c2,rfl⟩:=ha.shape;have HWI:=hide (ZdC (.slice a1 ps.length c1) (.slice a2 al.length c2) ps al hi src w hv ha hhi hn hal);have HBY:=hide (fun W (hb:Below w.heap.size w W)=>Zgv (.slice a1 ps.length c1) (.slice a2 al.length c2) ps al hi border src W (hv.below hb hhi) (ZaR.later ha hb hhi) (Nat.le_trans hhi hb.size) hn hal)
 have HTH:=hide (fun W vc cs ds es hc lo2 hi2 (hb:Below w.heap.size w W) hw hh2 hnw hgd hge=>ZjO (.slice a1 ps.length c1) vc ps cs ds es hc hi lo2 hi2 src W (hv.below hb hhi) (Nat.le_trans hhi hb.size) hw hh2 hnw hs hgd hge)
 clear hv ha hs
 go_enter Tryz.func9,Tryz.ntmps9
 go_wp2_with fail
 refine HWI.out.mono ?_
 rintro e w1 ⟨uw,ws,rfl,hbw,how,b1⟩;obtain⟨wsa,wsc,rfl⟩:=Zac how.row;have hb1:=b1.size;have HW1:=hide how;have HBW:=hide hbw;have htw:=ZhL hbw (fun to d h=>ZaI h)
 clear how hbw HWI
 go_wp2_with fail
 refine (HBY.out _ b1).mono ?_
 rintro e w2 ⟨ub,bs,rfl,hbb,hob,b2⟩;obtain⟨bsa,bsc,rfl⟩:=Zac hob.row;have hb2:=b2.size;have htb:=ZhL hbb (fun to d h=>Zba h)
 have B2:Below w.heap.size w w2:=b1.trans (b2.mono hb1);have how:=HW1.out.below b2 (Nat.le_refl _)
 -- the concatenated ways
 have BL:Below w2.heap.size w2 (w2.alloc (.cells #[.slice wsa ws.length wsc,.slice bsa bs.length bsc] 41)):=(Below.refl _ _).alloc (Nat.le_refl _) _;have hxl:=heap_alloc_new w2 (.cells #[.slice wsa ws.length wsc,.slice bsa bs.length bsc] 41);have hwl:=Zei ws;have hbl:=Zei bs;have HCC:=hide (ZjA [(.slice wsa ws.length wsc,ws),(.slice bsa bs.length bsc,bs)] w2.heap.size (w2.alloc (.cells #[.slice wsa ws.length wsc,.slice bsa bs.length bsc] 41))
  (fun j x hj=>by
   have h:=Zaa hxl j;rw [h]
   match j,hj with
   | 0,hj=>simp at hj;subst hj;rfl
   | 1,hj=>simp at hj;subst hj;rfl
   | j+2,hj=>simp at hj)
  (fun x hx=>by
   simp only [List.mem_cons,List.not_mem_nil,or_false] at hx
   rcases hx with rfl | rfl
   ·exact ⟨_,how.row.alloc _⟩
   ·exact ⟨_,hob.row.alloc _⟩)
  (fun x hx=>by
   simp only [List.mem_cons,List.not_mem_nil,or_false] at hx
   rcases hx with rfl | rfl
   ·exact fun p hp=>Zko (how.nears p hp)
   ·exact fun p hp=>Zko (hob.nears p hp))
  (by simp [sumL];omega) (by simp) (by simp))
 rw [ZnM,List.length_append] at HCC;have HB2:=hide B2;have HOW:=hide how;have HOB:=hide hob;have HBB:=hide hbb;have HBL:=hide BL;clear how hob hbb BL hxl HBY HW1 B2
 go_wp2_with fail
 refine HCC.out.mono ?_
 rintro e w3 ⟨vc,rfl,hoc,b3⟩;obtain⟨ca,cc,rfl⟩:=Zac hoc;have hs2:(w2.alloc (.cells #[.slice wsa ws.length wsc,.slice bsa bs.length bsc] 41)).heap.size=w2.heap.size+1:=by simp
 have hb3:=b3.size;have B3:Below w2.heap.size w2 w3:=HBL.out.trans (b3.mono (by omega))
 have h23:=B3.size;have how3:=HOW.out.below B3 (by omega)
 have hob3:=HOB.out.below B3 (Nat.le_refl _);have hcat:WaysOwn w3 w.heap.size w3.heap.size (.slice ca (ws.length+bs.length) cc) (ws++bs):=⟨by rw [List.length_append];exact Zah hoc (by omega),fun k hk=>(hoc.lt k hk).2,fun p hp=>by
  rcases List.mem_append.1 hp with h1 | h1
  ·exact (how3.nears p h1).wide (Nat.le_refl _) (by omega)
  ·exact (hob3.nears p h1).wide hb1 (by omega),by
  rw [List.pairwise_append];refine⟨how3.apart,hob3.apart,fun a ha b hb k hk e=>?_⟩
  have h1:=(how3.nears a ha).2 k hk;have h2:=((hob3.nears b hb).1.lt k e).1;omega⟩
 have HT3:=hide (HTH.out w3 (.slice ca (ws.length+bs.length) cc) (ws++bs) (Zag ws) (Zag bs) (by simp [Zag]) w.heap.size w3.heap.size (HB2.out.trans (B3.mono (by omega))) hcat (Nat.le_refl _) (by rw [Zj9];omega) (ZfU HBW.out (fun to d h=>ZaI h)) (ZfU HBB.out (fun to d h=>Zba h)))
 have HW3:=hide how3;have HO3:=hide hob3;have HB3:=hide B3;have HS2:=hide hs2;clear how3 hob3 hcat hoc b3 HTH HCC HOW HOB B3 hs2 HBL
 go_wp2_with fail
 refine HT3.out.mono ?_
 rintro e w4 ⟨vt,ts,rfl,holt,hbt,hot,b4⟩;obtain⟨ta,tc,rfl⟩:=Zac hot.row;have hb4:=b4.size;have how4:=HW3.out.below b4 (by omega)
 have hob4:=HO3.out.below b4 (by omega)
 have HI1:=hide (Zhj (.slice wsa ws.length wsc) ws w.heap.size w1.heap.size 1 src w4 how4 (by omega) (by omega))
 have HW4:=hide how4;have HO4:=hide hob4;have HT4:=hide hot;have HBT:=hide hbt;have HOL:=hide holt;have B4:=hide (HB2.out.trans ((HB3.out.trans (b4.mono (by omega))).mono (by omega)))
 clear how4 hob4 hot hbt holt b4 HT3 HW3 HO3 HB3 HB2
 go_wp2_with fail
 refine HI1.out.mono ?_
 rintro e w5 ⟨v1,rfl,ho1,b5⟩;obtain⟨n1a,n1c,rfl⟩:=Zac ho1;have hb5:=b5.size;have HI2:=hide (Zhj (.slice bsa bs.length bsc) bs w1.heap.size w2.heap.size 2 src w5 (HO4.out.below b5 (by omega)) (by omega) (by omega))
 have HN1:=hide ho1;have HB5:=hide b5;clear ho1 b5 HI1
 go_wp2_with fail
 refine HI2.out.mono ?_
 rintro e w6 ⟨v2,rfl,ho2,b6⟩;obtain⟨n2a,n2c,rfl⟩:=Zac ho2;have hb6:=b6.size;have r1:=Zaf HN1.out b6 (Nat.le_refl _);have B56:Below w4.heap.size w4 w6:=HB5.out.trans (b6.mono hb5);have r3:=Zaf HT4.out.row B56 (Nat.le_refl _);have hw6:=HW4.out.below B56 (by omega)
 have hb6':=HO4.out.below B56 (by omega)
 have ht6:=HT4.out.below B56 (Nat.le_refl _);have hxl:=heap_alloc_new w6 (.cells #[.slice n1a (ZaK 1 src ws).length n1c,.slice n2a (ZaK 2 src bs).length n2c,.slice ta ts.length tc] 39);have q1:=Zb5 hw6 1 src;have q2:=Zb5 hb6' 2 src;have hl1:=Zef 1 src ws;have hl2:=Zef 2 src bs;have hl3:ts.length<=9:=by
  have h:=Zeh HBT.out.1 (fun d hd=>by
   obtain⟨y,hy,rfl⟩:=List.mem_map.1 hd;obtain⟨b,hb,rfl⟩:=List.mem_map.1 hy;exact (HOL.out b hb).node)
  simpa [ZaU] using h
 have HCQ:=hide (Zjz [(.slice n1a (ZaK 1 src ws).length n1c,ZaK 1 src ws),(.slice n2a (ZaK 2 src bs).length n2c,ZaK 2 src bs),(.slice ta ts.length tc,ts)] w6.heap.size (w6.alloc (.cells #[.slice n1a (ZaK 1 src ws).length n1c,.slice n2a (ZaK 2 src bs).length n2c,.slice ta ts.length tc] 39))
  (fun j x hj=>by
   have h:=Zaa hxl j;rw [h]
   match j,hj with
   | 0,hj=>simp at hj;subst hj;rfl
   | 1,hj=>simp at hj;subst hj;rfl
   | 2,hj=>simp at hj;subst hj;rfl
   | j+3,hj=>simp at hj)
  (fun x hx=>by
   simp only [List.mem_cons,List.not_mem_nil,or_false] at hx
   rcases hx with rfl | rfl | rfl
   ·exact ⟨_,r1.alloc _⟩
   ·exact ⟨_,ho2.alloc _⟩
   ·exact ⟨_,r3.alloc _⟩)
  (fun x hx=>by
   simp only [List.mem_cons,List.not_mem_nil,or_false] at hx
   rcases hx with rfl | rfl | rfl
   ·exact fun p hp=>Zh0 (q1 p hp)
   ·exact fun p hp=>Zh0 (q2 p hp)
   ·exact fun p hp=>Zh0 (ht6.nears p hp))
  (by simp [sumL];omega) (by simp) (by simp))
 rw [Zlb,List.length_append,List.length_append] at HCQ;have HQ1:=hide q1;have HQ2:=hide q2;have HA1:=hide (Zc5 hw6 1 src);have HA2:=hide (Zc5 hb6' 2 src);have HT6:=hide ht6;have B6:=hide (B4.out.trans (B56.mono (by omega)))
 have BZ:=hide ((Below.refl w6.heap.size w6).alloc (Nat.le_refl _) (.cells #[.slice n1a (ZaK 1 src ws).length n1c,.slice n2a (ZaK 2 src bs).length n2c,.slice ta ts.length tc] 39));clear hxl q1 q2 hw6 hb6' ht6 r1 r3 ho2 b6 B56 HI2 HN1 HB5 HW4 HO4 HT4 B4
 go_wp2_with fail
 refine HCQ.out.mono ?_
 rintro e w7 ⟨x,rfl,hox,b7⟩;obtain⟨xa,xc,rfl⟩:=Zac hox;have hs6:=BZ.out.size;have B67:Below w6.heap.size w6 w7:=BZ.out.trans (b7.mono hs6);have hb7:=B67.size;have hlow:=B6.out.size;have hw67:w.heap.size<=w6.heap.size:=by omega
 have RO:RtsOwn w7 w.heap.size w7.heap.size (.slice xa ((ZaK 1 src ws).length+(ZaK 2 src bs).length+ts.length) xc) (ZaK 1 src ws++ZaK 2 src bs++ts):=⟨by rw [List.length_append,List.length_append];exact Zah hox (by omega),fun k hk=>(hox.lt k hk).2,fun p hp=>by
  rcases List.mem_append.1 hp with h0 | h0
  ·rcases List.mem_append.1 h0 with h1 | h1
   ·exact ((HQ1.out p h1).keep (fun j _ h2 h3=>B67.block j h3)).wide (Nat.le_refl _) (by omega)
   ·exact ((HQ2.out p h1).keep (fun j _ h2 h3=>B67.block j h3)).wide hb1 (by omega)
  ·exact ((HT6.out.nears p h0).keep (fun j _ h2 h3=>B67.block j h3)).wide (by omega) (by omega),by
  rw [List.pairwise_append,List.pairwise_append];refine⟨⟨HA1.out,HA2.out,fun a ha b hb k hk e=>?_⟩,HT6.out.apart,fun a ha b hb k hk e=>?_⟩
  ·have h1:=(HQ1.out a ha).2 k hk
   have h2:=((HQ2.out b hb).1.lt k e).1;omega
  ·have h2:=((HT6.out.nears b hb).1.lt k e).1
   rcases List.mem_append.1 ha with h0 | h0
   ·have h1:=(HQ1.out a h0).2 k hk
    omega
   ·have h1:=(HQ2.out a h0).2 k hk
    omega⟩
 have HRO:=hide RO;have HIR:=hide (show ZcD (fsts ps) al border src (ZaU (ZaK 1 src ws++ZaK 2 src bs++ts)) from ⟨Zag ws,Zag bs,(ZaU ts).map wOf,HBW.out,HBB.out,HBT.out,by rw [ZaS,ZaS,Zee,Zee,ZkJ HOL.out]⟩)
 have HBF:=hide (B6.out.trans (B67.mono hw67));clear RO hox b7 B67 HQ1 HQ2 HA1 HA2 HT6 BZ HCQ B6
 go_wp2
 go_ret
 first
  | exact ⟨_,_,rfl,HIR.out,HRO.out,HBF.out⟩
  | exact ⟨_,rfl,_,HIR.out,HRO.out,HBF.out⟩
def Zbp (far:Bool)(f c:Int):Int:=if far then 4000000000000+f*1000000+c else 3000000000000+c
def Zg2 (far:Bool)(c:Int):Int:=if far then c else 0
def ZhS (far:Bool)(c k:Int):Int:=if far then k else k+c
theorem Zpf (far:Bool)(c k:Int):Zbp far (Zg2 far c) (ZhS far c k)=ZfH far c k:=by
 unfold Zbp Zg2 ZhS ZfH;cases far
 ·simp;omega
 ·simp
structure ThIn (key:Int) (far:Bool) (q:RtD):Prop where
 thing:q.thing=true
 to:q.to=key
 kind:q.kind=if far then 4 else 3
 cost:0<=q.cost/\q.cost<=61000
 far:0<=q.far/\q.far<=1000/\(far=false->q.far=0)
def Zng (key:Int):RtD:=⟨true,key,3,0,0,[]⟩
def ThSt (key:Int)(far:Bool)(F:Bool)(q:RtD)(S:WayD->Prop):Prop:=
 if F then ThIn key far q/\ZaF key S (some ⟨key,Zbp far q.far q.cost,q.hops⟩) else q=Zng key/\ZaF key S none
theorem ThIn.rt {key:Int}{far:Bool}{q:RtD}(h:ThIn key far q):rtOf ⟨key,Zbp far q.far q.cost,q.hops⟩=q:=by
 obtain⟨h1,h2,h3,h4,h5⟩:=h;obtain⟨th,to,kind,cost,fa,hops⟩:=q;simp only at h1 h2 h3 h4 h5
 subst h1;subst h2;subst h3;unfold rtOf Zbp;cases far
 ·have h6:fa=0:=h5.2.2 rfl
  subst h6;simp only [Bool.false_eq_true,if_false]
  rw [if_pos (by omega)]
  congr 1
  omega
 ·simp only [if_true]
  rw [if_neg (by omega)]
  congr 1 <;> omega
theorem Zni {l:List Int}(ha:l.Pairwise (· < ·))(h6:Hop6 l):addL [] l=l:=
 (ZeP ha (fun x=>by simp) h6).symm
theorem ZkH {far:Bool}{f c f' c':Int}(h0:0<=c)(h1:c<=61000)(h0':0<=c')(h1':c'<=61000)(hf:far=false->f=0)(hf':far=false->f'=0):Zbp far f c<Zbp far f' c'↔f<f'\/(f=f'/\c<c'):=by
 unfold Zbp;cases far
 ·have:=hf rfl
  have:=hf' rfl;simp only [Bool.false_eq_true,if_false]
  omega
 ·simp only [if_true]
  omega
theorem ThSt.less {key:Int}{far F:Bool}{q:RtD}{S:WayD->Prop}{m c:Int}{l:List Int}(h:ThSt key far F q S)(hS:∀ w,S w->Hop6 w.hops)(hl:F=true->m<q.far\/(m=q.far/\c<q.cost))
  (hm:0<=m/\m<=1000/\(far=false->m=0)) (hc:0<=c/\c<=61000) (ha:l.Pairwise (· < ·)) (h6:Hop6 l):
  ThSt key far true ⟨true,key,if far then 4 else 3,c,m,l⟩ (fun x=>S x\/x=⟨key,Zbp far m c,l⟩):=by
 unfold ThSt at h |-;rw [if_pos rfl];refine⟨⟨rfl,rfl,rfl,hc,hm⟩,?_⟩
 cases F
 ·rw [if_neg (by simp)] at h
  exact h.2.add ZfM hS (w:=⟨key,Zbp far m c,l⟩) rfl ha h6
 ·rw [if_pos rfl] at h
  obtain⟨hq,hb⟩:=h;have h1:=hb.add ZfM hS (w:=⟨key,Zbp far m c,l⟩) rfl ha h6;have h2:Zbp far m c<Zbp far q.far q.cost:=(ZkH hc.1 hc.2 hq.cost.1 hq.cost.2 hm.2.2 hq.far.2.2).2 (hl rfl);have e:togD ⟨key,Zbp far q.far q.cost,q.hops⟩ ⟨key,Zbp far m c,l⟩=⟨key,Zbp far m c,l⟩:=by
   unfold togD Zbi;rw [if_neg (by simp;omega),if_pos (by simpa using h2)]
  have h3:Zel togD (some ⟨key,Zbp far q.far q.cost,q.hops⟩) (some ⟨key,Zbp far m c,l⟩)=some ⟨key,Zbp far m c,l⟩:=by unfold Zel;simp only [];rw [e]
  rw [h3] at h1;exact h1
theorem ThSt.like {key:Int}{far:Bool}{q:RtD}{S:WayD->Prop}{l:List Int}(h:ThSt key far true q S)(hS:∀ w,S w->Hop6 w.hops)(ha:l.Pairwise (· < ·))(h6:Hop6 l):
  ThSt key far true ⟨true,key,if far then 4 else 3,q.cost,q.far,addL q.hops l⟩ (fun x=>S x\/x=⟨key,Zbp far q.far q.cost,l⟩):=by
 unfold ThSt at h |-;rw [if_pos rfl] at h |-;obtain⟨hq,hb⟩:=h;refine⟨⟨rfl,rfl,rfl,hq.cost,hq.far⟩,?_⟩
 have h1:=hb.add ZfM hS (w:=⟨key,Zbp far q.far q.cost,l⟩) rfl ha h6;have e:togD ⟨key,Zbp far q.far q.cost,q.hops⟩ ⟨key,Zbp far q.far q.cost,l⟩=⟨key,Zbp far q.far q.cost,addL q.hops l⟩:=by
  unfold togD Zbi;rw [if_neg (by simp),if_neg (by simp)]
 have h3:Zel togD (some ⟨key,Zbp far q.far q.cost,q.hops⟩) (some ⟨key,Zbp far q.far q.cost,l⟩)=some ⟨key,Zbp far q.far q.cost,addL q.hops l⟩:=by unfold Zel;simp only [];rw [e]
 rw [h3] at h1;exact h1
theorem ThSt.worse {key:Int}{far:Bool}{q:RtD}{S:WayD->Prop}{m c:Int}{l:List Int}(h:ThSt key far true q S)(hS:∀ w,S w->Hop6 w.hops)(hl:¬(m<q.far\/(m=q.far/\c<q.cost)))(hn:¬(m=q.far/\c=q.cost))
  (hm:0<=m/\m<=1000/\(far=false->m=0)) (hc:0<=c/\c<=61000) (ha:l.Pairwise (· < ·)) (h6:Hop6 l):
  ThSt key far true q (fun x=>S x\/x=⟨key,Zbp far m c,l⟩):=by
 unfold ThSt at h |-;rw [if_pos rfl] at h |-;obtain⟨hq,hb⟩:=h;refine⟨hq,?_⟩
 have h1:=hb.add ZfM hS (w:=⟨key,Zbp far m c,l⟩) rfl ha h6;have h2:Zbp far q.far q.cost<Zbp far m c:=(ZkH hq.cost.1 hq.cost.2 hc.1 hc.2 hq.far.2.2 hm.2.2).2 (by omega)
 have e:togD ⟨key,Zbp far q.far q.cost,q.hops⟩ ⟨key,Zbp far m c,l⟩=⟨key,Zbp far q.far q.cost,q.hops⟩:=by
  unfold togD Zbi;rw [if_pos (by simpa using h2)]
 have h3:Zel togD (some ⟨key,Zbp far q.far q.cost,q.hops⟩) (some ⟨key,Zbp far m c,l⟩)=some ⟨key,Zbp far q.far q.cost,q.hops⟩:=by unfold Zel;simp only [];rw [e]
 rw [h3] at h1;exact h1
theorem ThSt.congr {key:Int}{far F:Bool}{q:RtD}{S T:WayD->Prop}(h:ThSt key far F q S)(e:∀ d,S d↔T d):ThSt key far F q T:=by
 have:S=T:=funext fun w=>propext (e w)
 rw [<-this];exact h
def thK (xs:List RecD)(ds es:List WayD)(src key:Int)(far:Bool)(k:Nat)(d:WayD):Prop:=∃ r∈xs.take k,r.key=key/\r.far=far/\ZbY ds es src r d
theorem ZkN {xs:List RecD}{ds es:List WayD}{src key:Int}{far:Bool}{k:Nat}{r:RecD}(h:xs[k]? = some r)(d:WayD):thK xs ds es src key far (k+1) d↔thK xs ds es src key far k d\/(r.key=key/\r.far=far/\ZbY ds es src r d):=by
 obtain⟨hk,e⟩:=List.getElem?_eq_some_iff.1 h;unfold thK;rw [List.take_succ_eq_append_getElem hk,e]
 constructor
 ·rintro ⟨x,hx,ht⟩
  rcases List.mem_append.1 hx with h1 | h1
  ·exact .inl ⟨x,h1,ht⟩
  ·have:x=r:=by simpa using h1
   subst this;exact .inr ht
 ·rintro (⟨x,hx,ht⟩ | ht)
  ·exact ⟨x,List.mem_append.2 (.inl hx),ht⟩
  ·exact ⟨r,List.mem_append.2 (.inr (by simp)),ht⟩
theorem ZcX {xs:List RecD}{ds es:List WayD}{src key:Int}{far F:Bool}{k:Nat}{r:RecD}{q:RtD}(h:xs[k]? = some r)(hst:ThSt key far F q (thK xs ds es src key far k))(hn:r.key=key->r.far=far->∀ d,¬ZbY ds es src r d):ThSt key far F q (thK xs ds es src key far (k+1)):=
 hst.congr (fun d=>by
  rw [ZkN h];exact⟨.inl,fun h'=>by
   rcases h' with h1 | ⟨h1,h2,h3⟩
   ·exact h1
   ·exact absurd h3 (hn h1 h2 d)⟩)
theorem Zot {xs:List RecD}{ds es:List WayD}{src key:Int}{far:Bool}{k:Nat}{r:RecD}{e:WayD}(h:xs[k]? = some r)(h1:r.key=key)(h2:r.far=far)(h3:ZbY ds es src r e)(d:WayD):(thK xs ds es src key far k d\/d=e)↔thK xs ds es src key far (k+1) d:=by
 rw [ZkN h]
 constructor
 ·rintro (h' | rfl)
  ·exact .inl h'
  ·exact .inr ⟨h1,h2,h3⟩
 ·rintro (h' | ⟨_,_,h'⟩)
  ·exact .inl h'
  ·exact .inr (ZiZ h' h3)
theorem Zpk {xs:List RecD}{ds es:List WayD}{src key:Int}{far:Bool}{k:Nat}(hs:ZaE xs=true)(hd:Zdw ds)(he:Zdw es):∀ w,thK xs ds es src key far k w->Hop6 w.hops:=by
 rintro w ⟨r,hr,_,_,h⟩;exact (ZdE hs (List.mem_of_mem_take hr) hd he h).hop6
theorem Zou {xs:List RecD}{ds es:List WayD}{src key:Int}{far:Bool}:ThSt key far false (Zng key) (thK xs ds es src key far 0):=by
 unfold ThSt;rw [if_neg (by simp)]
 exact⟨rfl,fun w ⟨r,hr,_⟩=>by simp at hr⟩
theorem ZlD {xs:List RecD}{ds es:List WayD}{src key:Int}{q:RtD}(hs:ZaE xs=true)(hd:Zdw ds)(he:Zdw es)(h:ThSt key false true q (thK xs ds es src key false xs.length)):ThIn key false q/\ZaF key (Zda xs ds es src key) (some ⟨key,Zbp false q.far q.cost,q.hops⟩):=by
 unfold ThSt at h;rw [if_pos rfl] at h;obtain⟨hq,h1,⟨u,⟨r,hr,hk,hf,ho⟩,hc⟩,h3,h4,h5⟩:=h;rw [List.take_length] at hr;have hto:∀ (r:RecD) (w:WayD),ZbY ds es src r w->w.to=r.key:=by rintro r w ⟨_,_,v,_,rfl⟩;rfl
 have hlow:Zbp false q.far q.cost<=3000000061000:=by unfold Zbp;simp;have:=hq.cost;omega
 have hfar:∀ (r:RecD) (w:WayD),r∈xs->r.far=true->ZbY ds es src r w->4000000000000<=w.cost:=by
  rintro r w hr hf ho;have hg:=ZdE hs hr hd he ho;obtain⟨h1,h2,v,h3,rfl⟩:=ho;have:=ZcV hd he h3;have:=Zd1 hs hr h1 h2
  show 4000000000000<=ZfH r.far r.cost v.cost
  unfold ZfH;rw [if_pos hf];omega
 refine⟨hq,h1,⟨u,⟨by rw [hto r u ho,hk],r,hr,ho⟩,hc⟩,?_,h4,?_⟩
 ·rintro w ⟨e,r',hr',ho'⟩
  cases hf':r'.far
  ·exact h3 w ⟨r',by rw [List.take_length];exact hr',by rw [<-e,hto r' w ho'],hf',ho'⟩
  ·have:=hfar r' w hr' hf' ho'
   show Zbp false q.far q.cost<=w.cost
   omega
 ·intro x
  rw [h5 x]
  constructor
  ·rintro ⟨w,⟨r',hr',hk',hf',ho'⟩,e,hx⟩
   rw [List.take_length] at hr';exact⟨w,⟨by rw [hto r' w ho',hk'],r',hr',ho'⟩,e,hx⟩
  ·rintro ⟨w,⟨e,r',hr',ho'⟩,ec,hx⟩
   cases hf':r'.far
   ·exact ⟨w,⟨r',by rw [List.take_length];exact hr',by rw [<-e,hto r' w ho'],hf',ho'⟩,ec,hx⟩
   ·have:=hfar r' w hr' hf' ho'
    simp only at ec
    omega
theorem Zm5 {xs:List RecD}{ds es:List WayD}{src key:Int}{F:Bool}{q q0:RtD}(h0:ThSt key false false q0 (thK xs ds es src key false xs.length))(h:ThSt key true F q (thK xs ds es src key true xs.length)):ThSt key true F q (Zda xs ds es src key):=by
 refine h.congr (fun d=>?_)
 unfold ThSt at h0;rw [if_neg (by simp)] at h0
 have hto:∀ (r:RecD) (w:WayD),ZbY ds es src r w->w.to=r.key:=by rintro r w ⟨_,_,v,_,rfl⟩;rfl
 constructor
 ·rintro ⟨r,hr,hk,_,ho⟩
  rw [List.take_length] at hr;exact⟨by rw [hto r d ho,hk],r,hr,ho⟩
 ·rintro ⟨e,r,hr,ho⟩
  cases hf:r.far
  ·exact absurd ⟨r,by rw [List.take_length];exact hr,by rw [<-e,hto r d ho],hf,ho⟩ (h0.2 d)
  ·exact ⟨r,by rw [List.take_length];exact hr,by rw [<-e,hto r d ho],hf,ho⟩
end Go.Proofs.YtgdgkgmjpnbbcaaGreat
