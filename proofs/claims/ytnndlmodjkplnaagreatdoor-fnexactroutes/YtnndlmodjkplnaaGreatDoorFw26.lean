/-
  PutW PutLoop WithinI BeyondI
-/
import Derived.Test.YtnndlmodjkplnaaGreatDoorFw25
import Derived.Test.YtnndlmodjkplnaaGreatDoorFw16
import Derived.Test.YtnndlmodjkplnaaGreatDoorFw24
namespace Go.Proofs.YtnndlmodjkplnaaGreatDoor
open Go.RowKit
set_option linter.unusedSimpArgs false
set_option linter.unusedVariables false
set_option maxRecDepth 100000
set_option maxHeartbeats 8000000
theorem ZpF {W:World}{lo hi:Nat}{r:WP}(h:Zbz W lo hi r):∀ u∈encW r,u.oneCell'=true:=by
 obtain⟨a,c,e⟩:=Zac h.1;obtain⟨x,v⟩:=r;simp only at e
 subst e;exact ZcU x a _ c
theorem Zj8 (lo i vb:Nat)(v:Value)(ps:List WP)(r:WP)(w:World)(hv:WaysOwn w lo w.heap.size v ps)(hlo:lo<=w.heap.size)(hi:i<=ps.length)(hn:ps.length<=1048576)(hvb:w.heap[vb]? = some (.cells (encW r).toArray 104 (0,0)))(hne:some vb≠v.ownBlock)(hr1:∀ u∈encW r,u.oneCell'=true):
  Calls Tryz.prog 149 #[v,.int .i64 (i:Int),.slice (some ⟨vb,0,none⟩) 1 1] w fun e w'=>∃ v',e=.returned v'/\w'.ownsRow lo 104 3 v' (ps.length+1) (flat encW (ps.take i++[r]++ps.drop i))/\w.grownBy w' v.ownBlock/\(v'.ownBlock=v.ownBlock\/v'.ownBlock=some w.heap.size):=by
 by_cases he:i=ps.length
 ·rw [he]
  exact ZoJ lo ps.length 1 vb v ps r w rfl rfl hlo hn hv.row hvb hr1
 ·have hone:∀ p∈ps,∃ a k c,p.2=.slice a k c:=fun p hp=>by
   obtain⟨a,c,e⟩:=Zac (hv.nears p hp).1;exact⟨a,_,c,e⟩
  rcases hv.row.2 with ⟨_,h0⟩ | ⟨g,cap,cur,hve,_⟩
  ·omega
  ·subst hve
   have hne2:vb≠g:=fun e=>hne (by rw [e];rfl)
   by_cases hroom:ps.length+1<=cap
   ·exact ZlL lo g cap ps.length 1 i vb ps r w rfl rfl hv.row (by omega) hroom hvb hne2 hone hr1
   ·exact Znk lo g cap ps.length 1 i vb ps r w rfl rfl hlo hn hv.row (by omega) (by omega) hvb hone hr1
theorem Zcz.symm {p q:WP}(h:Zcz p q):Zcz q p:=fun k hk hp=>h k hp hk
theorem ZiU {W W2:World}{lo:Nat}{v:Value}{ps:List WP}(h:WaysOwn W lo W.heap.size v ps)(hg:W.grownBy W2 v.ownBlock){q:WP}(hq:Zbz W lo W.heap.size q):Zbz W2 lo W2.heap.size q:=
 ⟨Zal hq.1 (fun j hj=>hg.block j (hq.2 j hj) (Zg9 hq h.row j hj)),fun k hk=>Nat.lt_of_lt_of_le (hq.2 k hk) hg.size⟩
theorem WaysOwn.ins {W W2:World}{lo i:Nat}{v v':Value}{ps:List WP}{r:WP}(h:WaysOwn W lo W.heap.size v ps)(hr:Zbz W lo W.heap.size r)(hap:∀ p∈ps,Zcz p r)(hi:i<=ps.length)
  (row:W2.ownsRow lo 104 3 v' (ps.length+1) (flat encW (ps.take i++[r]++ps.drop i))) (hg:W.grownBy W2 v.ownBlock):WaysOwn W2 lo W2.heap.size v' (ps.take i++[r]++ps.drop i) where
 row:=by rw [ZhT ps r i hi];exact row
 top:=fun k hk=>(row.lt k hk).2
 nears:=by
  intro q hq;refine ZiU h hg ?_
  rcases List.mem_append.1 hq with h1 | h1
  ·rcases List.mem_append.1 h1 with h2 | h2
   ·exact h.nears q (List.mem_of_mem_take h2)
   ·have:q=r:=by simpa using h2
    subst this;exact hr
  ·exact h.nears q (List.mem_of_mem_drop h1)
 apart:=by
  have hp:=h.apart;rw [<-List.take_append_drop i ps,List.pairwise_append] at hp;rw [List.append_assoc,List.pairwise_append];refine⟨hp.1,?_,?_⟩
  ·rw [List.pairwise_append]
   refine⟨by simp,hp.2.1,?_⟩
   intro a ha b hb;have:a=r:=by simpa using ha
   subst this;exact (hap b (List.mem_of_mem_drop hb)).symm
  ·intro a ha b hb
   rcases List.mem_append.1 hb with h1 | h1
   ·have:b=r:=by simpa using h1
    subst this;exact hap a (List.mem_of_mem_take ha)
   ·exact hp.2.2 a ha b h1
theorem WaysOwn.put {W:World}{lo i g cap n:Nat}{ps:List WP}{r:WP}(h:WaysOwn W lo W.heap.size (.slice (some ⟨g,0,none⟩) n cap) ps)(hn:n=ps.length)(hr:Zbz W lo W.heap.size r)(hap:∀ p∈ps,Zcz p r)(hi:i<ps.length):WaysOwn (putW W g (i*3) r) lo (putW W g (i*3) r).heap.size (.slice (some ⟨g,0,none⟩) n cap) (ps.set i r):=by
 subst hn;have hst:=ZnQ (p:=r) h.row hi;have hg:W.grownBy (putW W g (i*3) r) (Value.slice (some ⟨g,0,none⟩) ps.length cap).ownBlock:=Zhp W g (i*3) r;refine⟨by simpa using hst,fun k hk=>(hst.lt k hk).2,?_,?_⟩
 ·intro q hq
  refine ZiU h hg ?_
  rcases List.mem_or_eq_of_mem_set hq with h1 | h1
  ·exact h.nears q h1
  ·subst h1;exact hr
 ·have hp:=h.apart
  rw [List.pairwise_iff_getElem] at hp |-;intro a b ha hb hab;simp only [List.length_set] at ha hb
  rw [List.getElem_set,List.getElem_set];by_cases e1:i=a
  ·rw [if_pos e1,if_neg (by omega)]
   exact (hap _ (List.getElem_mem hb)).symm
  ·rw [if_neg e1]
   by_cases e2:i=b
   ·rw [if_pos e2]
    exact hap _ (List.getElem_mem ha)
   ·rw [if_neg e2]
    exact hp a b ha hb hab
theorem Zna (ps:List WP)(r:WP)(i:Nat):Zak (ps.take i++[r]++ps.drop i)=(Zak ps).take i++[r.1]++(Zak ps).drop i:=by simp [Zak]
theorem Znb (ps:List WP)(r:WP)(i:Nat):Zak (ps.set i r)=(Zak ps).set i r.1:=by simp [Zak,List.map_set]
theorem ZmR {xs:List WayD}(h:AscW xs)(r:WayD):∀ s t,s<=t->t<xs.length->ltW xs r t->ltW xs r s:=by
 intro s t hst ht hl;obtain⟨x,hx,hlt⟩:=hl;by_cases e:s=t
 ·subst e;exact⟨x,hx,hlt⟩
 ·obtain ⟨h1,e1⟩:=List.getElem?_eq_some_iff.1 hx
  unfold AscW at h;rw [List.pairwise_iff_getElem] at h;have h2:=h s t (by omega) ht (by omega)
  rw [e1] at h2;exact⟨xs[s],List.getElem?_eq_getElem (by omega),by omega⟩
theorem ZpO {xs:List WayD}{r:WayD}{i:Nat}(h:AscW xs)(hi:i<=xs.length)(h1:∀ t,t<i->ltW xs r t)(h2:∀ t,i<=t->t<xs.length->¬ltW xs r t)(h3:¬∃ x,xs[i]? = some x/\x.to=r.to)(tog:WayD->WayD->WayD):
  AscW (xs.take i++[r]++xs.drop i)/\∀ to,ZaN (xs.take i++[r]++xs.drop i) to=if to=r.to then Zd7 tog (ZaN xs to) (some r) else ZaN xs to:=by
 have hlo:∀ x∈xs.take i,x.to<r.to:=by
  intro x hx;obtain⟨j,hj,e⟩:=List.getElem_of_mem hx;rw [List.length_take] at hj;rw [List.getElem_take] at e;obtain⟨y,hy,hl⟩:=h1 j (by omega)
  rw [List.getElem?_eq_getElem (by omega)] at hy
  have hy':=Option.some.inj hy;rw [<-e,hy'];exact hl
 have hhi:∀ x∈xs.drop i,r.to<x.to:=by
  have hge:∀ x∈xs.drop i,r.to<=x.to:=by
   intro x hx;obtain⟨j,hj,e⟩:=List.getElem_of_mem hx;rw [List.length_drop] at hj;rw [List.getElem_drop] at e;have:=h2 (i+j) (by omega) (by omega)
   rcases Int.lt_or_le x.to r.to with hc | hc
   ·exact absurd ⟨x,by rw [List.getElem?_eq_getElem (by omega),e],hc⟩ this
   ·exact hc
  intro x hx;have h4:=hge x hx
  rcases Int.lt_or_le r.to x.to with hc | hc
  ·exact hc
  ·exfalso
   have hlen:i<xs.length:=by
    rcases Nat.lt_or_ge i xs.length with h5 | h5
    ·exact h5
    ·rw [List.drop_eq_nil_of_le h5] at hx;cases hx
   rw [List.drop_eq_getElem_cons hlen] at hx;have h6:=hge xs[i] (by rw [List.drop_eq_getElem_cons hlen];exact List.mem_cons_self)
   rcases List.mem_cons.1 hx with e | e
   ·exact h3 ⟨xs[i],List.getElem?_eq_getElem hlen,by rw [<-e];omega⟩
   ·have hp:=h
    unfold AscW at hp;rw [<-List.take_append_drop i xs,List.pairwise_append] at hp;have hp2:=hp.2.1;rw [List.drop_eq_getElem_cons hlen] at hp2;have:=(List.pairwise_cons.1 hp2).1 x e;omega
 have hp:=h;unfold AscW at hp;rw [<-List.take_append_drop i xs,List.pairwise_append] at hp;have hasc:AscW (xs.take i++[r]++xs.drop i):=by
  unfold AscW;rw [List.append_assoc,List.pairwise_append];refine⟨hp.1,?_,?_⟩
  ·rw [List.pairwise_append]
   refine⟨by simp,hp.2.1,?_⟩
   intro a ha b hb;have:a=r:=by simpa using ha
   subst this;exact hhi b hb
  ·intro a ha b hb
   rcases List.mem_append.1 hb with h5 | h5
   ·have:b=r:=by simpa using h5
    subst this;exact hlo a ha
   ·exact hp.2.2 a ha b h5
 have hmem:∀ x,x∈xs.take i++[r]++xs.drop i↔x∈xs\/x=r:=by
  intro x;simp only [List.mem_append,List.mem_singleton]
  constructor
  ·rintro ((h5 | h5) | h5)
   ·exact .inl (List.mem_of_mem_take h5)
   ·exact .inr h5
   ·exact .inl (List.mem_of_mem_drop h5)
  ·rintro (h5 | h5)
   ·rw [<-List.take_append_drop i xs] at h5
    rcases List.mem_append.1 h5 with h6 | h6
    ·exact .inl (.inl h6)
    ·exact .inr h6
   ·exact .inl (.inr h5)
 have hno:∀ x∈xs,x.to≠r.to:=by
  intro x hx;rw [<-List.take_append_drop i xs] at hx
  rcases List.mem_append.1 hx with h6 | h6
  ·have:=hlo x h6;omega
  ·have:=hhi x h6;omega
 refine⟨hasc,fun to=>?_⟩
 by_cases e:to=r.to
 ·subst e
  rw [if_pos rfl];have hn:ZaN xs r.to=none:=by
   cases e2:ZaN xs r.to with
   | none=>rfl
   | some y=>have:=ZaT e2;exact absurd this.2 (hno y this.1)
  rw [hn];exact ZbW hasc ((hmem r).2 (.inr rfl))
 ·rw [if_neg e]
  cases e2:ZaN xs to with
  | none=>
   cases e3:ZaN (xs.take i++[r]++xs.drop i) to with
   | none=>rfl
   | some y=>
    have h7:=ZaT e3
    rcases (hmem y).1 h7.1 with h8 | h8
    ·exact absurd h7.2 (ZdW e2 y h8)
    ·exact absurd (by rw [<-h7.2,h8]) e
  | some y=>
   have h7:=ZaT e2;have:=ZbW hasc ((hmem y).2 (.inl h7.1));rw [h7.2] at this;exact this
theorem ZpP {xs:List WayD}{r x y:WayD}{i:Nat}(h:AscW xs)(hx:xs[i]? = some x)(he:x.to=r.to)(tog:WayD->WayD->WayD)(hy:y=tog x r)(hyt:y.to=x.to):
  AscW (xs.set i y)/\∀ to,ZaN (xs.set i y) to=if to=r.to then Zd7 tog (ZaN xs to) (some r) else ZaN xs to:=by
 obtain⟨hi,e1⟩:=List.getElem?_eq_some_iff.1 hx;have hasc:AscW (xs.set i y):=by
  unfold AscW at h |-;rw [List.pairwise_iff_getElem] at h |-;intro a b ha hb hab;simp only [List.length_set] at ha hb
  have hab2:=h a b ha hb hab;rw [List.getElem_set,List.getElem_set];by_cases ea:i=a
  ·subst ea
   rw [if_pos rfl,if_neg (by omega),hyt, <-e1]
   exact hab2
  ·rw [if_neg ea]
   by_cases eb:i=b
   ·subst eb
    rw [if_pos rfl,hyt, <-e1];exact hab2
   ·rw [if_neg eb]
    exact hab2
 have hxm:x∈xs:=List.mem_of_getElem? hx;have hym:y∈xs.set i y:=List.mem_iff_getElem?.2 ⟨i,List.getElem?_set_self hi⟩;have hoth:∀ z,z.to≠x.to->(z∈xs.set i y↔z∈xs):=by
  intro z hz
  constructor
  ·intro hm
   rcases List.mem_or_eq_of_mem_set hm with h5 | h5
   ·exact h5
   ·subst h5;exact absurd hyt hz
  ·intro hm
   obtain⟨j,hj,e⟩:=List.getElem_of_mem hm;have hji:j≠i:=fun e2=>by subst e2;rw [e1] at e;exact hz (by rw [e])
   exact List.mem_iff_getElem?.2 ⟨j,by rw [List.getElem?_set_ne (Ne.symm hji),List.getElem?_eq_getElem hj,e]⟩
 refine⟨hasc,fun to=>?_⟩
 by_cases e:to=r.to
 ·rw [if_pos e]
  have hf:ZaN xs to=some x:=by rw [e, <-he];exact ZbW h hxm
  rw [hf]
  show _=some (tog x r)
  rw [<-hy];have:=ZbW hasc hym;rw [hyt,he, <-e] at this;exact this
 ·rw [if_neg e]
  have ene:to≠x.to:=by rw [he];exact e
  cases e2:ZaN xs to with
  | none=>
   cases e3:ZaN (xs.set i y) to with
   | none=>rfl
   | some z=>
    have h7:=ZaT e3;exact absurd h7.2 (ZdW e2 z ((hoth z (by rw [h7.2];exact ene)).1 h7.1))
  | some z=>
   have h7:=ZaT e2;have:=ZbW hasc ((hoth z (by rw [h7.2];exact ene)).2 h7.1)
   rw [h7.2] at this;exact this
theorem ZpW (x y:WayD)(h:x.to=y.to):(togI x y).to=x.to:=by
 unfold togI
 split
 ·rfl
 ·split
  ·exact h.symm
  ·rfl
def PutD (ds:List WayD)(r:WayD)(es:List WayD):Prop:=AscW es/\∀ to,ZaN es to=if to=r.to then Zd7 togI (ZaN ds to) (some r) else ZaN ds to
def Zef (B:Nat)(ps:List WP)(r:WP)(qs:List WP):Prop:=∀ q∈qs,(∃ p∈ps,q.2=p.2)\/q.2=r.2\/∀ k,q.2.ownBlock=some k->B<=k
theorem ZjX (B:Nat)(ps:List WP)(r:WP)(i:Nat):Zef B ps r (ps.take i++[r]++ps.drop i):=by
 intro q hq
 rcases List.mem_append.1 hq with h1 | h1
 ·rcases List.mem_append.1 h1 with h2 | h2
  ·exact .inl ⟨q,List.mem_of_mem_take h2,rfl⟩
  ·have:q=r:=by simpa using h2
   subst this;exact .inr (.inl rfl)
 ·exact .inl ⟨q,List.mem_of_mem_drop h1,rfl⟩
theorem ZjY (B:Nat)(ps:List WP)(r q0:WP)(i:Nat)(h:∀ k,q0.2.ownBlock=some k->B<=k):Zef B ps r (ps.set i q0):=by
 intro q hq
 rcases List.mem_or_eq_of_mem_set hq with h1 | h1
 ·exact .inl ⟨q,h1,rfl⟩
 ·subst h1;exact .inr (.inr h)
theorem ZfS {B:Nat}{w W:World}(h:Below B w W)(hB:w.heap.size<=B)(row:Option Nat):w.grownBy W row:=⟨h.os,h.tape,h.output,h.size,fun k hk _=>h.block k (by omega)⟩
theorem Zhq (v:Value)(ps:List WP)(lo:Nat)(r:WP)(w:World)(hv:WaysOwn w lo w.heap.size v ps)(hlo:lo<=w.heap.size)(hn:ps.length<=1000)(hsh:∀ p∈ps,p.1.hops.length<=1000)(hrl:r.1.hops.length<=1000)(hasc:AscW (Zak ps))(hr:Zbz w lo w.heap.size r)(hap:∀ p∈ps,Zcz p r):
  Calls Tryz.prog 105 #[v,.agg (wayC r.1 r.2)] w fun e w'=>∃ x qs,e=.returned x/\PutD (Zak ps) r.1 (Zak qs)/\WaysOwn w' lo w'.heap.size x qs/\Zef w.heap.size ps r qs/\(∀ k,x.ownBlock=some k->v.ownBlock=some k\/w.heap.size<=k)/\w.grownBy w' v.ownBlock:=by
 have hfl:(Zak ps).length=ps.length:=by simp [Zak]
 obtain⟨a1,vc,hve⟩:=Zac hv.row;obtain⟨ra,rc,hrn⟩:=Zac hr.1;have BX:Below w.heap.size w (w.alloc (.cells #[.int .i64 r.1.to,.int .i64 r.1.cost,.slice ra r.1.hops.length rc] 104)):=(Below.refl _ _).alloc (Nat.le_refl _) _;have hx:=heap_alloc_new w (.cells #[.int .i64 r.1.to,.int .i64 r.1.cost,.slice ra r.1.hops.length rc] 104);obtain⟨w0,hw0⟩:∃ w0,w0=w.alloc (.cells #[.int .i64 r.1.to,.int .i64 r.1.cost,.slice ra r.1.hops.length rc] 104):=⟨_,rfl⟩;rw [<-hw0] at BX hx;have hs0:=Zab hx;have hv0:=hv.below BX (Nat.le_refl _);have hr0:=hr.keep (W':=w0) (fun k _ _ h3=>BX.block k h3)
 have HS:=Zkq v ps w.heap.size r w0 hv0.at BX.size (by omega) ⟨ra,rc,hrn⟩ (by rw [<-hfl];exact ZmR hasc r.1)
 have d0:=Zaa hx 0;have d1:=Zaa hx 1;have d2:=Zaa hx 2;simp at d0 d1 d2
 have HV:=hide hv0;have HR:=hide hr0;have HA:=hide hasc;have HP:=hide hap;have HFL:=hide hfl;have HRN:=hide hrn;have HSH:=hide hsh;unfold wayC at *;rw [hrn] at HS |-;subst hve;have HSS:=hide HS;clear HS hv0 hr0 hasc hap hr hrn hv hfl hsh
 go_enter Tryz.func105,Tryz.ntmps105
 go_wp2_with fail
 rw [<-hw0];clear hw0;refine HSS.out.mono ?_
 rintro e w1 ⟨i,f,rfl,hil,q1,q2,q3,b1⟩;have b1s:=b1.size;have hx1:=(b1.block _ hs0).trans hx;have B1:Below w.heap.size w w1:=BX.trans (b1.mono BX.size);have hv1:=(HV.out.below b1 (by omega)).wide (Nat.le_refl _) (show w.heap.size<=w1.heap.size by omega)
 have hr1:=((HR.out).keep (W':=w1) (fun k _ _ h3=>b1.block k h3)).wide (Nat.le_refl _) (show w.heap.size<=w1.heap.size by omega)
 have Q1:=hide q1;have Q2:=hide q2;have Q3:=hide q3;clear q1 q2 q3 d0 d1 d2 hx b1;have d0:=Zaa hx1 0;have d1:=Zaa hx1 1;have d2:=Zaa hx1 2;simp at d0 d1 d2
 have hii:(0:Int)<=(i:Int):=by omega
 cases f with
 | true=>
  have hil2:i<ps.length:=by
   obtain⟨x,hx,_⟩:=Q3.out.1 rfl;have:=(List.getElem?_eq_some_iff.1 hx).1;rw [HFL.out] at this;exact this
  have hij:(i:Int)<(ps.length:Int):=by omega
  obtain⟨p,hp⟩:∃ p,ps[i]? = some p:=⟨ps[i],List.getElem?_eq_getElem hil2⟩
  rcases hv1.row.2 with ⟨_,h0⟩ | ⟨g,cap,cur,hve,_⟩
  ·omega
  ·cases hve
   have hpo:=hv1.nears p (List.mem_of_getElem? hp);obtain⟨pa,pc,hpn⟩:=Zac hpo.1;obtain⟨b,off,cp,hve,hbb,c0,c1,c2,_⟩:=hv1.at.cells i p hp;cases hve
   rw [hpn] at c2;simp only [Nat.zero_add] at c0 c1 c2
   have hgl:=hv1.row.lt g rfl;have hgw:g<w.heap.size:=HV.out.top g rfl;have HTG:=ZkQ p.1 r.1 p.2 r.2 lo lo w1.drew (Zaf hpo.1 (Below.refl w1.heap.size w1).drew (Nat.le_refl _)) (Zaf hr1.1 (Below.refl w1.heap.size w1).drew (Nat.le_refl _)) (by have:=HSH.out p (List.mem_of_getElem? hp);omega) (by omega)
   rw [hpn,HRN.out] at HTG;unfold wayC at HTG;obtain⟨q,hq⟩:∃ q,q=togI p.1 r.1:=⟨_,rfl⟩;rw [<-hq] at HTG;have hpe:p.1.to=r.1.to:=by
    obtain⟨x,hx,h0⟩:=Q3.out.1 rfl;rw [ZcV hp] at hx;cases hx
    exact h0
   have hfin:∀ (W:World) (u:Value),W.ownsRow w1.heap.size 3 1 u q.hops.length (flat intE q.hops)->Below w1.heap.size w1 W->∃ qs,PutD (Zak ps) r.1 (Zak qs)/\WaysOwn (putW W g (i*3) (q,u)) lo (putW W g (i*3) (q,u)).heap.size (.slice (some ⟨g,0,none⟩) ps.length vc) qs/\Zef w.heap.size ps r qs/\w.grownBy (putW W g (i*3) (q,u)) (some g):=by
    intro W u hu hb;have hvW:=(hv1.below hb (Nat.le_refl _)).wide (Nat.le_refl _) hb.size;have hnew:Zbz W lo W.heap.size (q,u):=⟨Zah hu (by omega),fun k hk=>(hu.lt k hk).2⟩
    have hapn:∀ p'∈ps,Zcz p' (q,u):=fun p' hp' k hk he=>by
     have h1:=(hv1.nears p' hp').2 k hk;have h2:=(hu.lt k he).1;omega
    refine⟨ps.set i (q,u),?_,hvW.put rfl hnew hapn hil2,ZjY _ _ _ _ _ (fun k hk=>by have:=(hu.lt k hk).1;omega),?_⟩
    ·rw [Znb]
     exact ZpP HA.out (ZcV hp) hpe togI hq (by rw [hq];exact ZpW _ _ hpe)
    ·exact Zai (ZfS (B1.trans (hb.mono (by omega))) (Nat.le_refl _) _) (Zhp W g (i*3) (q,u))
   have HFIN:=hide hfin;have HT:=hide HTG;have HV1:=hide hv1;have BD:Below w1.heap.size w1 w1.drew:=(Below.refl _ _).drew;rw [<-BD.cell (p:=⟨g,i*3,none⟩) (by exact hgl.2)] at c0
   rw [<-BD.cell (p:=⟨g,i*3+1,none⟩) (by exact hgl.2)] at c1
   rw [<-BD.cell (p:=⟨g,i*3+2,none⟩) (by exact hgl.2)] at c2
   rw [<-BD.cell (p:=⟨w.heap.size,0,none⟩) (by show w.heap.size<w1.heap.size;omega)] at d0
   rw [<-BD.cell (p:=⟨w.heap.size,1,none⟩) (by show w.heap.size<w1.heap.size;omega)] at d1
   rw [<-BD.cell (p:=⟨w.heap.size,2,none⟩) (by show w.heap.size<w1.heap.size;omega)] at d2
   clear hfin HTG hv1 hr1 hpo hpn hp hq hpe HA HP
   go_wp2_with fail
   refine wp_region_noPanic ?_
   refine Zam (S:=fun _=>True) (by kernel_rfl) 10 rfl trivial ?_
   intro ops hops _;refine Zo7 _ _ _ _ _ _ _ _ _ _ _ _ _ _ _ _ _ _ _ _ _ _ _ _ _ _ w1.drew g ps.length vc i w.heap.size p.1 r.1 q pa ra p.1.hops.length pc r.1.hops.length rc (fun W u=>∃ l,W.ownsRow w1.heap.size 3 1 u l (flat intE q.hops)/\l=q.hops.length/\Below w1.heap.size w1 W) _ ops hops (fun _ _ _ _ h=>h) hii hij c0 c1 c2 d0 d1 d2 (hide (HT.out.mono ?_)) ?_ ?_ ?_
   ·rintro e w2 ⟨u,rfl,hu,hb⟩
    obtain⟨ua,uc,rfl⟩:=Zac hu;exact⟨ua,q.hops.length,uc,rfl,_,hu,rfl,BD.trans hb⟩
   ·rintro W u ⟨l,hu,hl,hb⟩
    have hvW:=HV1.out.below hb (Nat.le_refl _);obtain⟨y0,f0⟩:=ZaX hvW.row (i*3) (by omega)
    obtain⟨y1,f1⟩:=ZaX hvW.row (i*3+1) (by omega)
    obtain⟨y2,f2⟩:=ZaX hvW.row (i*3+2) (by omega)
    exact⟨y0,y1,y2,f0,f1,f2⟩
   ·rintro W u ⟨l,hu,hl,hb⟩ j
    exact (HV1.out.below hb (Nat.le_refl _)).row.frozenAt j
   ·rintro W ua ul uc ⟨l,hu,hl,hb⟩
    refine NoPanic.normal ?_
    subst hl;obtain⟨qs,h1,h2,h3,h4⟩:=HFIN.out W _ hu hb;have H1:=hide h1;have H2:=hide h2;have H3:=hide h3;have H4:=hide h4;clear h1 h2 h3 h4 hu hb hops ops HFIN HT HV1
    go_wp2
    go_ret
    first
     | exact ⟨_,qs,rfl,H1.out,H2.out,H3.out,fun k hk=>.inl hk,H4.out⟩
     | exact ⟨_,rfl,qs,H1.out,H2.out,H3.out,fun k hk=>.inl hk,H4.out⟩
 | false=>
  have hl:PutD (Zak ps) r.1 (Zak (ps.take i++[r]++ps.drop i)):=by
   rw [Zna];exact ZpO HA.out (by rw [HFL.out];exact hil) Q1.out (by rw [HFL.out];exact Q2.out) (fun h=>by have:=Q3.out.2 h;cases this) togI
  have HL:=hide hl;clear hl;have BY:Below w1.heap.size w1 (w1.alloc (.cells #[.int .i64 r.1.to,.int .i64 r.1.cost,.slice ra r.1.hops.length rc] 104)):=(Below.refl _ _).alloc (Nat.le_refl _) _;have hy:=heap_alloc_new w1 (.cells #[.int .i64 r.1.to,.int .i64 r.1.cost,.slice ra r.1.hops.length rc] 104);obtain⟨w2,hw2⟩:∃ w2,w2=w1.alloc (.cells #[.int .i64 r.1.to,.int .i64 r.1.cost,.slice ra r.1.hops.length rc] 104):=⟨_,rfl⟩;rw [<-hw2] at BY hy;have hv2:=(hv1.below BY (Nat.le_refl _)).wide (Nat.le_refl _) BY.size;have hr2:=(hr1.keep (W':=w2) (fun k _ _ h3=>BY.block k h3)).wide (Nat.le_refl _) BY.size
  have HI:=Zj8 lo i w1.heap.size _ ps r w2 hv2 (by have:=BY.size;omega) hil (by omega) (by
   rw [hy];unfold encW;rw [HRN.out]) (fun e=>by
    have h6:=hv1.top _ e.symm;omega) (ZpF hr2)
  have HII:=hide HI;have HV2:=hide hv2;have HR2:=hide hr2;have B2:Below w.heap.size w w2:=B1.trans (BY.mono (by omega))
  have hb2:=BY.size;clear HI hv1 hr1 hv2 hr2
  go_wp2_with fail
  rw [<-hw2];clear hw2;refine HII.out.mono ?_
  rintro e w3 ⟨x,rfl,hrow,hg,hblk⟩;have hfin:=HV2.out.ins HR2.out HP.out hil hrow hg;have hB:=Zai (ZfS B2 (Nat.le_refl _) _) hg;have hbk:∀ k,x.ownBlock=some k->(Value.slice a1 ps.length vc).ownBlock=some k\/w.heap.size<=k:=fun k hk=>by
   rcases hblk with h1 | h1
   ·exact .inl (by rw [<-h1];exact hk)
   ·right
    rw [h1] at hk;cases hk
    omega
  obtain⟨xa,xc,rfl⟩:=Zac hrow;have HF:=hide hfin;have HB:=hide hB;have HK:=hide hbk;have HFR:=hide (ZjX w.heap.size ps r i);clear hfin hB hrow hg hbk hblk
  go_wp2
  go_ret
  first
   | exact ⟨_,_,rfl,HL.out,HF.out,HFR.out,HK.out,HB.out⟩
   | exact ⟨_,rfl,_,HL.out,HF.out,HFR.out,HK.out,HB.out⟩
end Go.Proofs.YtnndlmodjkplnaaGreatDoor
namespace Go.Proofs.YtnndlmodjkplnaaGreatDoor
open Go.RowKit

structure PutSt (W:World) (lo loR hiR loW hiW:Nat) (S:Int->WayD->Prop) (x:Value) (qs:List WP) (u:Value) (ws:List WP) (j:Nat):Prop where
 own:WaysOwn W lo W.heap.size x qs
 best:Zax S (Zak qs)
 offR:Off x loR hiR
 offW:Off x loW hiW
 from_:WaysOwn W loW hiW u ws
 lw:lo<=loW
 wide:loW<=hiW
 hW:hiW<=W.heap.size
 hR:hiR<=loW
 apart:∀ p∈qs,∀ q∈ws.drop j,Zcz p q

section
variable {W:World} {lo loR hiR loW hiW:Nat} {S:Int->WayD->Prop} {x u:Value} {qs ws:List WP} {j:Nat}

theorem PutSt.below {W':World}(h:PutSt W lo loR hiR loW hiW S x qs u ws j)(hb:Below W.heap.size W W'):PutSt W' lo loR hiR loW hiW S x qs u ws j:=
 {h with
  own:=(h.own.below hb (Nat.le_refl _)).wide (Nat.le_refl _) hb.size
  from_:=h.from_.below hb h.hW
  hW:=Nat.le_trans h.hW hb.size }

theorem PutSt.hop (h:PutSt W lo loR hiR loW hiW S x qs u ws j){r:WP}(hr:ws[j]? = some r):Zbz W lo W.heap.size r:=(h.from_.nears r (List.mem_of_getElem? hr)).wide h.lw h.hW

theorem ZeG {r:WP}(hr:ws[j]? = some r):ws.drop j=r::ws.drop (j+1):=by
 obtain⟨h1,e1⟩:=List.getElem?_eq_some_iff.1 hr;rw [List.drop_eq_getElem_cons h1,e1]

theorem PutSt.apartR (h:PutSt W lo loR hiR loW hiW S x qs u ws j){r:WP}(hr:ws[j]? = some r):∀ p∈qs,Zcz p r:=fun p hp=>h.apart p hp r (by rw [ZeG hr];exact List.mem_cons_self)

theorem PutSt.good (h:PutSt W lo loR hiR loW hiW S x qs u ws j)(hS:∀ to w,S to w->GoodW w/\w.to=to):qs.length<=6/\∀ p∈qs,p.1.hops.length<=6:=by
 have hg:=h.best.good hS;refine⟨?_,fun p hp=>(hg p.1 (by simp only [Zak,List.mem_map];exact⟨p,hp,rfl⟩)).len⟩
 have:=Zc3 h.best.1 (fun w hw=>(hg w hw).node)
 simpa [Zak] using this

theorem PutSt.pass (h:PutSt W lo loR hiR loW hiW S x qs u ws j){r:WP}(hr:ws[j]? = some r){T:Int->WayD->Prop}(hT:∀ to w,S to w↔T to w):PutSt W lo loR hiR loW hiW T x qs u ws (j+1):=
 {h with
  best:=h.best.congr hT
  apart:=fun p hp q hq=>h.apart p hp q (by rw [ZeG hr];exact List.mem_cons_of_mem _ hq) }

theorem PutSt.put {W':World}{x':Value}{qs':List WP}(h:PutSt W lo loR hiR loW hiW S x qs u ws j){r:WP}(hr:ws[j]? = some r)(hS:∀ to w,S to w->GoodW w/\w.to=to)(hg:GoodW r.1){T:Int->WayD->Prop}(hT:∀ to w,(S to w\/(w=r.1/\r.1.to=to))↔T to w)
  (hp:PutD (Zak qs) r.1 (Zak qs')) (ho:WaysOwn W' lo W'.heap.size x' qs') (hf:Zef W.heap.size qs r qs') (hn:∀ b,x'.ownBlock=some b->x.ownBlock=some b\/W.heap.size<=b) (hgr:W.grownBy W' x.ownBlock):PutSt W' lo loR hiR loW hiW T x' qs' u ws (j+1) where
 own:=ho
 best:=(h.best.put Zic hS hg hp.1 hp.2).congr hT
 offR:=h.offR.next hn (by have:=h.hR;have:=h.wide;have:=h.hW;omega)
 offW:=h.offW.next hn h.hW
 from_:=h.from_.keep (h.offW.kept hgr)
 lw:=h.lw
 wide:=h.wide
 hW:=Nat.le_trans h.hW hgr.size
 hR:=h.hR
 apart:=by
  intro p hp q hq;have hq':q∈ws.drop j:=by rw [ZeG hr];exact List.mem_cons_of_mem _ hq
  rcases hf p hp with ⟨p',hp',e⟩ | e | e
  ·have h1:=h.apart p' hp' q hq'
   intro k hk;rw [e] at hk;exact h1 k hk
  ·intro k hk
   rw [e] at hk;have hpw:=h.from_.apart;rw [<-List.take_append_drop j ws,List.pairwise_append] at hpw;have h2:=hpw.2.1;rw [ZeG hr] at h2;exact (List.pairwise_cons.1 h2).1 q hq k hk
  ·intro k hk he
   have h1:=e k hk;have h2:=(h.from_.nears q (List.mem_of_mem_drop hq')).2 k he;have:=h.hW;omega

theorem PutSt.start {W0:World}(ho:WaysOwn W0 lo W0.heap.size x qs)(hb:Zax S (Zak qs))(hoff:Off x loR hiR)(hR:hiR<=W0.heap.size)(hlo:lo<=W0.heap.size)(hbl:Below W0.heap.size W0 W)(hf:WaysOwn W W0.heap.size W.heap.size u ws):PutSt W lo loR hiR W0.heap.size W.heap.size S x qs u ws 0 where
 own:=(ho.below hbl (Nat.le_refl _)).wide (Nat.le_refl _) hbl.size
 best:=hb
 offR:=hoff
 offW:=fun b hx=>.inl (ho.top b hx)
 from_:=hf
 lw:=hlo
 wide:=hbl.size
 hW:=Nat.le_refl _
 hR:=hR
 apart:=by
  intro p hp q hq k hk he;have h1:=(ho.nears p hp).2 k hk;have h2:=((hf.nears q (List.mem_of_mem_drop hq)).1.lt k he).1;omega
end
end Go.Proofs.YtnndlmodjkplnaaGreatDoor
namespace Go.Proofs.YtnndlmodjkplnaaGreatDoor
open Go.RowKit
set_option linter.unusedSimpArgs false
set_option linter.unusedVariables false
set_option maxRecDepth 100000
set_option maxHeartbeats 8000000
theorem Znq (W:World)(lo:Nat)(hb:lo<=W.heap.size):WaysOwn (W.alloc (.cells #[] 104)) lo (W.alloc (.cells #[] 104)).heap.size (.slice (some ⟨W.heap.size,0,none⟩) 0 0) []:=Ze2 W lo hb
theorem Zf8 (v u:Value)(ps:List RP)(al:List Int)(hi:Nat)(src:Int)(w:World)(hv:RecsIn w hi v ps)(ha:ZaG w u al hi)(hhi:hi<=w.heap.size)(hn:tot ps<=1048576)(hal:al.length<=1048576):
  Calls Tryz.prog 65 #[v,u,.int .i64 src] w fun e w'=>∃ x qs,e=.returned x/\Zax (Zay (fsts ps) al src) (Zak qs)/\WaysOwn w' w.heap.size w'.heap.size x qs/\Below w.heap.size w w':=by
 obtain⟨a1,c1,rfl⟩:=Zac hv.row;obtain⟨a2,c2,rfl⟩:=ha.shape;have BX:Below w.heap.size w (w.alloc (.cells #[] 104)):=(Below.refl _ _).alloc (Nat.le_refl _) _;have LIT:=Znq w w.heap.size (Nat.le_refl _);have hs0:(w.alloc (.cells #[] 104)).heap.size=w.heap.size+1:=by simp
 obtain⟨w0,hw0⟩:∃ W,W=w.alloc (.cells #[] 104):=⟨_,rfl⟩;rw [<-hw0] at BX LIT hs0;have HRE:=hide (Zk5 (.slice a2 al.length c2) al hi w0 hal (ZaL.later ha BX hhi) (by omega))
 have HWI:=hide (fun area W (hb:Below w.heap.size w W)=>Zf7 (.slice a1 ps.length c1) ps hi area src W (hv.below hb hhi) (Nat.le_trans hhi hb.size) hn)
 clear hv ha;have HLIT:=hide LIT;clear LIT;obtain⟨L,hL⟩:∃ L,L=ZcT al 3:=⟨_,rfl⟩;have hLl:L.length<=3:=by rw [hL];exact ZdO al 3
 have HFIN:=hide (show ∀ to d,Zay (fsts ps) L src to d↔Zay (fsts ps) al src to d from fun to d=>Zil (fun a h1 h2=>by rw [hL,Zgo];exact⟨fun h=>h.1,fun h=>⟨h,h1,h2⟩⟩) to d)
 rw [<-hL] at HRE;clear hL
 go_enter Tryz.func65,Tryz.ntmps65
 go_wp2_with fail
 rw [<-hw0];clear hw0;refine HRE.out.mono ?_
 rintro e w1 ⟨ra,rfl,hra,b1⟩;obtain⟨raa,rac,rfl⟩:=Zac hra.row;have b1s:=b1.size;have B1:Below w.heap.size w w1:=BX.trans (b1.mono BX.size);have HO1:=hide ((HLIT.out.below b1 (Nat.le_refl _)).wide (Nat.le_refl _) b1s);have HRA:=hide hra;clear hra HLIT HRE b1
 go_wp2
 go_loopw [16,7] (fun i o wr=>∃ (k:Nat) (x:Value) (qs:List WP),k<=L.length/\i=.int .i64 (k:Int)/\o=x/\WaysOwn wr w.heap.size wr.heap.size x qs/\Hid (Zax (Zay (fsts ps) (L.take k) src) (Zak qs))/\Off x w0.heap.size w1.heap.size/\IntsOwn wr w0.heap.size w1.heap.size (.slice raa L.length rac) L/\Below w.heap.size w wr/\w1.heap.size<=wr.heap.size) (fun i _ _=>L.length-(intOf i).toNat)
 case atStart=>exact ⟨0,_,[],by omega,rfl,rfl,HO1.out,hide (Zb1 (fun to d ⟨_,a,h,_⟩=>by simp at h)),fun b hb=>by simp [Value.ownBlock] at hb;omega,HRA.out,B1,Nat.le_refl _⟩
 case round=>
  obtain⟨k,x,qs,hk,rfl,rfl,hown,HB,hoff,hra,hnx,hsz⟩:=hrel;clear HO1 HRA;obtain⟨xa,xc,rfl⟩:=Zac hown.row
  rename World=>wa
  by_cases hlt:k<L.length
  ·obtain ⟨area,har⟩:∃ a,L[k]? = some a:=⟨L[k],List.getElem?_eq_getElem hlt⟩
   obtain⟨b,off,cap',hve,hbb,c0⟩:=hra.at.cell k area har;cases hve
   have hki:(0:Int)<=(k:Int):=by omega
   have hkj:(k:Int)<(L.length:Int):=by omega
   have HOWN:=hide hown;have HOFF:=hide hoff;have HRA:=hide hra;have HAR:=hide har;clear hown hoff hra har
   go_wp2_with fail
   refine (HWI.out area _ hnx).mono ?_
   rintro e w2 ⟨uw,ws,rfl,hws,how,b2⟩;obtain⟨wsa,wsc,rfl⟩:=Zac how.row;have hwl:=(ZbI (fsts ps) area src);have hwe:=hws.eq;have hwn:ws.length<=6:=by
    have:=Zc3 hwl.1 (fun d hd=>(hwl.2 d hd).1.node)
    rw [<-hwe] at this
    simpa [Zak] using this
   have hb2:=b2.size;have ST0:=PutSt.start HOWN.out HB.out HOFF.out hsz hnx.size b2 how;have RA2:=HRA.out.below b2 hsz;have B2:Below w.heap.size w w2:=hnx.trans (b2.mono hnx.size);have HWE:=hide hwe;have HST0:=hide ST0;have HRA2:=hide RA2;clear hws how hwe hwl ST0 RA2 HOWN HOFF HRA HB b2
   go_wp2
   go_loopw [25,7] (fun i o wr=>∃ (j:Nat) (x:Value) (qs:List WP),j<=ws.length/\i=.int .i64 (j:Int)/\o=x/\PutSt wr w.heap.size w0.heap.size w1.heap.size wa.heap.size w2.heap.size (fun to d=>Zay (fsts ps) (L.take k) src to d\/(d.to=to/\d∈(Zak ws).take j)) x qs (.slice wsa ws.length wsc) ws j/\IntsOwn wr w0.heap.size w1.heap.size (.slice (some ⟨b,off,none⟩) L.length rac) L/\Below w.heap.size w wr/\w2.heap.size<=wr.heap.size) (fun i _ _=>ws.length-(intOf i).toNat)
   case atStart=>exact ⟨0,_,qs,by omega,rfl,rfl, { HST0.out with best:=HST0.out.best.congr (fun to d=>⟨.inl,by rintro (h | ⟨_,h⟩);exact h;simp at h⟩) },HRA2.out,B2,Nat.le_refl _⟩
   case round=>
    obtain⟨j,y,qs2,hj,rfl,rfl,st,hra2,hnx2,hsz2⟩:=hrel;clear HST0 HRA2 B2;obtain⟨ya,yc,rfl⟩:=Zac st.own.row;have hS:∀ to d,(Zay (fsts ps) (L.take k) src to d\/(d.to=to/\d∈(Zak ws).take j))->GoodW d/\d.to=to:=by
     rintro to d (h | ⟨h1,h2⟩)
     ·exact Za3 h
     ·exact ⟨((ZbI (fsts ps) area src).2 d (by rw [<-HWE.out];exact List.mem_of_mem_take h2)).1,h1⟩
    by_cases hjl:j<ws.length
    ·obtain ⟨r,hr⟩:∃ r,ws[j]? = some r:=⟨ws[j],List.getElem?_eq_getElem hjl⟩
     obtain⟨b3,off3,cp3,hve,hbb3,c0,c1,c2,_⟩:=st.from_.at.cells j r hr;cases hve
     have hgr:GoodW r.1:=((ZbI (fsts ps) area src).2 r.1 (by rw [<-HWE.out];simp only [Zak,List.mem_map];exact⟨r,List.mem_of_getElem? hr,rfl⟩)).1
     have hji:(0:Int)<=(j:Int):=by omega
     have hjj:(j:Int)<(ws.length:Int):=by omega
     obtain⟨rra,rrc,hrn⟩:=Zac (st.from_.nears r (List.mem_of_getElem? hr)).1;rw [hrn] at c2;have hgd:=st.good hS;have hT:∀ to d,((Zay (fsts ps) (L.take k) src to d\/(d.to=to/\d∈(Zak ws).take j))\/(d=r.1/\r.1.to=to))↔(Zay (fsts ps) (L.take k) src to d\/(d.to=to/\d∈(Zak ws).take (j+1))):=by
      intro to d;rw [Zdy (ZcV hr)]
      constructor
      ·rintro ((h | ⟨h1,h2⟩) | ⟨h1,h2⟩)
       ·exact .inl h
       ·exact .inr ⟨h1,.inl h2⟩
       ·exact .inr ⟨by rw [h1];exact h2,.inr h1⟩
      ·rintro (h | ⟨h1,h2 | h2⟩)
       ·exact .inl (.inl h)
       ·exact .inl (.inr ⟨h1,h2⟩)
       ·exact .inr ⟨h2,by rw [<-h2];exact h1⟩
     have BA:Below wr.heap.size wr (wr.alloc (.cells #[.int .i64 r.1.to,.int .i64 r.1.cost,.slice rra r.1.hops.length rrc] 104)):=(Below.refl _ _).alloc (Nat.le_refl _) _;obtain⟨w3,hw3⟩:∃ W,W=wr.alloc (.cells #[.int .i64 r.1.to,.int .i64 r.1.cost,.slice rra r.1.hops.length rrc] 104):=⟨_,rfl⟩;rw [<-hw3] at BA;have st3:=st.below BA;have ra3:=hra2.below BA (by omega)
     have B3:Below w.heap.size w w3:=hnx2.trans (BA.mono hnx2.size);have hs3:=BA.size;have HPW:=Zhq (.slice ya qs2.length yc) qs2 w.heap.size r w3 st3.own B3.size (by omega) (fun p hp=>by have:=hgd.2 p hp;omega) (by have:=hgr.len;omega) st3.best.1 (st3.hop hr) (st3.apartR hr)
     unfold wayC at HPW;rw [hrn] at HPW;have HNX:=hide (fun (W':World) (x':Value) (qs':List WP) (hp:PutD (Zak qs2) r.1 (Zak qs')) (ho:WaysOwn W' w.heap.size W'.heap.size x' qs') (hf:Zef w3.heap.size qs2 r qs') hn (hg:w3.grownBy W' (Value.slice ya qs2.length yc).ownBlock)=>(⟨st3.put hr hS hgr hT hp ho hf hn hg,ra3.keep (st3.offR.kept hg),B3.grown hg B3.size (fun b hb=>(st3.own.row.lt b hb).1),hg.size⟩:_/\_/\_/\_))
     have HP:=hide HPW;clear HPW hgd hT hS hr hrn st st3 hra2 ra3 hgr
     go_wp2_with fail
     rw [<-hw3];clear hw3;refine HP.out.mono ?_
     rintro e w4 ⟨x',qs',rfl,hp,ho,hf,hn',hg⟩;obtain⟨n1,n2,n3,n4⟩:=HNX.out w4 x' qs' hp ho hf hn' hg;obtain⟨x'a,x'c,rfl⟩:=Zac ho.row;have N1:=hide n1;have N2:=hide n2;have N3:=hide n3;clear n1 n2 n3 hp ho hf hn' hg HNX HP
     go_wp2
     go_roundw
     case rel=>exact ⟨j+1,_,qs',by omega,by go_num,rfl,N1.out,N2.out,N3.out,by omega⟩
     case measure=>simp [intOf];omega
    ·have hjn:¬(j:Int)<(ws.length:Int):=by omega
     have HBX:=hide (show Zax (Zay (fsts ps) (L.take (k+1)) src) (Zak qs2) from st.best.congr (fun to d=>by
      rw [ZdT HAR.out,show (Zak ws).take j=Zak ws from List.take_of_length_le (by simp [Zak];omega),HWE.out]))
     have HOX:=hide st.own;have HFX:=hide st.offR;have HRX:=hide hra2;have HNX:=hide hnx2;have hsf:w1.heap.size<=wr.heap.size:=by omega
     clear st hra2 hnx2 hS
     go_wp2
     go_roundw
     case rel=>exact ⟨k+1,_,qs2,by omega,by go_num,rfl,HOX.out,HBX,HFX.out,HRX.out,HNX.out,hsf⟩
     case measure=>simp [intOf];omega
  ·have hkn:¬(k:Int)<(L.length:Int):=by omega
   have HE:=hide (show Zax (Zay (fsts ps) al src) (Zak qs) from by
    have h:=HB.out;rw [List.take_of_length_le (by omega)] at h
    exact h.congr HFIN.out)
   have HO:=hide hown;have HN:=hide hnx;clear hown hnx HB hoff hra
   go_wp2
   go_ret
   first
    | exact ⟨_,qs,rfl,HE.out,HO.out,HN.out⟩
    | exact ⟨_,rfl,qs,HE.out,HO.out,HN.out⟩
def byS (xs:List RecD)(al L:List Int)(src to:Int)(d:WayD):Prop:=(∀ y,¬Zay xs al src to y)/\∃ a∈L,outS xs xs a src to d
theorem Zov {xs:List RecD}{al L:List Int}{src to:Int}{d:WayD}(h:byS xs al L src to d):GoodW d/\d.to=to:=by
 obtain⟨_,a,_,h2⟩:=h;exact ZeR (fun _ h=>h) h2
theorem Zow {xs:List RecD}{al L:List Int}{src to a:Int}{k:Nat}(h:L[k]? = some a)(d:WayD):byS xs al (L.take (k+1)) src to d↔byS xs al (L.take k) src to d\/((∀ y,¬Zay xs al src to y)/\outS xs xs a src to d):=by
 obtain⟨hk,e⟩:=List.getElem?_eq_some_iff.1 h;unfold byS;rw [List.take_succ_eq_append_getElem hk,e]
 constructor
 ·rintro ⟨h0,b,h2,h3⟩
  rcases List.mem_append.1 h2 with h5 | h5
  ·exact .inl ⟨h0,b,h5,h3⟩
  ·have:b=a:=by simpa using h5
   subst this;exact .inr ⟨h0,h3⟩
 ·rintro (⟨h0,b,h2,h3⟩ | ⟨h0,h3⟩)
  ·exact ⟨h0,b,List.mem_append.2 (.inl h2),h3⟩
  ·exact ⟨h0,a,List.mem_append.2 (.inr (by simp)),h3⟩
theorem ZpA {xs:List RecD}{al:List Int}{border:Bool}{src:Int}(to:Int)(d:WayD):byS xs al (ZcZ al border) src to d↔Zb0 xs al border src to d:=by
 constructor
 ·rintro ⟨h0,a,h2,h3⟩
  have h4:=Zfz.1 h2;exact⟨h0,a,h4.1.1,h4.2,h3⟩
 ·rintro ⟨h0,a,h2,h3,h4⟩
  have h5:=Zjd h4;exact⟨h0,a,Zfz.2 ⟨⟨h2,h5.2.1,h5.2.2⟩,h3⟩,h4⟩
theorem ZmE {xs:List RecD}{al:List Int}{src:Int}{ds:List WayD}(h:Zax (Zay xs al src) ds)(to:Int):(Zbr ds to=true/\∃ y,Zay xs al src to y)\/(Zbr ds to=false/\∀ y,¬Zay xs al src to y):=by
 have hb:=h.2 to
 rcases Zdk ds to with ⟨h1,h2⟩ | ⟨h1,h2⟩
 ·rw [h2] at hb
  obtain⟨_,⟨y,hy,_⟩,_⟩:=hb;exact .inl ⟨h1,y,hy⟩
 ·rw [h2] at hb
  exact .inr ⟨h1,hb⟩
theorem ZhG {S:Int->WayD->Prop}{qs:List WP}(h:Zax S (Zak qs))(hS:∀ to w,S to w->GoodW w/\w.to=to):totW qs<=42:=
 ZfK (by have h2:=Zc3 h.1 (fun d hd=>(h.good hS d hd).node);simpa [Zak] using h2) (fun d hd=>(h.good hS d hd).len)
theorem Zj2 (v u:Value)(ps:List RP)(al:List Int)(hi:Nat)(border:Bool)(src:Int)(w:World)(hv:RecsIn w hi v ps)(ha:ZaG w u al hi)(hhi:hi<=w.heap.size)(hn:tot ps<=1048576)(hal:al.length<=1048576):
  Calls Tryz.prog 66 #[v,u,.bool border,.int .i64 src] w fun e w'=>∃ x qs,e=.returned x/\Zax (Zb0 (fsts ps) al border src) (Zak qs)/\WaysOwn w' w.heap.size w'.heap.size x qs/\Below w.heap.size w w':=by
 have hnl:=Zca ps;obtain⟨a1,c1,rfl⟩:=Zac hv.row;obtain⟨a2,c2,rfl⟩:=ha.shape;have HWI:=hide (Zf8 (.slice a1 ps.length c1) (.slice a2 al.length c2) ps al hi src w hv ha hhi hn hal);have HAO:=hide (fun W (hb:Below w.heap.size w W)=>Zis (.slice a2 al.length c2) al border hi W hal (ZaL.later ha hb hhi) (Nat.le_trans hhi hb.size))
 have HWO:=hide (fun area W (hb:Below w.heap.size w W)=>ZkE (.slice a1 ps.length c1) ps hi area src W (hv.below hb hhi) (Nat.le_trans hhi hb.size) hn)
 clear hv ha;obtain⟨L,hL⟩:∃ L,L=ZcZ al border:=⟨_,rfl⟩;have hLl:L.length<=3:=by rw [hL];exact Zjc al border
 have HFIN:=hide (show ∀ to d,byS (fsts ps) al L src to d↔Zb0 (fsts ps) al border src to d from fun to d=>by rw [hL];exact ZpA to d)
 rw [<-hL] at HAO;clear hL
 go_enter Tryz.func66,Tryz.ntmps66
 go_wp2_with fail
 refine HWI.out.mono ?_
 rintro e w1 ⟨uw,ws,rfl,hbw,how,b1⟩;obtain⟨wsa,wsc,rfl⟩:=Zac how.row;have hb1:=b1.size;have hwt:totW ws<=1048576:=by have:=ZhG hbw (fun to d h=>Za3 h);omega
 have HWT:=hide (fun (z:Int) (W:World) (hb:Below w1.heap.size w1 W)=>Zfd (.slice wsa ws.length wsc) ws w.heap.size w1.heap.size z W (how.below hb (Nat.le_refl _)) hb.size hwt)
 have HHAS:=hide (fun to=>ZmE hbw to)
 have BX:Below w1.heap.size w1 (w1.alloc (.cells #[] 104)):=(Below.refl _ _).alloc (Nat.le_refl _) _;have LIT:=Znq w1 w1.heap.size (Nat.le_refl _);have hs0:(w1.alloc (.cells #[] 104)).heap.size=w1.heap.size+1:=by simp
 obtain⟨w0,hw0⟩:∃ W,W=w1.alloc (.cells #[] 104):=⟨_,rfl⟩;rw [<-hw0] at BX LIT hs0;have BX0:Below w.heap.size w w0:=b1.trans (BX.mono hb1);have HLIT:=hide LIT;have HS0:=hide hs0;clear LIT hs0 HWI how hbw hwt
 go_wp2_with fail
 rw [<-hw0];clear hw0;refine (HAO.out _ BX0).mono ?_
 rintro e w2 ⟨ra,rfl,hra,b2⟩;obtain⟨raa,rac,rfl⟩:=Zac hra.row;have b2s:=b2.size;have hx0:=BX.size;have B2:Below w1.heap.size w1 w2:=BX.trans (b2.mono hx0);have HO1:=hide ((HLIT.out.below b2 (Nat.le_refl _)).wide (Nat.le_refl _) b2s);have HRA:=hide hra;clear hra HLIT HAO b2
 go_wp2
 go_loopw [26,10] (fun i o wr=>∃ (k:Nat) (x:Value) (qs:List WP),k<=L.length/\i=.int .i64 (k:Int)/\o=x/\WaysOwn wr w1.heap.size wr.heap.size x qs/\Hid (Zax (byS (fsts ps) al (L.take k) src) (Zak qs))/\Off x w0.heap.size w2.heap.size/\IntsOwn wr w0.heap.size w2.heap.size (.slice raa L.length rac) L/\Below w1.heap.size w1 wr/\w2.heap.size<=wr.heap.size) (fun i _ _=>L.length-(intOf i).toNat)
 case atStart=>exact ⟨0,_,[],by omega,rfl,rfl,HO1.out,hide (Zb1 (fun to d ⟨_,a,h,_⟩=>by simp at h)),fun b hb=>by simp [Value.ownBlock] at hb;have:=HS0.out;omega,HRA.out,B2,Nat.le_refl _⟩
 case round=>
  obtain⟨k,x,qs,hk,rfl,rfl,hown,HB,hoff,hra,hnx,hsz⟩:=hrel;clear HO1 HRA B2;obtain⟨xa,xc,rfl⟩:=Zac hown.row
  rename World=>wa
  have BWA:Below w.heap.size w wa:=b1.trans (hnx.mono hb1);by_cases hlt:k<L.length
  ·obtain ⟨area,har⟩:∃ a,L[k]? = some a:=⟨L[k],List.getElem?_eq_getElem hlt⟩
   obtain⟨b,off,cap',hve,hbb,c0⟩:=hra.at.cell k area har;cases hve
   have hki:(0:Int)<=(k:Int):=by omega
   have hkj:(k:Int)<(L.length:Int):=by omega
   have HOWN:=hide hown;have HOFF:=hide hoff;have HRA:=hide hra;have HAR:=hide har;clear hown hoff hra har
   go_wp2_with fail
   refine (HWO.out area _ BWA).mono ?_
   rintro e w3 ⟨uo,os,rfl,hos,hol,hoo,b3⟩;obtain⟨osa,osc,rfl⟩:=Zac hoo.row;have hb3:=b3.size;have ST0:=PutSt.start HOWN.out HB.out HOFF.out hsz hnx.size b3 hoo;have RA3:=HRA.out.below b3 hsz;have B3:Below w1.heap.size w1 w3:=hnx.trans (b3.mono hnx.size);have HOS:=hide (show ∀ d,d∈Zak os↔∃ r∈fsts ps,Zcx (fsts ps) area src r d from fun d=>by
    have h:=hos d;rw [List.take_of_length_le (by simp [fsts])] at h
    exact h)
   have HST0:=hide ST0;have HRA3:=hide RA3;clear hos hoo ST0 RA3 HOWN HOFF HRA HB b3
   go_wp2
   go_loopw [35,10] (fun i o wr=>∃ (j:Nat) (x:Value) (qs:List WP),j<=os.length/\i=.int .i64 (j:Int)/\o=x/\PutSt wr w1.heap.size w0.heap.size w2.heap.size wa.heap.size w3.heap.size (fun to d=>byS (fsts ps) al (L.take k) src to d\/((∀ y,¬Zay (fsts ps) al src to y)/\d.to=to/\d∈(Zak os).take j)) x qs (.slice osa os.length osc) os j/\IntsOwn wr w0.heap.size w2.heap.size (.slice (some ⟨b,off,none⟩) L.length rac) L/\Below w1.heap.size w1 wr/\w3.heap.size<=wr.heap.size) (fun i _ _=>os.length-(intOf i).toNat)
   case atStart=>exact ⟨0,_,qs,by omega,rfl,rfl, { HST0.out with best:=HST0.out.best.congr (fun to d=>⟨.inl,by rintro (h | ⟨_,_,h⟩);exact h;simp at h⟩) },HRA3.out,B3,Nat.le_refl _⟩
   case round=>
    obtain⟨j,y,qs2,hj,rfl,rfl,st,hra2,hnx2,hsz2⟩:=hrel;clear HST0 HRA3 B3;obtain⟨ya,yc,rfl⟩:=Zac st.own.row;have hgd0:∀ d∈Zak os,GoodW d:=fun d hd=>by
     obtain⟨r,hr,ht⟩:=(HOS.out d).1 hd;exact ZdS hr ht
    have hS:∀ to d,(byS (fsts ps) al (L.take k) src to d\/((∀ y,¬Zay (fsts ps) al src to y)/\d.to=to/\d∈(Zak os).take j))->GoodW d/\d.to=to:=by
     rintro to d (h | ⟨_,h1,h2⟩)
     ·exact Zov h
     ·exact ⟨hgd0 d (List.mem_of_mem_take h2),h1⟩
    by_cases hjl:j<os.length
    ·obtain ⟨r,hr⟩:∃ r,os[j]? = some r:=⟨os[j],List.getElem?_eq_getElem hjl⟩
     obtain⟨bo,offo,cpo,hve,hbbo,c0,c1,c2,_⟩:=st.from_.at.cells j r hr;cases hve
     have hgr:GoodW r.1:=hgd0 r.1 (by simp only [Zak,List.mem_map];exact⟨r,List.mem_of_getElem? hr,rfl⟩)
     have hji:(0:Int)<=(j:Int):=by omega
     have hjj:(j:Int)<(os.length:Int):=by omega
     obtain⟨rra,rrc,hrn⟩:=Zac (st.from_.nears r (List.mem_of_getElem? hr)).1;rw [hrn] at c2;have hgd:=st.good hS;have BA:Below wr.heap.size wr (wr.alloc (.cells #[.int .i64 r.1.to,.int .i64 r.1.cost,.slice rra r.1.hops.length rrc] 104)):=(Below.refl _ _).alloc (Nat.le_refl _) _;have hxb:=heap_alloc_new wr (.cells #[.int .i64 r.1.to,.int .i64 r.1.cost,.slice rra r.1.hops.length rrc] 104);obtain⟨w4,hw4⟩:∃ W,W=wr.alloc (.cells #[.int .i64 r.1.to,.int .i64 r.1.cost,.slice rra r.1.hops.length rrc] 104):=⟨_,rfl⟩;rw [<-hw4] at BA hxb;have hs4:=BA.size;have hl4:=Zab hxb;have HW:=HWT.out r.1.to w4 (hnx2.trans (BA.mono hnx2.size));have hh:=HHAS.out r.1.to;obtain⟨D,hD⟩:∃ D,D=Zbs (Zak ws) r.1.to:=⟨_,rfl⟩;obtain⟨FB,hFB⟩:∃ F,F=Zbr (Zak ws) r.1.to:=⟨_,rfl⟩;rw [<-hD, <-hFB] at HW;rw [<-hFB] at hh;have HWW:=hide HW;have HH:=hide hh;have HST:=hide st;have HRX:=hide hra2;have HRR:=hide hr;have HRN:=hide hrn;have HGD:=hide hgd;have HGR:=hide hgr;have HSS:=hide hS;have HXB:=hide hxb;have HBA:=hide BA;unfold wayC at HWW;clear HW hh st hra2 hr hrn hgd hgr hS hxb BA hgd0 hD hFB
     go_wp2_with fail
     rw [<-hw4];clear hw4;refine HWW.out.mono ?_
     rintro e w5 ⟨du,rfl,hdu,b5⟩;obtain⟨da,dc,rfl⟩:=Zac hdu;have hb5:=b5.size;have BC:Below w5.heap.size w5 (w5.alloc (.cells #[.int .i64 D.to,.int .i64 D.cost,.slice da D.hops.length dc] 104)):=(Below.refl _ _).alloc (Nat.le_refl _) _;have hxb5:=(b5.block _ hl4).trans HXB.out;have hxb6:=(BC.block _ (Zab hxb5)).trans hxb5;have d0:=Zaa hxb6 0;have d1:=Zaa hxb6 1;have d2:=Zaa hxb6 2;simp at d0 d1 d2
     obtain⟨w6,hw6⟩:∃ W,W=w5.alloc (.cells #[.int .i64 D.to,.int .i64 D.cost,.slice da D.hops.length dc] 104):=⟨_,rfl⟩;rw [<-hw6] at BC;have B6:Below wr.heap.size wr w6:=HBA.out.trans ((b5.mono hs4).trans (BC.mono (by omega)))
     have st6:=HST.out.below B6;have ra6:=HRX.out.below B6 (by omega)
     have N6:Below w1.heap.size w1 w6:=hnx2.trans (B6.mono hnx2.size);have hs6:=B6.size;clear hdu b5 BC hxb5 hxb6 HST HRX HWW HXB HBA B6;cases FB
     ·have hno:∀ y,¬Zay (fsts ps) al src r.1.to y:=by
       rcases HH.out with ⟨h1,_⟩ | ⟨_,h2⟩
       ·cases h1
       ·exact h2
      have hT:∀ to d,((byS (fsts ps) al (L.take k) src to d\/((∀ y,¬Zay (fsts ps) al src to y)/\d.to=to/\d∈(Zak os).take j))\/(d=r.1/\r.1.to=to))↔(byS (fsts ps) al (L.take k) src to d\/((∀ y,¬Zay (fsts ps) al src to y)/\d.to=to/\d∈(Zak os).take (j+1))):=by
       intro to d;rw [Zdy (ZcV HRR.out)]
       constructor
       ·rintro ((h | ⟨h0,h1,h2⟩) | ⟨h1,h2⟩)
        ·exact .inl h
        ·exact .inr ⟨h0,h1,.inl h2⟩
        ·exact .inr ⟨by rw [<-h2];exact hno,by rw [h1];exact h2,.inr h1⟩
       ·rintro (h | ⟨h0,h1,h2 | h2⟩)
        ·exact .inl (.inl h)
        ·exact .inl (.inr ⟨h0,h1,h2⟩)
        ·exact .inr ⟨h2,by rw [<-h2];exact h1⟩
      have HPW:=Zhq (.slice ya qs2.length yc) qs2 w1.heap.size r w6 st6.own N6.size (by have:=HGD.out;omega) (fun p hp=>by have:=HGD.out.2 p hp;omega) (by have:=HGR.out.len;omega) st6.best.1 (st6.hop HRR.out) (st6.apartR HRR.out)
      unfold wayC at HPW;rw [HRN.out] at HPW;have HNX:=hide (fun (W':World) (x':Value) (qs':List WP) (hp:PutD (Zak qs2) r.1 (Zak qs')) (ho:WaysOwn W' w1.heap.size W'.heap.size x' qs') (hf:Zef w6.heap.size qs2 r qs') hn (hg:w6.grownBy W' (Value.slice ya qs2.length yc).ownBlock)=>(⟨st6.put HRR.out HSS.out HGR.out hT hp ho hf hn hg,ra6.keep (st6.offR.kept hg),N6.grown hg N6.size (fun b hb=>(st6.own.row.lt b hb).1),hg.size⟩:_/\_/\_/\_))
      have HP:=hide HPW;clear HPW hT hno HH HRR HRN HGD HGR HSS st6 ra6 N6
      go_wp2_with fail
      rw [<-hw6];clear hw6;refine HP.out.mono ?_
      rintro e w7 ⟨x',qs',rfl,hp,ho,hf,hn',hg⟩;obtain⟨n1,n2,n3,n4⟩:=HNX.out w7 x' qs' hp ho hf hn' hg;obtain⟨x'a,x'c,rfl⟩:=Zac ho.row;have N1:=hide n1;have N2:=hide n2;have N3:=hide n3;clear n1 n2 n3 hp ho hf hn' hg HNX HP
      go_wp2
      go_roundw
      case rel=>exact ⟨j+1,_,qs',by omega,by go_num,rfl,N1.out,N2.out,N3.out,by omega⟩
      case measure=>simp [intOf];omega
     ·have hyes:∃ y,Zay (fsts ps) al src r.1.to y:=by
       rcases HH.out with ⟨_,h2⟩ | ⟨h1,_⟩
       ·exact h2
       ·cases h1
      have N1:=hide (st6.pass HRR.out (T:=fun to d=>byS (fsts ps) al (L.take k) src to d\/((∀ y,¬Zay (fsts ps) al src to y)/\d.to=to/\d∈(Zak os).take (j+1))) (fun to d=>by
       rw [Zdy (ZcV HRR.out)]
       constructor
       ·rintro (h | ⟨h0,h1,h2⟩)
        ·exact .inl h
        ·exact .inr ⟨h0,h1,.inl h2⟩
       ·rintro (h | ⟨h0,h1,h2 | h2⟩)
        ·exact .inl h
        ·exact .inr ⟨h0,h1,h2⟩
        ·obtain ⟨y,hy⟩:=hyes
         exact absurd (by rw [<-h1,h2];exact hy) (h0 y)))
      have N2:=hide ra6;have N3:=hide N6;have hsf:w3.heap.size<=w6.heap.size:=by omega
      rw [hw6] at N1 N2 N3 hsf;clear st6 ra6 N6 hyes HH HRR HRN HGD HGR HSS hw6
      go_wp2
      go_roundw
      case rel=>exact ⟨j+1,_,qs2,by omega,by go_num,rfl,N1.out,N2.out,N3.out,hsf⟩
      case measure=>simp [intOf];omega
    ·have hjn:¬(j:Int)<(os.length:Int):=by omega
     have HBX:=hide (show Zax (byS (fsts ps) al (L.take (k+1)) src) (Zak qs2) from st.best.congr (fun to d=>by
      rw [Zow HAR.out,show (Zak os).take j=Zak os from List.take_of_length_le (by simp [Zak];omega),HOS.out]
      rfl))
     have HOX:=hide st.own;have HFX:=hide st.offR;have HRX:=hide hra2;have HNX:=hide hnx2;have hsf:w2.heap.size<=wr.heap.size:=by omega
     clear st hra2 hnx2 hS hgd0
     go_wp2
     go_roundw
     case rel=>exact ⟨k+1,_,qs2,by omega,by go_num,rfl,HOX.out,HBX,HFX.out,HRX.out,HNX.out,hsf⟩
     case measure=>simp [intOf];omega
  ·have hkn:¬(k:Int)<(L.length:Int):=by omega
   have HE:=hide (show Zax (Zb0 (fsts ps) al border src) (Zak qs) from by
    have h:=HB.out;rw [List.take_of_length_le (by omega)] at h
    exact h.congr HFIN.out)
   have HO:=hide (hown.wide (lo':=w.heap.size) hb1 (Nat.le_refl _));have HN:=hide BWA;clear hown hnx HB hoff hra BWA
   go_wp2
   go_ret
   first
    | exact ⟨_,qs,rfl,HE.out,HO.out,HN.out⟩
    | exact ⟨_,rfl,qs,HE.out,HO.out,HN.out⟩
end Go.Proofs.YtnndlmodjkplnaaGreatDoor
