/-
  PutW PutLoop WithinI
-/
import Derived.Test.YtgdgkgmjpnbbcaaGreatOn35
import Derived.Test.YtgdgkgmjpnbbcaaGreatOn11
import Derived.Test.YtgdgkgmjpnbbcaaGreatOn17
import Derived.Test.YtgdgkgmjpnbbcaaGreatOn33
namespace Go.Proofs.YtgdgkgmjpnbbcaaGreat
open Go.RowKit
set_option linter.unusedSimpArgs false
set_option linter.unusedVariables false
set_option maxRecDepth 100000
set_option maxHeartbeats 8000000
theorem Zmf {W:World}{lo hi:Nat}{r:WP}(h:Zbu W lo hi r):∀ u∈encW r,u.oneCell'=true:=by
 obtain⟨a,c,e⟩:=Zac h.1;obtain⟨x,v⟩:=r;simp only at e
 subst e;exact Zc3 x a _ c
theorem ZjM (lo i vb:Nat)(v:Value)(ps:List WP)(r:WP)(w:World)(hv:WaysOwn w lo w.heap.size v ps)(hlo:lo<=w.heap.size)(hi:i<=ps.length)(hn:ps.length<=1048576)(hvb:w.heap[vb]? = some (.cells (encW r).toArray 48 (0,0)))(hne:some vb≠v.ownBlock)(hr1:∀ u∈encW r,u.oneCell'=true):
  Calls Tryz.prog 81 #[v,.int .i64 (i:Int),.slice (some ⟨vb,0,none⟩) 1 1] w fun e w'=>∃ v',e=.returned v'/\w'.ownsRow lo 48 3 v' (ps.length+1) (flat encW (ps.take i++[r]++ps.drop i))/\w.grownBy w' v.ownBlock/\(v'.ownBlock=v.ownBlock\/v'.ownBlock=some w.heap.size):=by
 by_cases he:i=ps.length
 ·rw [he]
  exact ZnL lo ps.length 1 vb v ps r w rfl rfl hlo hn hv.row hvb hr1
 ·have hone:∀ p∈ps,∃ a k c,p.2=.slice a k c:=fun p hp=>by
   obtain⟨a,c,e⟩:=Zac (hv.nears p hp).1;exact⟨a,_,c,e⟩
  rcases hv.row.2 with ⟨_,h0⟩ | ⟨g,cap,cur,hve,_⟩
  ·omega
  ·subst hve
   have hne2:vb≠g:=fun e=>hne (by rw [e];rfl)
   by_cases hroom:ps.length+1<=cap
   ·exact Zk8 lo g cap ps.length 1 i vb ps r w rfl rfl hv.row (by omega) hroom hvb hne2 hone hr1
   ·exact Zmk lo g cap ps.length 1 i vb ps r w rfl rfl hlo hn hv.row (by omega) (by omega) hvb hone hr1
theorem ZcB.symm {p q:WP}(h:ZcB p q):ZcB q p:=fun k hk hp=>h k hp hk
theorem ZiQ {W W2:World}{lo:Nat}{v:Value}{ps:List WP}(h:WaysOwn W lo W.heap.size v ps)(hg:W.grownBy W2 v.ownBlock){q:WP}(hq:Zbu W lo W.heap.size q):Zbu W2 lo W2.heap.size q:=
 ⟨Zao hq.1 (fun j hj=>hg.block j (hq.2 j hj) (Zfw hq h.row j hj)),fun k hk=>Nat.lt_of_lt_of_le (hq.2 k hk) hg.size⟩
theorem WaysOwn.ins {W W2:World}{lo i:Nat}{v v':Value}{ps:List WP}{r:WP}(h:WaysOwn W lo W.heap.size v ps)(hr:Zbu W lo W.heap.size r)(hap:∀ p∈ps,ZcB p r)(hi:i<=ps.length)
  (row:W2.ownsRow lo 48 3 v' (ps.length+1) (flat encW (ps.take i++[r]++ps.drop i))) (hg:W.grownBy W2 v.ownBlock):WaysOwn W2 lo W2.heap.size v' (ps.take i++[r]++ps.drop i) where
 row:=by rw [Zh1 ps r i hi];exact row
 top:=fun k hk=>(row.lt k hk).2
 nears:=by
  intro q hq;refine ZiQ h hg ?_
  rcases List.mem_append.1 hq with h1 | h1
  ·rcases List.mem_append.1 h1 with h2 | h2
   ·exact h.nears q (List.mem_of_mem_take h2)
   ·have:q=r:=by simpa using h2
    subst this;exact hr
  ·exact h.nears q (List.mem_of_mem_drop h1)
 apart:=by
  have hp:=h.apart;rw [<-List.take_append_drop i ps,List.pairwise_append] at hp;rw [List.append_assoc,List.pairwise_append];refine⟨hp.1,?_,?_⟩
  ·rw [List.pairwise_append]
   refine⟨by simp,hp.2.1,?_⟩
   intro a ha b hb;have:a=r:=by simpa using ha
   subst this;exact (hap b (List.mem_of_mem_drop hb)).symm
  ·intro a ha b hb
   rcases List.mem_append.1 hb with h1 | h1
   ·have:b=r:=by simpa using h1
    subst this;exact hap a (List.mem_of_mem_take ha)
   ·exact hp.2.2 a ha b h1
theorem WaysOwn.put {W:World}{lo i g cap n:Nat}{ps:List WP}{r:WP}(h:WaysOwn W lo W.heap.size (.slice (some ⟨g,0,none⟩) n cap) ps)(hn:n=ps.length)(hr:Zbu W lo W.heap.size r)(hap:∀ p∈ps,ZcB p r)(hi:i<ps.length):WaysOwn (putW W g (i*3) r) lo (putW W g (i*3) r).heap.size (.slice (some ⟨g,0,none⟩) n cap) (ps.set i r):=by
 subst hn;have hst:=ZmQ (p:=r) h.row hi;have hg:W.grownBy (putW W g (i*3) r) (Value.slice (some ⟨g,0,none⟩) ps.length cap).ownBlock:=Zhv W g (i*3) r;refine⟨by simpa using hst,fun k hk=>(hst.lt k hk).2,?_,?_⟩
 ·intro q hq
  refine ZiQ h hg ?_
  rcases List.mem_or_eq_of_mem_set hq with h1 | h1
  ·exact h.nears q h1
  ·subst h1;exact hr
 ·have hp:=h.apart
  rw [List.pairwise_iff_getElem] at hp |-;intro a b ha hb hab;simp only [List.length_set] at ha hb
  rw [List.getElem_set,List.getElem_set];by_cases e1:i=a
  ·rw [if_pos e1,if_neg (by omega)]
   exact (hap _ (List.getElem_mem hb)).symm
  ·rw [if_neg e1]
   by_cases e2:i=b
   ·rw [if_pos e2]
    exact hap _ (List.getElem_mem ha)
   ·rw [if_neg e2]
    exact hp a b ha hb hab
theorem Zl7 (ps:List WP)(r:WP)(i:Nat):Zag (ps.take i++[r]++ps.drop i)=(Zag ps).take i++[r.1]++(Zag ps).drop i:=by simp [Zag]
theorem Zl8 (ps:List WP)(r:WP)(i:Nat):Zag (ps.set i r)=(Zag ps).set i r.1:=by simp [Zag,List.map_set]
theorem ZlP {xs:List WayD}(h:AscW xs)(r:WayD):∀ s t,s<=t->t<xs.length->ltW xs r t->ltW xs r s:=by
 intro s t hst ht hl;obtain⟨x,hx,hlt⟩:=hl;by_cases e:s=t
 ·subst e;exact⟨x,hx,hlt⟩
 ·obtain ⟨h1,e1⟩:=List.getElem?_eq_some_iff.1 hx
  unfold AscW at h;rw [List.pairwise_iff_getElem] at h;have h2:=h s t (by omega) ht (by omega)
  rw [e1] at h2;exact⟨xs[s],List.getElem?_eq_getElem (by omega),by omega⟩
theorem Zpd {xs:List WayD}{r:WayD}{i:Nat}(h:AscW xs)(hi:i<=xs.length)(h1:∀ t,t<i->ltW xs r t)(h2:∀ t,i<=t->t<xs.length->¬ltW xs r t)(h3:¬∃ x,xs[i]? = some x/\x.to=r.to)(tog:WayD->WayD->WayD):
  AscW (xs.take i++[r]++xs.drop i)/\∀ to,ZaQ (xs.take i++[r]++xs.drop i) to=if to=r.to then Zel tog (ZaQ xs to) (some r) else ZaQ xs to:=by
 have hlo:∀ x∈xs.take i,x.to<r.to:=by
  intro x hx;obtain⟨j,hj,e⟩:=List.getElem_of_mem hx;rw [List.length_take] at hj;rw [List.getElem_take] at e;obtain⟨y,hy,hl⟩:=h1 j (by omega)
  rw [List.getElem?_eq_getElem (by omega)] at hy
  have hy':=Option.some.inj hy;rw [<-e,hy'];exact hl
 have hhi:∀ x∈xs.drop i,r.to<x.to:=by
  have hge:∀ x∈xs.drop i,r.to<=x.to:=by
   intro x hx;obtain⟨j,hj,e⟩:=List.getElem_of_mem hx;rw [List.length_drop] at hj;rw [List.getElem_drop] at e;have:=h2 (i+j) (by omega) (by omega)
   rcases Int.lt_or_le x.to r.to with hc | hc
   ·exact absurd ⟨x,by rw [List.getElem?_eq_getElem (by omega),e],hc⟩ this
   ·exact hc
  intro x hx;have h4:=hge x hx
  rcases Int.lt_or_le r.to x.to with hc | hc
  ·exact hc
  ·exfalso
   have hlen:i<xs.length:=by
    rcases Nat.lt_or_ge i xs.length with h5 | h5
    ·exact h5
    ·rw [List.drop_eq_nil_of_le h5] at hx;cases hx
   rw [List.drop_eq_getElem_cons hlen] at hx;have h6:=hge xs[i] (by rw [List.drop_eq_getElem_cons hlen];exact List.mem_cons_self)
   rcases List.mem_cons.1 hx with e | e
   ·exact h3 ⟨xs[i],List.getElem?_eq_getElem hlen,by rw [<-e];omega⟩
   ·have hp:=h
    unfold AscW at hp;rw [<-List.take_append_drop i xs,List.pairwise_append] at hp;have hp2:=hp.2.1;rw [List.drop_eq_getElem_cons hlen] at hp2;have:=(List.pairwise_cons.1 hp2).1 x e;omega
 have hp:=h;unfold AscW at hp;rw [<-List.take_append_drop i xs,List.pairwise_append] at hp;have hasc:AscW (xs.take i++[r]++xs.drop i):=by
  unfold AscW;rw [List.append_assoc,List.pairwise_append];refine⟨hp.1,?_,?_⟩
  ·rw [List.pairwise_append]
   refine⟨by simp,hp.2.1,?_⟩
   intro a ha b hb;have:a=r:=by simpa using ha
   subst this;exact hhi b hb
  ·intro a ha b hb
   rcases List.mem_append.1 hb with h5 | h5
   ·have:b=r:=by simpa using h5
    subst this;exact hlo a ha
   ·exact hp.2.2 a ha b h5
 have hmem:∀ x,x∈xs.take i++[r]++xs.drop i↔x∈xs\/x=r:=by
  intro x;simp only [List.mem_append,List.mem_singleton]
  constructor
  ·rintro ((h5 | h5) | h5)
   ·exact .inl (List.mem_of_mem_take h5)
   ·exact .inr h5
   ·exact .inl (List.mem_of_mem_drop h5)
  ·rintro (h5 | h5)
   ·rw [<-List.take_append_drop i xs] at h5
    rcases List.mem_append.1 h5 with h6 | h6
    ·exact .inl (.inl h6)
    ·exact .inr h6
   ·exact .inl (.inr h5)
 have hno:∀ x∈xs,x.to≠r.to:=by
  intro x hx;rw [<-List.take_append_drop i xs] at hx
  rcases List.mem_append.1 hx with h6 | h6
  ·have:=hlo x h6;omega
  ·have:=hhi x h6;omega
 refine⟨hasc,fun to=>?_⟩
 by_cases e:to=r.to
 ·subst e
  rw [if_pos rfl];have hn:ZaQ xs r.to=none:=by
   cases e2:ZaQ xs r.to with
   | none=>rfl
   | some y=>have:=ZaM e2;exact absurd this.2 (hno y this.1)
  rw [hn];exact Zbw hasc ((hmem r).2 (.inr rfl))
 ·rw [if_neg e]
  cases e2:ZaQ xs to with
  | none=>
   cases e3:ZaQ (xs.take i++[r]++xs.drop i) to with
   | none=>rfl
   | some y=>
    have h7:=ZaM e3
    rcases (hmem y).1 h7.1 with h8 | h8
    ·exact absurd h7.2 (Zdk e2 y h8)
    ·exact absurd (by rw [<-h7.2,h8]) e
  | some y=>
   have h7:=ZaM e2;have:=Zbw hasc ((hmem y).2 (.inl h7.1));rw [h7.2] at this;exact this
theorem Zpe {xs:List WayD}{r x y:WayD}{i:Nat}(h:AscW xs)(hx:xs[i]? = some x)(he:x.to=r.to)(tog:WayD->WayD->WayD)(hy:y=tog x r)(hyt:y.to=x.to):
  AscW (xs.set i y)/\∀ to,ZaQ (xs.set i y) to=if to=r.to then Zel tog (ZaQ xs to) (some r) else ZaQ xs to:=by
 obtain⟨hi,e1⟩:=List.getElem?_eq_some_iff.1 hx;have hasc:AscW (xs.set i y):=by
  unfold AscW at h |-;rw [List.pairwise_iff_getElem] at h |-;intro a b ha hb hab;simp only [List.length_set] at ha hb
  have hab2:=h a b ha hb hab;rw [List.getElem_set,List.getElem_set];by_cases ea:i=a
  ·subst ea
   rw [if_pos rfl,if_neg (by omega),hyt, <-e1]
   exact hab2
  ·rw [if_neg ea]
   by_cases eb:i=b
   ·subst eb
    rw [if_pos rfl,hyt, <-e1];exact hab2
   ·rw [if_neg eb]
    exact hab2
 have hxm:x∈xs:=List.mem_of_getElem? hx;have hym:y∈xs.set i y:=List.mem_iff_getElem?.2 ⟨i,List.getElem?_set_self hi⟩;have hoth:∀ z,z.to≠x.to->(z∈xs.set i y↔z∈xs):=by
  intro z hz
  constructor
  ·intro hm
   rcases List.mem_or_eq_of_mem_set hm with h5 | h5
   ·exact h5
   ·subst h5;exact absurd hyt hz
  ·intro hm
   obtain⟨j,hj,e⟩:=List.getElem_of_mem hm;have hji:j≠i:=fun e2=>by subst e2;rw [e1] at e;exact hz (by rw [e])
   exact List.mem_iff_getElem?.2 ⟨j,by rw [List.getElem?_set_ne (Ne.symm hji),List.getElem?_eq_getElem hj,e]⟩
 refine⟨hasc,fun to=>?_⟩
 by_cases e:to=r.to
 ·rw [if_pos e]
  have hf:ZaQ xs to=some x:=by rw [e, <-he];exact Zbw h hxm
  rw [hf]
  show _=some (tog x r)
  rw [<-hy];have:=Zbw hasc hym;rw [hyt,he, <-e] at this;exact this
 ·rw [if_neg e]
  have ene:to≠x.to:=by rw [he];exact e
  cases e2:ZaQ xs to with
  | none=>
   cases e3:ZaQ (xs.set i y) to with
   | none=>rfl
   | some z=>
    have h7:=ZaM e3;exact absurd h7.2 (Zdk e2 z ((hoth z (by rw [h7.2];exact ene)).1 h7.1))
  | some z=>
   have h7:=ZaM e2;have:=Zbw hasc ((hoth z (by rw [h7.2];exact ene)).2 h7.1)
   rw [h7.2] at this;exact this
theorem Zpm (x y:WayD)(h:x.to=y.to):(togI x y).to=x.to:=by
 unfold togI
 split
 ·rfl
 ·split
  ·exact h.symm
  ·rfl
def PutD (ds:List WayD)(r:WayD)(es:List WayD):Prop:=AscW es/\∀ to,ZaQ es to=if to=r.to then Zel togI (ZaQ ds to) (some r) else ZaQ ds to
def Zes (B:Nat)(ps:List WP)(r:WP)(qs:List WP):Prop:=∀ q∈qs,(∃ p∈ps,q.2=p.2)\/q.2=r.2\/∀ k,q.2.ownBlock=some k->B<=k
theorem ZjB (B:Nat)(ps:List WP)(r:WP)(i:Nat):Zes B ps r (ps.take i++[r]++ps.drop i):=by
 intro q hq
 rcases List.mem_append.1 hq with h1 | h1
 ·rcases List.mem_append.1 h1 with h2 | h2
  ·exact .inl ⟨q,List.mem_of_mem_take h2,rfl⟩
  ·have:q=r:=by simpa using h2
   subst this;exact .inr (.inl rfl)
 ·exact .inl ⟨q,List.mem_of_mem_drop h1,rfl⟩
theorem ZjC (B:Nat)(ps:List WP)(r q0:WP)(i:Nat)(h:∀ k,q0.2.ownBlock=some k->B<=k):Zes B ps r (ps.set i q0):=by
 intro q hq
 rcases List.mem_or_eq_of_mem_set hq with h1 | h1
 ·exact .inl ⟨q,h1,rfl⟩
 ·subst h1;exact .inr (.inr h)
theorem Zgg {B:Nat}{w W:World}(h:Below B w W)(hB:w.heap.size<=B)(row:Option Nat):w.grownBy W row:=⟨h.os,h.tape,h.output,h.size,fun k hk _=>h.block k (by omega)⟩
theorem Zhw (v:Value)(ps:List WP)(lo:Nat)(r:WP)(w:World)(hv:WaysOwn w lo w.heap.size v ps)(hlo:lo<=w.heap.size)(hn:ps.length<=1000)(hsh:∀ p∈ps,p.1.hops.length<=1000)(hrl:r.1.hops.length<=1000)(hasc:AscW (Zag ps))(hr:Zbu w lo w.heap.size r)(hap:∀ p∈ps,ZcB p r):
  Calls Tryz.prog 40 #[v,.agg (wayC r.1 r.2)] w fun e w'=>∃ x qs,e=.returned x/\PutD (Zag ps) r.1 (Zag qs)/\WaysOwn w' lo w'.heap.size x qs/\Zes w.heap.size ps r qs/\(∀ k,x.ownBlock=some k->v.ownBlock=some k\/w.heap.size<=k)/\w.grownBy w' v.ownBlock:=by
 have hfl:(Zag ps).length=ps.length:=by simp [Zag]
 obtain⟨a1,vc,hve⟩:=Zac hv.row;obtain⟨ra,rc,hrn⟩:=Zac hr.1;have BX:Below w.heap.size w (w.alloc (.cells #[.int .i64 r.1.to,.int .i64 r.1.cost,.slice ra r.1.hops.length rc] 48)):=(Below.refl _ _).alloc (Nat.le_refl _) _;have hx:=heap_alloc_new w (.cells #[.int .i64 r.1.to,.int .i64 r.1.cost,.slice ra r.1.hops.length rc] 48);obtain⟨w0,hw0⟩:∃ w0,w0=w.alloc (.cells #[.int .i64 r.1.to,.int .i64 r.1.cost,.slice ra r.1.hops.length rc] 48):=⟨_,rfl⟩;rw [<-hw0] at BX hx;have hs0:=Zab hx;have hv0:=hv.below BX (Nat.le_refl _);have hr0:=hr.keep (W':=w0) (fun k _ _ h3=>BX.block k h3)
 have HS:=Zj3 v ps w.heap.size r w0 hv0.at BX.size (by omega) ⟨ra,rc,hrn⟩ (by rw [<-hfl];exact ZlP hasc r.1)
 have d0:=Zaa hx 0;have d1:=Zaa hx 1;have d2:=Zaa hx 2;simp at d0 d1 d2
 have HV:=hide hv0;have HR:=hide hr0;have HA:=hide hasc;have HP:=hide hap;have HFL:=hide hfl;have HRN:=hide hrn;have HSH:=hide hsh;unfold wayC at *;rw [hrn] at HS |-;subst hve;have HSS:=hide HS;clear HS hv0 hr0 hasc hap hr hrn hv hfl hsh
 go_enter Tryz.func40,Tryz.ntmps40
 go_wp2_with fail
 rw [<-hw0];clear hw0;refine HSS.out.mono ?_
 rintro e w1 ⟨i,f,rfl,hil,q1,q2,q3,b1⟩;have b1s:=b1.size;have hx1:=(b1.block _ hs0).trans hx;have B1:Below w.heap.size w w1:=BX.trans (b1.mono BX.size);have hv1:=(HV.out.below b1 (by omega)).wide (Nat.le_refl _) (show w.heap.size<=w1.heap.size by omega)
 have hr1:=((HR.out).keep (W':=w1) (fun k _ _ h3=>b1.block k h3)).wide (Nat.le_refl _) (show w.heap.size<=w1.heap.size by omega)
 have Q1:=hide q1;have Q2:=hide q2;have Q3:=hide q3;clear q1 q2 q3 d0 d1 d2 hx b1;have d0:=Zaa hx1 0;have d1:=Zaa hx1 1;have d2:=Zaa hx1 2;simp at d0 d1 d2
 have hii:(0:Int)<=(i:Int):=by omega
 cases f with
 | true=>
  have hil2:i<ps.length:=by
   obtain⟨x,hx,_⟩:=Q3.out.1 rfl;have:=(List.getElem?_eq_some_iff.1 hx).1;rw [HFL.out] at this;exact this
  have hij:(i:Int)<(ps.length:Int):=by omega
  obtain⟨p,hp⟩:∃ p,ps[i]? = some p:=⟨ps[i],List.getElem?_eq_getElem hil2⟩
  rcases hv1.row.2 with ⟨_,h0⟩ | ⟨g,cap,cur,hve,_⟩
  ·omega
  ·cases hve
   have hpo:=hv1.nears p (List.mem_of_getElem? hp);obtain⟨pa,pc,hpn⟩:=Zac hpo.1;obtain⟨b,off,cp,hve,hbb,c0,c1,c2,_⟩:=hv1.at.cells i p hp;cases hve
   rw [hpn] at c2;simp only [Nat.zero_add] at c0 c1 c2
   have hgl:=hv1.row.lt g rfl;have hgw:g<w.heap.size:=HV.out.top g rfl;have HTG:=Zkp p.1 r.1 p.2 r.2 lo lo w1.drew (Zaf hpo.1 (Below.refl w1.heap.size w1).drew (Nat.le_refl _)) (Zaf hr1.1 (Below.refl w1.heap.size w1).drew (Nat.le_refl _)) (by have:=HSH.out p (List.mem_of_getElem? hp);omega) (by omega)
   rw [hpn,HRN.out] at HTG;unfold wayC at HTG;obtain⟨q,hq⟩:∃ q,q=togI p.1 r.1:=⟨_,rfl⟩;rw [<-hq] at HTG;have hpe:p.1.to=r.1.to:=by
    obtain⟨x,hx,h0⟩:=Q3.out.1 rfl;rw [ZcH hp] at hx;cases hx
    exact h0
   have hfin:∀ (W:World) (u:Value),W.ownsRow w1.heap.size 3 1 u q.hops.length (flat intE q.hops)->Below w1.heap.size w1 W->∃ qs,PutD (Zag ps) r.1 (Zag qs)/\WaysOwn (putW W g (i*3) (q,u)) lo (putW W g (i*3) (q,u)).heap.size (.slice (some ⟨g,0,none⟩) ps.length vc) qs/\Zes w.heap.size ps r qs/\w.grownBy (putW W g (i*3) (q,u)) (some g):=by
    intro W u hu hb;have hvW:=(hv1.below hb (Nat.le_refl _)).wide (Nat.le_refl _) hb.size;have hnew:Zbu W lo W.heap.size (q,u):=⟨Zah hu (by omega),fun k hk=>(hu.lt k hk).2⟩
    have hapn:∀ p'∈ps,ZcB p' (q,u):=fun p' hp' k hk he=>by
     have h1:=(hv1.nears p' hp').2 k hk;have h2:=(hu.lt k he).1;omega
    refine⟨ps.set i (q,u),?_,hvW.put rfl hnew hapn hil2,ZjC _ _ _ _ _ (fun k hk=>by have:=(hu.lt k hk).1;omega),?_⟩
    ·rw [Zl8]
     exact Zpe HA.out (ZcH hp) hpe togI hq (by rw [hq];exact Zpm _ _ hpe)
    ·exact Zai (Zgg (B1.trans (hb.mono (by omega))) (Nat.le_refl _) _) (Zhv W g (i*3) (q,u))
   have HFIN:=hide hfin;have HT:=hide HTG;have HV1:=hide hv1;have BD:Below w1.heap.size w1 w1.drew:=(Below.refl _ _).drew;rw [<-BD.cell (p:=⟨g,i*3,none⟩) (by exact hgl.2)] at c0
   rw [<-BD.cell (p:=⟨g,i*3+1,none⟩) (by exact hgl.2)] at c1
   rw [<-BD.cell (p:=⟨g,i*3+2,none⟩) (by exact hgl.2)] at c2
   rw [<-BD.cell (p:=⟨w.heap.size,0,none⟩) (by show w.heap.size<w1.heap.size;omega)] at d0
   rw [<-BD.cell (p:=⟨w.heap.size,1,none⟩) (by show w.heap.size<w1.heap.size;omega)] at d1
   rw [<-BD.cell (p:=⟨w.heap.size,2,none⟩) (by show w.heap.size<w1.heap.size;omega)] at d2
   clear hfin HTG hv1 hr1 hpo hpn hp hq hpe HA HP
   go_wp2_with fail
   refine wp_region_noPanic ?_
   refine Zaj (S:=fun _=>True) (by kernel_rfl) 10 rfl trivial ?_
   intro ops hops _;refine Zoi _ _ _ _ _ _ _ _ _ _ _ _ _ _ _ _ _ _ _ _ _ _ _ _ _ _ w1.drew g ps.length vc i w.heap.size p.1 r.1 q pa ra p.1.hops.length pc r.1.hops.length rc (fun W u=>∃ l,W.ownsRow w1.heap.size 3 1 u l (flat intE q.hops)/\l=q.hops.length/\Below w1.heap.size w1 W) _ ops hops (fun _ _ _ _ h=>h) hii hij c0 c1 c2 d0 d1 d2 (hide (HT.out.mono ?_)) ?_ ?_ ?_
   ·rintro e w2 ⟨u,rfl,hu,hb⟩
    obtain⟨ua,uc,rfl⟩:=Zac hu;exact⟨ua,q.hops.length,uc,rfl,_,hu,rfl,BD.trans hb⟩
   ·rintro W u ⟨l,hu,hl,hb⟩
    have hvW:=HV1.out.below hb (Nat.le_refl _);obtain⟨y0,f0⟩:=ZbZ hvW.row (i*3) (by omega)
    obtain⟨y1,f1⟩:=ZbZ hvW.row (i*3+1) (by omega)
    obtain⟨y2,f2⟩:=ZbZ hvW.row (i*3+2) (by omega)
    exact⟨y0,y1,y2,f0,f1,f2⟩
   ·rintro W u ⟨l,hu,hl,hb⟩ j
    exact (HV1.out.below hb (Nat.le_refl _)).row.frozenAt j
   ·rintro W ua ul uc ⟨l,hu,hl,hb⟩
    refine NoPanic.normal ?_
    subst hl;obtain⟨qs,h1,h2,h3,h4⟩:=HFIN.out W _ hu hb;have H1:=hide h1;have H2:=hide h2;have H3:=hide h3;have H4:=hide h4;clear h1 h2 h3 h4 hu hb hops ops HFIN HT HV1
    go_wp2
    go_ret
    first
     | exact ⟨_,qs,rfl,H1.out,H2.out,H3.out,fun k hk=>.inl hk,H4.out⟩
     | exact ⟨_,rfl,qs,H1.out,H2.out,H3.out,fun k hk=>.inl hk,H4.out⟩
 | false=>
  have hl:PutD (Zag ps) r.1 (Zag (ps.take i++[r]++ps.drop i)):=by
   rw [Zl7];exact Zpd HA.out (by rw [HFL.out];exact hil) Q1.out (by rw [HFL.out];exact Q2.out) (fun h=>by have:=Q3.out.2 h;cases this) togI
  have HL:=hide hl;clear hl;have BY:Below w1.heap.size w1 (w1.alloc (.cells #[.int .i64 r.1.to,.int .i64 r.1.cost,.slice ra r.1.hops.length rc] 48)):=(Below.refl _ _).alloc (Nat.le_refl _) _;have hy:=heap_alloc_new w1 (.cells #[.int .i64 r.1.to,.int .i64 r.1.cost,.slice ra r.1.hops.length rc] 48);obtain⟨w2,hw2⟩:∃ w2,w2=w1.alloc (.cells #[.int .i64 r.1.to,.int .i64 r.1.cost,.slice ra r.1.hops.length rc] 48):=⟨_,rfl⟩;rw [<-hw2] at BY hy;have hv2:=(hv1.below BY (Nat.le_refl _)).wide (Nat.le_refl _) BY.size;have hr2:=(hr1.keep (W':=w2) (fun k _ _ h3=>BY.block k h3)).wide (Nat.le_refl _) BY.size
  have HI:=ZjM lo i w1.heap.size _ ps r w2 hv2 (by have:=BY.size;omega) hil (by omega) (by
   rw [hy];unfold encW;rw [HRN.out]) (fun e=>by
    have h6:=hv1.top _ e.symm;omega) (Zmf hr2)
  have HII:=hide HI;have HV2:=hide hv2;have HR2:=hide hr2;have B2:Below w.heap.size w w2:=B1.trans (BY.mono (by omega))
  have hb2:=BY.size;clear HI hv1 hr1 hv2 hr2
  go_wp2_with fail
  rw [<-hw2];clear hw2;refine HII.out.mono ?_
  rintro e w3 ⟨x,rfl,hrow,hg,hblk⟩;have hfin:=HV2.out.ins HR2.out HP.out hil hrow hg;have hB:=Zai (Zgg B2 (Nat.le_refl _) _) hg;have hbk:∀ k,x.ownBlock=some k->(Value.slice a1 ps.length vc).ownBlock=some k\/w.heap.size<=k:=fun k hk=>by
   rcases hblk with h1 | h1
   ·exact .inl (by rw [<-h1];exact hk)
   ·right
    rw [h1] at hk;cases hk
    omega
  obtain⟨xa,xc,rfl⟩:=Zac hrow;have HF:=hide hfin;have HB:=hide hB;have HK:=hide hbk;have HFR:=hide (ZjB w.heap.size ps r i);clear hfin hB hrow hg hbk hblk
  go_wp2
  go_ret
  first
   | exact ⟨_,_,rfl,HL.out,HF.out,HFR.out,HK.out,HB.out⟩
   | exact ⟨_,rfl,_,HL.out,HF.out,HFR.out,HK.out,HB.out⟩
end Go.Proofs.YtgdgkgmjpnbbcaaGreat
namespace Go.Proofs.YtgdgkgmjpnbbcaaGreat
open Go.RowKit

structure PutSt (W:World) (lo loR hiR loW hiW:Nat) (S:Int->WayD->Prop) (x:Value) (qs:List WP) (u:Value) (ws:List WP) (j:Nat):Prop where
 own:WaysOwn W lo W.heap.size x qs
 best:Zay S (Zag qs)
 offR:Off x loR hiR
 offW:Off x loW hiW
 from_:WaysOwn W loW hiW u ws
 lw:lo<=loW
 wide:loW<=hiW
 hW:hiW<=W.heap.size
 hR:hiR<=loW
 apart:∀ p∈qs,∀ q∈ws.drop j,ZcB p q

section
variable {W:World} {lo loR hiR loW hiW:Nat} {S:Int->WayD->Prop} {x u:Value} {qs ws:List WP} {j:Nat}

theorem PutSt.below {W':World}(h:PutSt W lo loR hiR loW hiW S x qs u ws j)(hb:Below W.heap.size W W'):PutSt W' lo loR hiR loW hiW S x qs u ws j:=
 {h with
  own:=(h.own.below hb (Nat.le_refl _)).wide (Nat.le_refl _) hb.size
  from_:=h.from_.below hb h.hW
  hW:=Nat.le_trans h.hW hb.size }

theorem PutSt.hop (h:PutSt W lo loR hiR loW hiW S x qs u ws j){r:WP}(hr:ws[j]? = some r):Zbu W lo W.heap.size r:=(h.from_.nears r (List.mem_of_getElem? hr)).wide h.lw h.hW

theorem ZeX {r:WP}(hr:ws[j]? = some r):ws.drop j=r::ws.drop (j+1):=by
 obtain⟨h1,e1⟩:=List.getElem?_eq_some_iff.1 hr;rw [List.drop_eq_getElem_cons h1,e1]

theorem PutSt.apartR (h:PutSt W lo loR hiR loW hiW S x qs u ws j){r:WP}(hr:ws[j]? = some r):∀ p∈qs,ZcB p r:=fun p hp=>h.apart p hp r (by rw [ZeX hr];exact List.mem_cons_self)

theorem PutSt.good (h:PutSt W lo loR hiR loW hiW S x qs u ws j)(hS:∀ to w,S to w->GoodW w/\w.to=to):qs.length<=6/\∀ p∈qs,p.1.hops.length<=6:=by
 have hg:=h.best.good hS;refine⟨?_,fun p hp=>(hg p.1 (by simp only [Zag,List.mem_map];exact⟨p,hp,rfl⟩)).len⟩
 have:=Zci h.best.1 (fun w hw=>(hg w hw).node)
 simpa [Zag] using this

theorem PutSt.pass (h:PutSt W lo loR hiR loW hiW S x qs u ws j){r:WP}(hr:ws[j]? = some r){T:Int->WayD->Prop}(hT:∀ to w,S to w↔T to w):PutSt W lo loR hiR loW hiW T x qs u ws (j+1):=
 {h with
  best:=h.best.congr hT
  apart:=fun p hp q hq=>h.apart p hp q (by rw [ZeX hr];exact List.mem_cons_of_mem _ hq) }

theorem PutSt.put {W':World}{x':Value}{qs':List WP}(h:PutSt W lo loR hiR loW hiW S x qs u ws j){r:WP}(hr:ws[j]? = some r)(hS:∀ to w,S to w->GoodW w/\w.to=to)(hg:GoodW r.1){T:Int->WayD->Prop}(hT:∀ to w,(S to w\/(w=r.1/\r.1.to=to))↔T to w)
  (hp:PutD (Zag qs) r.1 (Zag qs')) (ho:WaysOwn W' lo W'.heap.size x' qs') (hf:Zes W.heap.size qs r qs') (hn:∀ b,x'.ownBlock=some b->x.ownBlock=some b\/W.heap.size<=b) (hgr:W.grownBy W' x.ownBlock):PutSt W' lo loR hiR loW hiW T x' qs' u ws (j+1) where
 own:=ho
 best:=(h.best.put Zih hS hg hp.1 hp.2).congr hT
 offR:=h.offR.next hn (by have:=h.hR;have:=h.wide;have:=h.hW;omega)
 offW:=h.offW.next hn h.hW
 from_:=h.from_.keep (h.offW.kept hgr)
 lw:=h.lw
 wide:=h.wide
 hW:=Nat.le_trans h.hW hgr.size
 hR:=h.hR
 apart:=by
  intro p hp q hq;have hq':q∈ws.drop j:=by rw [ZeX hr];exact List.mem_cons_of_mem _ hq
  rcases hf p hp with ⟨p',hp',e⟩ | e | e
  ·have h1:=h.apart p' hp' q hq'
   intro k hk;rw [e] at hk;exact h1 k hk
  ·intro k hk
   rw [e] at hk;have hpw:=h.from_.apart;rw [<-List.take_append_drop j ws,List.pairwise_append] at hpw;have h2:=hpw.2.1;rw [ZeX hr] at h2;exact (List.pairwise_cons.1 h2).1 q hq k hk
  ·intro k hk he
   have h1:=e k hk;have h2:=(h.from_.nears q (List.mem_of_mem_drop hq')).2 k he;have:=h.hW;omega

theorem PutSt.start {W0:World}(ho:WaysOwn W0 lo W0.heap.size x qs)(hb:Zay S (Zag qs))(hoff:Off x loR hiR)(hR:hiR<=W0.heap.size)(hlo:lo<=W0.heap.size)(hbl:Below W0.heap.size W0 W)(hf:WaysOwn W W0.heap.size W.heap.size u ws):PutSt W lo loR hiR W0.heap.size W.heap.size S x qs u ws 0 where
 own:=(ho.below hbl (Nat.le_refl _)).wide (Nat.le_refl _) hbl.size
 best:=hb
 offR:=hoff
 offW:=fun b hx=>.inl (ho.top b hx)
 from_:=hf
 lw:=hlo
 wide:=hbl.size
 hW:=Nat.le_refl _
 hR:=hR
 apart:=by
  intro p hp q hq k hk he;have h1:=(ho.nears p hp).2 k hk;have h2:=((hf.nears q (List.mem_of_mem_drop hq)).1.lt k he).1;omega
end
end Go.Proofs.YtgdgkgmjpnbbcaaGreat
namespace Go.Proofs.YtgdgkgmjpnbbcaaGreat
open Go.RowKit
set_option linter.unusedSimpArgs false
set_option linter.unusedVariables false
set_option maxRecDepth 100000
set_option maxHeartbeats 8000000
theorem Zmt (W:World)(lo:Nat)(hb:lo<=W.heap.size):WaysOwn (W.alloc (.cells #[] 48)) lo (W.alloc (.cells #[] 48)).heap.size (.slice (some ⟨W.heap.size,0,none⟩) 0 0) []:=Zfm W lo hb
theorem ZdC (v u:Value)(ps:List RP)(al:List Int)(hi:Nat)(src:Int)(w:World)(hv:RecsIn w hi v ps)(ha:ZaP w u al hi)(hhi:hi<=w.heap.size)(hn:tot ps<=1048576)(hal:al.length<=1048576):
  Calls Tryz.prog 12 #[v,u,.int .i64 src] w fun e w'=>∃ x qs,e=.returned x/\Zay (Zau (fsts ps) al src) (Zag qs)/\WaysOwn w' w.heap.size w'.heap.size x qs/\Below w.heap.size w w':=by
 obtain⟨a1,c1,rfl⟩:=Zac hv.row;obtain⟨a2,c2,rfl⟩:=ha.shape;have BX:Below w.heap.size w (w.alloc (.cells #[] 48)):=(Below.refl _ _).alloc (Nat.le_refl _) _;have LIT:=Zmt w w.heap.size (Nat.le_refl _);have hs0:(w.alloc (.cells #[] 48)).heap.size=w.heap.size+1:=by simp
 obtain⟨w0,hw0⟩:∃ W,W=w.alloc (.cells #[] 48):=⟨_,rfl⟩;rw [<-hw0] at BX LIT hs0;have HRE:=hide (ZkI (.slice a2 al.length c2) al hi w0 hal (ZaR.later ha BX hhi) (by omega))
 have HWI:=hide (fun area W (hb:Below w.heap.size w W)=>Zey (.slice a1 ps.length c1) ps hi area src W (hv.below hb hhi) (Nat.le_trans hhi hb.size) hn)
 clear hv ha;have HLIT:=hide LIT;clear LIT;obtain⟨L,hL⟩:∃ L,L=Zc2 al 3:=⟨_,rfl⟩;have hLl:L.length<=3:=by rw [hL];exact Zd0 al 3
 have HFIN:=hide (show ∀ to d,Zau (fsts ps) L src to d↔Zau (fsts ps) al src to d from fun to d=>Zip (fun a h1 h2=>by rw [hL,ZgJ];exact⟨fun h=>h.1,fun h=>⟨h,h1,h2⟩⟩) to d)
 rw [<-hL] at HRE;clear hL
 go_enter Tryz.func12,Tryz.ntmps12
 go_wp2_with fail
 rw [<-hw0];clear hw0;refine HRE.out.mono ?_
 rintro e w1 ⟨ra,rfl,hra,b1⟩;obtain⟨raa,rac,rfl⟩:=Zac hra.row;have b1s:=b1.size;have B1:Below w.heap.size w w1:=BX.trans (b1.mono BX.size);have HO1:=hide ((HLIT.out.below b1 (Nat.le_refl _)).wide (Nat.le_refl _) b1s);have HRA:=hide hra;clear hra HLIT HRE b1
 go_wp2
 go_loopw [16,7] (fun i o wr=>∃ (k:Nat) (x:Value) (qs:List WP),k<=L.length/\i=.int .i64 (k:Int)/\o=x/\WaysOwn wr w.heap.size wr.heap.size x qs/\Hid (Zay (Zau (fsts ps) (L.take k) src) (Zag qs))/\Off x w0.heap.size w1.heap.size/\IntsOwn wr w0.heap.size w1.heap.size (.slice raa L.length rac) L/\Below w.heap.size w wr/\w1.heap.size<=wr.heap.size) (fun i _ _=>L.length-(intOf i).toNat)
 case atStart=>exact ⟨0,_,[],by omega,rfl,rfl,HO1.out,hide (Zb2 (fun to d ⟨_,a,h,_⟩=>by simp at h)),fun b hb=>by simp [Value.ownBlock] at hb;omega,HRA.out,B1,Nat.le_refl _⟩
 case round=>
  obtain⟨k,x,qs,hk,rfl,rfl,hown,HB,hoff,hra,hnx,hsz⟩:=hrel;clear HO1 HRA;obtain⟨xa,xc,rfl⟩:=Zac hown.row
  rename World=>wa
  by_cases hlt:k<L.length
  ·obtain ⟨area,har⟩:∃ a,L[k]? = some a:=⟨L[k],List.getElem?_eq_getElem hlt⟩
   obtain⟨b,off,cap',hve,hbb,c0⟩:=hra.at.cell k area har;cases hve
   have hki:(0:Int)<=(k:Int):=by omega
   have hkj:(k:Int)<(L.length:Int):=by omega
   have HOWN:=hide hown;have HOFF:=hide hoff;have HRA:=hide hra;have HAR:=hide har;clear hown hoff hra har
   go_wp2_with fail
   refine (HWI.out area _ hnx).mono ?_
   rintro e w2 ⟨uw,ws,rfl,hws,how,b2⟩;obtain⟨wsa,wsc,rfl⟩:=Zac how.row;have hwl:=(ZbA (fsts ps) area src);have hwe:=hws.eq;have hwn:ws.length<=6:=by
    have:=Zci hwl.1 (fun d hd=>(hwl.2 d hd).1.node)
    rw [<-hwe] at this
    simpa [Zag] using this
   have hb2:=b2.size;have ST0:=PutSt.start HOWN.out HB.out HOFF.out hsz hnx.size b2 how;have RA2:=HRA.out.below b2 hsz;have B2:Below w.heap.size w w2:=hnx.trans (b2.mono hnx.size);have HWE:=hide hwe;have HST0:=hide ST0;have HRA2:=hide RA2;clear hws how hwe hwl ST0 RA2 HOWN HOFF HRA HB b2
   go_wp2
   go_loopw [25,7] (fun i o wr=>∃ (j:Nat) (x:Value) (qs:List WP),j<=ws.length/\i=.int .i64 (j:Int)/\o=x/\PutSt wr w.heap.size w0.heap.size w1.heap.size wa.heap.size w2.heap.size (fun to d=>Zau (fsts ps) (L.take k) src to d\/(d.to=to/\d∈(Zag ws).take j)) x qs (.slice wsa ws.length wsc) ws j/\IntsOwn wr w0.heap.size w1.heap.size (.slice (some ⟨b,off,none⟩) L.length rac) L/\Below w.heap.size w wr/\w2.heap.size<=wr.heap.size) (fun i _ _=>ws.length-(intOf i).toNat)
   case atStart=>exact ⟨0,_,qs,by omega,rfl,rfl, { HST0.out with best:=HST0.out.best.congr (fun to d=>⟨.inl,by rintro (h | ⟨_,h⟩);exact h;simp at h⟩) },HRA2.out,B2,Nat.le_refl _⟩
   case round=>
    obtain⟨j,y,qs2,hj,rfl,rfl,st,hra2,hnx2,hsz2⟩:=hrel;clear HST0 HRA2 B2;obtain⟨ya,yc,rfl⟩:=Zac st.own.row;have hS:∀ to d,(Zau (fsts ps) (L.take k) src to d\/(d.to=to/\d∈(Zag ws).take j))->GoodW d/\d.to=to:=by
     rintro to d (h | ⟨h1,h2⟩)
     ·exact ZaI h
     ·exact ⟨((ZbA (fsts ps) area src).2 d (by rw [<-HWE.out];exact List.mem_of_mem_take h2)).1,h1⟩
    by_cases hjl:j<ws.length
    ·obtain ⟨r,hr⟩:∃ r,ws[j]? = some r:=⟨ws[j],List.getElem?_eq_getElem hjl⟩
     obtain⟨b3,off3,cp3,hve,hbb3,c0,c1,c2,_⟩:=st.from_.at.cells j r hr;cases hve
     have hgr:GoodW r.1:=((ZbA (fsts ps) area src).2 r.1 (by rw [<-HWE.out];simp only [Zag,List.mem_map];exact⟨r,List.mem_of_getElem? hr,rfl⟩)).1
     have hji:(0:Int)<=(j:Int):=by omega
     have hjj:(j:Int)<(ws.length:Int):=by omega
     obtain⟨rra,rrc,hrn⟩:=Zac (st.from_.nears r (List.mem_of_getElem? hr)).1;rw [hrn] at c2;have hgd:=st.good hS;have hT:∀ to d,((Zau (fsts ps) (L.take k) src to d\/(d.to=to/\d∈(Zag ws).take j))\/(d=r.1/\r.1.to=to))↔(Zau (fsts ps) (L.take k) src to d\/(d.to=to/\d∈(Zag ws).take (j+1))):=by
      intro to d;rw [Zbs (ZcH hr)]
      constructor
      ·rintro ((h | ⟨h1,h2⟩) | ⟨h1,h2⟩)
       ·exact .inl h
       ·exact .inr ⟨h1,.inl h2⟩
       ·exact .inr ⟨by rw [h1];exact h2,.inr h1⟩
      ·rintro (h | ⟨h1,h2 | h2⟩)
       ·exact .inl (.inl h)
       ·exact .inl (.inr ⟨h1,h2⟩)
       ·exact .inr ⟨h2,by rw [<-h2];exact h1⟩
     have BA:Below wr.heap.size wr (wr.alloc (.cells #[.int .i64 r.1.to,.int .i64 r.1.cost,.slice rra r.1.hops.length rrc] 48)):=(Below.refl _ _).alloc (Nat.le_refl _) _;obtain⟨w3,hw3⟩:∃ W,W=wr.alloc (.cells #[.int .i64 r.1.to,.int .i64 r.1.cost,.slice rra r.1.hops.length rrc] 48):=⟨_,rfl⟩;rw [<-hw3] at BA;have st3:=st.below BA;have ra3:=hra2.below BA (by omega)
     have B3:Below w.heap.size w w3:=hnx2.trans (BA.mono hnx2.size);have hs3:=BA.size;have HPW:=Zhw (.slice ya qs2.length yc) qs2 w.heap.size r w3 st3.own B3.size (by omega) (fun p hp=>by have:=hgd.2 p hp;omega) (by have:=hgr.len;omega) st3.best.1 (st3.hop hr) (st3.apartR hr)
     unfold wayC at HPW;rw [hrn] at HPW;have HNX:=hide (fun (W':World) (x':Value) (qs':List WP) (hp:PutD (Zag qs2) r.1 (Zag qs')) (ho:WaysOwn W' w.heap.size W'.heap.size x' qs') (hf:Zes w3.heap.size qs2 r qs') hn (hg:w3.grownBy W' (Value.slice ya qs2.length yc).ownBlock)=>(⟨st3.put hr hS hgr hT hp ho hf hn hg,ra3.keep (st3.offR.kept hg),B3.grown hg B3.size (fun b hb=>(st3.own.row.lt b hb).1),hg.size⟩:_/\_/\_/\_))
     have HP:=hide HPW;clear HPW hgd hT hS hr hrn st st3 hra2 ra3 hgr
     go_wp2_with fail
     rw [<-hw3];clear hw3;refine HP.out.mono ?_
     rintro e w4 ⟨x',qs',rfl,hp,ho,hf,hn',hg⟩;obtain⟨n1,n2,n3,n4⟩:=HNX.out w4 x' qs' hp ho hf hn' hg;obtain⟨x'a,x'c,rfl⟩:=Zac ho.row;have N1:=hide n1;have N2:=hide n2;have N3:=hide n3;clear n1 n2 n3 hp ho hf hn' hg HNX HP
     go_wp2
     go_roundw
     case rel=>exact ⟨j+1,_,qs',by omega,by go_num,rfl,N1.out,N2.out,N3.out,by omega⟩
     case measure=>simp [intOf];omega
    ·have hjn:¬(j:Int)<(ws.length:Int):=by omega
     have HBX:=hide (show Zay (Zau (fsts ps) (L.take (k+1)) src) (Zag qs2) from st.best.congr (fun to d=>by
      rw [Zd6 HAR.out,show (Zag ws).take j=Zag ws from List.take_of_length_le (by simp [Zag];omega),HWE.out]))
     have HOX:=hide st.own;have HFX:=hide st.offR;have HRX:=hide hra2;have HNX:=hide hnx2;have hsf:w1.heap.size<=wr.heap.size:=by omega
     clear st hra2 hnx2 hS
     go_wp2
     go_roundw
     case rel=>exact ⟨k+1,_,qs2,by omega,by go_num,rfl,HOX.out,HBX,HFX.out,HRX.out,HNX.out,hsf⟩
     case measure=>simp [intOf];omega
  ·have hkn:¬(k:Int)<(L.length:Int):=by omega
   have HE:=hide (show Zay (Zau (fsts ps) al src) (Zag qs) from by
    have h:=HB.out;rw [List.take_of_length_le (by omega)] at h
    exact h.congr HFIN.out)
   have HO:=hide hown;have HN:=hide hnx;clear hown hnx HB hoff hra
   go_wp2
   go_ret
   first
    | exact ⟨_,qs,rfl,HE.out,HO.out,HN.out⟩
    | exact ⟨_,rfl,qs,HE.out,HO.out,HN.out⟩
end Go.Proofs.YtgdgkgmjpnbbcaaGreat
