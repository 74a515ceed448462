/-
  WithM BeyM TellM BeyDag PushW AppAt
-/
import Derived.Test.YtcimbiinljcifaaGreatLn24
import Derived.Test.YtcimbiinljcifaaGreatLn19
import Derived.Test.YtcimbiinljcifaaGreatLn3
import Derived.Test.YtcimbiinljcifaaGreatLn13
import Derived.Test.YtcimbiinljcifaaGreatLn7
import Derived.Maps.AppendAt
namespace Go.Proofs.YtcimbiinljcifaaGreat
open Go.RowKit
set_option linter.unusedSimpArgs false
set_option linter.unusedVariables false
set_option maxRecDepth 100000
set_option maxHeartbeats 8000000
def ZaS (xs:List RecD)(al:List Int)(src:Int)(to:Int)(w:WayD):Prop:=w.to=to/\∃ a∈al,w∈Zcb xs a src
theorem Zbk {xs:List RecD}{al:List Int}{src to:Int}{w:WayD}(h:ZaS xs al src to w):GoodW w/\w.to=to:=by
 obtain⟨h1,a,_,h2⟩:=h;exact⟨((Zcs xs a src).2 w h2).1,h1⟩
theorem Zeu {xs:List RecD}{a src:Int}{w:WayD}(h:w∈Zcb xs a src):Zaw xs=true/\0<=a/\a<3:=by
 by_cases he:∃ ds,ZbJ xs a src ds
 ·obtain ⟨ds,hd⟩:=he
  rw [<-hd.eq] at h;unfold ZbJ at hd
  split at hd
  ·rename_i e
   simp only [Bool.and_eq_true] at e
   obtain⟨⟨e1,_⟩,e3⟩:=e;refine⟨e1,?_⟩
   unfold Zjp Zjc at e3
   rcases ZbP xs (Zhy a src) with hz | ⟨j,y,hz,hy,hs⟩
   ·rw [hz] at e3;simp at e3
   ·have hm:y∈xs:=List.mem_of_getElem? hy
    unfold Zaw at e1;simp only [Bool.and_eq_true] at e1
    have hok:=ZdR e1.1.2 hm;simp only [Zak,Zhy,Bool.and_eq_true,beq_iff_eq] at hs
    obtain⟨⟨⟨s1,s2⟩,_⟩,_⟩:=hs;unfold Zas at hok;rw [if_pos s2] at hok;simp only [Bool.and_eq_true,inB,decide_eq_true_eq] at hok
    omega
  ·rw [hd] at h;cases h
 ·unfold Zcb at h
  rw [dif_neg he] at h;cases h
theorem ZeH {xs:List RecD}{al:List Int}{src a:Int}{k:Nat}(h:al[k]? = some a)(to:Int)(w:WayD):ZaS xs (al.take (k+1)) src to w↔ZaS xs (al.take k) src to w\/(w.to=to/\w∈Zcb xs a src):=by
 obtain⟨hk,e⟩:=List.getElem?_eq_some_iff.1 h;unfold ZaS;rw [List.take_succ_eq_append_getElem hk,e]
 constructor
 ·rintro ⟨h1,b,h2,h3⟩
  rcases List.mem_append.1 h2 with h4 | h4
  ·exact .inl ⟨h1,b,h4,h3⟩
  ·have:b=a:=by simpa using h4
   subst this;exact .inr ⟨h1,h3⟩
 ·rintro (⟨h1,b,h2,h3⟩ | ⟨h1,h3⟩)
  ·exact ⟨h1,b,List.mem_append.2 (.inl h2),h3⟩
  ·exact ⟨h1,a,List.mem_append.2 (.inr (by simp)),h3⟩
theorem ZdB {S:Int->WayD->Prop}(h:∀ to w,¬S to w):Za4 S []:=⟨by simp [AscW],fun to=>h to⟩
theorem Za4.push {S:Int->WayD->Prop}{ds:List WayD}{t:Int}{b:WayD}(h:Za4 (fun to w=>to<t/\S to w) ds)(hb:ZaI t (S t) (some b)):Za4 (fun to w=>to<t+1/\S to w) (ds++[b]):=by
 have hlt:∀ w∈ds,w.to<t:=by
  intro w hw;have h1:=h.2 w.to;rw [ZdW h.1 hw] at h1;obtain⟨_,⟨u,hu,_⟩,_⟩:=h1;exact hu.1
 have hbt:b.to=t:=hb.1;have hasc:AscW (ds++[b]):=by
  unfold AscW;rw [List.pairwise_append];refine⟨h.1,by simp,fun x hx y hy=>?_⟩
  have:y=b:=by simpa using hy
  subst this;rw [hbt];exact hlt x hx
 refine⟨hasc,fun to=>?_⟩
 by_cases e:to=t
 ·subst e
  have hf:Zcc (ds++[b]) b.to=some b:=ZdW hasc (by simp)
  rw [hbt] at hf;rw [hf];refine hb.congr (fun w=>⟨fun hw=>⟨by omega,hw⟩,fun hw=>hw.2⟩)
 ·have hf:Zcc (ds++[b]) to=Zcc ds to:=by
   unfold Zcc;rw [List.find?_append];cases e2:ds.find? (fun x=>x.to==to) with
   | some w=>rfl
   | none=>
    simp only [Option.none_or,List.find?_cons,List.find?_nil]
    have:(b.to==to)=false:=by rw [hbt];simpa using fun h=>e h.symm
    rw [this]
  rw [hf];refine (h.2 to).congr (fun w=>⟨fun hw=>⟨by omega,hw.2⟩,fun hw=>⟨by have:=hw.1;omega,hw.2⟩⟩)
theorem Za4.skip {S:Int->WayD->Prop}{ds:List WayD}{t:Int}(h:Za4 (fun to w=>to<t/\S to w) ds)(hb:ZaI t (S t) none):Za4 (fun to w=>to<t+1/\S to w) ds:=by
 refine h.congr (fun to w=>⟨fun hw=>⟨by omega,hw.2⟩,fun hw=>⟨?_,hw.2⟩⟩)
 have h1:=hw.1;by_cases e:to=t
 ·subst e;exact absurd hw.2 (hb w)
 ·omega
theorem ZcS (ds:List WayD)(to:Int):(ZbD ds to=true/\Zcc ds to=some (ZbX ds to))\/(ZbD ds to=false/\Zcc ds to=none):=by
 unfold ZbD ZbX Zcc;cases e:ds.find? (fun x=>x.to==to) with
 | none=>exact .inr ⟨rfl,rfl⟩
 | some w=>exact .inl ⟨rfl,rfl⟩
theorem ZhW {tog:WayD->WayD->WayD}(ht:ZjN tog){xs:List RecD}{al:List Int}{src a t:Int}{k:Nat}{o:Option WayD}(h:al[k]? = some a)(hb:ZaI t (ZaS xs (al.take k) src t) o):
  ZaI t (ZaS xs (al.take (k+1)) src t) (Zli tog o (Zcc (Zcb xs a src) t)):=by
 have hw:=Zcs xs a src;cases e:Zcc (Zcb xs a src) t with
 | none=>
  refine ZaI.congr hb (fun w=>?_)
  rw [ZeH h]
  constructor
  ·exact .inl
  ·rintro (h1 | ⟨h1,h2⟩)
   ·exact h1
   ·exact absurd h1 (Zej e w h2)
 | some r=>
  have hr:=Zbp e;have hg:=(hw.2 r hr.1).1;refine (hb.add ht (fun w hw=>(Zbk hw).1.hop6) hr.2 hg.asc hg.hop6).congr (fun w=>?_)
  rw [ZeH h]
  constructor
  ·rintro (h1 | h1)
   ·exact .inl h1
   ·subst h1;exact .inr ⟨hr.2,hr.1⟩
  ·rintro (h1 | ⟨h1,h2⟩)
   ·exact .inl h1
   ·exact .inr (Zhb hw.1 h2 hr.1 (by rw [h1,hr.2]))
def Off (x:Value)(lo hi:Nat):Prop:=∀ b,x.ownBlock=some b->b<lo\/hi<=b
theorem Off.kept {x:Value}{lo hi:Nat}(h:Off x lo hi){W W':World}(hg:W.grownBy W' x.ownBlock):∀ k,lo<=k->k<hi->k<W.heap.size->W'.heap[k]? = W.heap[k]? :=
 fun k h1 h2 h3=>hg.block k h3 (fun e=>by have:=h k e.symm;omega)
theorem Off.next {x x':Value}{lo hi B:Nat}(h:Off x lo hi)(hn:∀ b,x'.ownBlock=some b->x.ownBlock=some b\/B<=b)(hB:hi<=B):Off x' lo hi:=fun b hb=>by
 rcases hn b hb with h1 | h1
 ·exact h b h1
 ·omega
def ZdO (xs:List RecD)(area src:Int)(r:RecD)(d:WayD):Prop:=
 r.kind=2/\r.area=area/\r.owner≠src/\∃ v,Zcc (Zcb xs area src) r.owner=some v/\v.cost+r.cost<60000/\d=⟨r.key,v.cost+r.cost,v.hops⟩
def outS (xs rs:List RecD)(area src to:Int)(d:WayD):Prop:=d.to=to/\∃ r∈rs,ZdO xs area src r d
theorem Zgb {xs:List RecD}{r:RecD}(hs:Zaw xs=true)(hr:r∈xs)(hk:r.kind=2):(1<=r.key/\r.key<=6)/\(0<=r.cost/\r.cost<=60000):=by
 unfold Zaw at hs;simp only [Bool.and_eq_true] at hs
 have hok:=ZdR hs.1.2 hr;unfold Zas at hok;rw [if_neg (by omega),if_pos hk] at hok
 simp only [Bool.and_eq_true,inB,decide_eq_true_eq] at hok
 omega
theorem ZeF {xs:List RecD}{area src:Int}{r:RecD}{d:WayD}(hr:r∈xs)(h:ZdO xs area src r d):GoodW d:=by
 obtain⟨h1,_,_,v,h4,h5,rfl⟩:=h;have hm:=(Zbp h4).1;have hv:=((Zcs xs area src).2 v hm).1;have hb:=Zgb (Zeu hm).1 hr h1;exact⟨hb.1,⟨by show 0<=v.cost+r.cost;have:=hv.cost;omega,by show v.cost+r.cost<=60000;omega⟩,hv.asc,hv.hop6⟩
theorem Zfn {xs rs:List RecD}{area src to:Int}{d:WayD}(hs:∀ r∈rs,r∈xs)(h:outS xs rs area src to d):GoodW d/\d.to=to:=by
 obtain⟨h1,r,hr,h2⟩:=h;exact⟨ZeF (hs r hr) h2,h1⟩
theorem ZhC {xs rs:List RecD}{area src to:Int}{k:Nat}{r:RecD}(h:rs[k]? = some r)(d:WayD):outS xs (rs.take (k+1)) area src to d↔outS xs (rs.take k) area src to d\/(d.to=to/\ZdO xs area src r d):=by
 obtain⟨hk,e⟩:=List.getElem?_eq_some_iff.1 h;unfold outS;rw [List.take_succ_eq_append_getElem hk,e]
 constructor
 ·rintro ⟨h1,x,h2,h3⟩
  rcases List.mem_append.1 h2 with h4 | h4
  ·exact .inl ⟨h1,x,h4,h3⟩
  ·have:x=r:=by simpa using h4
   subst this;exact .inr ⟨h1,h3⟩
 ·rintro (⟨h1,x,h2,h3⟩ | ⟨h1,h3⟩)
  ·exact ⟨h1,x,List.mem_append.2 (.inl h2),h3⟩
  ·exact ⟨h1,r,List.mem_append.2 (.inr (by simp)),h3⟩
def Zhf (border:Bool)(a:Int):Prop:=border=true->a=0
def ZbZ (xs:List RecD)(al:List Int)(border:Bool)(src to:Int)(d:WayD):Prop:=(∀ x,¬ZaS xs al src to x)/\∃ a∈al,Zhf border a/\outS xs xs a src to d
theorem ZbK {xs:List RecD}{al:List Int}{border:Bool}{src to:Int}{d:WayD}(h:ZbZ xs al border src to d):GoodW d/\d.to=to:=by
 obtain⟨_,a,_,_,h2⟩:=h;exact Zfn (fun _ h=>h) h2
theorem ZhB {xs rs:List RecD}{area src to:Int}{d:WayD}(h:outS xs rs area src to d):Zaw xs=true/\0<=area/\area<3:=by
 obtain⟨_,r,_,_,_,_,v,h4,_⟩:=h;exact Zeu (Zbp h4).1
def Zfz (xs:List RecD)(al:List Int)(border:Bool)(src to:Int)(d:WayD):Prop:=∃ a∈al,Zhf border a/\outS xs xs a src to d
theorem ZjH {xs:List RecD}{al:List Int}{border:Bool}{src to:Int}{d:WayD}(h:Zfz xs al border src to d):GoodW d/\d.to=to:=by
 obtain⟨a,_,_,h2⟩:=h;exact Zfn (fun _ h=>h) h2
theorem Zgg {xs:List RecD}{al:List Int}{border:Bool}{src to a:Int}{k:Nat}(h:al[k]? = some a)(d:WayD):Zfz xs (al.take (k+1)) border src to d↔Zfz xs (al.take k) border src to d\/(Zhf border a/\outS xs xs a src to d):=by
 obtain⟨hk,e⟩:=List.getElem?_eq_some_iff.1 h;unfold Zfz;rw [List.take_succ_eq_append_getElem hk,e]
 constructor
 ·rintro ⟨b,h2,h3,h4⟩
  rcases List.mem_append.1 h2 with h5 | h5
  ·exact .inl ⟨b,h5,h3,h4⟩
  ·have:b=a:=by simpa using h5
   subst this;exact .inr ⟨h3,h4⟩
 ·rintro (⟨b,h2,h3,h4⟩ | ⟨h3,h4⟩)
  ·exact ⟨b,List.mem_append.2 (.inl h2),h3,h4⟩
  ·exact ⟨a,List.mem_append.2 (.inr (by simp)),h3,h4⟩
theorem ZhX {tog:WayD->WayD->WayD}(ht:ZjN tog){xs:List RecD}{area src to:Int}{k:Nat}{r:RecD}{o:Option WayD}{S0:WayD->Prop}(hS0:∀ d,S0 d->GoodW d/\d.to=to)(h:xs[k]? = some r)(hb:ZaI to (fun d=>S0 d\/outS xs (xs.take k) area src to d) o){d:WayD}(hd:ZdO xs area src r d)(hto:d.to=to):
  ZaI to (fun d=>S0 d\/outS xs (xs.take (k+1)) area src to d) (Zli tog o (some d)):=by
 have hg:=ZeF (List.mem_of_getElem? h) hd;refine (hb.add ht (fun w hw=>?_) hto hg.asc hg.hop6).congr (fun w=>?_)
 ·rcases hw with h1 | h1
  ·exact (hS0 w h1).1.hop6
  ·exact (Zfn (fun r hr=>List.mem_of_mem_take hr) h1).1.hop6
 ·rw [ZhC h]
  have huniq:∀ w,ZdO xs area src r w->w=d:=by
   rintro w ⟨_,_,_,v,h4,_,rfl⟩;obtain⟨_,_,_,v',h4',_,rfl⟩:=hd;rw [h4] at h4';cases h4'
   rfl
  constructor
  ·rintro ((h1 | h1) | h1)
   ·exact .inl h1
   ·exact .inr (.inl h1)
   ·subst h1;exact .inr (.inr ⟨hto,hd⟩)
  ·rintro (h1 | h1 | ⟨_,h1⟩)
   ·exact .inl (.inl h1)
   ·exact .inl (.inr h1)
   ·exact .inr (huniq w h1)
theorem Zbv {xs:List RecD}{area src to:Int}{k:Nat}{r:RecD}{o:Option WayD}{S0:WayD->Prop}(h:xs[k]? = some r)(hb:ZaI to (fun d=>S0 d\/outS xs (xs.take k) area src to d) o)(hn:∀ d,d.to=to->¬ZdO xs area src r d):
  ZaI to (fun d=>S0 d\/outS xs (xs.take (k+1)) area src to d) o:=by
 refine hb.congr (fun w=>?_)
 rw [ZhC h]
 constructor
 ·rintro (h1 | h1)
  ·exact .inl h1
  ·exact .inr (.inl h1)
 ·rintro (h1 | h1 | ⟨h1,h2⟩)
  ·exact .inl h1
  ·exact .inr h1
  ·exact absurd h2 (hn w h1)
structure BoxT (W:World) (z lo:Nat) (b:WayD) (bv:Value):Prop where
 box:W.heap[z]? = some (.cells (wayC b bv) 183)
 own:W.ownsRow lo 3 1 bv b.hops.length (flat intE b.hops)
 len:b.hops.length<=6
theorem BoxT.below {W W':World}{z lo:Nat}{b:WayD}{bv:Value}(h:BoxT W z lo b bv)(hb:Below W.heap.size W W'):BoxT W' z lo b bv:=
 ⟨(hb.block _ (Zab h.box)).trans h.box,Zah h.own hb (Nat.le_refl _),h.len⟩
theorem BoxT.other {W W':World}{z g lo:Nat}{b:WayD}{bv:Value}{cs:Array Value}{T:TypeId}{fr:Nat × Nat}(h:BoxT W z lo b bv)(hg:W.grownBy W' (some g))(hgz:z≠g)(hbox:W.heap[g]? = some (.cells cs T fr))(hT:(3:TypeId)≠T):BoxT W' z lo b bv:=
 ⟨(hg.block z (Zab h.box) (by simp;omega)).trans h.box,Zam h.own (fun j hj=>hg.block j (h.own.lt j hj).2 (fun e=>Zax h.own hbox hT (by rw [hj];exact e.symm))),h.len⟩
theorem BoxT.put {W:World}{z lo:Nat}{b:WayD}{bv:Value}(h:BoxT W z lo b bv){d:WayD}{u:Value}(hu:W.ownsRow lo 3 1 u d.hops.length (flat intE d.hops))(hl:d.hops.length<=6):BoxT (ZbT W z d u) z lo d u:=by
 have hb:=h.box;unfold wayC at hb;have hg:=ZbH W z d u;exact⟨Zh0 d u hb,Zam hu (fun j hj=>hg.block j (hu.lt j hj).2 (fun e=>Zax hu h.box (by decide) (by rw [hj];exact e.symm))),hl⟩
theorem ZdG {W:World}{z g:Nat}{d:WayD}{u:Value}{o:Obj}(h:W.heap[g]? = some o)(hne:g≠z):(ZbT W z d u).heap[g]? = some o:=((ZbH W z d u).block g (Zab h) (by simp;omega)).trans h
def Zfl (xs:List RecD)(area src to:Int):Prop:=∀ d,d∈Zcb xs area src->d.to≠to
def Zca (area src to c:Int):RecD:=⟨area,2,src,to,0,[],c,false⟩
def ZcR (xs:List RecD)(al:List Int)(src area to c:Int):Prop:=Zfl xs area src to/\to≠src /\
 ((∃ w,ZaI to (ZaS xs al src to) (some w)/\c=w.cost)\/(area≠0/\∃ w,ZaI to (ZbZ xs al true src to) (some w)/\c=w.cost))
def Zcy (xs:List RecD)(al:List Int)(src area:Int)(ds:List RecD):Prop:=Asc ds/\∀ r,r∈ds↔∃ to c,r=Zca area src to c/\ZcR xs al src area to c
theorem ZiF:∀ {a b:List RecD},Asc a->Asc b->(∀ x,x∈a↔x∈b)->a=b
 | [],[],_,_,_=>rfl
 | [],y::ys,_,_,h=>by have:=(h y).2 (by simp);cases this
 | x::xs,[],_,_,h=>by have:=(h x).1 (by simp);cases this
 | x::xs,y::ys,ha,hb,h=>by
  have ha':=List.pairwise_cons.1 ha;have hb':=List.pairwise_cons.1 hb;have irr:∀ z:RecD,Zan z z=true->False:=fun z hz=>by
   have:=(ZbQ (x:=z) (y:=z) (by simp [Zak])).1
   rw [this] at hz;cases hz
  have hxy:x=y:=by
   have h1:=(h x).1 (by simp)
   have h2:=(h y).2 (by simp)
   rcases List.mem_cons.1 h1 with e | e
   ·exact e
   ·rcases List.mem_cons.1 h2 with e2 | e2
    ·exact e2.symm
    ·exact (irr x (ZcG (ha'.1 y e2) (hb'.1 x e))).elim
  subst hxy;have:xs=ys:=by
   refine ZiF ha'.2 hb'.2 (fun z=>?_)
   have hz:=h z
   constructor
   ·intro hm
    have h1:=hz.1 (List.mem_cons_of_mem _ hm)
    rcases List.mem_cons.1 h1 with e | e
    ·have:=ha'.1 z hm;subst e;exact (irr z this).elim
    ·exact e
   ·intro hm
    have h1:=hz.2 (List.mem_cons_of_mem _ hm)
    rcases List.mem_cons.1 h1 with e | e
    ·have:=hb'.1 z hm;subst e;exact (irr z this).elim
    ·exact e
  rw [this]
theorem Zcy.unique {xs:List RecD}{al:List Int}{src area:Int}{a b:List RecD}(ha:Zcy xs al src area a)(hb:Zcy xs al src area b):a=b:=
 ZiF ha.1 hb.1 (fun r=>by rw [ha.2,hb.2])
theorem ZdS {to:Int}{S:WayD->Prop}{w:WayD}(h:ZaI to S (some w))(hS:∀ d,S d->GoodW d/\d.to=to):GoodW w/\w.to=to:=⟨h.good hS,h.1⟩
theorem Zcq {xs:List RecD}{al:List Int}{src area to c:Int}(h:ZcR xs al src area to c):1<=to/\to<=6:=by
 obtain⟨_,_,⟨w,h1,_⟩ | ⟨_,w,h1,_⟩⟩:=h
 ·have hg:=ZdS h1 (fun d h=>Zbk h)
  rw [<-hg.2];exact hg.1.node
 ·have hg:=ZdS h1 (fun d h=>ZbK h)
  rw [<-hg.2];exact hg.1.node
theorem Ziv {xs:List RecD}{al:List Int}{src area to c c':Int}(h:ZcR xs al src area to c)(h':ZcR xs al src area to c'):c=c':=by
 have hno:∀ {w v:WayD},ZaI to (ZaS xs al src to) (some w)->ZaI to (ZbZ xs al true src to) (some v)->False:=by
  intro w v h1 h2;obtain⟨_,⟨u,hu,_⟩,_⟩:=h1;obtain⟨_,⟨u',hu',_⟩,_⟩:=h2;exact hu'.1 u hu
 obtain⟨_,_,⟨w,h1,rfl⟩ | ⟨_,w,h1,rfl⟩⟩:=h
 ·obtain ⟨_,_,⟨v,h2,rfl⟩ | ⟨_,v,h2,rfl⟩⟩:=h'
  ·have:=h1.unique h2;cases this;rfl
  ·exact (hno h1 h2).elim
 ·obtain ⟨_,_,⟨v,h2,rfl⟩ | ⟨_,v,h2,rfl⟩⟩:=h'
  ·exact (hno h2 h1).elim
  ·have:=h1.unique h2;cases this;rfl
theorem Zdm {area src a b c d:Int}:Zan (Zca area src a c) (Zca area src b d)=decide (a<b):=by
 simp [Zan,Zca]
 try exact decide_eq_decide.2 Iff.rfl
theorem Zcy.tot {xs:List RecD}{al:List Int}{src area:Int}{ds:List RecD}(h:Zcy xs al src area ds):ds.length<=6/\∀ r∈ds,r.near=[]:=by
 constructor
 ·have h1:(ds.map (·.key)).Pairwise (· < ·):=by
   rw [List.pairwise_map];refine List.Pairwise.imp_of_mem ?_ h.1
   intro a b ha hb hab;obtain⟨to,c,rfl,_⟩:=(h.2 a).1 ha;obtain⟨to',c',rfl,_⟩:=(h.2 b).1 hb;rw [Zdm] at hab;exact of_decide_eq_true hab
  have h2:=ZeK h1 (fun z hz=>by
   obtain⟨r,hr,rfl⟩:=List.mem_map.1 hz;obtain⟨to,c,rfl,ht⟩:=(h.2 r).1 hr;exact Zcq ht)
  simpa using h2
 ·intro r hr
  obtain⟨to,c,rfl,_⟩:=(h.2 r).1 hr
  rfl
theorem ZfN {xs:List RecD}{al:List Int}{src area to:Int}(hn:Zfl xs area src to)(d:WayD):ZaS xs (al.filter (fun a=>a != area)) src to d↔ZaS xs al src to d:=by
 constructor
 ·rintro ⟨h1,a,h2,h3⟩
  exact⟨h1,a,(List.mem_filter.1 h2).1,h3⟩
 ·rintro ⟨h1,a,h2,h3⟩
  refine⟨h1,a,List.mem_filter.2 ⟨h2,?_⟩,h3⟩
  have:a≠area:=fun e=>by subst e;exact hn d h3 h1
  simpa using this
theorem Zlj (xs:List RecD)(area src to:Int):(ZbD (Zcb xs area src) to=true/\¬Zfl xs area src to)\/(ZbD (Zcb xs area src) to=false/\Zfl xs area src to):=by
 rcases ZcS (Zcb xs area src) to with ⟨h1,h2⟩ | ⟨h1,h2⟩
 ·have h3:=Zbp h2
  exact .inl ⟨h1,fun h=>h _ h3.1 h3.2⟩
 ·exact .inr ⟨h1,fun d hd=>Zej h2 d hd⟩
theorem ZiI {S:Int->WayD->Prop}{ds:List WayD}(h:Za4 S ds)(to:Int):(ZbD ds to=true/\ZaI to (S to) (some (ZbX ds to)))\/(ZbD ds to=false/\∀ d,¬S to d):=by
 have hb:=h.2 to
 rcases ZcS ds to with ⟨h1,h2⟩ | ⟨h1,h2⟩
 ·rw [h2] at hb
  exact .inl ⟨h1,hb⟩
 ·rw [h2] at hb
  exact .inr ⟨h1,hb⟩
theorem ZgR {to:Int}{S:WayD->Prop}{w:WayD}(h:∀ d,¬S d):¬ZaI to S (some w):=fun ⟨_,⟨u,hu,_⟩,_⟩=>h u hu
def ZaM (xs:List RecD)(al:List Int)(src area:Int)(t:Int)(ds:List RecD):Prop:=Asc ds/\∀ r,r∈ds↔∃ to c,r=Zca area src to c/\to<t/\ZcR xs al src area to c
theorem ZaM.skip {xs:List RecD}{al:List Int}{src area t:Int}{ds:List RecD}(h:ZaM xs al src area t ds)(hn:∀ c,¬ZcR xs al src area t c):ZaM xs al src area (t+1) ds:=by
 refine⟨h.1,fun r=>?_⟩
 rw [h.2]
 constructor
 ·rintro ⟨to,c,h1,h2,h3⟩
  exact⟨to,c,h1,by omega,h3⟩
 ·rintro ⟨to,c,h1,h2,h3⟩
  refine⟨to,c,h1,?_,h3⟩
  by_cases e:to=t
  ·subst e;exact absurd h3 (hn c)
  ·omega
theorem ZaM.push {xs:List RecD}{al:List Int}{src area t c:Int}{ds:List RecD}(h:ZaM xs al src area t ds)(ht:ZcR xs al src area t c):ZaM xs al src area (t+1) (ds++[Zca area src t c]):=by
 refine⟨?_,fun r=>?_⟩
 ·unfold Asc
  rw [List.pairwise_append];refine⟨h.1,by simp,fun a ha b hb=>?_⟩
  have:b=Zca area src t c:=by simpa using hb
  subst this;obtain⟨to,c',rfl,h2,_⟩:=(h.2 a).1 ha;rw [Zdm]
  simpa using h2
 ·rw [List.mem_append,h.2]
  constructor
  ·rintro (⟨to,c',h1,h2,h3⟩ | h1)
   ·exact ⟨to,c',h1,by omega,h3⟩
   ·exact ⟨t,c,by simpa using h1,by omega,ht⟩
  ·rintro ⟨to,c',h1,h2,h3⟩
   by_cases e:to=t
   ·subst e
    rw [Ziv h3 ht] at h1;exact .inr (by simpa using h1)
   ·exact .inl ⟨to,c',h1,by omega,h3⟩
theorem ZaM.all {xs:List RecD}{al:List Int}{src area:Int}{ds:List RecD}(h:ZaM xs al src area 7 ds):Zcy xs al src area ds:=by
 refine⟨h.1,fun r=>?_⟩
 rw [h.2]
 constructor
 ·rintro ⟨to,c,h1,_,h3⟩
  exact⟨to,c,h1,h3⟩
 ·rintro ⟨to,c,h1,h3⟩
  exact⟨to,c,h1,by have:=Zcq h3;omega,h3⟩
theorem ZaM.none {xs:List RecD}{al:List Int}{src area:Int}:ZaM xs al src area 1 []:=by
 refine⟨List.Pairwise.nil,fun r=>?_⟩
 constructor
 ·intro h;cases h
 ·rintro ⟨to,c,_,h2,h3⟩
  have:=Zcq h3;omega
theorem ZaM.len {xs:List RecD}{al:List Int}{src area t:Int}{ds:List RecD}(h:ZaM xs al src area t ds):ds.length<=6/\∀ r∈ds,r.near=[]:=by
 constructor
 ·have h1:(ds.map (·.key)).Pairwise (· < ·):=by
   rw [List.pairwise_map];refine List.Pairwise.imp_of_mem ?_ h.1
   intro a b ha hb hab;obtain⟨to,c,rfl,_⟩:=(h.2 a).1 ha;obtain⟨to',c',rfl,_⟩:=(h.2 b).1 hb;rw [Zdm] at hab;exact of_decide_eq_true hab
  have h2:=ZeK h1 (fun z hz=>by
   obtain⟨r,hr,rfl⟩:=List.mem_map.1 hz;obtain⟨to,c,rfl,_,ht⟩:=(h.2 r).1 hr;exact Zcq ht)
  simpa using h2
 ·intro r hr
  obtain⟨to,c,rfl,_⟩:=(h.2 r).1 hr
  rfl
theorem ZjL {xs:List RecD}{al:List Int}{src area to c:Int}(h:ZcR xs al src area to c):Zaw xs=true:=by
 obtain⟨_,_,⟨w,⟨_,⟨u,hu,_⟩,_⟩,_⟩ | ⟨_,w,⟨_,⟨u,hu,_⟩,_⟩,_⟩⟩:=h
 ·obtain ⟨_,a,_,h3⟩:=hu
  exact (Zeu h3).1
 ·obtain ⟨_,a,_,_,h3⟩:=hu
  exact (ZhB h3).1
def ZcL:Array Oper:=#[{ dst:=some 72,op:=Op.move (Operand.tmp 0),type:=29,pos := "l07_route.go:75",after:=#[],guard:=none }, { dst:=some 73,op:=Op.move (Operand.tmp 11),type:=194,pos := "l07_route.go:75",after:=#[],guard:=none }, { dst:=some 74,op:=Op.move (Operand.tmp 18),type:=3,pos := "l07_route.go:75",after:=#[],guard:=none }, { dst:=some 75,op:=Op.indexAddr 194 (Operand.tmp 73) (Operand.tmp 74),type:=0,pos := "l07_route.go:75",after:=#[{ on:=1,ground:=Ground.data }, { on:=2,ground:=Ground.data }],guard:=none }, { dst:=some 76,op:=Op.load 178 (Operand.tmp 75),type:=178,pos := "l07_route.go:75",after:=#[{ on:=3,ground:=Ground.data }],guard:=none }, { dst:=some 77,op:=Op.move (Operand.tmp 1),type:=28,pos := "l07_route.go:75",after:=#[],guard:=none }, { dst:=some 78,op:=Op.move (Operand.tmp 18),type:=3,pos := "l07_route.go:75",after:=#[],guard:=none }, { dst:=some 79,op:=Op.indexAddr 28 (Operand.tmp 77) (Operand.tmp 78),type:=0,pos := "l07_route.go:75",after:=#[{ on:=5,ground:=Ground.data }, { on:=6,ground:=Ground.data }],guard:=none }, { dst:=some 80,op:=Op.load 3 (Operand.tmp 79),type:=3,pos := "l07_route.go:75",after:=#[{ on:=7,ground:=Ground.data }],guard:=none }, { dst:=some 81,op:=Op.move (Operand.tmp 3),type:=3,pos := "l07_route.go:75",after:=#[],guard:=none }, { dst:=some 82,op:=Op.move (Operand.tmp 13),type:=3,pos := "l07_route.go:75",after:=#[],guard:=none }, { dst:=some 83,op:=Op.load 183 (Operand.tmp 16),type:=183,pos := "l07_route.go:75",after:=#[],guard:=none }, { dst:=some 84,op:=Op.move (Operand.tmp 17),type:=4,pos := "l07_route.go:75",after:=#[],guard:=none }, { dst:=some 85,op:=Op.call { callee:=Callee.value (Operand.func 149),args:=#[Operand.tmp 72,Operand.tmp 76,Operand.tmp 80,Operand.tmp 81,Operand.tmp 82,Operand.tmp 83,Operand.tmp 84],argTypes:=#[29,178,3,3,3,183,4] },type:=184,pos := "l07_route.go:75",after:=#[{ on:=0,ground:=Ground.data }, { on:=4,ground:=Ground.data }, { on:=8,ground:=Ground.data }, { on:=9,ground:=Ground.data }, { on:=10,ground:=Ground.data }, { on:=11,ground:=Ground.data }, { on:=12,ground:=Ground.data }],guard:=none }, { dst:=some 71,op:=Op.move (Operand.tmp 85),type:=184,pos := "l07_route.go:75",after:=#[{ on:=13,ground:=Ground.data }],guard:=none }, { dst:=some 86,op:=Op.extract (Operand.tmp 71) 0,type:=183,pos := "l07_route.go:75",after:=#[{ on:=14,ground:=Ground.data }],guard:=none }, { dst:=some 87,op:=Op.extract (Operand.tmp 71) 1,type:=4,pos := "l07_route.go:75",after:=#[{ on:=14,ground:=Ground.data }, { on:=17,ground:=Ground.gcOnly Departure.lateStores }],guard:=none }, { dst:=none,op:=Op.store 183 (Operand.tmp 16) (Operand.tmp 86),type:=0,pos := "l07_route.go:75",after:=#[{ on:=15,ground:=Ground.data }, { on:=13,ground:=Ground.chain }, { on:=0,ground:=Ground.phase }, { on:=1,ground:=Ground.phase }, { on:=2,ground:=Ground.phase }, { on:=3,ground:=Ground.phase }, { on:=4,ground:=Ground.phase }, { on:=5,ground:=Ground.phase }, { on:=6,ground:=Ground.phase }, { on:=7,ground:=Ground.phase }, { on:=8,ground:=Ground.phase }, { on:=9,ground:=Ground.phase }, { on:=10,ground:=Ground.phase }, { on:=11,ground:=Ground.phase }, { on:=12,ground:=Ground.phase }, { on:=13,ground:=Ground.phase }, { on:=14,ground:=Ground.phase }, { on:=15,ground:=Ground.phase }, { on:=16,ground:=Ground.textOnly Departure.lateStores }],guard:=none }, { dst:=some 17,op:=Op.assign (Operand.tmp 87),type:=4,pos := "l07_route.go:75",after:=#[{ on:=16,ground:=Ground.data }, { on:=17,ground:=Ground.chain }, { on:=0,ground:=Ground.phase }, { on:=1,ground:=Ground.phase }, { on:=2,ground:=Ground.phase }, { on:=3,ground:=Ground.phase }, { on:=4,ground:=Ground.phase }, { on:=5,ground:=Ground.phase }, { on:=6,ground:=Ground.phase }, { on:=7,ground:=Ground.phase }, { on:=8,ground:=Ground.phase }, { on:=9,ground:=Ground.phase }, { on:=10,ground:=Ground.phase }, { on:=11,ground:=Ground.phase }, { on:=12,ground:=Ground.phase }, { on:=13,ground:=Ground.phase }, { on:=14,ground:=Ground.phase }, { on:=15,ground:=Ground.phase }, { on:=16,ground:=Ground.phase }, { on:=17,ground:=Ground.phase }],guard:=none }]
theorem Zga (W:World)(z:Nat)(q:WayD)(u:Value)(b j:Nat)(h:b≠z):(ZbT W z q u).cell? ⟨b,j,none⟩=W.cell? ⟨b,j,none⟩:=by
 have e:(ZbT W z q u).heap[b]? = W.heap[b]? := by
  unfold ZbT;rw [heap_setCell_other _ ⟨z,2,none⟩ _ _ h,heap_setCell_other _ ⟨z,1,none⟩ _ _ h,heap_setCell_other _ ⟨z,0,none⟩ _ _ h]
 simp only [World.cell?,e]
theorem ZjS (t2 t4 t5 t6 t7 t8 t9 t10 t12 t14 t15 t19 t20 t21 t22 t23 t24 t25 t26 t27 t28 t29 t30 t31 t32 t33 t34 t35 t36 t37 t38 t39 t40 t41 t42 t43 t44 t45 t46 t47 t48 t49 t50 t51 t52 t53 t54 t55 t56 t57 t58 t59 t60 t61 t62 t63 t64 t65 t66 t67 t68 t69 t70 t71 t72 t73 t74 t75 t76 t77 t78 t79 t80 t81 t82 t83 t84 t85 t86 t87 t88 t89 t90 t91 t92 t93:Value)(W0:World)(rv wv fv0:Value)(g n cap b off m acap z k:Nat)(area src to:Int)(x:WayD)(xa:Option Addr)(xl xc:Nat)(RR:World->WayD->Value->Value->Prop)(Q:Exit->Act->World->Prop)(ops:Array Oper)(hops:Hid (ops=ZcL))(hpan:∀ c a1 a2 w,Q (.panic c) a1 w->Q (.panic c) a2 w)
  (hk0:(0:Int)<=(k:Int)) (hkn:(k:Int)<(n:Int)) (hkm:(k:Int)<(m:Int))
  (hS:(fun W=>W.cell? ⟨g,k,none⟩=some wv/\W.cell? ⟨b,off+k,none⟩=some (.int .i64 area)) W0)
  (d0:W0.cell? ⟨z,0,none⟩=some (.int .i64 x.to)) (d1:W0.cell? ⟨z,1,none⟩=some (.int .i64 x.cost)) (d2:W0.cell? ⟨z,2,none⟩=some (.slice xa xl xc))
  (hgz:g≠z) (hbz:b≠z)
  (HT:Hid (Calls Tryz.prog 149 #[rv,wv,.int .i64 area,.int .i64 src,.int .i64 to,.agg #[.int .i64 x.to,.int .i64 x.cost,.slice xa xl xc],fv0] W0 fun e w'=>∃ (q:WayD) (ua:Option Addr) (ul uc:Nat) (fv:Value),e=.returned (.tuple #[.agg #[.int .i64 q.to,.int .i64 q.cost,.slice ua ul uc],fv])/\RR w' q (.slice ua ul uc) fv))
  (hSR:∀ W q u fv,RR W q u fv->(fun W=>W.cell? ⟨g,k,none⟩=some wv/\W.cell? ⟨b,off+k,none⟩=some (.int .i64 area)) W)
  (hcell:∀ W q u fv,RR W q u fv->∃ y0 y1 y2,W.cell? ⟨z,0,none⟩=some y0/\W.cell? ⟨z,1,none⟩=some y1/\W.cell? ⟨z,2,none⟩=some y2)
  (hfz:∀ W q u fv,RR W q u fv->∀ j,W.frozen? ⟨z,j,none⟩=false)
  (hend:∀ (W:World) (q:WayD) ua ul uc fv,RR W q (.slice ua ul uc) fv->Q .normal { tmps:=#[rv,.slice (some ⟨b,off,none⟩) m acap,t2,.int .i64 src,t4,t5,t6,t7,t8,t9,t10,.slice (some ⟨g,0,none⟩) n cap,t12,.int .i64 to,t14,t15,.pointer (some ⟨z,0,none⟩),fv,.int .i64 (k:Int),t19,t20,t21,t22,t23,t24,t25,t26,t27,t28,t29,t30,t31,t32,t33,t34,t35,t36,t37,t38,t39,t40,t41,t42,t43,t44,t45,t46,t47,t48,t49,t50,t51,t52,t53,t54,t55,t56,t57,t58,t59,t60,t61,t62,t63,t64,t65,t66,t67,t68,t69,t70,.tuple #[.agg #[.int .i64 q.to,.int .i64 q.cost,.slice ua ul uc],fv],rv,.slice (some ⟨g,0,none⟩) n cap,.int .i64 (k:Int),.pointer (some ⟨g,k,none⟩),wv,.slice (some ⟨b,off,none⟩) m acap,.int .i64 (k:Int),.pointer (some ⟨b,off+k,none⟩),.int .i64 area,.int .i64 src,.int .i64 to,.agg #[.int .i64 x.to,.int .i64 x.cost,.slice xa xl xc],fv0,.tuple #[.agg #[.int .i64 q.to,.int .i64 q.cost,.slice ua ul uc],fv],.agg #[.int .i64 q.to,.int .i64 q.cost,.slice ua ul uc],fv,t88,t89,t90,t91,t92,t93],defers:=[] } (ZbT W z q (.slice ua ul uc))):
  wpAnyH Tryz.prog .any ops Q (fun W=>W.cell? ⟨g,k,none⟩=some wv/\W.cell? ⟨b,off+k,none⟩=some (.int .i64 area)) 19 (Array.replicate 19 false) { tmps:=#[rv,.slice (some ⟨b,off,none⟩) m acap,t2,.int .i64 src,t4,t5,t6,t7,t8,t9,t10,.slice (some ⟨g,0,none⟩) n cap,t12,.int .i64 to,t14,t15,.pointer (some ⟨z,0,none⟩),fv0,.int .i64 (k:Int),t19,t20,t21,t22,t23,t24,t25,t26,t27,t28,t29,t30,t31,t32,t33,t34,t35,t36,t37,t38,t39,t40,t41,t42,t43,t44,t45,t46,t47,t48,t49,t50,t51,t52,t53,t54,t55,t56,t57,t58,t59,t60,t61,t62,t63,t64,t65,t66,t67,t68,t69,t70,t71,t72,t73,t74,t75,t76,t77,t78,t79,t80,t81,t82,t83,t84,t85,t86,t87,t88,t89,t90,t91,t92,t93],defers:=[] } W0:=by
 have h13:∀ W (q:WayD) ua ul uc fv,RR W q (.slice ua ul uc) fv->wpAnyH Tryz.prog .any ops Q (fun W=>W.cell? ⟨g,k,none⟩=some wv/\W.cell? ⟨b,off+k,none⟩=some (.int .i64 area)) 5 #[true,true,true,true,true,true,true,true,true,true,true,true,true,true,false,false,false,false,false] { tmps:=#[rv,.slice (some ⟨b,off,none⟩) m acap,t2,.int .i64 src,t4,t5,t6,t7,t8,t9,t10,.slice (some ⟨g,0,none⟩) n cap,t12,.int .i64 to,t14,t15,.pointer (some ⟨z,0,none⟩),fv0,.int .i64 (k:Int),t19,t20,t21,t22,t23,t24,t25,t26,t27,t28,t29,t30,t31,t32,t33,t34,t35,t36,t37,t38,t39,t40,t41,t42,t43,t44,t45,t46,t47,t48,t49,t50,t51,t52,t53,t54,t55,t56,t57,t58,t59,t60,t61,t62,t63,t64,t65,t66,t67,t68,t69,t70,t71,rv,.slice (some ⟨g,0,none⟩) n cap,.int .i64 (k:Int),.pointer (some ⟨g,k,none⟩),wv,.slice (some ⟨b,off,none⟩) m acap,.int .i64 (k:Int),.pointer (some ⟨b,off+k,none⟩),.int .i64 area,.int .i64 src,.int .i64 to,.agg #[.int .i64 x.to,.int .i64 x.cost,.slice xa xl xc],fv0,.tuple #[.agg #[.int .i64 q.to,.int .i64 q.cost,.slice ua ul uc],fv],t86,t87,t88,t89,t90,t91,t92,t93],defers:=[] } W:=by
  intro W q ua ul uc fv hr;have hS:=hSR W _ _ _ hr;obtain⟨y0,y1,y2,f0,f1,f2⟩:=hcell W _ _ _ hr;have fz:=hfz W _ _ _ hr;refine Zaz 14 (oi:=?_) (v:=?_) ?_ (by rw [hops.out];kernel_rfl) ?_ ?_ ?_ hS ?_
  rotate_left 2
  ·rw [hops.out];unfold ZcL;simp only [getS];rfl
  ·rw [hops.out];kernel_rfl
  ·intro W hW;obtain⟨g1,g2⟩:=hW;go_simp <;> with_reducible rfl
  ·exact fun c _ w h=>hpan c _ _ w h
  try simp only [putS]
  refine Zaz 15 (oi:=?_) (v:=?_) ?_ (by rw [hops.out];kernel_rfl) ?_ ?_ ?_ hS ?_
  rotate_left 2
  ·rw [hops.out];unfold ZcL;simp only [getS];rfl
  ·rw [hops.out];kernel_rfl
  ·intro W hW;obtain⟨g1,g2⟩:=hW;go_simp <;> with_reducible rfl
  ·exact fun c _ w h=>hpan c _ _ w h
  try simp only [putS]
  refine Zaz 16 (oi:=?_) (v:=?_) ?_ (by rw [hops.out];kernel_rfl) ?_ ?_ ?_ hS ?_
  rotate_left 2
  ·rw [hops.out];unfold ZcL;simp only [getS];rfl
  ·rw [hops.out];kernel_rfl
  ·intro W hW;obtain⟨g1,g2⟩:=hW;go_simp <;> with_reducible rfl
  ·exact fun c _ w h=>hpan c _ _ w h
  try simp only [putS]
  refine wpAnyH_ready (rs:=[17]) (by rw [hops.out];kernel_rfl) (by simp) ?_
  refine AllReadyH.cons (o:=?_) ?_ (fun K hK=>?_) ?_
  rotate_left 1
  ·rw [hops.out];unfold ZcL;simp only [getS];rfl
  ·rw [if_pos (by rfl)]
   go_simp
   have hS2:(fun W=>W.cell? ⟨g,k,none⟩=some wv/\W.cell? ⟨b,off+k,none⟩=some (.int .i64 area)) (ZbT W z q (.slice ua ul uc)):=by
    refine⟨?_,?_⟩
    ·show (ZbT W z q (.slice ua ul uc)).cell? _=_
     rw [Zga W z q _ _ _ hgz];exact hS.1
    ·show (ZbT W z q (.slice ua ul uc)).cell? _=_
     rw [Zga W z q _ _ _ hbz];exact hS.2
   refine hK.out _ _ hS2 (fun _=>?_)
   refine wpAnyH_ready (rs:=[18]) (by rw [hops.out];kernel_rfl) (by simp) ?_
   refine AllReadyH.cons (o:=?_) ?_ (fun K hK=>?_) ?_
   rotate_left 1
   ·rw [hops.out];unfold ZcL;simp only [getS];rfl
   ·rw [if_pos (by rfl)]
    go_simp
    refine hK.out _ _ hS2 (fun _=>?_)
    refine wpAnyH_done (by rw [hops.out];kernel_rfl) ?_ _
    exact hend W q ua ul uc fv hr
   exact AllReadyH.nil
  exact AllReadyH.nil
 have h11:wpAnyH Tryz.prog .any ops Q (fun W=>W.cell? ⟨g,k,none⟩=some wv/\W.cell? ⟨b,off+k,none⟩=some (.int .i64 area)) 6 #[true,true,true,true,true,true,true,true,true,true,true,true,true,false,false,false,false,false,false] { tmps:=#[rv,.slice (some ⟨b,off,none⟩) m acap,t2,.int .i64 src,t4,t5,t6,t7,t8,t9,t10,.slice (some ⟨g,0,none⟩) n cap,t12,.int .i64 to,t14,t15,.pointer (some ⟨z,0,none⟩),fv0,.int .i64 (k:Int),t19,t20,t21,t22,t23,t24,t25,t26,t27,t28,t29,t30,t31,t32,t33,t34,t35,t36,t37,t38,t39,t40,t41,t42,t43,t44,t45,t46,t47,t48,t49,t50,t51,t52,t53,t54,t55,t56,t57,t58,t59,t60,t61,t62,t63,t64,t65,t66,t67,t68,t69,t70,t71,rv,.slice (some ⟨g,0,none⟩) n cap,.int .i64 (k:Int),.pointer (some ⟨g,k,none⟩),wv,.slice (some ⟨b,off,none⟩) m acap,.int .i64 (k:Int),.pointer (some ⟨b,off+k,none⟩),.int .i64 area,.int .i64 src,.int .i64 to,.agg #[.int .i64 x.to,.int .i64 x.cost,.slice xa xl xc],fv0,t85,t86,t87,t88,t89,t90,t91,t92,t93],defers:=[] } W0:=by
  refine wpAnyH_ready (rs:=[13]) (by rw [hops.out];kernel_rfl) (by simp) ?_
  refine AllReadyH.cons (o:=?_) ?_ (fun K hK=>?_) ?_
  rotate_left 1
  ·rw [hops.out];unfold ZcL;simp only [getS];rfl
  ·rw [if_pos (by rfl)]
   go_simp
   refine HT.out.mono ?_
   rintro e w2 ⟨q,ua,ul,uc,fv,rfl,hr⟩;refine hK.out _ _ (hSR w2 _ _ _ hr) (fun _=>?_)
   exact h13 w2 q ua ul uc fv hr
  exact AllReadyH.nil
 show wpAnyH Tryz.prog .any ops Q (fun W=>W.cell? ⟨g,k,none⟩=some wv/\W.cell? ⟨b,off+k,none⟩=some (.int .i64 area)) 19 #[false,false,false,false,false,false,false,false,false,false,false,false,false,false,false,false,false,false,false] _ W0
 refine Zaz 0 (oi:=?_) (v:=?_) ?_ (by rw [hops.out];kernel_rfl) ?_ ?_ ?_ hS ?_
 rotate_left 2
 ·rw [hops.out];unfold ZcL;simp only [getS];rfl
 ·rw [hops.out];kernel_rfl
 ·intro W hW;obtain⟨g1,g2⟩:=hW;go_simp <;> with_reducible rfl
 ·exact fun c _ w h=>hpan c _ _ w h
 try simp only [putS]
 refine Zaz 1 (oi:=?_) (v:=?_) ?_ (by rw [hops.out];kernel_rfl) ?_ ?_ ?_ hS ?_
 rotate_left 2
 ·rw [hops.out];unfold ZcL;simp only [getS];rfl
 ·rw [hops.out];kernel_rfl
 ·intro W hW;obtain⟨g1,g2⟩:=hW;go_simp <;> with_reducible rfl
 ·exact fun c _ w h=>hpan c _ _ w h
 try simp only [putS]
 refine Zaz 2 (oi:=?_) (v:=?_) ?_ (by rw [hops.out];kernel_rfl) ?_ ?_ ?_ hS ?_
 rotate_left 2
 ·rw [hops.out];unfold ZcL;simp only [getS];rfl
 ·rw [hops.out];kernel_rfl
 ·intro W hW;obtain⟨g1,g2⟩:=hW;go_simp <;> with_reducible rfl
 ·exact fun c _ w h=>hpan c _ _ w h
 try simp only [putS]
 refine Zaz 3 (oi:=?_) (v:=?_) ?_ (by rw [hops.out];kernel_rfl) ?_ ?_ ?_ hS ?_
 rotate_left 2
 ·rw [hops.out];unfold ZcL;simp only [getS];rfl
 ·rw [hops.out];kernel_rfl
 ·intro W hW;obtain⟨g1,g2⟩:=hW;go_simp <;> with_reducible rfl
 ·exact fun c _ w h=>hpan c _ _ w h
 try simp only [putS]
 refine Zaz 4 (oi:=?_) (v:=?_) ?_ (by rw [hops.out];kernel_rfl) ?_ ?_ ?_ hS ?_
 rotate_left 2
 ·rw [hops.out];unfold ZcL;simp only [getS];rfl
 ·rw [hops.out];kernel_rfl
 ·intro W hW;obtain⟨g1,g2⟩:=hW;go_simp <;> with_reducible rfl
 ·exact fun c _ w h=>hpan c _ _ w h
 try simp only [putS]
 refine Zaz 5 (oi:=?_) (v:=?_) ?_ (by rw [hops.out];kernel_rfl) ?_ ?_ ?_ hS ?_
 rotate_left 2
 ·rw [hops.out];unfold ZcL;simp only [getS];rfl
 ·rw [hops.out];kernel_rfl
 ·intro W hW;obtain⟨g1,g2⟩:=hW;go_simp <;> with_reducible rfl
 ·exact fun c _ w h=>hpan c _ _ w h
 try simp only [putS]
 refine Zaz 6 (oi:=?_) (v:=?_) ?_ (by rw [hops.out];kernel_rfl) ?_ ?_ ?_ hS ?_
 rotate_left 2
 ·rw [hops.out];unfold ZcL;simp only [getS];rfl
 ·rw [hops.out];kernel_rfl
 ·intro W hW;obtain⟨g1,g2⟩:=hW;go_simp <;> with_reducible rfl
 ·exact fun c _ w h=>hpan c _ _ w h
 try simp only [putS]
 refine Zaz 7 (oi:=?_) (v:=?_) ?_ (by rw [hops.out];kernel_rfl) ?_ ?_ ?_ hS ?_
 rotate_left 2
 ·rw [hops.out];unfold ZcL;simp only [getS];rfl
 ·rw [hops.out];kernel_rfl
 ·intro W hW;obtain⟨g1,g2⟩:=hW;go_simp <;> with_reducible rfl
 ·exact fun c _ w h=>hpan c _ _ w h
 try simp only [putS]
 refine Zaz 8 (oi:=?_) (v:=?_) ?_ (by rw [hops.out];kernel_rfl) ?_ ?_ ?_ hS ?_
 rotate_left 2
 ·rw [hops.out];unfold ZcL;simp only [getS];rfl
 ·rw [hops.out];kernel_rfl
 ·intro W hW;obtain⟨g1,g2⟩:=hW;go_simp <;> with_reducible rfl
 ·exact fun c _ w h=>hpan c _ _ w h
 try simp only [putS]
 refine Zaz 9 (oi:=?_) (v:=?_) ?_ (by rw [hops.out];kernel_rfl) ?_ ?_ ?_ hS ?_
 rotate_left 2
 ·rw [hops.out];unfold ZcL;simp only [getS];rfl
 ·rw [hops.out];kernel_rfl
 ·intro W hW;obtain⟨g1,g2⟩:=hW;go_simp <;> with_reducible rfl
 ·exact fun c _ w h=>hpan c _ _ w h
 try simp only [putS]
 refine Zaz 10 (oi:=?_) (v:=?_) ?_ (by rw [hops.out];kernel_rfl) ?_ ?_ ?_ hS ?_
 rotate_left 2
 ·rw [hops.out];unfold ZcL;simp only [getS];rfl
 ·rw [hops.out];kernel_rfl
 ·intro W hW;obtain⟨g1,g2⟩:=hW;go_simp <;> with_reducible rfl
 ·exact fun c _ w h=>hpan c _ _ w h
 try simp only [putS]
 refine Zaz 12 (oi:=?_) (v:=?_) ?_ (by rw [hops.out];kernel_rfl) ?_ ?_ ?_ hS ?_
 rotate_left 2
 ·rw [hops.out];unfold ZcL;simp only [getS];rfl
 ·rw [hops.out];kernel_rfl
 ·intro W hW;obtain⟨g1,g2⟩:=hW;go_simp <;> with_reducible rfl
 ·exact fun c _ w h=>hpan c _ _ w h
 try simp only [putS]
 refine wpAnyH_ready (rs:=[11]) (by rw [hops.out];kernel_rfl) (by simp) ?_
 refine AllReadyH.cons (o:=?_) ?_ (fun K hK=>?_) ?_
 rotate_left 1
 ·rw [hops.out];unfold ZcL;simp only [getS];rfl
 ·rw [if_pos (by rfl)]
  go_simp
  refine hK.out _ _ hS (fun _=>?_)
  exact h11
 exact AllReadyH.nil
theorem ZgI (x:WayD)(a:Option Addr)(n c:Nat):∀ u∈encW (x,.slice a n c),u.oneCell'=true:=by
 intro u hu;simp only [encW,List.mem_cons,List.not_mem_nil,or_false] at hu
 rcases hu with rfl | rfl | rfl <;> rfl
theorem Zjf {W:World}{lo lo2 hi n size2:Nat}{v:Value}{xs:List Value}{q:WP}(hq:Zcd W lo hi q)(hr:W.ownsRow lo2 183 size2 v n xs)(j:Nat)(hj:q.2.ownBlock=some j):some j≠v.ownBlock:=by
 intro e
 rcases hr.2 with ⟨h0,_⟩ | ⟨g,cap,cur,hv,_,hh,_⟩
 ·rw [h0] at e;simp [Value.ownBlock] at e
 ·rw [hv] at e
  simp [Value.ownBlock] at e
  subst e;exact Zax hq.1 hh (by decide) hj.symm
theorem WaysOwn.push {W Wa W2:World}{lo:Nat}{v v':Value}{qs:List WP}{p:WP}(h:WaysOwn W lo W.heap.size v qs)(hb:Below W.heap.size W Wa)(hlo:lo<=W.heap.size)(hp:Zcd Wa W.heap.size Wa.heap.size p)
  (row:W2.ownsRow lo 183 3 v' (qs.length+1) (flat encW (qs++[p]))) (hg:Wa.grownBy W2 v.ownBlock):WaysOwn W2 lo W2.heap.size v' (qs++[p]) where
 row:=by simpa using row
 top:=fun k hk=>(row.lt k hk).2
 apart:=Zi8 h.apart h.nears (fun k hk=>(hp.1.lt k hk).1)
 nears:=by
  have rowa:=Zah h.row hb (Nat.le_refl _);have key:∀ q,Zcd Wa lo Wa.heap.size q->Zcd W2 lo W2.heap.size q:=fun q hq=>
   ⟨Zam hq.1 (fun j hj=>hg.block j (hq.2 j hj) (Zjf hq rowa j hj)),fun k hk=>Nat.lt_of_lt_of_le (hq.2 k hk) hg.size⟩
  intro q hq
  rcases List.mem_append.1 hq with h1 | h1
  ·exact key q (((h.nears q h1).keep (W':=Wa) (fun j _ h2 _=>hb.block j h2)).wide (Nat.le_refl _) hb.size)
  ·have:q=p:=by simpa using h1
   subst this;exact key q (hp.wide hlo (Nat.le_refl _))
theorem Zbd {α:Type}{enc:α->List Value}{sz bytes:Nat}(hlen:∀ a,(enc a).length=sz)(hpos:0<sz)(hbb:bytes<=100){P:Program}(w:World){ops:Array Oper}{rest:List Oper}{o:Oper}{a:Act}{Q:Exit->Act->World->Prop}(hgd:o.guard=none)(s x:Operand)(t:TypeId)
  (ho:o.op=.call { callee:=.builtin .append,args:=#[s,x],argTypes:=#[t,t] }) (base:Nat) (e:TypeId) (ht:P.underlying t=some (.slice e)) (zv:Value) (hzv:zv.cells.size=sz)
  (hinfo:(P.info? e).map (fun i=>(i.zero,i.size,i.bytes))=some (some zv,sz,bytes))
  (v:Value) (l:List α) (y:α) (hone:∀ u∈enc y,u.oneCell'=true) (hs:a.eval s=v) (hown:w.ownsRow base e sz v l.length (flat enc l))
  (ad:Addr) (c:Nat) (hx:a.eval x=.slice (some ad) 1 c) (hnews:∀ j u,(enc y)[j]? = some u->w.cell? (ad.add j)=some u)
  (hl:l.length+1<=1000000000) (hbase:base<=w.heap.size)
  (h:∀ v' w',w'.ownsRow base e sz v' (l++[y]).length (flat enc (l++[y]))->w.grownBy w' v.ownBlock->(v'.ownBlock=v.ownBlock\/v'.ownBlock=some w.heap.size)->wpList P ops Q rest (a.put o.dst v') w'):wpList P ops Q (o::rest) a w:=by
 obtain⟨i0,hi,hz0,hz1,hz2⟩:=info_parts hinfo;refine wpList_append_own_at w hgd s x t ho base e i0 zv sz bytes ht hi hz0 hz1 hz2 hzv hpos v l.length (flat enc l) hs hown ad 1 c (enc y) hx (by rw [hlen];omega) hnews hone (by unfold maxLen;omega) ?_ hbase ?_
 ·have:(l.length+1)*bytes<=1000000000*100:=Nat.mul_le_mul hl hbb
  omega
 ·intro v' w' h1 h2 _ h4
  have e1:flat enc l++enc y=flat enc (l++[y]):=by rw [ZaL];simp [flat]
  rw [e1] at h1;exact h v' w' (by simpa using h1) h2 h4
end Go.Proofs.YtcimbiinljcifaaGreat
