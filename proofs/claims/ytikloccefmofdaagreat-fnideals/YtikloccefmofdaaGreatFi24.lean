/-
  Parts.
-/
import Derived.Test.YtikloccefmofdaaGreatFi21
import Derived.Test.YtikloccefmofdaaGreatFi23
import Derived.Test.YtikloccefmofdaaGreatFi22
namespace Go.Proofs.YtikloccefmofdaaGreat
open Go.RowKit

theorem Zit {xs:List RecD}(h:Zax xs=true)(area a b:Int):Zc8 xs area a b=(ZdZ xs area a b).getD 0:=by
 rw [ZeG h];unfold Zc8 Zgy;cases (Zcd xs area a).near.find? (fun n=>n.to==b) <;> rfl

theorem Zrj {xs:List RecD}(h:Zax xs=true){area a b c:Int}(hc:ZdZ xs area a b=some c):0<c:=by
 rw [ZeG h] at hc;obtain⟨n,hn,rfl⟩:=Option.map_eq_some_iff.1 hc;have:=ZfL (area:=area) (node:=a) h n (List.mem_of_find?_eq_some hn);omega

theorem Zjf {xs:List RecD}(h:Zax xs=true)(area:Int){u v:Nat}(hu:1<=u/\u<=6)(hv:1<=v/\v<=6):Zlq xs area (u:Int) (v:Int)=Zb3 xs area u v:=by
 rw [<-Zdk h area hu hv];unfold Zlq Ze4;rw [Zit h,Zit h];cases e:ZdZ xs area (v:Int) (u:Int) with
 | none=>simp
 | some c=>
  have:=Zrj h e;simp only [Option.getD_some];rw [if_neg (by omega)];cases ZdZ xs area (u:Int) (v:Int) <;> rfl

theorem Zkl {xs:List RecD}(h:Zax xs=true){area:Int}{u v:Nat}(hl:0<Zb3 xs area v u):Zdt xs area (u:Int)=true:=by
 have hr:(1<=v/\v<=6)/\(1<=u/\u<=6):=by
  unfold Zb3 at hl
  split at hl
  ·assumption
  ·omega
 rw [<-Zjf h area hr.1 hr.2] at hl;unfold Zlq at hl
 split at hl
 ·omega
 ·rename_i hne
  unfold Zc8 at hne;cases hb:Zdt xs area (u:Int) with
  | true=>rfl
  | false=>
   exfalso;apply hne;have:Zcd xs area (u:Int)=Za9:=by
    unfold Zdt ZdY at hb;unfold Zcd ZeZ;rw [if_pos (by simpa using hb)]
   rw [this];rfl

theorem Zoi {c:Nat->Int}{h:Nat->List Int}{t:Nat}(ht:1<=t/\t<=6):(Zcc c h 6).find? (fun x=>x.to==(t:Int))=if 0<=c t then some ⟨(t:Int),c t,h t⟩ else none:=by
 split
 ·rename_i h0
  have hm:(⟨(t:Int),c t,h t⟩:WayD)∈Zcc c h 6:=(Zdg 6).2 ⟨t,ht.1,ht.2,h0,rfl⟩;cases hf:(Zcc c h 6).find? (fun x=>x.to==(t:Int)) with
  | none=>
   rw [List.find?_eq_none] at hf;have:=hf _ hm;simp at this
  | some w=>
   have hw:=List.mem_of_find?_eq_some hf;have hp:=List.find?_some hf;simp only [beq_iff_eq] at hp;obtain⟨v,_,_,_,rfl⟩:=(Zdg 6).1 hw;have:v=t:=by simp at hp;omega
   subst this;rfl
 ·rename_i h0
  rw [List.find?_eq_none];intro w hw;obtain⟨v,_,_,h3,rfl⟩:=(Zdg 6).1 hw;simp only [beq_iff_eq];intro e;have:v=t:=by omega
  subst this;exact h0 h3

theorem Zrq {c:Nat->Int}{h:Nat->List Int}{t:Nat}(ht:1<=t/\t<=6):Zbk (Zcc c h 6) (t:Int)=decide (0<=c t)/\(0<=c t->Zbo (Zcc c h 6) (t:Int)=⟨(t:Int),c t,h t⟩):=by
 unfold Zbk Zbo;rw [Zoi ht];by_cases h0:0<=c t
 ·rw [if_pos h0];simp [h0]
 ·rw [if_neg h0];simp [h0]

section
variable {xs:List RecD} {area:Int} {v:Nat} {ds:List WayD}

theorem ZmQ (hw:ZaX xs area (v:Int) ds){w:WayD}(hm:w∈ds):∃ c h,Fix (Zb3 xs area) v c h/\ds=Zcc c h 6:=by
 unfold ZaX at hw
 split at hw
 ·obtain ⟨c,h,A,e⟩:=hw;exact⟨c,h,by simpa using A,e⟩
 ·subst hw;cases hm

end
end Go.Proofs.YtikloccefmofdaaGreat
namespace Go.Proofs.YtikloccefmofdaaGreat
open Go.RowKit
set_option linter.unusedSimpArgs false
set_option linter.unusedVariables false
set_option maxRecDepth 100000
set_option maxHeartbeats 8000000
variable {a src t:Int}{S:Int->WayD->Prop}{al:List Int}{xs:List RecD}{ds:List WayD}
def Zaq (xs:List RecD)(al:List Int)(src:Int)(to:Int)(w:WayD):Prop:=w.to=to/\∃ a∈al,w∈ZbE xs a src
theorem Za1 {to:Int}{w:WayD}(h:Zaq xs al src to w):GoodW w/\w.to=to:=by
 obtain⟨h1,a,_,h2⟩:=h;exact⟨((ZbL xs a src).2 w h2).1,h1⟩
theorem ZcU {w:WayD}(h:w∈ZbE xs a src):Zax xs=true/\0<=a/\a<3:=by
 by_cases he:∃ ds,ZaX xs a src ds
 ·obtain ⟨ds,hd⟩:=he;rw [<-hd.eq] at h;unfold ZaX at hd
  split at hd
  ·rename_i e
   simp only [YAJ] at e;obtain⟨⟨e1,_⟩,e3⟩:=e;refine⟨e1,?_⟩;unfold Zdt ZdY at e3;rcases ZcY xs (ZeL a src) with hz | ⟨j,y,hz,hy,hs⟩
   ·rw [hz] at e3;simp at e3
   ·have hm:y∈xs:=YAG hy;unfold Zax at e1;simp only [YAJ] at e1;have hok:=Zdv e1.1.2 hm;simp only [Zap,ZeL,YAJ,beq_iff_eq] at hs;obtain⟨⟨⟨s1,s2⟩,_⟩,_⟩:=hs;unfold ZaW at hok;rw [if_pos s2] at hok;simp only [YAJ,inB,YAS] at hok;omega
  ·rw [hd] at h;cases h
 ·unfold ZbE at h;rw [dif_neg he] at h;cases h
theorem ZjK {bs:List Int}(h:∀ a,0<=a->a<3->(a∈al↔a∈bs))(to:Int)(w:WayD):Zaq xs al src to w↔Zaq xs bs src to w:=by
 constructor
 ·rintro ⟨h1,a,h2,h3⟩;have:=(ZcU h3).2;exact⟨h1,a,(h a this.1 this.2).1 h2,h3⟩
 ·rintro ⟨h1,a,h2,h3⟩;have:=(ZcU h3).2;exact⟨h1,a,(h a this.1 this.2).2 h2,h3⟩
theorem Zen {k:Nat}(h:al[k]? = some a)(to:Int)(w:WayD):Zaq xs (al.take (k+1)) src to w↔Zaq xs (al.take k) src to w\/(w.to=to/\w∈ZbE xs a src):=by
 obtain⟨hk,e⟩:=YAD.1 h;unfold Zaq;rw [YAI hk,e];constructor
 ·rintro ⟨h1,b,h2,h3⟩;rcases YAF.1 h2 with h4 | h4
  ·exact .inl ⟨h1,b,h4,h3⟩
  ·have:b=a:=by simpa using h4
   subst this;exact .inr ⟨h1,h3⟩
 ·rintro (⟨h1,b,h2,h3⟩ | ⟨h1,h3⟩)
  ·exact ⟨h1,b,YAF.2 (.inl h2),h3⟩
  ·exact ⟨h1,a,YAF.2 (.inr (by simp)),h3⟩
theorem Zbz {j:Nat}{r:WayD}(h:ds[j]? = some r)(w:WayD):w∈ds.take (j+1)↔w∈ds.take j\/w=r:=by
 obtain⟨hk,e⟩:=YAD.1 h;rw [YAI hk,e];simp
theorem Zct (h:∀ to w,¬S to w):ZaE S []:=⟨by simp [AscW],fun to=>h to⟩
theorem ZaE.push {b:WayD}(h:ZaE (fun to w=>to<t/\S to w) ds)(hb:ZaN t (S t) (some b)):ZaE (fun to w=>to<t+1/\S to w) (ds++[b]):=by
 have hlt:∀ w∈ds,w.to<t:=by
  intro w hw;have h1:=h.2 w.to;rw [ZbP h.1 hw] at h1;obtain⟨_,⟨u,hu,_⟩,_⟩:=h1;exact hu.1
 have hbt:b.to=t:=hb.1;have hasc:AscW (ds++[b]):=by
  unfold AscW;rw [YAM];refine⟨h.1,by simp,fun x hx y hy=>?_⟩;have:y=b:=by simpa using hy
  subst this;rw [hbt];exact hlt x hx
 refine⟨hasc,fun to=>?_⟩;by_cases e:to=t
 ·subst e;have hf:ZaV (ds++[b]) b.to=some b:=ZbP hasc (by simp);rw [hbt] at hf;rw [hf];refine hb.congr (fun w=>⟨fun hw=>⟨by omega,hw⟩,fun hw=>hw.2⟩)
 ·have hf:ZaV (ds++[b]) to=ZaV ds to:=by
   unfold ZaV;rw [List.find?_append];cases e2:ds.find? (fun x=>x.to==to) with
   | some w=>rfl
   | none=>
    simp only [Option.none_or,List.find?_cons,List.find?_nil];have:(b.to==to)=false:=by rw [hbt];simpa using fun h=>e h.symm
    rw [this]
  rw [hf];refine (h.2 to).congr (fun w=>⟨fun hw=>⟨by omega,hw.2⟩,fun hw=>⟨by have:=hw.1;omega,hw.2⟩⟩)
theorem ZaE.skip (h:ZaE (fun to w=>to<t/\S to w) ds)(hb:ZaN t (S t) none):ZaE (fun to w=>to<t+1/\S to w) ds:=by
 refine h.congr (fun to w=>⟨fun hw=>⟨by omega,hw.2⟩,fun hw=>⟨?_,hw.2⟩⟩);have h1:=hw.1;by_cases e:to=t
 ·subst e;exact absurd hw.2 (hb w)
 ·omega
theorem Zcb (ds:List WayD)(to:Int):(Zbk ds to=true/\ZaV ds to=some (Zbo ds to))\/(Zbk ds to=false/\ZaV ds to=none):=by
 unfold Zbk Zbo ZaV;cases e:ds.find? (fun x=>x.to==to) with
 | none=>exact .inr ⟨rfl,rfl⟩
 | some w=>exact .inl ⟨rfl,rfl⟩
theorem ZkY {tog:WayD->WayD->WayD}(ht:ZkU tog){k:Nat}{o:Option WayD}(h:al[k]? = some a)(hb:ZaN t (Zaq xs (al.take k) src t) o):
  ZaN t (Zaq xs (al.take (k+1)) src t) (ZfI tog o (ZaV (ZbE xs a src) t)):=by
 have hw:=ZbL xs a src;cases e:ZaV (ZbE xs a src) t with
 | none=>
  refine ZaN.congr hb (fun w=>?_);rw [Zen h];constructor
  ·exact .inl
  ·rintro (h1 | ⟨h1,h2⟩)
   ·exact h1
   ·exact absurd h1 (Zdz e w h2)
 | some r=>
  have hr:=ZaM e;have hg:=(hw.2 r hr.1).1;refine (hb.add ht (fun w hw=>(Za1 hw).1.hop6) hr.2 hg.asc hg.hop6).congr (fun w=>?_);rw [Zen h];constructor
  ·rintro (h1 | h1)
   ·exact .inl h1
   ·subst h1;exact .inr ⟨hr.2,hr.1⟩
  ·rintro (h1 | ⟨h1,h2⟩)
   ·exact .inl h1
   ·exact .inr (ZjV hw.1 h2 hr.1 (by rw [h1,hr.2]))
def Off (x:Value)(lo hi:Nat):Prop:=∀ b,x.ownBlock=some b->b<lo\/hi<=b
theorem Off.kept {x:Value}{lo hi:Nat}(h:Off x lo hi){W W':World}(hg:W.grownBy W' x.ownBlock):∀ k,lo<=k->k<hi->k<W.heap.size->W'.heap[k]? = W.heap[k]? :=
 fun k h1 h2 h3=>hg.block k h3 (fun e=>by have:=h k e.symm;omega)
theorem Off.next {x x':Value}{lo hi B:Nat}(h:Off x lo hi)(hn:∀ b,x'.ownBlock=some b->x.ownBlock=some b\/B<=b)(hB:hi<=B):Off x' lo hi:=fun b hb=>by
 rcases hn b hb with h1 | h1
 ·exact h b h1
 ·omega
end Go.Proofs.YtikloccefmofdaaGreat
namespace Go.Proofs.YtikloccefmofdaaGreat
open Go.RowKit

set_option linter.unusedSimpArgs false

theorem FS.popped {W W':World}{lo z n:Nat}{u u':Value}{q q':Nat->Nat}{bp:Nat->Option Nat}{wd:Nat->WayD}{wv:Nat->Value}(s:FS W lo z u (n+1) q bp wd wv)(F:FK W W' lo z)(hb':HB W' lo z (finC bp u') u' n q' wd wv)(hi:ZcV (fun k=>(wd k).cost) q' n):FS W' lo z u' n q' bp wd wv:=by
 refine⟨s.lz,hb',hi,fun v k e=>⟨?_,(s.way v k e).2⟩,fun v k e=>?_,s.short,s.apart,s.to,s.b0⟩
 ·have hj:=(s.way v k e).1;exact (F.typed _ _ _ _ hj (by decide) (fun e=>by rw [e,s.hb.box] at hj;simp at hj)).trans hj
 ·have ho:=s.row v k e;refine Zal ho (fun j hj=>?_);rcases ho.2 with ⟨e1,_⟩ | ⟨g2,cap,cur,e1,_,hh,_⟩
  ·rw [e1] at hj;cases hj
  ·rw [e1] at hj;simp [Value.ownBlock] at hj;subst hj;exact F.typed _ _ _ _ hh (by decide) (fun e=>by rw [e,s.hb.box] at hh;simp at hh)

theorem ZqI {L:Nat->Nat->Int}{src:Nat}{F:Nat->Bool}{c:Nat->Int}{h:Nat->List Int}(I:Inv L src F c h){u t:Nat}(hu:0<=c u){x:WayD}(hx:x.hops=h u)(co:Int):onwD x (t:Int) co=⟨(t:Int),x.cost+co,wayL src h u t⟩:=by
 unfold onwD wayL;by_cases e:u=src
 ·have:x.hops=[]:=by rw [hx,e];exact I.start0
  rw [if_pos this,if_pos e]
 ·have:x.hops≠[]:=by rw [hx];exact I.hops_ne _ u e hu (YA _)
  rw [if_neg this,if_neg e,hx]

theorem ZjI {L:Nat->Nat->Int}{src:Nat}{F:Nat->Bool}{c:Nat->Int}{h:Nat->List Int}(I:Inv L src F c h){u t:Nat}(ht:1<=t/\t<=6):(wayL src h u t).Pairwise (· < ·)/\∀ x,x∈wayL src h u t->1<=x/\x<=6:=by
 unfold wayL;by_cases e:u=src
 ·rw [if_pos e];refine⟨by simp,fun x hx=>?_⟩;simp at hx;omega
 ·rw [if_neg e];exact⟨I.asc u,I.rng u⟩

theorem Zsq {L:Nat->Nat->Int}{src:Nat}{F:Nat->Bool}{c:Nat->Int}{h:Nat->List Int}(I:Inv L src F c h){u t:Nat}(ht:1<=t/\t<=6):(wayL src h u t).length<=6:=by
 obtain⟨h1,h2⟩:=ZjI I (u:=u) ht;rw [ZgE (a:=[]) (b:=wayL src h u t) h1 (fun x=>by simp) h2];exact ZcF _ _

section
variable {L:Nat->Nat->Int} {src:Nat} {F:Nat->Bool} {c:Nat->Int} {h:Nat->List Int} {n u t:Nat} {q:Nat->Nat} {bp:Nat->Option Nat} {wd:Nat->WayD}

theorem ZoP (I:Inv L src F c h)(hl:0<L u t)(ht:1<=t/\t<=6)(g:GI (fun x=>F x||x==u) (mixC L c u t) (mixH L src c h u t) n q bp wd){kn:Nat}(hb:bp t=some kn)(hnc:¬c u+L u t<(wd kn).cost):
  (togI (wd kn) ⟨(t:Int),c u+L u t,wayL src h u t⟩).hops=ZbG L src c h u t/\Zaz L c u t=c t/\(togI (wd kn) ⟨(t:Int),c u+L u t,wayL src h u t⟩).cost=(wd kn).cost/\(togI (wd kn) ⟨(t:Int),c u+L u t,wayL src h u t⟩).to=(wd kn).to:=by
 have hc:(wd kn).cost=c t:=by have:=g.cc t;rw [ZcC hb,ZdB] at this;exact this
 have hh:(wd kn).hops=h t:=by have:=g.hh t;rw [Zet hb,ZfH] at this;exact this
 have h0:=g.nn t kn hb;unfold togI Zbr;by_cases e:(wd kn).cost<c u+L u t
 ·have hr:=ZdU (L:=L) (src:=src) (c:=c) (h:=h) (u:=u) (v:=t) (by omega) (by omega);rw [if_pos (by simpa using e)];exact⟨by rw [hr.1];exact hh,hr.2,rfl,rfl⟩
 ·have hr:=Zfc (L:=L) (src:=src) (c:=c) (h:=h) (u:=u) (v:=t) hl (by omega) (by omega);rw [if_neg (by simpa using e),if_neg (by simpa using hnc)];refine⟨?_,hr.2,rfl,rfl⟩;show Zcr (wd kn).hops (wayL src h u t)=_;rw [hr.1,hh];refine ZgE (Zhc _ _) (fun x=>Zfy) (fun x hx=>?_);rcases Zfy.1 hx with h1 | h1
  ·exact I.rng t x h1
  ·exact (ZjI I ht).2 x h1

theorem Zpq (I:Inv L src F c h)(hL:Links L 1000)(hu:0<=c u):(ZbG L src c h u t).length<=6:=by
 have r:=Zfe I hL hu t;rw [ZgE (a:=[]) (b:=ZbG L src c h u t) r.asc (fun x=>by simp) (fun x hx=>by
  rcases (r.mem x).1 hx with ⟨h1,_⟩ | ⟨h1,_,h3⟩
  ·exact I.rng t x h1
  ·have hn:=(hL.node u t h1).2;unfold Zca at hn;exact (ZjI I (src:=src) (u:=u) hn).2 x (ZjH.2 h3))]
 exact ZcF _ _

theorem ZnB (I:Inv L src F c h)(hl:0<L u t)(ht:1<=t/\t<=6)(g:GI (fun x=>F x||x==u) (mixC L c u t) (mixH L src c h u t) n q bp wd){kn:Nat}(hb:bp t=some kn)(hnc:¬c u+L u t<(wd kn).cost):
  GI (fun x=>F x||x==u) (mixC L c u (t+1)) (mixH L src c h u (t+1)) n q bp (upd wd kn (togI (wd kn) ⟨(t:Int),c u+L u t,wayL src h u t⟩)):=by
 obtain⟨j1,j2,j3,j4⟩:=ZoP I hl ht g hb hnc;have:=g.join hb j3 j4;rw [j1] at this;rw [Zc3 j2,Zcj];exact this

theorem ZnC (I:Inv L src F c h)(hF:F u=false)(hu:0<=c u)(hl:0<L u t)(ht:1<=t/\t<=6)(g:GI (fun x=>F x||x==u) (mixC L c u t) (mixH L src c h u t) n q bp wd){k:Nat}{q':Nat->Nat}
  (hcase:bp t=none\/∃ kn,bp t=some kn/\c u+L u t<(wd kn).cost) (hk1:∀ i,i<n->q i≠k) (hk2:∀ v,bp v≠some k) (hs:Shuf (fun y=>if y=n then k else q y) q' (n+1)):
  GI (fun x=>F x||x==u) (mixC L c u (t+1)) (mixH L src c h u (t+1)) (n+1) q' (upd bp t (some k)) (upd wd k ⟨(t:Int),c u+L u t,wayL src h u t⟩):=by
 have hc:c t<0\/c u+L u t<c t:=by
  have h1:=g.cc t;rw [ZdB] at h1;rcases hcase with e | ⟨kn,e,h2⟩
  ·rw [ZgG e] at h1;omega
  ·rw [ZcC e] at h1;omega
 have hFt:(F t||t==u)=false:=by
  cases e:F t with
  | true=>
   have h1:=I.mono t u e hF hu;have h2:=(I.fnode t e).2;omega
  | false=>
   by_cases e2:t=u
   ·subst e2;omega
   ·simp [e2]
 have hr:=Zc7 (L:=L) (src:=src) (c:=c) (h:=h) (u:=u) (v:=t) hl hc;have hw:=ZjI I (u:=u) ht;have hway:wayL src h u t=ZbG L src c h u t:=by
  rw [hr.1];exact ZgE hw.1 (fun x=>by simp) hw.2
 have:=g.push (t:=t) (k:=k) (x:=⟨(t:Int),c u+L u t,wayL src h u t⟩) hFt rfl (by rw [ZdB];exact hc) hk1 hk2 hs (by show 0<=c u+L u t;omega);rw [ZdC,Zcj,hr.2, <-hway];exact this

theorem ZnD (hl:¬0<L u t)(g:GI (fun x=>F x||x==u) (mixC L c u t) (mixH L src c h u t) n q bp wd):GI (fun x=>F x||x==u) (mixC L c u (t+1)) (mixH L src c h u (t+1)) n q bp wd:=by
 have hr:=Zfd (src:=src) (c:=c) (h:=h) hl;rw [Zc3 hr.2,ZfG hr.1];exact g
end

def GO (W:World)(lo z:Nat)(L:Nat->Nat->Int)(src m:Nat):Prop:=
 ∃ u n q bp wd wv F c h,FS W lo z u n q bp wd wv/\GI F c h n q bp wd/\Inv L src F c h/\(∀ v,c v<=1000*(Zb4 F:Int))/\m=7*(6-Zb4 F)+n

def GEnd (W:World)(lo z:Nat)(L:Nat->Nat->Int)(src:Nat):Prop:=
 ∃ u q bp wd wv c h,FS W lo z u 0 q bp wd wv/\(∀ v,cOf bp wd v=c v)/\(∀ v,hOf bp wd v=h v)/\(∀ v k,bp v=some k->0<=(wd k).cost)/\Fix L src c h

theorem GI.end {L:Nat->Nat->Int}{src:Nat}{F:Nat->Bool}{c:Nat->Int}{h:Nat->List Int}{q:Nat->Nat}{bp:Nat->Option Nat}{wd:Nat->WayD}(g:GI F c h 0 q bp wd)(I:Inv L src F c h):Fix L src c h:=by
 refine⟨F,I,fun v hv=>?_⟩;cases e:F v with
 | true=>rfl
 | false=>
  have h1:=g.cc v;cases e2:bp v with
  | none=>rw [ZgG e2] at h1;omega
  | some k=>
   obtain⟨i,hi,_⟩:=g.live v k e2 e;omega

theorem GI.stale {F:Nat->Bool}{c:Nat->Int}{h:Nat->List Int}{n:Nat}{q q':Nat->Nat}{bp:Nat->Option Nat}{wd:Nat->WayD}(g:GI F c h (n+1) q bp wd)(hs:Shuf (Zcn q 0 n) q' n){v kb:Nat}(hto:(wd (q 0)).to=(v:Int))(hb:bp v=some kb)(hlt:(wd kb).cost<(wd (q 0)).cost):GI F c h n q' bp wd:=by
 refine g.pop hs (fun _ e=>e) (fun v' k e hF e2=>?_) (fun v' e1 e2=>by rw [e1] at e2;cases e2);subst e2;have h1:=g.to v' _ e;have:v'=v:=by omega
 subst this;rw [hb] at e;cases e;omega

theorem GI.fresh {F:Nat->Bool}{c:Nat->Int}{h:Nat->List Int}{n:Nat}{q q':Nat->Nat}{bp:Nat->Option Nat}{wd:Nat->WayD}(g:GI F c h (n+1) q bp wd)(hs:Shuf (Zcn q 0 n) q' n)(hh:ZcV (fun k=>(wd k).cost) q (n+1)){v kb:Nat}(hto:(wd (q 0)).to=(v:Int))(hb:bp v=some kb)(hlt:¬(wd kb).cost<(wd (q 0)).cost):
  GI (fun x=>F x||x==v) c h n q' bp wd/\q 0=kb/\F v=false/\0<=c v/\(wd (q 0)).cost=c v/\(wd (q 0)).hops=h v/\∀ v',F v'=false->0<=c v'->c v<=c v':=by
 obtain⟨v2,kb2,e1,e2,e3⟩:=g.ent 0 (by omega);have hv:v2=v:=by omega
 subst hv;rw [hb] at e2;cases e2;rcases e3 with ⟨e4,e5⟩ | e4
 ·have hcv:(wd (q 0)).cost=c v2:=by have:=g.cc v2;rw [ZcC hb] at this;rw [e4];exact this
  have hhv:(wd (q 0)).hops=h v2:=by have:=g.hh v2;rw [Zet hb] at this;rw [e4];exact this
  have h0:=g.nn v2 kb hb;refine⟨g.pop hs (fun v' e=>?_) (fun v' k e hF e6=>?_) (fun v' e6 e7=>?_),e4,e5,by rw [<-hcv,e4];exact h0,hcv,hhv,fun v' hF hc=>?_⟩
  ·cases e6:F v' with
   | false=>rfl
   | true=>rw [e6] at e;simp at e
  ·subst e6;have h1:=g.to v' _ e;have h2:v'=v2:=by omega
   subst h2;simp at hF
  ·rw [e6] at e7;have h1:v'=v2:=by simpa using e7
   subst h1;rw [hb,e4]
  ·have h1:=g.cc v';cases e6:bp v' with
   | none=>rw [ZgG e6] at h1;omega
   | some k'=>
    rw [ZcC e6] at h1;obtain⟨i,hi,e7⟩:=g.live v' k' e6 hF;have h2:=Zkc hh i i (YA _) hi;have h3:(wd (q 0)).cost<=(wd (q i)).cost:=h2;rw [e7] at h3;omega
 ·exact absurd e4 hlt
end Go.Proofs.YtikloccefmofdaaGreat
namespace Go.Proofs.YtikloccefmofdaaGreat
open Go.RowKit
set_option linter.unusedSimpArgs false
set_option linter.unusedVariables false
set_option maxRecDepth 100000
set_option maxHeartbeats 8000000
variable {ps:List WP}{xs:List WayD}{i lo:Nat}{r:WP}{W:World}
theorem Zow {hi:Nat}(h:ZbA W lo hi r):∀ u∈encW r,u.oneCell'=true:=by
 obtain⟨a,c,e⟩:=Zac h.1;obtain⟨x,v⟩:=r;simp only at e;subst e;exact Zdh x a _ c
theorem Zll (lo i vb:Nat)(v:Value)(ps:List WP)(r:WP)(w:World)(hv:WaysOwn w lo w.heap.size v ps)(hlo:lo<=w.heap.size)(hi:i<=ps.length)(hn:ps.length<=1048576)(hvb:w.heap[vb]? = some (.cells (encW r).toArray 108 (0,0)))(hne:some vb≠v.ownBlock)(hr1:∀ u∈encW r,u.oneCell'=true):
  Calls Tryz.prog 127 #[v,.int .i64 (i:Int),.slice (some ⟨vb,0,none⟩) 1 1] w fun e w'=>∃ v',e=.returned v'/\w'.ownsRow lo 108 3 v' (ps.length+1) (flat encW (ps.take i++[r]++ps.drop i))/\w.grownBy w' v.ownBlock/\(v'.ownBlock=v.ownBlock\/v'.ownBlock=some w.heap.size):=by
 by_cases he:i=ps.length
 ·rw [he];exact Zqt lo ps.length 1 vb v ps r w rfl rfl hlo hn hv.row hvb hr1
 ·have hone:∀ p∈ps,∃ a k c,p.2=.slice a k c:=fun p hp=>by
   obtain⟨a,c,e⟩:=Zac (hv.nears p hp).1;exact⟨a,_,c,e⟩
  rcases hv.row.2 with ⟨_,h0⟩ | ⟨g,cap,cur,hve,_⟩
  ·omega
  ·subst hve;have hne2:vb≠g:=fun e=>hne (by rw [e];rfl);by_cases hroom:ps.length+1<=cap
   ·exact Znf lo g cap ps.length 1 i vb ps r w rfl rfl hv.row (by omega) hroom hvb hne2 hone hr1
   ·exact ZoI lo g cap ps.length 1 i vb ps r w rfl rfl hlo hn hv.row (by omega) (by omega) hvb hone hr1
theorem ZcM.symm {p q:WP}(h:ZcM p q):ZcM q p:=fun k hk hp=>h k hp hk
theorem Zke {W2:World}{v:Value}(h:WaysOwn W lo W.heap.size v ps)(hg:W.grownBy W2 v.ownBlock){q:WP}(hq:ZbA W lo W.heap.size q):ZbA W2 lo W2.heap.size q:=
 ⟨Zal hq.1 (fun j hj=>hg.block j (hq.2 j hj) (Zgb hq h.row j hj)),fun k hk=>YAB (hq.2 k hk) hg.size⟩
theorem WaysOwn.ins {W2:World}{v v':Value}(h:WaysOwn W lo W.heap.size v ps)(hr:ZbA W lo W.heap.size r)(hap:∀ p∈ps,ZcM p r)(hi:i<=ps.length)
  (row:W2.ownsRow lo 108 3 v' (ps.length+1) (flat encW (ps.take i++[r]++ps.drop i))) (hg:W.grownBy W2 v.ownBlock):WaysOwn W2 lo W2.heap.size v' (ps.take i++[r]++ps.drop i) where
 row:=by rw [Zjb ps r i hi];exact row
 top:=fun k hk=>(row.lt k hk).2
 nears:=by
  intro q hq;refine Zke h hg ?_;rcases YAF.1 hq with h1 | h1
  ·rcases YAF.1 h1 with h2 | h2
   ·exact h.nears q (YAj h2)
   ·have:q=r:=by simpa using h2
    subst this;exact hr
  ·exact h.nears q (List.mem_of_mem_drop h1)
 apart:=by
  have hp:=h.apart;rw [<-YAc i ps,YAM] at hp;rw [YAY,YAM];refine⟨hp.1,?_,?_⟩
  ·rw [YAM];refine⟨by simp,hp.2.1,?_⟩;intro a ha b hb;have:a=r:=by simpa using ha
   subst this;exact (hap b (List.mem_of_mem_drop hb)).symm
  ·intro a ha b hb;rcases YAF.1 hb with h1 | h1
   ·have:b=r:=by simpa using h1
    subst this;exact hap a (YAj ha)
   ·exact hp.2.2 a ha b h1
theorem WaysOwn.put {g cap n:Nat}(h:WaysOwn W lo W.heap.size (.slice (some ⟨g,0,none⟩) n cap) ps)(hn:n=ps.length)(hr:ZbA W lo W.heap.size r)(hap:∀ p∈ps,ZcM p r)(hi:i<ps.length):WaysOwn (putW W g (i*3) r) lo (putW W g (i*3) r).heap.size (.slice (some ⟨g,0,none⟩) n cap) (ps.set i r):=by
 subst hn;have hst:=Zpn (p:=r) h.row hi;have hg:W.grownBy (putW W g (i*3) r) (Value.slice (some ⟨g,0,none⟩) ps.length cap).ownBlock:=Zim W g (i*3) r;refine⟨by simpa using hst,fun k hk=>(hst.lt k hk).2,?_,?_⟩
 ·intro q hq;refine Zke h hg ?_;rcases List.mem_or_eq_of_mem_set hq with h1 | h1
  ·exact h.nears q h1
  ·subst h1;exact hr
 ·have hp:=h.apart;rw [YAa] at hp |-;intro a b ha hb hab;simp only [List.length_set] at ha hb;rw [List.getElem_set,List.getElem_set];by_cases e1:i=a
  ·rw [if_pos e1,if_neg (by omega)];exact (hap _ (YAt hb)).symm
  ·rw [if_neg e1];by_cases e2:i=b
   ·rw [if_pos e2];exact hap _ (YAt ha)
   ·rw [if_neg e2];exact hp a b ha hb hab
theorem Zom (ps:List WP)(r:WP)(i:Nat):Zaj (ps.take i++[r]++ps.drop i)=(Zaj ps).take i++[r.1]++(Zaj ps).drop i:=by simp [Zaj]
theorem Zon (ps:List WP)(r:WP)(i:Nat):Zaj (ps.set i r)=(Zaj ps).set i r.1:=by simp [Zaj,List.map_set]
theorem Zn4 (h:AscW xs)(r:WayD):∀ s t,s<=t->t<xs.length->ltW xs r t->ltW xs r s:=by
 intro s t hst ht hl;obtain⟨x,hx,hlt⟩:=hl;by_cases e:s=t
 ·subst e;exact⟨x,hx,hlt⟩
 ·obtain ⟨h1,e1⟩:=YAD.1 hx;unfold AscW at h;rw [YAa] at h;have h2:=h s t (by omega) ht (by omega);rw [e1] at h2;exact⟨xs[s],YAA (by omega),by omega⟩
theorem Zsa {r:WayD}(h:AscW xs)(hi:i<=xs.length)(h1:∀ t,t<i->ltW xs r t)(h2:∀ t,i<=t->t<xs.length->¬ltW xs r t)(h3:¬∃ x,xs[i]? = some x/\x.to=r.to)(tog:WayD->WayD->WayD):
  AscW (xs.take i++[r]++xs.drop i)/\∀ to,ZaV (xs.take i++[r]++xs.drop i) to=if to=r.to then ZfI tog (ZaV xs to) (some r) else ZaV xs to:=by
 have hlo:∀ x∈xs.take i,x.to<r.to:=by
  intro x hx;obtain⟨j,hj,e⟩:=List.getElem_of_mem hx;rw [YAV] at hj;rw [List.getElem_take] at e;obtain⟨y,hy,hl⟩:=h1 j (by omega);rw [YAA (by omega)] at hy;have hy':=Option.some.inj hy;rw [<-e,hy'];exact hl
 have hhi:∀ x∈xs.drop i,r.to<x.to:=by
  have hge:∀ x∈xs.drop i,r.to<=x.to:=by
   intro x hx;obtain⟨j,hj,e⟩:=List.getElem_of_mem hx;rw [YAi] at hj;rw [List.getElem_drop] at e;have:=h2 (i+j) (by omega) (by omega);rcases Int.lt_or_le x.to r.to with hc | hc
   ·exact absurd ⟨x,by rw [YAA (by omega),e],hc⟩ this
   ·exact hc
  intro x hx;have h4:=hge x hx;rcases Int.lt_or_le r.to x.to with hc | hc
  ·exact hc
  ·exfalso;have hlen:i<xs.length:=by
    rcases Nat.lt_or_ge i xs.length with h5 | h5
    ·exact h5
    ·rw [List.drop_eq_nil_of_le h5] at hx;cases hx
   rw [YAl hlen] at hx;have h6:=hge xs[i] (by rw [YAl hlen];exact List.mem_cons_self);rcases YAb.1 hx with e | e
   ·exact h3 ⟨xs[i],YAA hlen,by rw [<-e];omega⟩
   ·have hp:=h;unfold AscW at hp;rw [<-YAc i xs,YAM] at hp;have hp2:=hp.2.1;rw [YAl hlen] at hp2;have:=(YAo.1 hp2).1 x e;omega
 have hp:=h;unfold AscW at hp;rw [<-YAc i xs,YAM] at hp;have hasc:AscW (xs.take i++[r]++xs.drop i):=by
  unfold AscW;rw [YAY,YAM];refine⟨hp.1,?_,?_⟩
  ·rw [YAM];refine⟨by simp,hp.2.1,?_⟩;intro a ha b hb;have:a=r:=by simpa using ha
   subst this;exact hhi b hb
  ·intro a ha b hb;rcases YAF.1 hb with h5 | h5
   ·have:b=r:=by simpa using h5
    subst this;exact hlo a ha
   ·exact hp.2.2 a ha b h5
 have hmem:∀ x,x∈xs.take i++[r]++xs.drop i↔x∈xs\/x=r:=by
  intro x;simp only [YAF,YAw];constructor
  ·rintro ((h5 | h5) | h5)
   ·exact .inl (YAj h5)
   ·exact .inr h5
   ·exact .inl (List.mem_of_mem_drop h5)
  ·rintro (h5 | h5)
   ·rw [<-YAc i xs] at h5;rcases YAF.1 h5 with h6 | h6
    ·exact .inl (.inl h6)
    ·exact .inr h6
   ·exact .inl (.inr h5)
 have hno:∀ x∈xs,x.to≠r.to:=by
  intro x hx;rw [<-YAc i xs] at hx;rcases YAF.1 hx with h6 | h6
  ·have:=hlo x h6;omega
  ·have:=hhi x h6;omega
 refine⟨hasc,fun to=>?_⟩;by_cases e:to=r.to
 ·subst e;rw [if_pos rfl];have hn:ZaV xs r.to=none:=by
   cases e2:ZaV xs r.to with
   | none=>rfl
   | some y=>have:=ZaM e2;exact absurd this.2 (hno y this.1)
  rw [hn];exact ZbP hasc ((hmem r).2 (.inr rfl))
 ·rw [if_neg e];cases e2:ZaV xs to with
  | none=>
   cases e3:ZaV (xs.take i++[r]++xs.drop i) to with
   | none=>rfl
   | some y=>
    have h7:=ZaM e3;rcases (hmem y).1 h7.1 with h8 | h8
    ·exact absurd h7.2 (Zdz e2 y h8)
    ·exact absurd (by rw [<-h7.2,h8]) e
  | some y=>
   have h7:=ZaM e2;have:=ZbP hasc ((hmem y).2 (.inl h7.1));rw [h7.2] at this;exact this
theorem Zsb {r x y:WayD}(h:AscW xs)(hx:xs[i]? = some x)(he:x.to=r.to)(tog:WayD->WayD->WayD)(hy:y=tog x r)(hyt:y.to=x.to):
  AscW (xs.set i y)/\∀ to,ZaV (xs.set i y) to=if to=r.to then ZfI tog (ZaV xs to) (some r) else ZaV xs to:=by
 obtain⟨hi,e1⟩:=YAD.1 hx;have hasc:AscW (xs.set i y):=by
  unfold AscW at h |-;rw [YAa] at h |-;intro a b ha hb hab;simp only [List.length_set] at ha hb;have hab2:=h a b ha hb hab;rw [List.getElem_set,List.getElem_set];by_cases ea:i=a
  ·subst ea;rw [if_pos rfl,if_neg (by omega),hyt, <-e1];exact hab2
  ·rw [if_neg ea];by_cases eb:i=b
   ·subst eb;rw [if_pos rfl,hyt, <-e1];exact hab2
   ·rw [if_neg eb];exact hab2
 have hxm:x∈xs:=YAG hx;have hym:y∈xs.set i y:=List.mem_iff_getElem?.2 ⟨i,List.getElem?_set_self hi⟩;have hoth:∀ z,z.to≠x.to->(z∈xs.set i y↔z∈xs):=by
  intro z hz;constructor
  ·intro hm;rcases List.mem_or_eq_of_mem_set hm with h5 | h5
   ·exact h5
   ·subst h5;exact absurd hyt hz
  ·intro hm;obtain⟨j,hj,e⟩:=List.getElem_of_mem hm;have hji:j≠i:=fun e2=>by subst e2;rw [e1] at e;exact hz (by rw [e])
   exact List.mem_iff_getElem?.2 ⟨j,by rw [List.getElem?_set_ne (Ne.symm hji),YAA hj,e]⟩
 refine⟨hasc,fun to=>?_⟩;by_cases e:to=r.to
 ·rw [if_pos e];have hf:ZaV xs to=some x:=by rw [e, <-he];exact ZbP h hxm
  rw [hf];show _=some (tog x r);rw [<-hy];have:=ZbP hasc hym;rw [hyt,he, <-e] at this;exact this
 ·rw [if_neg e];have ene:to≠x.to:=by rw [he];exact e
  cases e2:ZaV xs to with
  | none=>
   cases e3:ZaV (xs.set i y) to with
   | none=>rfl
   | some z=>
    have h7:=ZaM e3;exact absurd h7.2 (Zdz e2 z ((hoth z (by rw [h7.2];exact ene)).1 h7.1))
  | some z=>
   have h7:=ZaM e2;have:=ZbP hasc ((hoth z (by rw [h7.2];exact ene)).2 h7.1);rw [h7.2] at this;exact this
theorem Zsj (x y:WayD)(h:x.to=y.to):(togI x y).to=x.to:=by
 unfold togI
 split
 ·rfl
 ·split
  ·exact h.symm
  ·rfl
def PutD (ds:List WayD)(r:WayD)(es:List WayD):Prop:=AscW es/\∀ to,ZaV es to=if to=r.to then ZfI togI (ZaV ds to) (some r) else ZaV ds to
def ZeS (B:Nat)(ps:List WP)(r:WP)(qs:List WP):Prop:=∀ q∈qs,(∃ p∈ps,q.2=p.2)\/q.2=r.2\/∀ k,q.2.ownBlock=some k->B<=k
theorem Zk8 (B:Nat)(ps:List WP)(r:WP)(i:Nat):ZeS B ps r (ps.take i++[r]++ps.drop i):=by
 intro q hq;rcases YAF.1 hq with h1 | h1
 ·rcases YAF.1 h1 with h2 | h2
  ·exact .inl ⟨q,YAj h2,rfl⟩
  ·have:q=r:=by simpa using h2
   subst this;exact .inr (.inl rfl)
 ·exact .inl ⟨q,List.mem_of_mem_drop h1,rfl⟩
theorem Zk9 (B:Nat)(ps:List WP)(r q0:WP)(i:Nat)(h:∀ k,q0.2.ownBlock=some k->B<=k):ZeS B ps r (ps.set i q0):=by
 intro q hq;rcases List.mem_or_eq_of_mem_set hq with h1 | h1
 ·exact .inl ⟨q,h1,rfl⟩
 ·subst h1;exact .inr (.inr h)
theorem ZgX {B:Nat}{w:World}(h:Below B w W)(hB:w.heap.size<=B)(row:Option Nat):w.grownBy W row:=⟨h.os,h.tape,h.output,h.size,fun k hk _=>h.block k (by omega)⟩
theorem Zin (v:Value)(ps:List WP)(lo:Nat)(r:WP)(w:World)(hv:WaysOwn w lo w.heap.size v ps)(hlo:lo<=w.heap.size)(hn:ps.length<=1000)(hsh:∀ p∈ps,p.1.hops.length<=1000)(hrl:r.1.hops.length<=1000)(hasc:AscW (Zaj ps))(hr:ZbA w lo w.heap.size r)(hap:∀ p∈ps,ZcM p r):
  Calls Tryz.prog 93 #[v,.agg (wayC r.1 r.2)] w fun e w'=>∃ x qs,e=.returned x/\PutD (Zaj ps) r.1 (Zaj qs)/\WaysOwn w' lo w'.heap.size x qs/\ZeS w.heap.size ps r qs/\(∀ k,x.ownBlock=some k->v.ownBlock=some k\/w.heap.size<=k)/\w.grownBy w' v.ownBlock:=by
 have hfl:(Zaj ps).length=ps.length:=by simp [Zaj]
 obtain⟨a1,vc,hve⟩:=Zac hv.row;obtain⟨ra,rc,hrn⟩:=Zac hr.1;have BX:Below w.heap.size w (w.alloc (.cells #[.int .i64 r.1.to,.int .i64 r.1.cost,.slice ra r.1.hops.length rc] 108)):=(YAC _ _).alloc (YA _) _;have hx:=YAE w (.cells #[.int .i64 r.1.to,.int .i64 r.1.cost,.slice ra r.1.hops.length rc] 108);obtain⟨w0,hw0⟩:∃ w0,w0=w.alloc (.cells #[.int .i64 r.1.to,.int .i64 r.1.cost,.slice ra r.1.hops.length rc] 108):=⟨_,rfl⟩;rw [<-hw0] at BX hx;have hs0:=Zab hx;have hv0:=hv.below BX (YA _);have hr0:=hr.keep (W':=w0) (fun k _ _ h3=>BX.block k h3);have HS:=ZlH v ps w.heap.size r w0 hv0.at BX.size (by omega) ⟨ra,rc,hrn⟩ (by rw [<-hfl];exact Zn4 hasc r.1);have d0:=Zaa hx 0;have d1:=Zaa hx 1;have d2:=Zaa hx 2;simp at d0 d1 d2;have HV:=hide hv0;have HR:=hide hr0;have HA:=hide hasc;have HP:=hide hap;have HFL:=hide hfl;have HRN:=hide hrn;have HSH:=hide hsh;unfold wayC at *;rw [hrn] at HS |-;subst hve;have HSS:=hide HS;clear HS hv0 hr0 hasc hap hr hrn hv hfl hsh
 go_enter Tryz.func93,Tryz.ntmps93
 go_wp2_with fail
 rw [<-hw0];clear hw0;refine HSS.out.mono ?_;rintro e w1 ⟨i,f,rfl,hil,q1,q2,q3,b1⟩;have b1s:=b1.size;have hx1:=(b1.block _ hs0).trans hx;have B1:Below w.heap.size w w1:=BX.trans (b1.mono BX.size);have hv1:=(HV.out.below b1 (by omega)).wide (YA _) (show w.heap.size<=w1.heap.size by omega);have hr1:=((HR.out).keep (W':=w1) (fun k _ _ h3=>b1.block k h3)).wide (YA _) (show w.heap.size<=w1.heap.size by omega);have Q1:=hide q1;have Q2:=hide q2;have Q3:=hide q3;clear q1 q2 q3 d0 d1 d2 hx b1;have d0:=Zaa hx1 0;have d1:=Zaa hx1 1;have d2:=Zaa hx1 2;simp at d0 d1 d2;have hii:(0:Int)<=(i:Int):=by omega
 cases f with
 | true=>
  have hil2:i<ps.length:=by
   obtain⟨x,hx,_⟩:=Q3.out.1 rfl;have:=(YAD.1 hx).1;rw [HFL.out] at this;exact this
  have hij:(i:Int)<(ps.length:Int):=by omega
  obtain⟨p,hp⟩:∃ p,ps[i]? = some p:=⟨ps[i],YAA hil2⟩;rcases hv1.row.2 with ⟨_,h0⟩ | ⟨g,cap,cur,hve,_⟩
  ·omega
  ·cases hve;have hpo:=hv1.nears p (YAG hp);obtain⟨pa,pc,hpn⟩:=Zac hpo.1;obtain⟨b,off,cp,hve,hbb,c0,c1,c2,_⟩:=hv1.at.cells i p hp;cases hve;rw [hpn] at c2;simp only [Nat.zero_add] at c0 c1 c2;have hgl:=hv1.row.lt g rfl;have hgw:g<w.heap.size:=HV.out.top g rfl;have HTG:=Zmi p.1 r.1 p.2 r.2 lo lo w1.drew (Zad hpo.1 (YAC w1.heap.size w1).drew (YA _)) (Zad hr1.1 (YAC w1.heap.size w1).drew (YA _)) (by have:=HSH.out p (YAG hp);omega) (by omega);rw [hpn,HRN.out] at HTG;unfold wayC at HTG;obtain⟨q,hq⟩:∃ q,q=togI p.1 r.1:=⟨_,rfl⟩;rw [<-hq] at HTG;have hpe:p.1.to=r.1.to:=by
    obtain⟨x,hx,h0⟩:=Q3.out.1 rfl;rw [ZcQ hp] at hx;cases hx;exact h0
   have hfin:∀ (W:World) (u:Value),W.ownsRow w1.heap.size 3 1 u q.hops.length (flat intE q.hops)->Below w1.heap.size w1 W->∃ qs,PutD (Zaj ps) r.1 (Zaj qs)/\WaysOwn (putW W g (i*3) (q,u)) lo (putW W g (i*3) (q,u)).heap.size (.slice (some ⟨g,0,none⟩) ps.length vc) qs/\ZeS w.heap.size ps r qs/\w.grownBy (putW W g (i*3) (q,u)) (some g):=by
    intro W u hu hb;have hvW:=(hv1.below hb (YA _)).wide (YA _) hb.size;have hnew:ZbA W lo W.heap.size (q,u):=⟨Zaf hu (by omega),fun k hk=>(hu.lt k hk).2⟩;have hapn:∀ p'∈ps,ZcM p' (q,u):=fun p' hp' k hk he=>by
     have h1:=(hv1.nears p' hp').2 k hk;have h2:=(hu.lt k he).1;omega
    refine⟨ps.set i (q,u),?_,hvW.put rfl hnew hapn hil2,Zk9 _ _ _ _ _ (fun k hk=>by have:=(hu.lt k hk).1;omega),?_⟩
    ·rw [Zon];exact Zsb HA.out (ZcQ hp) hpe togI hq (by rw [hq];exact Zsj _ _ hpe)
    ·exact Zai (ZgX (B1.trans (hb.mono (by omega))) (YA _) _) (Zim W g (i*3) (q,u))
   have HFIN:=hide hfin;have HT:=hide HTG;have HV1:=hide hv1;have BD:Below w1.heap.size w1 w1.drew:=(YAC _ _).drew;replace c0:=(BD.cell (by exact hgl.2)).trans c0;replace c1:=(BD.cell (by exact hgl.2)).trans c1;replace c2:=(BD.cell (by exact hgl.2)).trans c2;replace d0:=(BD.cell (by show w.heap.size<w1.heap.size;omega)).trans d0;replace d1:=(BD.cell (by show w.heap.size<w1.heap.size;omega)).trans d1;replace d2:=(BD.cell (by show w.heap.size<w1.heap.size;omega)).trans d2;clear hfin HTG hv1 hr1 hpo hpn hp hq hpe HA HP
   go_wp2_with fail
   refine wp_region_noPanic ?_;refine Zag (S:=fun _=>True) (by kernel_rfl) 10 rfl trivial ?_;intro ops hops _;refine Zq3 _ _ _ _ _ _ _ _ _ _ _ _ _ _ _ _ _ _ _ _ _ _ _ _ _ _ w1.drew g ps.length vc i w.heap.size p.1 r.1 q pa ra p.1.hops.length pc r.1.hops.length rc (fun W u=>∃ l,W.ownsRow w1.heap.size 3 1 u l (flat intE q.hops)/\l=q.hops.length/\Below w1.heap.size w1 W) _ ops hops (fun _ _ _ _ h=>h) hii hij c0 c1 c2 d0 d1 d2 (hide (HT.out.mono ?_)) ?_ ?_ ?_
   ·rintro e w2 ⟨u,rfl,hu,hb⟩;obtain⟨ua,uc,rfl⟩:=Zac hu;exact⟨ua,q.hops.length,uc,rfl,_,hu,rfl,BD.trans hb⟩
   ·rintro W u ⟨l,hu,hl,hb⟩;have hvW:=HV1.out.below hb (YA _);obtain⟨y0,f0⟩:=Zbe hvW.row (i*3) (by omega);obtain⟨y1,f1⟩:=Zbe hvW.row (i*3+1) (by omega);obtain⟨y2,f2⟩:=Zbe hvW.row (i*3+2) (by omega);exact⟨y0,y1,y2,f0,f1,f2⟩
   ·rintro W u ⟨l,hu,hl,hb⟩ j;exact (HV1.out.below hb (YA _)).row.frozenAt j
   ·rintro W ua ul uc ⟨l,hu,hl,hb⟩;refine NoPanic.normal ?_;subst hl;obtain⟨qs,h1,h2,h3,h4⟩:=HFIN.out W _ hu hb;have H1:=hide h1;have H2:=hide h2;have H3:=hide h3;have H4:=hide h4;clear h1 h2 h3 h4 hu hb hops ops HFIN HT HV1;go_wp2;go_ret
    first
     | exact ⟨_,qs,rfl,H1.out,H2.out,H3.out,fun k hk=>.inl hk,H4.out⟩
     | exact ⟨_,rfl,qs,H1.out,H2.out,H3.out,fun k hk=>.inl hk,H4.out⟩
 | false=>
  have hl:PutD (Zaj ps) r.1 (Zaj (ps.take i++[r]++ps.drop i)):=by
   rw [Zom];exact Zsa HA.out (by rw [HFL.out];exact hil) Q1.out (by rw [HFL.out];exact Q2.out) (fun h=>by have:=Q3.out.2 h;cases this) togI
  have HL:=hide hl;clear hl;have BY:Below w1.heap.size w1 (w1.alloc (.cells #[.int .i64 r.1.to,.int .i64 r.1.cost,.slice ra r.1.hops.length rc] 108)):=(YAC _ _).alloc (YA _) _;have hy:=YAE w1 (.cells #[.int .i64 r.1.to,.int .i64 r.1.cost,.slice ra r.1.hops.length rc] 108);obtain⟨w2,hw2⟩:∃ w2,w2=w1.alloc (.cells #[.int .i64 r.1.to,.int .i64 r.1.cost,.slice ra r.1.hops.length rc] 108):=⟨_,rfl⟩;rw [<-hw2] at BY hy;have hv2:=(hv1.below BY (YA _)).wide (YA _) BY.size;have hr2:=(hr1.keep (W':=w2) (fun k _ _ h3=>BY.block k h3)).wide (YA _) BY.size;have HI:=Zll lo i w1.heap.size _ ps r w2 hv2 (by have:=BY.size;omega) hil (by omega) (by
   rw [hy];unfold encW;rw [HRN.out]) (fun e=>by
    have h6:=hv1.top _ e.symm;omega) (Zow hr2)
  have HII:=hide HI;have HV2:=hide hv2;have HR2:=hide hr2;have B2:Below w.heap.size w w2:=B1.trans (BY.mono (by omega));have hb2:=BY.size;clear HI hv1 hr1 hv2 hr2
  go_wp2_with fail
  rw [<-hw2];clear hw2;refine HII.out.mono ?_;rintro e w3 ⟨x,rfl,hrow,hg,hblk⟩;have hfin:=HV2.out.ins HR2.out HP.out hil hrow hg;have hB:=Zai (ZgX B2 (YA _) _) hg;have hbk:∀ k,x.ownBlock=some k->(Value.slice a1 ps.length vc).ownBlock=some k\/w.heap.size<=k:=fun k hk=>by
   rcases hblk with h1 | h1
   ·exact .inl (by rw [<-h1];exact hk)
   ·right;rw [h1] at hk;cases hk;omega
  obtain⟨xa,xc,rfl⟩:=Zac hrow;have HF:=hide hfin;have HB:=hide hB;have HK:=hide hbk;have HFR:=hide (Zk8 w.heap.size ps r i);clear hfin hB hrow hg hbk hblk;go_wp2;go_ret
  first
   | exact ⟨_,_,rfl,HL.out,HF.out,HFR.out,HK.out,HB.out⟩
   | exact ⟨_,rfl,_,HL.out,HF.out,HFR.out,HK.out,HB.out⟩
end Go.Proofs.YtikloccefmofdaaGreat
