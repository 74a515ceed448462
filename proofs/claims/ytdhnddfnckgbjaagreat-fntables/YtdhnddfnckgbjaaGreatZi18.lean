/-
  Parts.
-/
import Derived.Test.YtdhnddfnckgbjaaGreatZi16
import Derived.Shelf.RegionOpen
import Derived.OwnWalkIn
import Derived.LoopNIn
import Derived.LoopIn
import Derived.Test.YtdhnddfnckgbjaaGreatZi17
namespace Go.Proofs.YtdhnddfnckgbjaaGreat
open Go.RowKit
set_option linter.unusedSimpArgs false
set_option linter.unusedVariables false
set_option maxRecDepth 100000
set_option maxHeartbeats 8000000
variable {a src t:Int}{S:Int->WayD->Prop}{al:List Int}{xs:List RecD}
def ZaI (xs:List RecD)(al:List Int)(src:Int)(to:Int)(w:WayD):Prop:=w.to=to/\∃ a∈al,w∈Zcd xs a src
theorem ZaL {to:Int}{w:WayD}(h:ZaI xs al src to w):GoodW w/\w.to=to:=by
 obtain⟨h1,a,_,h2⟩:=h;exact⟨((ZcD xs a src).2 w h2).1,h1⟩
theorem Ze9 {w:WayD}(h:w∈Zcd xs a src):ZaN xs=true/\0<=a/\a<3:=by
 by_cases he:∃ ds,ZbS xs a src ds
 ·obtain ⟨ds,hd⟩:=he;rw [<-hd.eq] at h;unfold ZbS at hd
  split at hd
  ·rename_i e
   simp only [YAO] at e;obtain⟨⟨e1,_⟩,e3⟩:=e;refine⟨e1,?_⟩;unfold ZkI Zkr at e3;rcases ZfD xs (Zim a src) with hz | ⟨j,y,hz,hy,hs⟩
   ·rw [hz] at e3;simp at e3
   ·have hm:y∈xs:=YAF hy;unfold ZaN at e1;simp only [YAO] at e1;have hok:=Zdo e1.1.2 hm;simp only [Zbc,Zim,YAO,beq_iff_eq] at hs;obtain⟨⟨⟨s1,s2⟩,_⟩,_⟩:=hs;unfold Za7 at hok;rw [if_pos s2] at hok;simp only [YAO,inB,YAk] at hok;omega
  ·rw [hd] at h;cases h
 ·unfold Zcd at h;rw [dif_neg he] at h;cases h
theorem Zfj {k:Nat}(h:al[k]? = some a)(to:Int)(w:WayD):ZaI xs (al.take (k+1)) src to w↔ZaI xs (al.take k) src to w\/(w.to=to/\w∈Zcd xs a src):=by
 obtain⟨hk,e⟩:=YAD.1 h;unfold ZaI;rw [YAJ hk,e];constructor
 ·rintro ⟨h1,b,h2,h3⟩;rcases YAH.1 h2 with h4 | h4
  ·exact .inl ⟨h1,b,h4,h3⟩
  ·have:b=a:=by simpa using h4
   subst this;exact .inr ⟨h1,h3⟩
 ·rintro (⟨h1,b,h2,h3⟩ | ⟨h1,h3⟩)
  ·exact ⟨h1,b,YAH.2 (.inl h2),h3⟩
  ·exact ⟨h1,a,YAH.2 (.inr (by simp)),h3⟩
theorem Zc9 (h:∀ to w,¬S to w):ZaA S []:=⟨by simp [AscW],fun to=>h to⟩
theorem ZaA.push {ds:List WayD}{b:WayD}(h:ZaA (fun to w=>to<t/\S to w) ds)(hb:Zav t (S t) (some b)):ZaA (fun to w=>to<t+1/\S to w) (ds++[b]):=by
 have hlt:∀ w∈ds,w.to<t:=by
  intro w hw;have h1:=h.2 w.to;rw [Zc6 h.1 hw] at h1;obtain⟨_,⟨u,hu,_⟩,_⟩:=h1;exact hu.1
 have hbt:b.to=t:=hb.1;have hasc:AscW (ds++[b]):=by
  unfold AscW;rw [YAP];refine⟨h.1,by simp,fun x hx y hy=>?_⟩;have:y=b:=by simpa using hy
  subst this;rw [hbt];exact hlt x hx
 refine⟨hasc,fun to=>?_⟩;by_cases e:to=t
 ·subst e;have hf:ZaR (ds++[b]) b.to=some b:=Zc6 hasc (by simp);rw [hbt] at hf;rw [hf];refine hb.congr (fun w=>⟨fun hw=>⟨by omega,hw⟩,fun hw=>hw.2⟩)
 ·have hf:ZaR (ds++[b]) to=ZaR ds to:=by
   unfold ZaR;rw [List.find?_append];cases e2:ds.find? (fun x=>x.to==to) with
   | some w=>rfl
   | none=>
    simp only [Option.none_or,List.find?_cons,List.find?_nil];have:(b.to==to)=false:=by rw [hbt];simpa using fun h=>e h.symm
    rw [this]
  rw [hf];refine (h.2 to).congr (fun w=>⟨fun hw=>⟨by omega,hw.2⟩,fun hw=>⟨by have:=hw.1;omega,hw.2⟩⟩)
theorem ZaA.skip {ds:List WayD}(h:ZaA (fun to w=>to<t/\S to w) ds)(hb:Zav t (S t) none):ZaA (fun to w=>to<t+1/\S to w) ds:=by
 refine h.congr (fun to w=>⟨fun hw=>⟨by omega,hw.2⟩,fun hw=>⟨?_,hw.2⟩⟩);have h1:=hw.1;by_cases e:to=t
 ·subst e;exact absurd hw.2 (hb w)
 ·omega
theorem ZcZ (ds:List WayD)(to:Int):(Zbb ds to=true/\ZaR ds to=some (ZbE ds to))\/(Zbb ds to=false/\ZaR ds to=none):=by
 unfold Zbb ZbE ZaR;cases e:ds.find? (fun x=>x.to==to) with
 | none=>exact .inr ⟨rfl,rfl⟩
 | some w=>exact .inl ⟨rfl,rfl⟩
theorem ZiU {tog:WayD->WayD->WayD}(ht:ZiP tog){k:Nat}{o:Option WayD}(h:al[k]? = some a)(hb:Zav t (ZaI xs (al.take k) src t) o):
  Zav t (ZaI xs (al.take (k+1)) src t) (ZeZ tog o (ZaR (Zcd xs a src) t)):=by
 have hw:=ZcD xs a src;cases e:ZaR (Zcd xs a src) t with
 | none=>
  refine Zav.congr hb (fun w=>?_);rw [Zfj h];constructor
  ·exact .inl
  ·rintro (h1 | ⟨h1,h2⟩)
   ·exact h1
   ·exact absurd h1 (ZeP e w h2)
 | some r=>
  have hr:=Za2 e;have hg:=(hw.2 r hr.1).1;refine (hb.add ht (fun w hw=>(ZaL hw).1.hop6) hr.2 hg.asc hg.hop6).congr (fun w=>?_);rw [Zfj h];constructor
  ·rintro (h1 | h1)
   ·exact .inl h1
   ·subst h1;exact .inr ⟨hr.2,hr.1⟩
  ·rintro (h1 | ⟨h1,h2⟩)
   ·exact .inl h1
   ·exact .inr (Zh0 hw.1 h2 hr.1 (by rw [h1,hr.2]))
def Off (x:Value)(lo hi:Nat):Prop:=∀ b,x.ownBlock=some b->b<lo\/hi<=b
theorem Off.kept {x:Value}{lo hi:Nat}(h:Off x lo hi){W W':World}(hg:W.grownBy W' x.ownBlock):∀ k,lo<=k->k<hi->k<W.heap.size->W'.heap[k]? = W.heap[k]? :=
 fun k h1 h2 h3=>hg.block k h3 (fun e=>by have:=h k e.symm;omega)
theorem Off.next {x x':Value}{lo hi B:Nat}(h:Off x lo hi)(hn:∀ b,x'.ownBlock=some b->x.ownBlock=some b\/B<=b)(hB:hi<=B):Off x' lo hi:=fun b hb=>by
 rcases hn b hb with h1 | h1
 ·exact h b h1
 ·omega
end Go.Proofs.YtdhnddfnckgbjaaGreat
namespace Go.Proofs.YtdhnddfnckgbjaaGreat
open Go.RowKit
open Go.ChangeMaps (setBlock)

set_option linter.unusedSimpArgs false
set_option linter.unusedVariables false

set_option maxRecDepth 100000 in
set_option maxHeartbeats 8000000 in
theorem Zn4 {t2 t3 t5 t7 t8 t9 t10 t11 t12 t13 t14 t15 t16 t17 t18 t19 t20 t21 t22 t23 t24 t25:Value}(q m:Nat)(x:LnD)(hv:Value)(pl:Int)(es:Array MapEntry)(clock:Nat)(w1:World)(Q:Exit->Act->World->Prop)(ops:Array Oper)(hops:Hid (ops=Zbl))(hq:q<w1.heap.size)(hmw:m<w1.heap.size)
  (hcall:∀ W,Calls Tryz.prog 17 #[.agg #[.bool x.thing,.int .i64 x.to,hv]] W fun e w'=>e=.returned (kV x.thing x.to)/\Below W.heap.size W w')
  (HB:w1.heap[q]? = some (.cells #[.bool x.thing,.int .i64 x.to,hv] 39)) (HM:w1.heap[m]? = some (.map es clock)) (E9:Value->Array MapEntry) (c9:Nat) (hup0:∀ W v,W.heap[m]? = some (.map es clock)->(Instr.mapUpdate 43 (.map (some m)) (kV x.thing x.to) v).run Tryz.prog W=.ok () (setBlock W m (.map (E9 v) c9)))
  (hend:∀ W g1,Below w1.heap.size w1 W->W.heap[g1]? = some (.cells #[.int .i64 pl,.bool x.thing,.int .i64 x.to,hv] 68)->w1.heap.size<=g1->Q .normal { tmps:=#[.map (some m),.agg #[.bool x.thing,.int .i64 x.to,hv],t2,t3,.pointer (some ⟨q,0,none⟩),t5,.int .i64 pl,t7,t8,t9,t10,t11,t12,t13,t14,t15,t16,t17,t18,.map (some m),.agg #[.bool x.thing,.int .i64 x.to,hv],kV x.thing x.to,.int .i64 pl,.agg #[.bool x.thing,.int .i64 x.to,hv],.agg #[.int .i64 pl,.bool x.thing,.int .i64 x.to,hv],(.slice (some ⟨g1,0,none⟩) 1 1)],defers:=[] } (setBlock W m (.map (E9 (.slice (some ⟨g1,0,none⟩) 1 1)) c9))):
  wpAnyH Tryz.prog .any ops (NoPanic Q) (fun _=>True) 8 #[false,false,false,false,false,false,false,false] { tmps:=#[.map (some m),.agg #[.bool x.thing,.int .i64 x.to,hv],t2,t3,.pointer (some ⟨q,0,none⟩),t5,.int .i64 pl,t7,t8,t9,t10,t11,t12,t13,t14,t15,t16,t17,t18,t19,t20,t21,t22,t23,t24,t25],defers:=[] } w1:=by
 have h22:∀ (W:World) (g1:Nat),Below w1.heap.size w1 W->W.heap[g1]? = some (.cells #[.int .i64 pl,.bool x.thing,.int .i64 x.to,hv] 68)->w1.heap.size<=g1->wpAnyH Tryz.prog .any ops (NoPanic Q) (fun _=>True) 1 #[true,true,true,true,true,true,true,false] { tmps:=#[.map (some m),.agg #[.bool x.thing,.int .i64 x.to,hv],t2,t3,.pointer (some ⟨q,0,none⟩),t5,.int .i64 pl,t7,t8,t9,t10,t11,t12,t13,t14,t15,t16,t17,t18,.map (some m),.agg #[.bool x.thing,.int .i64 x.to,hv],kV x.thing x.to,.int .i64 pl,.agg #[.bool x.thing,.int .i64 x.to,hv],.agg #[.int .i64 pl,.bool x.thing,.int .i64 x.to,hv],(.slice (some ⟨g1,0,none⟩) 1 1)],defers:=[] } W:=by
  intro W g1 g n1 l1;have gs:=g.size;have hb:=(g.block q hq).trans HB;refine wpAnyH_ready (rs:=[7]) (by rw [hops.out];kernel_rfl) (by simp) ?_;refine AllReadyH.cons (o:=?_) ?_ (fun K hK=>?_) ?_
  rotate_left 1
  ·rw [hops.out];unfold Zbl;simp only [getS];rfl
  ·rw [if_pos (by rfl)];have hm:=(g.block m hmw).trans HM;have hup:=hup0 W (.slice (some ⟨g1,0,none⟩) 1 1) hm;have hE:=hend W g1 g n1 l1;go_simp;refine hK.out _ _ trivial (fun _=>?_);exact wpAnyH_done (by rw [hops.out];kernel_rfl) (NoPanic.normal hE) _
  exact AllReadyH.nil
 have h12:∀ (W:World) (g1:Nat),Below w1.heap.size w1 W->W.heap[g1]? = some (.cells #[.int .i64 pl,.bool x.thing,.int .i64 x.to,hv] 68)->w1.heap.size<=g1->wpAnyH Tryz.prog .any ops (NoPanic Q) (fun _=>True) 2 #[true,true,false,true,true,true,true,false] { tmps:=#[.map (some m),.agg #[.bool x.thing,.int .i64 x.to,hv],t2,t3,.pointer (some ⟨q,0,none⟩),t5,.int .i64 pl,t7,t8,t9,t10,t11,t12,t13,t14,t15,t16,t17,t18,.map (some m),.agg #[.bool x.thing,.int .i64 x.to,hv],t21,.int .i64 pl,.agg #[.bool x.thing,.int .i64 x.to,hv],.agg #[.int .i64 pl,.bool x.thing,.int .i64 x.to,hv],(.slice (some ⟨g1,0,none⟩) 1 1)],defers:=[] } W:=by
  intro W g1 g n1 l1;have gs:=g.size;have hb:=(g.block q hq).trans HB;refine wpAnyH_ready (rs:=[2]) (by rw [hops.out];kernel_rfl) (by simp) ?_;refine AllReadyH.cons (o:=?_) ?_ (fun K hK=>?_) ?_
  rotate_left 1
  ·rw [hops.out];unfold Zbl;simp only [getS];rfl
  ·rw [if_pos (by rfl)];have hpk:=hcall W;go_simp;refine hpk.mono ?_;rintro e w2 ⟨rfl,b2⟩;refine hK.out _ _ trivial (fun _=>?_);exact h22 w2 g1 (g.trans (b2.mono g.size)) ((b2.block g1 (Zab n1)).trans n1) l1
  exact AllReadyH.nil
 have h02:∀ (W:World) (g1:Nat),Below w1.heap.size w1 W->W.heap[g1]? = some (.cells #[.int .i64 pl,.bool x.thing,.int .i64 x.to,hv] 68)->w1.heap.size<=g1->wpAnyH Tryz.prog .any ops (NoPanic Q) (fun _=>True) 3 #[true,false,false,true,true,true,true,false] { tmps:=#[.map (some m),.agg #[.bool x.thing,.int .i64 x.to,hv],t2,t3,.pointer (some ⟨q,0,none⟩),t5,.int .i64 pl,t7,t8,t9,t10,t11,t12,t13,t14,t15,t16,t17,t18,.map (some m),t20,t21,.int .i64 pl,.agg #[.bool x.thing,.int .i64 x.to,hv],.agg #[.int .i64 pl,.bool x.thing,.int .i64 x.to,hv],(.slice (some ⟨g1,0,none⟩) 1 1)],defers:=[] } W:=by
  intro W g1 g n1 l1;have gs:=g.size;have hb:=(g.block q hq).trans HB;refine wpAnyH_ready (rs:=[1]) (by rw [hops.out];kernel_rfl) (by simp) ?_;refine AllReadyH.cons (o:=?_) ?_ (fun K hK=>?_) ?_
  rotate_left 1
  ·rw [hops.out];unfold Zbl;simp only [getS];rfl
  ·rw [if_pos (by rfl)];refine wp_load_row 39 _ rfl _ rfl 39 _ (0,0) _ hb Tryz.underlying39 rfl (by kernel_rfl) ?_;refine hK.out _ _ trivial (fun _=>?_)
   try simp only [putS]
   exact h12 W g1 g n1 l1
  exact AllReadyH.nil
 have h21:∀ (W:World) (g1:Nat),Below w1.heap.size w1 W->wpAnyH Tryz.prog .any ops (NoPanic Q) (fun _=>True) 2 #[true,true,true,true,true,true,false,false] { tmps:=#[.map (some m),.agg #[.bool x.thing,.int .i64 x.to,hv],t2,t3,.pointer (some ⟨q,0,none⟩),t5,.int .i64 pl,t7,t8,t9,t10,t11,t12,t13,t14,t15,t16,t17,t18,.map (some m),.agg #[.bool x.thing,.int .i64 x.to,hv],kV x.thing x.to,.int .i64 pl,.agg #[.bool x.thing,.int .i64 x.to,hv],.agg #[.int .i64 pl,.bool x.thing,.int .i64 x.to,hv],t25],defers:=[] } W:=by
  intro W g1 g;have gs:=g.size;have hb:=(g.block q hq).trans HB;refine wpAnyH_ready (rs:=[6]) (by rw [hops.out];kernel_rfl) (by simp) ?_;refine AllReadyH.cons (o:=?_) ?_ (fun K hK=>?_) ?_
  rotate_left 1
  ·rw [hops.out];unfold Zbl;simp only [getS];rfl
  ·rw [if_pos (by rfl)];go_simp;refine hK.out _ _ trivial (fun _=>?_);exact h22 _ W.heap.size (g.alloc g.size _) (YAE W _) g.size
  exact AllReadyH.nil
 have h11:∀ (W:World) (g1:Nat),Below w1.heap.size w1 W->wpAnyH Tryz.prog .any ops (NoPanic Q) (fun _=>True) 3 #[true,true,false,true,true,true,false,false] { tmps:=#[.map (some m),.agg #[.bool x.thing,.int .i64 x.to,hv],t2,t3,.pointer (some ⟨q,0,none⟩),t5,.int .i64 pl,t7,t8,t9,t10,t11,t12,t13,t14,t15,t16,t17,t18,.map (some m),.agg #[.bool x.thing,.int .i64 x.to,hv],t21,.int .i64 pl,.agg #[.bool x.thing,.int .i64 x.to,hv],.agg #[.int .i64 pl,.bool x.thing,.int .i64 x.to,hv],t25],defers:=[] } W:=by
  intro W g1 g;have gs:=g.size;have hb:=(g.block q hq).trans HB;refine wpAnyH_ready (rs:=[2,6]) (by rw [hops.out];kernel_rfl) (by simp) ?_;refine AllReadyH.cons (o:=?_) ?_ (fun K hK=>?_) ?_
  rotate_left 1
  ·rw [hops.out];unfold Zbl;simp only [getS];rfl
  ·rw [if_pos (by rfl)];have hpk:=hcall W;go_simp;refine hpk.mono ?_;rintro e w2 ⟨rfl,b2⟩;refine hK.out _ _ trivial (fun _=>?_);exact h21 w2 g1 (g.trans (b2.mono g.size))
  refine AllReadyH.cons (o:=?_) ?_ (fun K hK=>?_) ?_
  rotate_left 1
  ·rw [hops.out];unfold Zbl;simp only [getS];rfl
  ·rw [if_pos (by rfl)];go_simp;refine hK.out _ _ trivial (fun _=>?_);exact h12 _ W.heap.size (g.alloc g.size _) (YAE W _) g.size
  exact AllReadyH.nil
 have h01:∀ (W:World) (g1:Nat),Below w1.heap.size w1 W->wpAnyH Tryz.prog .any ops (NoPanic Q) (fun _=>True) 4 #[true,false,false,true,true,true,false,false] { tmps:=#[.map (some m),.agg #[.bool x.thing,.int .i64 x.to,hv],t2,t3,.pointer (some ⟨q,0,none⟩),t5,.int .i64 pl,t7,t8,t9,t10,t11,t12,t13,t14,t15,t16,t17,t18,.map (some m),t20,t21,.int .i64 pl,.agg #[.bool x.thing,.int .i64 x.to,hv],.agg #[.int .i64 pl,.bool x.thing,.int .i64 x.to,hv],t25],defers:=[] } W:=by
  intro W g1 g;have gs:=g.size;have hb:=(g.block q hq).trans HB;refine wpAnyH_ready (rs:=[1,6]) (by rw [hops.out];kernel_rfl) (by simp) ?_;refine AllReadyH.cons (o:=?_) ?_ (fun K hK=>?_) ?_
  rotate_left 1
  ·rw [hops.out];unfold Zbl;simp only [getS];rfl
  ·rw [if_pos (by rfl)];refine wp_load_row 39 _ rfl _ rfl 39 _ (0,0) _ hb Tryz.underlying39 rfl (by kernel_rfl) ?_;refine hK.out _ _ trivial (fun _=>?_)
   try simp only [putS]
   exact h11 W g1 g
  refine AllReadyH.cons (o:=?_) ?_ (fun K hK=>?_) ?_
  rotate_left 1
  ·rw [hops.out];unfold Zbl;simp only [getS];rfl
  ·rw [if_pos (by rfl)];go_simp;refine hK.out _ _ trivial (fun _=>?_);exact h02 _ W.heap.size (g.alloc g.size _) (YAE W _) g.size
  exact AllReadyH.nil
 have h20:∀ (W:World) (g1:Nat),Below w1.heap.size w1 W->wpAnyH Tryz.prog .any ops (NoPanic Q) (fun _=>True) 4 #[true,true,true,true,false,false,false,false] { tmps:=#[.map (some m),.agg #[.bool x.thing,.int .i64 x.to,hv],t2,t3,.pointer (some ⟨q,0,none⟩),t5,.int .i64 pl,t7,t8,t9,t10,t11,t12,t13,t14,t15,t16,t17,t18,.map (some m),.agg #[.bool x.thing,.int .i64 x.to,hv],kV x.thing x.to,.int .i64 pl,t23,t24,t25],defers:=[] } W:=by
  intro W g1 g;have gs:=g.size;have hb:=(g.block q hq).trans HB;refine wpAnyH_ready (rs:=[4]) (by rw [hops.out];kernel_rfl) (by simp) ?_;refine AllReadyH.cons (o:=?_) ?_ (fun K hK=>?_) ?_
  rotate_left 1
  ·rw [hops.out];unfold Zbl;simp only [getS];rfl
  ·rw [if_pos (by rfl)];refine wp_load_row 39 _ rfl _ rfl 39 _ (0,0) _ hb Tryz.underlying39 rfl (by kernel_rfl) ?_;refine hK.out _ _ trivial (fun _=>?_)
   try simp only [putS]
   refine Zax 5 ?_ ?_ ?_ (by rw [hops.out];kernel_rfl) ?_ ?_ trivial ?_
   rotate_left 2
   ·rw [hops.out];unfold Zbl;simp only [getS];rfl
   ·intro W hW;(try dsimp only at hW);go_simp <;> with_reducible rfl
   ·exact fun _ _ _=>id
   try simp only [putS]
   exact h21 W g1 g
  exact AllReadyH.nil
 have h10:∀ (W:World) (g1:Nat),Below w1.heap.size w1 W->wpAnyH Tryz.prog .any ops (NoPanic Q) (fun _=>True) 5 #[true,true,false,true,false,false,false,false] { tmps:=#[.map (some m),.agg #[.bool x.thing,.int .i64 x.to,hv],t2,t3,.pointer (some ⟨q,0,none⟩),t5,.int .i64 pl,t7,t8,t9,t10,t11,t12,t13,t14,t15,t16,t17,t18,.map (some m),.agg #[.bool x.thing,.int .i64 x.to,hv],t21,.int .i64 pl,t23,t24,t25],defers:=[] } W:=by
  intro W g1 g;have gs:=g.size;have hb:=(g.block q hq).trans HB;refine wpAnyH_ready (rs:=[2,4]) (by rw [hops.out];kernel_rfl) (by simp) ?_;refine AllReadyH.cons (o:=?_) ?_ (fun K hK=>?_) ?_
  rotate_left 1
  ·rw [hops.out];unfold Zbl;simp only [getS];rfl
  ·rw [if_pos (by rfl)];have hpk:=hcall W;go_simp;refine hpk.mono ?_;rintro e w2 ⟨rfl,b2⟩;refine hK.out _ _ trivial (fun _=>?_);exact h20 w2 g1 (g.trans (b2.mono g.size))
  refine AllReadyH.cons (o:=?_) ?_ (fun K hK=>?_) ?_
  rotate_left 1
  ·rw [hops.out];unfold Zbl;simp only [getS];rfl
  ·rw [if_pos (by rfl)];refine wp_load_row 39 _ rfl _ rfl 39 _ (0,0) _ hb Tryz.underlying39 rfl (by kernel_rfl) ?_;refine hK.out _ _ trivial (fun _=>?_)
   try simp only [putS]
   refine Zax 5 ?_ ?_ ?_ (by rw [hops.out];kernel_rfl) ?_ ?_ trivial ?_
   rotate_left 2
   ·rw [hops.out];unfold Zbl;simp only [getS];rfl
   ·intro W hW;(try dsimp only at hW);go_simp <;> with_reducible rfl
   ·exact fun _ _ _=>id
   try simp only [putS]
   exact h11 W g1 g
  exact AllReadyH.nil
 have h00:∀ (W:World) (g1:Nat),Below w1.heap.size w1 W->wpAnyH Tryz.prog .any ops (NoPanic Q) (fun _=>True) 6 #[true,false,false,true,false,false,false,false] { tmps:=#[.map (some m),.agg #[.bool x.thing,.int .i64 x.to,hv],t2,t3,.pointer (some ⟨q,0,none⟩),t5,.int .i64 pl,t7,t8,t9,t10,t11,t12,t13,t14,t15,t16,t17,t18,.map (some m),t20,t21,.int .i64 pl,t23,t24,t25],defers:=[] } W:=by
  intro W g1 g;have gs:=g.size;have hb:=(g.block q hq).trans HB;refine wpAnyH_ready (rs:=[1,4]) (by rw [hops.out];kernel_rfl) (by simp) ?_;refine AllReadyH.cons (o:=?_) ?_ (fun K hK=>?_) ?_
  rotate_left 1
  ·rw [hops.out];unfold Zbl;simp only [getS];rfl
  ·rw [if_pos (by rfl)];refine wp_load_row 39 _ rfl _ rfl 39 _ (0,0) _ hb Tryz.underlying39 rfl (by kernel_rfl) ?_;refine hK.out _ _ trivial (fun _=>?_)
   try simp only [putS]
   exact h10 W g1 g
  refine AllReadyH.cons (o:=?_) ?_ (fun K hK=>?_) ?_
  rotate_left 1
  ·rw [hops.out];unfold Zbl;simp only [getS];rfl
  ·rw [if_pos (by rfl)];refine wp_load_row 39 _ rfl _ rfl 39 _ (0,0) _ hb Tryz.underlying39 rfl (by kernel_rfl) ?_;refine hK.out _ _ trivial (fun _=>?_)
   try simp only [putS]
   refine Zax 5 ?_ ?_ ?_ (by rw [hops.out];kernel_rfl) ?_ ?_ trivial ?_
   rotate_left 2
   ·rw [hops.out];unfold Zbl;simp only [getS];rfl
   ·intro W hW;(try dsimp only at hW);go_simp <;> with_reducible rfl
   ·exact fun _ _ _=>id
   try simp only [putS]
   exact h01 W g1 g
  exact AllReadyH.nil
 refine Zax 0 ?_ ?_ ?_ (by rw [hops.out];kernel_rfl) ?_ ?_ trivial ?_
 rotate_left 2
 ·rw [hops.out];unfold Zbl;simp only [getS];rfl
 ·intro W hW;(try dsimp only at hW);go_simp <;> with_reducible rfl
 ·exact fun _ _ _=>id
 try simp only [putS]
 refine Zax 3 ?_ ?_ ?_ (by rw [hops.out];kernel_rfl) ?_ ?_ trivial ?_
 rotate_left 2
 ·rw [hops.out];unfold Zbl;simp only [getS];rfl
 ·intro W hW;(try dsimp only at hW);go_simp <;> with_reducible rfl
 ·exact fun _ _ _=>id
 try simp only [putS]
 exact h00 w1 0 (YAB _ _)
theorem LgAt.turned {W:World}{lo hi hi' m clk clk9:Nat}{es es9:List BE}(h:LgAt W lo hi m es clk)(hh:hi<=hi')(hr:∀ x∈es9,x∈es\/(W.ownsRow lo 68 4 x.2.2 1 (Zbu x.2.1)/\∀ k,x.2.2.ownBlock=some k->k<hi'))(hu:es9.Pairwise (fun a b=>a.1<b.1))(hb:∀ x∈es9,x.1<clk9):
  LgAt (setBlock W m (.map (Za6 es9).toArray clk9)) lo hi' m es9 clk9/\W.grownBy (setBlock W m (.map (Za6 es9).toArray clk9)) (some m):=by
 obtain⟨W9,hW9⟩:∃ W9,W9=setBlock W m (.map (Za6 es9).toArray clk9):=⟨_,rfl⟩;have hk9:∀ j,j≠m->W9.heap[j]? = W.heap[j]? := fun j hj=>by rw [hW9];exact Go.ChangeMaps.heap_setBlock_other h.map _ hj
 have hm9:W9.heap[m]? = some (.map (Za6 es9).toArray clk9):=by rw [hW9];exact Go.ChangeMaps.heap_setBlock_same h.map _
 have hs9:W9.heap.size=W.heap.size:=by rw [hW9];simp [setBlock]
 have hg9:W.grownBy W9 (some m):=⟨by rw [hW9];rfl,by rw [hW9];rfl,by rw [hW9];rfl,by omega,fun j _ hj=>hk9 j (fun e=>hj (by rw [e]))⟩;rw [<-hW9];refine⟨⟨hm9,h.low,YAC h.high hh,fun x hx=>?_,hu,hb⟩,hg9⟩;have h3:W.ownsRow lo 68 4 x.2.2 1 (Zbu x.2.1)/\∀ k,x.2.2.ownBlock=some k->k<hi':=by
  rcases hr x hx with h1 | h1
  ·exact ⟨(h.rows x h1).1,fun k e=>YAC ((h.rows x h1).2 k e) hh⟩
  ·exact h1
 exact⟨Zai h3.1 (fun k e=>hk9 k (Ziz h.map h3.1 k e)),h3.2⟩

def delL (es:List BE)(t:Bool)(z:Int):List BE:=match Zbe (ksG es) t z with | some j=>es.eraseIdx j | none=>es

theorem Zfr (es:List BE)(t:Bool)(z:Int):(delL es t z).Sublist es:=by
 unfold delL;cases Zbe (ksG es) t z with
 | none=>exact List.Sublist.refl _
 | some j=>exact List.eraseIdx_sublist _ _

theorem LgAt.del {W:World}{lo hi m clk:Nat}{es:List BE}(h:LgAt W lo hi m es clk)(t:Bool)(z:Int)(ty:TypeId):
  ∃ W9,(Builtin.delete_ #[43,46] ty #[.map (some m),kV t z]).run Tryz.prog W=.ok (.tuple #[]) W9/\LgAt W9 lo hi m (delL es t z) clk/\W.grownBy W9 (some m):=by
 have h1:=Zoc W m (Za6 es).toArray clk (ksG es) t z ty h.map (Zep es);obtain⟨g1,g2⟩:=h.turned (es9:=delL es t z) (clk9:=clk) (YA hi) (fun x hx=>.inl ((Zfr es t z).subset hx)) (h.up.sublist (Zfr es t z)) (fun x hx=>h.born x ((Zfr es t z).subset hx));refine⟨_,h1.trans ?_,g1,g2⟩;unfold delL;cases Zbe (ksG es) t z with
 | none=>rfl
 | some j=>simp [Zi1]

def Zb1 (es:List BE)(clk:Nat)(pl:Int)(p:JP)(v:Value):List BE:=match Zbe (ksG es) p.1.thing p.1.to with
 | some j=>(match es[j]? with | some y=>es.set j (y.1,(y.2.1.1,p),v) | none=>es)
 | none=>es++[(clk,(pl,p),v)]
def putC (es:List BE)(clk:Nat)(p:JP):Nat:=match Zbe (ksG es) p.1.thing p.1.to with | some _=>clk | none=>clk+1
end Go.Proofs.YtdhnddfnckgbjaaGreat
namespace Go.Proofs.YtdhnddfnckgbjaaGreat
open Go.RowKit
set_option linter.unusedSimpArgs false
set_option linter.unusedVariables false
set_option maxRecDepth 100000
set_option maxHeartbeats 8000000
variable {n₀:Nat}{A B:World}
abbrev TnP:=TnD × Value
def ZmU (x:TnP):Value:=.agg #[.bool x.1.gone,.bool x.1.line.thing,.int .i64 x.1.line.to,x.2]
def kpT:Obj->Bool
 | .cells _ e _ => !(e==41) && !(e==27)
 | .map .. => true
 | _=>false
def OkT (n₀:Nat)(x:TnP)(W:World):Prop:=W.ownsRow n₀ 3 1 x.2 x.1.line.hops.length (flat intE x.1.line.hops)
theorem Zbf {kp:Obj->Bool}{base size:Nat}{e:TypeId}{v:Value}{n:Nat}{xs:List Value}(h:A.ownsRow base e size v n xs)(hk:KeepK kp n₀ A B)(he:∀ c f,kp (.cells c e f)=true):B.ownsRow base e size v n xs:=by
 refine Zai h fun k hv=>?_;rcases h.2 with ⟨e1,_⟩ | ⟨g,cap,cur,e1,_,hh,_⟩
 ·rw [e1] at hv;cases hv
 ·rw [e1] at hv;simp [Value.ownBlock] at hv;subst hv;exact (hk.same _ _ hh (he _ _)).trans hh.symm
theorem LmAt.keepK {lo hi m:Nat}{es:List (PlP × Value)}(h:LmAt A lo hi m es)(hk:KeepK kpT n₀ A B):LmAt B lo hi m es:=
 ⟨hk.same _ _ h.map rfl,h.low,h.high,fun x hx=>⟨Zbf (h.rows x hx).1 hk (fun _ _=>rfl),(h.rows x hx).2⟩⟩
def ZfR (a b:List LnD)(k:Nat):List TnD:=((a.take k).filter (fun x => !hasK b x)).map (fun x=>⟨true,⟨x.thing,x.to,[]⟩⟩)
def newL (a b:List LnD)(k:Nat):List TnD:=((b.take k).filter (fun x => !a.contains x)).map (fun x=>⟨false,x⟩)
theorem Zkv {a b:List LnD}{k:Nat}{x:LnD}(h:a[k]? = some x):ZfR a b (k+1)=ZfR a b k++(if hasK b x then [] else [⟨true,⟨x.thing,x.to,[]⟩⟩]):=by
 obtain⟨hk,e⟩:=YAD.1 h;unfold ZfR;rw [YAJ hk,List.filter_append,YAW,e];cases hc:hasK b x <;> simp [hc]
theorem ZlZ {a b:List LnD}{k:Nat}{x:LnD}(h:b[k]? = some x):newL a b (k+1)=newL a b k++(if a.contains x then [] else [⟨false,x⟩]):=by
 obtain⟨hk,e⟩:=YAD.1 h;unfold newL;rw [YAJ hk,List.filter_append,YAW,e];cases hc:a.contains x <;> simp [hc,List.filter_cons, -List.contains_eq_mem]
theorem Zib (a b:List LnD):Zbn a b=ZfR a b a.length++newL a b b.length:=by
 unfold Zbn ZfR newL;rw [YAX,YAX]
theorem ZjS (a b:List LnD)(k:Nat):(ZfR a b k).length<=k:=by
 unfold ZfR;rw [YAb];exact YAG (List.length_filter_le _ _) (by simp;omega)
theorem Zon (a b:List LnD)(k:Nat):(newL a b k).length<=k:=by
 unfold newL;rw [YAb];exact YAG (List.length_filter_le _ _) (by simp;omega)
theorem ZmB (f:FuncId):Fence.wide.fn f=True:=rfl
theorem Zhe :Fence.wide.depth=none:=rfl
attribute [local go_sem] Oper.semAt_some ZmB Zhe
theorem Zl6 {ps:List JP}{n:Nat}{es:List (PlP × Value)}(h:es.map (·.1)=plJ (ps.take n)){x:PlP × Value}(hx:x∈es):x.1.2∈ps:=by
 have h1:x.1∈plJ (ps.take n):=by rw [<-h];exact List.mem_map_of_mem hx
 unfold plJ at h1;obtain⟨y,hy,e⟩:=YAV.1 h1;rw [<-e];exact List.mem_of_mem_take (List.fst_mem_of_mem_zipIdx hy)
theorem ZiY (n n₀ lo q1 q2:Nat)(v1 v2:Value)(ps qs:List JP)(w:World)(h1:LnsOwn w lo n₀ v1 ps)(h2:LnsOwn w lo n₀ v2 qs)(hk1:ZaP (Zag ps))(hk2:ZaP (Zag qs))(hn:totJ ps<=1048576)(hm:totJ qs<=1048576)(hlo:lo<=n₀)
  (hn0:n₀<=w.heap.size) (hq1:w.heap[q1]? = some (.cells #[v1] 24)) (hq2:w.heap[q2]? = some (.cells #[v2] 24)):
  Zn9 Fence.wide n Tryz.prog 32 #[.pointer (some ⟨q1,0,none⟩),.pointer (some ⟨q2,0,none⟩)] (fun x:TnP=>#[ZmU x]) (OkT lo) kpT n₀ (fun xs=>xs.map (·.1)=Zbn (Zag ps) (Zag qs)) (ps.length+qs.length) w:=by
 intro l J W hW hJ hY h0;have hln:=Zbj ps;have hlm:=Zbj qs;obtain⟨a1,c1,rfl⟩:=h1.at.shape;obtain⟨a2,c2,rfl⟩:=h2.at.shape;have b1:=(hW.block _ (Zab hq1)).trans hq1;have b2:=(hW.block _ (Zab hq2)).trans hq2;have HW:=hide (hW.mono hn0);have hsz:n₀<=W.heap.size:=YAG hn0 hW.size;have HB1:=hide b1;have HB2:=hide b2;have HQ1:=hide (Zab b1);have HQ2:=hide (Zab b2);have H1:=hide h1;have H2:=hide h2;have HK1:=hide hk1;have HK2:=hide hk2;have HY:=hide hY;have HJ:=hide hJ;have H0:=hide h0;clear h1 h2 hk1 hk2 hY hJ h0 hq1 hq2 hW;have d1:=Zaa b1 0;have d2:=Zaa b2 0;simp at d1 d2;have D1:=hide d1;have D2:=hide d2;clear b1 b2;have h1d:=hide (fun V (hb:Below n₀ w V) (hs:n₀<=V.heap.size)=>(H1.out.at.later hb (YA _)).more hs);have h2d:=hide (fun V (hb:Below n₀ w V) (hs:n₀<=V.heap.size)=>(H2.out.at.later hb (YA _)).more hs);refine callsIn_wide.2 ?_
 go_enter Tryz.func32,Tryz.ntmps32
 go_wp2;refine wp_region_noPanic ?_;refine Zah (S:=(fun W'=>W'.cell? ⟨q1,0,none⟩=some (.slice a1 ps.length c1)/\W'.cell? ⟨q2,0,none⟩=some (.slice a2 qs.length c2))) (by kernel_rfl) 6 rfl ⟨D1.out,D2.out⟩ (fun ops hops HSW=>?_);refine Zax 0 ?_ ?_ ?_ (by rw [hops.out];kernel_rfl) ?_ ?_ (by assumption) ?_
 rotate_left 2
 ·rw [hops.out];simp only [getS];rfl
 ·intro W' hW';obtain⟨m1,m2⟩:=hW';go_simp <;> with_reducible rfl
 ·exact fun _ _ _=>id
 try simp only [putS]
 refine Zax 2 ?_ ?_ ?_ (by rw [hops.out];kernel_rfl) ?_ ?_ (by assumption) ?_
 rotate_left 2
 ·rw [hops.out];simp only [getS];rfl
 ·intro W' hW';obtain⟨m1,m2⟩:=hW';go_simp <;> with_reducible rfl
 ·exact fun _ _ _=>id
 try simp only [putS]
 refine TC 1 ?_;intro K hK;go_simp;refine (Zhz (.slice a1 ps.length c1) ps W.drew (h1d.out W.drew HW.out.drew hsz) HK1.out hn).mono ?_;rintro e w1 ⟨m1,es1,rfl,L1,g1⟩;have G1:Below W.heap.size W w1:=(YAB W.heap.size W).drew.trans g1;refine hK.out _ _ ⟨(G1.cell (p:=⟨q1,0,none⟩) HQ1.out).trans D1.out,(G1.cell (p:=⟨q2,0,none⟩) HQ2.out).trans D2.out⟩ (fun HSW=>?_);clear hK
 try simp only [putS]
 refine TC 3 ?_;intro K hK;go_simp;have HG1:=G1.size;refine (Zhz (.slice a2 qs.length c2) qs w1 (h2d.out w1 (HW.out.trans (G1.mono hsz)) (YAG hsz HG1)) HK2.out hm).mono ?_;rintro e w2 ⟨m2,es2,rfl,L2,g2⟩;have G2:Below W.heap.size W w2:=G1.trans (g2.mono HG1);refine hK.out _ _ ⟨(G2.cell (p:=⟨q1,0,none⟩) HQ1.out).trans D1.out,(G2.cell (p:=⟨q2,0,none⟩) HQ2.out).trans D2.out⟩ (fun HSW=>?_);clear hK
 try simp only [putS]
 refine Zax 4 ?_ ?_ ?_ (by rw [hops.out];kernel_rfl) ?_ ?_ (by assumption) ?_
 rotate_left 2
 ·rw [hops.out];simp only [getS];rfl
 ·intro W' hW';obtain⟨m1,m2⟩:=hW';go_simp <;> with_reducible rfl
 ·exact fun _ _ _=>id
 try simp only [putS]
 refine Zax 5 ?_ ?_ ?_ (by rw [hops.out];kernel_rfl) ?_ ?_ (by assumption) ?_
 rotate_left 2
 ·rw [hops.out];simp only [getS];rfl
 ·intro W' hW';obtain⟨m1,m2⟩:=hW';go_simp <;> with_reducible rfl
 ·exact fun _ _ _=>id
 try simp only [putS]
 refine wpAnyH_done (by rw [hops.out];kernel_rfl) (NoPanic.normal ?_) _;clear hops ops HSW;have HL1:=hide ((L1.lm.below g2 (YA _)).wide g2.size);have HL2:=hide L2.lm;have HE1:=hide (show ZbB es1=Zag ps by have h9:=L1.lns;rwa [YAX] at h9);have HE2:=hide (show ZbB es2=Zag qs by have h9:=L2.lns;rwa [YAX] at h9);have HP1:=hide L1.pl;have HGW:=hide G2;have d1:=(G2.cell (p:=⟨q1,0,none⟩) HQ1.out).trans D1.out;have d2:=(G2.cell (p:=⟨q2,0,none⟩) HQ2.out).trans D2.out;have H0:=hide (HJ.out [] W w2 H0.out G2);have s2:=G2.size;clear L1 L2 G1 G2 g1 g2;go_wp2
 go_loopw [16] (fun i wr=>∃ (k:Nat) (pre:List TnP),k<=ps.length/\i=.int .i64 (k:Int)/\Hid (pre.map (·.1)=ZfR (Zag ps) (Zag qs) k)/\Hid (J pre wr)/\Hid (KeepK kpT n₀ w2 wr)) (fun i _=>ps.length-(intOf i).toNat)
 case atStart=>exact ⟨0,[],by omega,rfl,hide (by simp [ZfR]),H0,hide (KeepK.refl _ _ _)⟩
 case round=>
  clear H0 d1 d2;obtain⟨k,pre,hk,rfl,HL,HJS,HKP⟩:=hrel;have HWR:=hide ((HW.out.trans (HGW.out.mono hsz)).trans HKP.out.below);have hsr:=HKP.out.below.size;by_cases hlt:k<ps.length
  ·obtain ⟨p,hp⟩:∃ p,ps[k]? = some p:=⟨ps[k],YAA hlt⟩;obtain⟨b,off,cp,hve,hbb,c0,c1',c2',hh⟩:=(H1.out.at.later HWR.out (YA _)).cells k p hp;cases hve;obtain⟨u1,u2,hpe⟩:=Zal.shape hh;rw [hpe] at c2';have hki:(0:Int)<=(k:Int):=by omega
   have hkj:(k:Int)<(ps.length:Int):=by omega
   have HST:=hide (Zkv (b:=Zag qs) (Zc7 hp));have HPL:=hide (show pre.length<=k by have h9:=congrArg List.length HL.out;rw [YAb] at h9;rw [h9];exact ZjS _ _ _);have HKY:=hide (fun V=>Zcs p.1 (.slice u1 p.1.hops.length u2) V);have HLD:=hide (fun V (hv:Below wr.heap.size wr V)=>ZfW _ m2 es2 p.1.thing p.1.to V (((HL2.out.keepK (HKP.out.trans (KeepK.of_below kpT hv (by omega)))).wide (YAG hsr hv.size))));have HDC:Hid (decide (0<=idxZ (ZbB es2) p.1.thing p.1.to)=hasK (Zag qs) p.1):=hide (by
    rw [HE2.out];cases hK:hasK (Zag qs) p.1 with
    | true=>simp [Zi9 hK]
    | false=>simp [Zi7 hK])
   rw [HDC.out] at HLD;clear hp hh hpe;have hbx:=(YAB wr.heap.size wr).alloc (YA _) (.cells #[.bool p.1.thing,.int .i64 p.1.to,.slice u1 p.1.hops.length u2] 39);have HBX:=hide hbx;have HNB:=hide (YAE wr (.cells #[.bool p.1.thing,.int .i64 p.1.to,.slice u1 p.1.hops.length u2] 39));have HSX:=hide hbx.size;clear hbx;refine (wpIn_wide (n:=n)).1 ?_;cases hK:hasK (Zag qs) p.1 with
   | true=>
    rw [hK] at HLD HST
    gi_wp2_with (first | (gi_at_call 17;refine (callsIn_wide.2 (HKY.out _)).mono ?_;rintro e w3 ⟨rfl,b3⟩;have B3:=HBX.out.trans (b3.mono HSX.out);clear c0 c1' c2';unfold kV) | (gi_at_call 26;refine (callsIn_wide.2 (HLD.out _ B3)).mono ?_;rintro e w4 ⟨rfl,b4⟩;have B4:=B3.trans (b4.mono B3.size)))
    exact⟨⟨k+1,pre,by omega,by go_num,hide (by rw [HST.out,HL.out];simp),hide (HJ.out pre wr w4 HJS.out B4),hide (HKP.out.trans (KeepK.of_below _ B4 (YAG (YAG hsz s2) hsr)))⟩,by simp [intOf];omega⟩
   | false=>
    rw [hK] at HLD HST
    gi_wp2_with (first | (gi_at_call 17;refine (callsIn_wide.2 (HKY.out _)).mono ?_;rintro e w3 ⟨rfl,b3⟩;have B3:=HBX.out.trans (b3.mono HSX.out);have N3:=hide ((b3.block _ (Zab HNB.out)).trans HNB.out);clear c0 c1' c2';unfold kV) | (gi_at_call 26;refine (callsIn_wide.2 (HLD.out _ B3)).mono ?_;rintro e w4 ⟨rfl,b4⟩;have B4:=B3.trans (b4.mono B3.size);have N4:=(b4.block _ (Zab N3.out)).trans N3.out;have n0:=Zaa N4 0;have n1:=Zaa N4 1;simp at n0 n1;clear N4;obtain⟨fn,tmps,assign,body,hy,hR⟩:=HY.out pre (⟨true,⟨p.1.thing,p.1.to,[]⟩⟩,.slice none 0 0) w4 (HJ.out pre wr w4 HJS.out B4) ⟨rfl,.inl ⟨rfl,rfl⟩⟩ (by have:=HPL.out;omega);dsimp only [ZmU] at hy))
    refine hR.mono ?_;rintro e w5 ⟨rfl,J5,k5⟩;have HJ5:=hide J5;have HK5:=hide ((HKP.out.trans (KeepK.of_below _ B4 (YAG (YAG hsz s2) hsr))).trans k5);clear hy hR J5 k5 B3 B4 b3 b4 n0 n1
    gi_wp2
    exact⟨⟨k+1,pre++[(⟨true,⟨p.1.thing,p.1.to,[]⟩⟩,.slice none 0 0)],by omega,by go_num,hide (by rw [HST.out,YAW,HL.out];simp),HJ5,HK5⟩,by simp [intOf];omega⟩
  ·have hlt':¬(k:Int)<(ps.length:Int):=by omega
   have HL1F:=hide (show pre.map (·.1)=ZfR (Zag ps) (Zag qs) (Zag ps).length++newL (Zag ps) (Zag qs) 0 by rw [HL.out,show k=(Zag ps).length by simp [Zag];omega];simp [newL]);have d2:=(HKP.out.same _ _ ((HGW.out.block _ HQ2.out).trans HB2.out) rfl);have d2:=Zaa d2 0;simp at d2;obtain⟨wo,rfl⟩:∃ wo:World,wo=wr:=⟨_,rfl⟩;clear HL hk hlt;go_wp2;clear hlt'
   go_loopw [39] (fun i wr=>∃ (k:Nat) (pre:List TnP),k<=qs.length/\i=.int .i64 (k:Int)/\Hid (pre.map (·.1)=ZfR (Zag ps) (Zag qs) (Zag ps).length++newL (Zag ps) (Zag qs) k)/\Hid (J pre wr)/\Hid (KeepK kpT n₀ w2 wr)) (fun i _=>qs.length-(intOf i).toNat)
   case atStart=>exact ⟨0,pre,by omega,rfl,HL1F,HJS,HKP⟩
   case round=>
    clear HL1F HJS HKP HWR hsr d2;obtain⟨k,pre,hk,rfl,HL,HJS,HKP⟩:=hrel;have HWR:=hide ((HW.out.trans (HGW.out.mono hsz)).trans HKP.out.below);have hsr:=HKP.out.below.size;by_cases hlt:k<qs.length
    ·obtain ⟨q,hq⟩:∃ q,qs[k]? = some q:=⟨qs[k],YAA hlt⟩;obtain⟨b,off,cp,hve,hbb,c0,c1',c2',hh⟩:=(H2.out.at.later HWR.out (YA _)).cells k q hq;cases hve;obtain⟨u1,u2,hpe⟩:=Zal.shape hh;rw [hpe] at c2' hh;have hki:(0:Int)<=(k:Int):=by omega
     have hkj:(k:Int)<(qs.length:Int):=by omega
     have hqm:=YAF hq;have HST:=hide (ZlZ (a:=Zag ps) (Zc7 hq));have HPL:=hide (show pre.length<=ps.length+k by
      have h9:=congrArg List.length HL.out;rw [YAb,YAM] at h9;have:=ZjS (Zag ps) (Zag qs) (Zag ps).length;have:=Zon (Zag ps) (Zag qs) k;have:(Zag ps).length=ps.length:=by simp [Zag]
      omega)
     have hnw:n₀<=wr.heap.size:=YAG (YAG hsz s2) hsr;have HBV:=hide (fun V (hv:Below wr.heap.size wr V)=>(show Below n₀ w V from HWR.out.trans (hv.mono hnw)));have HHS:=hide (fun V (hv:Below wr.heap.size wr V)=>Zof _ m1 es1 q.1 (.slice u1 q.1.hops.length u2) V (((HL1.out.keepK (HKP.out.trans (KeepK.of_below kpT hv hnw))).wide (YAG hsr hv.size))) (by rw [HE1.out];exact HK1.out)
      (fun x hx=>⟨Zau.more ((H1.out.at.later (HBV.out V hv) (YA _)).2 x.1.2 (Zl6 HP1.out hx)) (YAG hnw hv.size),by have:=ZbO (Zl6 HP1.out hx);omega⟩)
      (Zau.more (Zau.later hh (hv.mono hnw) (YA _)) (YAG hnw hv.size)))
     rw [HE1.out] at HHS;have HOW:=hide (fun V (hv:Below wr.heap.size wr V)=>Zd7 q.1 (.slice u1 q.1.hops.length u2) lo V (by rw [<-hpe];exact ((H2.out.below (HBV.out V hv) (YA _)).nears q hqm).1) (by have:=ZbO hqm;omega));unfold lnC at HHS HOW;clear hq hh hpe hqm;have hbx:=(YAB wr.heap.size wr).alloc (YA _) (.cells #[.bool q.1.thing,.int .i64 q.1.to,.slice u1 q.1.hops.length u2] 39);have HBX:=hide hbx;have HNB:=hide (YAE wr (.cells #[.bool q.1.thing,.int .i64 q.1.to,.slice u1 q.1.hops.length u2] 39));have HSX:=hide hbx.size;clear hbx;refine (wpIn_wide (n:=n)).1 ?_;cases hK:(Zag ps).contains q.1 with
     | true=>
      rw [hK] at HHS HST
      gi_wp2_with (gi_at_call 33;refine (callsIn_wide.2 (HHS.out _ HBX.out)).mono ?_;rintro e w3 ⟨rfl,b3⟩;have B3:=HBX.out.trans (b3.mono HSX.out);clear c0 c1' c2')
      exact⟨⟨k+1,pre,by omega,by go_num,hide (by rw [HST.out,HL.out];simp),hide (HJ.out pre wr w3 HJS.out B3),hide (HKP.out.trans (KeepK.of_below _ B3 hnw))⟩,by simp [intOf];omega⟩
     | false=>
      rw [hK] at HHS HST
      gi_wp2_with (first | (gi_at_call 33;refine (callsIn_wide.2 (HHS.out _ HBX.out)).mono ?_;rintro e w3 ⟨rfl,b3⟩;have B3:=HBX.out.trans (b3.mono HSX.out);have N3:=(b3.block _ (Zab HNB.out)).trans HNB.out;have n0:=Zaa N3 0;have n1:=Zaa N3 1;have n2:=Zaa N3 2;simp at n0 n1 n2;clear c0 c1' c2' N3) | (gi_at_call 34;refine (callsIn_wide.2 (HOW.out _ B3)).mono ?_;rintro e w4 ⟨vh,rfl,oh,b4⟩;obtain⟨x1,x2,rfl⟩:=Zac oh;have B4:=B3.trans (b4.mono B3.size);obtain⟨fn,tmps,assign,body,hy,hR⟩:=HY.out pre (⟨false,q.1⟩,.slice x1 q.1.hops.length x2) w4 (HJ.out pre wr w4 HJS.out B4) (Zaf oh (YAG hlo (YAG hnw B3.size))) (by have:=HPL.out;omega);dsimp only [ZmU] at hy))
      refine hR.mono ?_;rintro e w5 ⟨rfl,J5,k5⟩;have HJ5:=hide J5;have HK5:=hide ((HKP.out.trans (KeepK.of_below _ B4 hnw)).trans k5);clear hy hR J5 k5 B3 B4 b3 b4 n0 n1 n2 oh
      gi_wp2
      exact⟨⟨k+1,pre++[(⟨false,q.1⟩,.slice x1 q.1.hops.length x2)],by omega,by go_num,hide (by rw [HST.out,YAW,HL.out];simp),HJ5,HK5⟩,by simp [intOf];omega⟩
    ·have hlt':¬(k:Int)<(qs.length:Int):=by omega
     have HF:=hide (show pre.map (·.1)=Zbn (Zag ps) (Zag qs) by rw [Zib,HL.out,show k=(Zag qs).length by simp [Zag];omega]);clear HL;go_wp2
     go_end0
     exact⟨⟨_,rfl⟩,pre,HF.out,HJS.out⟩
theorem Zke (f:FuncId):Fence.wide.fn f=True:=rfl
theorem Zgp :Fence.wide.depth=none:=rfl
attribute [local go_sem] Oper.semAt_some Zke Zgp
abbrev kpF:Obj->Bool:=fun _=>false
def Zod (p:JP):Value:=.agg #[.bool p.1.thing,.int .i64 p.1.to,p.2]
theorem keepF (h:Below n₀ A B):KeepK kpF n₀ A B:=⟨h,fun _ _ _ h2=>by cases h2⟩
theorem Zmz (n n₀ q1:Nat)(v1:Value)(ps:List JP)(w:World)(h1:Zb8 w v1 ps n₀)(hn0:n₀<=w.heap.size)(hq1:w.heap[q1]? = some (.cells #[v1] 24))(hl:ps.length<=1048576):
  Zn9 Fence.wide n Tryz.prog 54 #[.pointer (some ⟨q1,0,none⟩)] (fun x:JP=>#[Zod x]) (fun x W=>Zal W x.2 x.1.hops n₀) kpF n₀ (fun xs=>xs=ps) ps.length w:=by
 intro l J W hW hJ hY h0;obtain⟨a1,c1,rfl⟩:=h1.shape;have b1:=(hW.block _ (Zab hq1)).trans hq1;have HW:=hide (hW.mono hn0);have hsz:n₀<=W.heap.size:=YAG hn0 hW.size;have H1:=hide h1;have HY:=hide hY;have HJ:=hide hJ;have H0:=hide (show J (ps.take 0) W by simpa using h0);clear h1 hY hJ h0 hq1 hW;have d1:=Zaa b1 0;simp at d1;clear b1;refine callsIn_wide.2 ?_
 go_enter Tryz.func54,Tryz.ntmps54
 go_wp2
 go_loopw [7] (fun i wr=>∃ (k:Nat),k<=ps.length/\i=.int .i64 (k:Int)/\Hid (J (ps.take k) wr)/\Hid (Below n₀ w wr)/\n₀<=wr.heap.size) (fun i _=>ps.length-(intOf i).toNat)
 case atStart=>exact ⟨0,by omega,rfl,H0,HW,hsz⟩
 case round=>
  clear H0 d1;obtain⟨k,hk,rfl,HJS,HWR,hsr⟩:=hrel;by_cases hlt:k<ps.length
  ·obtain ⟨p,hp⟩:∃ p,ps[k]? = some p:=⟨ps[k],YAA hlt⟩;obtain⟨b,off,cp,hve,hbb,c0,c1',c2',hh⟩:=(H1.out.later HWR.out (YA _)).cells k p hp;cases hve;obtain⟨u1,u2,hpe⟩:=Zal.shape hh;obtain⟨⟨tg,z,hs⟩,u⟩:=p;simp only at hpe c0 c1' c2' hh;subst hpe;have hki:(0:Int)<=(k:Int):=by omega
   have hkj:(k:Int)<(ps.length:Int):=by omega
   have HTK:=hide (show ps.take (k+1)=ps.take k++[(⟨tg,z,hs⟩,.slice u1 hs.length u2)] by
    obtain⟨h1,h2⟩:=YAD.1 hp;rw [YAJ h1,h2])
   have hbx:=(YAB wr.heap.size wr).alloc (YA _) (.cells #[.bool tg,.int .i64 z,.slice u1 hs.length u2] 39);obtain⟨fn,tmps,assign,body,hy,hR⟩:=HY.out (ps.take k) (⟨tg,z,hs⟩,.slice u1 hs.length u2) _ (HJ.out _ wr _ HJS.out hbx) (Zau.later hh (hbx.mono hsr) (YA _)) (by rw [List.length_take];omega);dsimp only [Zod] at hy;have HBX:=hide (HWR.out.trans (hbx.mono hsr));have hbs:=hbx.size;clear hp hh hbx;refine (wpIn_wide (n:=n)).1 ?_
   gi_wp2_with fail
   refine hR.mono ?_;rintro e w5 ⟨rfl,J5,k5⟩;have HJ5:=hide (show J (ps.take (k+1)) w5 by rw [HTK.out];exact J5);have HK5:=hide (HBX.out.trans k5.below);have hk5:=k5.below.size;clear hy hR J5 k5
   gi_wp2
   have hk6:n₀<=w5.heap.size:=by simp at hk5;omega
   go_roundw
   case rel=>exact ⟨k+1,by omega,by go_num,HJ5,HK5,hk6⟩
   case measure=>simp [intOf];omega
  ·have hlt':¬(k:Int)<(ps.length:Int):=by omega
   have HF:=hide (show J ps wr by have h:=HJS.out;rwa [YAc (by omega)] at h);clear HJS;go_wp2
   go_end0
   exact⟨⟨_,rfl⟩,HF.out⟩
end Go.Proofs.YtdhnddfnckgbjaaGreat
