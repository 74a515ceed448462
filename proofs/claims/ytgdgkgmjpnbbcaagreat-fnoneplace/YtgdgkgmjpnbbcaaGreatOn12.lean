/-
  TellM BeyDag PushW AppAt
-/
import Derived.Test.YtgdgkgmjpnbbcaaGreatOn11
import Derived.Test.YtgdgkgmjpnbbcaaGreatOn7
import Derived.Test.YtgdgkgmjpnbbcaaGreatOn2
import Derived.Test.YtgdgkgmjpnbbcaaGreatOn8
import Derived.Test.YtgdgkgmjpnbbcaaGreatOn9
import Derived.Maps.AppendAt
namespace Go.Proofs.YtgdgkgmjpnbbcaaGreat
open Go.RowKit
set_option linter.unusedSimpArgs false
set_option linter.unusedVariables false
set_option maxRecDepth 100000
set_option maxHeartbeats 8000000
def Zdd (xs:List RecD)(area src to:Int):Prop:=∀ d,d∈Zbm xs area src->d.to≠to
def ZbX (area src to c:Int):RecD:=⟨area,2,src,to,0,[],c,false⟩
def ZcZ (xs:List RecD)(al:List Int)(src area to c:Int):Prop:=Zdd xs area src to/\to≠src /\
 ((∃ w,ZaF to (Zau xs al src to) (some w)/\c=w.cost)\/(area≠0/\∃ w,ZaF to (Zbz xs al true src to) (some w)/\c=w.cost))
def Zcg (xs:List RecD)(al:List Int)(src area:Int)(ds:List RecD):Prop:=Asc ds/\∀ r,r∈ds↔∃ to c,r=ZbX area src to c/\ZcZ xs al src area to c
theorem Zkh:∀ {a b:List RecD},Asc a->Asc b->(∀ x,x∈a↔x∈b)->a=b
 | [],[],_,_,_=>rfl
 | [],y::ys,_,_,h=>by have:=(h y).2 (by simp);cases this
 | x::xs,[],_,_,h=>by have:=(h x).1 (by simp);cases this
 | x::xs,y::ys,ha,hb,h=>by
  have ha':=List.pairwise_cons.1 ha;have hb':=List.pairwise_cons.1 hb;have irr:∀ z:RecD,Zas z z=true->False:=fun z hz=>by
   have:=(ZdL (x:=z) (y:=z) (by simp [ZaN])).1
   rw [this] at hz;cases hz
  have hxy:x=y:=by
   have h1:=(h x).1 (by simp)
   have h2:=(h y).2 (by simp)
   rcases List.mem_cons.1 h1 with e | e
   ·exact e
   ·rcases List.mem_cons.1 h2 with e2 | e2
    ·exact e2.symm
    ·exact (irr x (ZdM (ha'.1 y e2) (hb'.1 x e))).elim
  subst hxy;have:xs=ys:=by
   refine Zkh ha'.2 hb'.2 (fun z=>?_)
   have hz:=h z
   constructor
   ·intro hm
    have h1:=hz.1 (List.mem_cons_of_mem _ hm)
    rcases List.mem_cons.1 h1 with e | e
    ·have:=ha'.1 z hm;subst e;exact (irr z this).elim
    ·exact e
   ·intro hm
    have h1:=hz.2 (List.mem_cons_of_mem _ hm)
    rcases List.mem_cons.1 h1 with e | e
    ·have:=hb'.1 z hm;subst e;exact (irr z this).elim
    ·exact e
  rw [this]
theorem Zcg.unique {xs:List RecD}{al:List Int}{src area:Int}{a b:List RecD}(ha:Zcg xs al src area a)(hb:Zcg xs al src area b):a=b:=
 Zkh ha.1 hb.1 (fun r=>by rw [ha.2,hb.2])
theorem ZeR {to:Int}{S:WayD->Prop}{w:WayD}(h:ZaF to S (some w))(hS:∀ d,S d->GoodW d/\d.to=to):GoodW w/\w.to=to:=⟨h.good hS,h.1⟩
theorem Zc0 {xs:List RecD}{al:List Int}{src area to c:Int}(h:ZcZ xs al src area to c):1<=to/\to<=6:=by
 obtain⟨_,_,⟨w,h1,_⟩ | ⟨_,w,h1,_⟩⟩:=h
 ·have hg:=ZeR h1 (fun d h=>ZaI h)
  rw [<-hg.2];exact hg.1.node
 ·have hg:=ZeR h1 (fun d h=>Zba h)
  rw [<-hg.2];exact hg.1.node
theorem Zj8 {xs:List RecD}{al:List Int}{src area to c c':Int}(h:ZcZ xs al src area to c)(h':ZcZ xs al src area to c'):c=c':=by
 have hno:∀ {w v:WayD},ZaF to (Zau xs al src to) (some w)->ZaF to (Zbz xs al true src to) (some v)->False:=by
  intro w v h1 h2;obtain⟨_,⟨u,hu,_⟩,_⟩:=h1;obtain⟨_,⟨u',hu',_⟩,_⟩:=h2;exact hu'.1 u hu
 obtain⟨_,_,⟨w,h1,rfl⟩ | ⟨_,w,h1,rfl⟩⟩:=h
 ·obtain ⟨_,_,⟨v,h2,rfl⟩ | ⟨_,v,h2,rfl⟩⟩:=h'
  ·have:=h1.unique h2;cases this;rfl
  ·exact (hno h1 h2).elim
 ·obtain ⟨_,_,⟨v,h2,rfl⟩ | ⟨_,v,h2,rfl⟩⟩:=h'
  ·exact (hno h2 h1).elim
  ·have:=h1.unique h2;cases this;rfl
theorem Zc9 {area src a b c d:Int}:Zas (ZbX area src a c) (ZbX area src b d)=decide (a<b):=by
 simp [Zas,ZbX]
 try exact decide_eq_decide.2 Iff.rfl
theorem Zcg.tot {xs:List RecD}{al:List Int}{src area:Int}{ds:List RecD}(h:Zcg xs al src area ds):ds.length<=6/\∀ r∈ds,r.near=[]:=by
 constructor
 ·have h1:(ds.map (·.key)).Pairwise (· < ·):=by
   rw [List.pairwise_map];refine List.Pairwise.imp_of_mem ?_ h.1
   intro a b ha hb hab;obtain⟨to,c,rfl,_⟩:=(h.2 a).1 ha;obtain⟨to',c',rfl,_⟩:=(h.2 b).1 hb;rw [Zc9] at hab;exact of_decide_eq_true hab
  have h2:=ZcE h1 (fun z hz=>by
   obtain⟨r,hr,rfl⟩:=List.mem_map.1 hz;obtain⟨to,c,rfl,ht⟩:=(h.2 r).1 hr;exact Zc0 ht)
  simpa using h2
 ·intro r hr
  obtain⟨to,c,rfl,_⟩:=(h.2 r).1 hr
  rfl
theorem Zg5 {xs:List RecD}{al:List Int}{src area to:Int}(hn:Zdd xs area src to)(d:WayD):Zau xs (al.filter (fun a=>a != area)) src to d↔Zau xs al src to d:=by
 constructor
 ·rintro ⟨h1,a,h2,h3⟩
  exact⟨h1,a,(List.mem_filter.1 h2).1,h3⟩
 ·rintro ⟨h1,a,h2,h3⟩
  refine⟨h1,a,List.mem_filter.2 ⟨h2,?_⟩,h3⟩
  have:a≠area:=fun e=>by subst e;exact hn d h3 h1
  simpa using this
theorem Zkz (xs:List RecD)(area src to:Int):(Za3 (Zbm xs area src) to=true/\¬Zdd xs area src to)\/(Za3 (Zbm xs area src) to=false/\Zdd xs area src to):=by
 rcases ZbU (Zbm xs area src) to with ⟨h1,h2⟩ | ⟨h1,h2⟩
 ·have h3:=ZaM h2
  exact .inl ⟨h1,fun h=>h _ h3.1 h3.2⟩
 ·exact .inr ⟨h1,fun d hd=>Zdk h2 d hd⟩
theorem Zkk {S:Int->WayD->Prop}{ds:List WayD}(h:Zay S ds)(to:Int):(Za3 ds to=true/\ZaF to (S to) (some (ZaY ds to)))\/(Za3 ds to=false/\∀ d,¬S to d):=by
 have hb:=h.2 to
 rcases ZbU ds to with ⟨h1,h2⟩ | ⟨h1,h2⟩
 ·rw [h2] at hb
  exact .inl ⟨h1,hb⟩
 ·rw [h2] at hb
  exact .inr ⟨h1,hb⟩
theorem Zh6 {to:Int}{S:WayD->Prop}{w:WayD}(h:∀ d,¬S d):¬ZaF to S (some w):=fun ⟨_,⟨u,hu,_⟩,_⟩=>h u hu
def ZaV (xs:List RecD)(al:List Int)(src area:Int)(t:Int)(ds:List RecD):Prop:=Asc ds/\∀ r,r∈ds↔∃ to c,r=ZbX area src to c/\to<t/\ZcZ xs al src area to c
theorem ZaV.skip {xs:List RecD}{al:List Int}{src area t:Int}{ds:List RecD}(h:ZaV xs al src area t ds)(hn:∀ c,¬ZcZ xs al src area t c):ZaV xs al src area (t+1) ds:=by
 refine⟨h.1,fun r=>?_⟩
 rw [h.2]
 constructor
 ·rintro ⟨to,c,h1,h2,h3⟩
  exact⟨to,c,h1,by omega,h3⟩
 ·rintro ⟨to,c,h1,h2,h3⟩
  refine⟨to,c,h1,?_,h3⟩
  by_cases e:to=t
  ·subst e;exact absurd h3 (hn c)
  ·omega
theorem ZaV.push {xs:List RecD}{al:List Int}{src area t c:Int}{ds:List RecD}(h:ZaV xs al src area t ds)(ht:ZcZ xs al src area t c):ZaV xs al src area (t+1) (ds++[ZbX area src t c]):=by
 refine⟨?_,fun r=>?_⟩
 ·unfold Asc
  rw [List.pairwise_append];refine⟨h.1,by simp,fun a ha b hb=>?_⟩
  have:b=ZbX area src t c:=by simpa using hb
  subst this;obtain⟨to,c',rfl,h2,_⟩:=(h.2 a).1 ha;rw [Zc9]
  simpa using h2
 ·rw [List.mem_append,h.2]
  constructor
  ·rintro (⟨to,c',h1,h2,h3⟩ | h1)
   ·exact ⟨to,c',h1,by omega,h3⟩
   ·exact ⟨t,c,by simpa using h1,by omega,ht⟩
  ·rintro ⟨to,c',h1,h2,h3⟩
   by_cases e:to=t
   ·subst e
    rw [Zj8 h3 ht] at h1;exact .inr (by simpa using h1)
   ·exact .inl ⟨to,c',h1,by omega,h3⟩
theorem ZaV.all {xs:List RecD}{al:List Int}{src area:Int}{ds:List RecD}(h:ZaV xs al src area 7 ds):Zcg xs al src area ds:=by
 refine⟨h.1,fun r=>?_⟩
 rw [h.2]
 constructor
 ·rintro ⟨to,c,h1,_,h3⟩
  exact⟨to,c,h1,h3⟩
 ·rintro ⟨to,c,h1,h3⟩
  exact⟨to,c,h1,by have:=Zc0 h3;omega,h3⟩
theorem ZaV.none {xs:List RecD}{al:List Int}{src area:Int}:ZaV xs al src area 1 []:=by
 refine⟨List.Pairwise.nil,fun r=>?_⟩
 constructor
 ·intro h;cases h
 ·rintro ⟨to,c,_,h2,h3⟩
  have:=Zc0 h3;omega
theorem ZaV.len {xs:List RecD}{al:List Int}{src area t:Int}{ds:List RecD}(h:ZaV xs al src area t ds):ds.length<=6/\∀ r∈ds,r.near=[]:=by
 constructor
 ·have h1:(ds.map (·.key)).Pairwise (· < ·):=by
   rw [List.pairwise_map];refine List.Pairwise.imp_of_mem ?_ h.1
   intro a b ha hb hab;obtain⟨to,c,rfl,_⟩:=(h.2 a).1 ha;obtain⟨to',c',rfl,_⟩:=(h.2 b).1 hb;rw [Zc9] at hab;exact of_decide_eq_true hab
  have h2:=ZcE h1 (fun z hz=>by
   obtain⟨r,hr,rfl⟩:=List.mem_map.1 hz;obtain⟨to,c,rfl,_,ht⟩:=(h.2 r).1 hr;exact Zc0 ht)
  simpa using h2
 ·intro r hr
  obtain⟨to,c,rfl,_⟩:=(h.2 r).1 hr
  rfl
theorem ZlG {xs:List RecD}{al:List Int}{src area to c:Int}(h:ZcZ xs al src area to c):ZaE xs=true:=by
 obtain⟨_,_,⟨w,⟨_,⟨u,hu,_⟩,_⟩,_⟩ | ⟨_,w,⟨_,⟨u,hu,_⟩,_⟩,_⟩⟩:=h
 ·obtain ⟨_,a,_,h3⟩:=hu
  exact (ZcM h3).1
 ·obtain ⟨_,a,_,_,h3⟩:=hu
  exact (ZgI h3).1
def Zdp:Array Oper:=#[{ dst:=some 72,op:=Op.move (Operand.tmp 0),type:=33,pos := "l07_route.go:75",after:=#[],guard:=none }, { dst:=some 73,op:=Op.move (Operand.tmp 11),type:=119,pos := "l07_route.go:75",after:=#[],guard:=none }, { dst:=some 74,op:=Op.move (Operand.tmp 18),type:=3,pos := "l07_route.go:75",after:=#[],guard:=none }, { dst:=some 75,op:=Op.indexAddr 119 (Operand.tmp 73) (Operand.tmp 74),type:=0,pos := "l07_route.go:75",after:=#[{ on:=1,ground:=Ground.data }, { on:=2,ground:=Ground.data }],guard:=none }, { dst:=some 76,op:=Op.load 41 (Operand.tmp 75),type:=41,pos := "l07_route.go:75",after:=#[{ on:=3,ground:=Ground.data }],guard:=none }, { dst:=some 77,op:=Op.move (Operand.tmp 1),type:=37,pos := "l07_route.go:75",after:=#[],guard:=none }, { dst:=some 78,op:=Op.move (Operand.tmp 18),type:=3,pos := "l07_route.go:75",after:=#[],guard:=none }, { dst:=some 79,op:=Op.indexAddr 37 (Operand.tmp 77) (Operand.tmp 78),type:=0,pos := "l07_route.go:75",after:=#[{ on:=5,ground:=Ground.data }, { on:=6,ground:=Ground.data }],guard:=none }, { dst:=some 80,op:=Op.load 3 (Operand.tmp 79),type:=3,pos := "l07_route.go:75",after:=#[{ on:=7,ground:=Ground.data }],guard:=none }, { dst:=some 81,op:=Op.move (Operand.tmp 3),type:=3,pos := "l07_route.go:75",after:=#[],guard:=none }, { dst:=some 82,op:=Op.move (Operand.tmp 13),type:=3,pos := "l07_route.go:75",after:=#[],guard:=none }, { dst:=some 83,op:=Op.load 48 (Operand.tmp 16),type:=48,pos := "l07_route.go:75",after:=#[],guard:=none }, { dst:=some 84,op:=Op.move (Operand.tmp 17),type:=4,pos := "l07_route.go:75",after:=#[],guard:=none }, { dst:=some 85,op:=Op.call { callee:=Callee.value (Operand.func 83),args:=#[Operand.tmp 72,Operand.tmp 76,Operand.tmp 80,Operand.tmp 81,Operand.tmp 82,Operand.tmp 83,Operand.tmp 84],argTypes:=#[33,41,3,3,3,48,4] },type:=49,pos := "l07_route.go:75",after:=#[{ on:=0,ground:=Ground.data }, { on:=4,ground:=Ground.data }, { on:=8,ground:=Ground.data }, { on:=9,ground:=Ground.data }, { on:=10,ground:=Ground.data }, { on:=11,ground:=Ground.data }, { on:=12,ground:=Ground.data }],guard:=none }, { dst:=some 71,op:=Op.move (Operand.tmp 85),type:=49,pos := "l07_route.go:75",after:=#[{ on:=13,ground:=Ground.data }],guard:=none }, { dst:=some 86,op:=Op.extract (Operand.tmp 71) 0,type:=48,pos := "l07_route.go:75",after:=#[{ on:=14,ground:=Ground.data }],guard:=none }, { dst:=some 87,op:=Op.extract (Operand.tmp 71) 1,type:=4,pos := "l07_route.go:75",after:=#[{ on:=14,ground:=Ground.data }, { on:=17,ground:=Ground.gcOnly Departure.lateStores }],guard:=none }, { dst:=none,op:=Op.store 48 (Operand.tmp 16) (Operand.tmp 86),type:=0,pos := "l07_route.go:75",after:=#[{ on:=15,ground:=Ground.data }, { on:=13,ground:=Ground.chain }, { on:=0,ground:=Ground.phase }, { on:=1,ground:=Ground.phase }, { on:=2,ground:=Ground.phase }, { on:=3,ground:=Ground.phase }, { on:=4,ground:=Ground.phase }, { on:=5,ground:=Ground.phase }, { on:=6,ground:=Ground.phase }, { on:=7,ground:=Ground.phase }, { on:=8,ground:=Ground.phase }, { on:=9,ground:=Ground.phase }, { on:=10,ground:=Ground.phase }, { on:=11,ground:=Ground.phase }, { on:=12,ground:=Ground.phase }, { on:=13,ground:=Ground.phase }, { on:=14,ground:=Ground.phase }, { on:=15,ground:=Ground.phase }, { on:=16,ground:=Ground.textOnly Departure.lateStores }],guard:=none }, { dst:=some 17,op:=Op.assign (Operand.tmp 87),type:=4,pos := "l07_route.go:75",after:=#[{ on:=16,ground:=Ground.data }, { on:=17,ground:=Ground.chain }, { on:=0,ground:=Ground.phase }, { on:=1,ground:=Ground.phase }, { on:=2,ground:=Ground.phase }, { on:=3,ground:=Ground.phase }, { on:=4,ground:=Ground.phase }, { on:=5,ground:=Ground.phase }, { on:=6,ground:=Ground.phase }, { on:=7,ground:=Ground.phase }, { on:=8,ground:=Ground.phase }, { on:=9,ground:=Ground.phase }, { on:=10,ground:=Ground.phase }, { on:=11,ground:=Ground.phase }, { on:=12,ground:=Ground.phase }, { on:=13,ground:=Ground.phase }, { on:=14,ground:=Ground.phase }, { on:=15,ground:=Ground.phase }, { on:=16,ground:=Ground.phase }, { on:=17,ground:=Ground.phase }],guard:=none }]
theorem Zhu (W:World)(z:Nat)(q:WayD)(u:Value)(b j:Nat)(h:b≠z):(Za7 W z q u).cell? ⟨b,j,none⟩=W.cell? ⟨b,j,none⟩:=by
 have e:(Za7 W z q u).heap[b]? = W.heap[b]? := by
  unfold Za7;rw [heap_setCell_other _ ⟨z,2,none⟩ _ _ h,heap_setCell_other _ ⟨z,1,none⟩ _ _ h,heap_setCell_other _ ⟨z,0,none⟩ _ _ h]
 simp only [World.cell?,e]
theorem ZlT (t2 t4 t5 t6 t7 t8 t9 t10 t12 t14 t15 t19 t20 t21 t22 t23 t24 t25 t26 t27 t28 t29 t30 t31 t32 t33 t34 t35 t36 t37 t38 t39 t40 t41 t42 t43 t44 t45 t46 t47 t48 t49 t50 t51 t52 t53 t54 t55 t56 t57 t58 t59 t60 t61 t62 t63 t64 t65 t66 t67 t68 t69 t70 t71 t72 t73 t74 t75 t76 t77 t78 t79 t80 t81 t82 t83 t84 t85 t86 t87 t88 t89 t90 t91 t92 t93:Value)(W0:World)(rv wv fv0:Value)(g n cap b off m acap z k:Nat)(area src to:Int)(x:WayD)(xa:Option Addr)(xl xc:Nat)(RR:World->WayD->Value->Value->Prop)(Q:Exit->Act->World->Prop)(ops:Array Oper)(hops:Hid (ops=Zdp))(hpan:∀ c a1 a2 w,Q (.panic c) a1 w->Q (.panic c) a2 w)
  (hk0:(0:Int)<=(k:Int)) (hkn:(k:Int)<(n:Int)) (hkm:(k:Int)<(m:Int))
  (hS:(fun W=>W.cell? ⟨g,k,none⟩=some wv/\W.cell? ⟨b,off+k,none⟩=some (.int .i64 area)) W0)
  (d0:W0.cell? ⟨z,0,none⟩=some (.int .i64 x.to)) (d1:W0.cell? ⟨z,1,none⟩=some (.int .i64 x.cost)) (d2:W0.cell? ⟨z,2,none⟩=some (.slice xa xl xc))
  (hgz:g≠z) (hbz:b≠z)
  (HT:Hid (Calls Tryz.prog 83 #[rv,wv,.int .i64 area,.int .i64 src,.int .i64 to,.agg #[.int .i64 x.to,.int .i64 x.cost,.slice xa xl xc],fv0] W0 fun e w'=>∃ (q:WayD) (ua:Option Addr) (ul uc:Nat) (fv:Value),e=.returned (.tuple #[.agg #[.int .i64 q.to,.int .i64 q.cost,.slice ua ul uc],fv])/\RR w' q (.slice ua ul uc) fv))
  (hSR:∀ W q u fv,RR W q u fv->(fun W=>W.cell? ⟨g,k,none⟩=some wv/\W.cell? ⟨b,off+k,none⟩=some (.int .i64 area)) W)
  (hcell:∀ W q u fv,RR W q u fv->∃ y0 y1 y2,W.cell? ⟨z,0,none⟩=some y0/\W.cell? ⟨z,1,none⟩=some y1/\W.cell? ⟨z,2,none⟩=some y2)
  (hfz:∀ W q u fv,RR W q u fv->∀ j,W.frozen? ⟨z,j,none⟩=false)
  (hend:∀ (W:World) (q:WayD) ua ul uc fv,RR W q (.slice ua ul uc) fv->Q .normal { tmps:=#[rv,.slice (some ⟨b,off,none⟩) m acap,t2,.int .i64 src,t4,t5,t6,t7,t8,t9,t10,.slice (some ⟨g,0,none⟩) n cap,t12,.int .i64 to,t14,t15,.pointer (some ⟨z,0,none⟩),fv,.int .i64 (k:Int),t19,t20,t21,t22,t23,t24,t25,t26,t27,t28,t29,t30,t31,t32,t33,t34,t35,t36,t37,t38,t39,t40,t41,t42,t43,t44,t45,t46,t47,t48,t49,t50,t51,t52,t53,t54,t55,t56,t57,t58,t59,t60,t61,t62,t63,t64,t65,t66,t67,t68,t69,t70,.tuple #[.agg #[.int .i64 q.to,.int .i64 q.cost,.slice ua ul uc],fv],rv,.slice (some ⟨g,0,none⟩) n cap,.int .i64 (k:Int),.pointer (some ⟨g,k,none⟩),wv,.slice (some ⟨b,off,none⟩) m acap,.int .i64 (k:Int),.pointer (some ⟨b,off+k,none⟩),.int .i64 area,.int .i64 src,.int .i64 to,.agg #[.int .i64 x.to,.int .i64 x.cost,.slice xa xl xc],fv0,.tuple #[.agg #[.int .i64 q.to,.int .i64 q.cost,.slice ua ul uc],fv],.agg #[.int .i64 q.to,.int .i64 q.cost,.slice ua ul uc],fv,t88,t89,t90,t91,t92,t93],defers:=[] } (Za7 W z q (.slice ua ul uc))):
  wpAnyH Tryz.prog .any ops Q (fun W=>W.cell? ⟨g,k,none⟩=some wv/\W.cell? ⟨b,off+k,none⟩=some (.int .i64 area)) 19 (Array.replicate 19 false) { tmps:=#[rv,.slice (some ⟨b,off,none⟩) m acap,t2,.int .i64 src,t4,t5,t6,t7,t8,t9,t10,.slice (some ⟨g,0,none⟩) n cap,t12,.int .i64 to,t14,t15,.pointer (some ⟨z,0,none⟩),fv0,.int .i64 (k:Int),t19,t20,t21,t22,t23,t24,t25,t26,t27,t28,t29,t30,t31,t32,t33,t34,t35,t36,t37,t38,t39,t40,t41,t42,t43,t44,t45,t46,t47,t48,t49,t50,t51,t52,t53,t54,t55,t56,t57,t58,t59,t60,t61,t62,t63,t64,t65,t66,t67,t68,t69,t70,t71,t72,t73,t74,t75,t76,t77,t78,t79,t80,t81,t82,t83,t84,t85,t86,t87,t88,t89,t90,t91,t92,t93],defers:=[] } W0:=by
 have h13:∀ W (q:WayD) ua ul uc fv,RR W q (.slice ua ul uc) fv->wpAnyH Tryz.prog .any ops Q (fun W=>W.cell? ⟨g,k,none⟩=some wv/\W.cell? ⟨b,off+k,none⟩=some (.int .i64 area)) 5 #[true,true,true,true,true,true,true,true,true,true,true,true,true,true,false,false,false,false,false] { tmps:=#[rv,.slice (some ⟨b,off,none⟩) m acap,t2,.int .i64 src,t4,t5,t6,t7,t8,t9,t10,.slice (some ⟨g,0,none⟩) n cap,t12,.int .i64 to,t14,t15,.pointer (some ⟨z,0,none⟩),fv0,.int .i64 (k:Int),t19,t20,t21,t22,t23,t24,t25,t26,t27,t28,t29,t30,t31,t32,t33,t34,t35,t36,t37,t38,t39,t40,t41,t42,t43,t44,t45,t46,t47,t48,t49,t50,t51,t52,t53,t54,t55,t56,t57,t58,t59,t60,t61,t62,t63,t64,t65,t66,t67,t68,t69,t70,t71,rv,.slice (some ⟨g,0,none⟩) n cap,.int .i64 (k:Int),.pointer (some ⟨g,k,none⟩),wv,.slice (some ⟨b,off,none⟩) m acap,.int .i64 (k:Int),.pointer (some ⟨b,off+k,none⟩),.int .i64 area,.int .i64 src,.int .i64 to,.agg #[.int .i64 x.to,.int .i64 x.cost,.slice xa xl xc],fv0,.tuple #[.agg #[.int .i64 q.to,.int .i64 q.cost,.slice ua ul uc],fv],t86,t87,t88,t89,t90,t91,t92,t93],defers:=[] } W:=by
  intro W q ua ul uc fv hr;have hS:=hSR W _ _ _ hr;obtain⟨y0,y1,y2,f0,f1,f2⟩:=hcell W _ _ _ hr;have fz:=hfz W _ _ _ hr;refine ZaA 14 (oi:=?_) (v:=?_) ?_ (by rw [hops.out];kernel_rfl) ?_ ?_ ?_ hS ?_
  rotate_left 2
  ·rw [hops.out];unfold Zdp;simp only [getS];rfl
  ·rw [hops.out];kernel_rfl
  ·intro W hW;obtain⟨g1,g2⟩:=hW;go_simp <;> with_reducible rfl
  ·exact fun c _ w h=>hpan c _ _ w h
  try simp only [putS]
  refine ZaA 15 (oi:=?_) (v:=?_) ?_ (by rw [hops.out];kernel_rfl) ?_ ?_ ?_ hS ?_
  rotate_left 2
  ·rw [hops.out];unfold Zdp;simp only [getS];rfl
  ·rw [hops.out];kernel_rfl
  ·intro W hW;obtain⟨g1,g2⟩:=hW;go_simp <;> with_reducible rfl
  ·exact fun c _ w h=>hpan c _ _ w h
  try simp only [putS]
  refine ZaA 16 (oi:=?_) (v:=?_) ?_ (by rw [hops.out];kernel_rfl) ?_ ?_ ?_ hS ?_
  rotate_left 2
  ·rw [hops.out];unfold Zdp;simp only [getS];rfl
  ·rw [hops.out];kernel_rfl
  ·intro W hW;obtain⟨g1,g2⟩:=hW;go_simp <;> with_reducible rfl
  ·exact fun c _ w h=>hpan c _ _ w h
  try simp only [putS]
  refine wpAnyH_ready (rs:=[17]) (by rw [hops.out];kernel_rfl) (by simp) ?_
  refine AllReadyH.cons (o:=?_) ?_ (fun K hK=>?_) ?_
  rotate_left 1
  ·rw [hops.out];unfold Zdp;simp only [getS];rfl
  ·rw [if_pos (by rfl)]
   go_simp
   have hS2:(fun W=>W.cell? ⟨g,k,none⟩=some wv/\W.cell? ⟨b,off+k,none⟩=some (.int .i64 area)) (Za7 W z q (.slice ua ul uc)):=by
    refine⟨?_,?_⟩
    ·show (Za7 W z q (.slice ua ul uc)).cell? _=_
     rw [Zhu W z q _ _ _ hgz];exact hS.1
    ·show (Za7 W z q (.slice ua ul uc)).cell? _=_
     rw [Zhu W z q _ _ _ hbz];exact hS.2
   refine hK.out _ _ hS2 (fun _=>?_)
   refine wpAnyH_ready (rs:=[18]) (by rw [hops.out];kernel_rfl) (by simp) ?_
   refine AllReadyH.cons (o:=?_) ?_ (fun K hK=>?_) ?_
   rotate_left 1
   ·rw [hops.out];unfold Zdp;simp only [getS];rfl
   ·rw [if_pos (by rfl)]
    go_simp
    refine hK.out _ _ hS2 (fun _=>?_)
    refine wpAnyH_done (by rw [hops.out];kernel_rfl) ?_ _
    exact hend W q ua ul uc fv hr
   exact AllReadyH.nil
  exact AllReadyH.nil
 have h11:wpAnyH Tryz.prog .any ops Q (fun W=>W.cell? ⟨g,k,none⟩=some wv/\W.cell? ⟨b,off+k,none⟩=some (.int .i64 area)) 6 #[true,true,true,true,true,true,true,true,true,true,true,true,true,false,false,false,false,false,false] { tmps:=#[rv,.slice (some ⟨b,off,none⟩) m acap,t2,.int .i64 src,t4,t5,t6,t7,t8,t9,t10,.slice (some ⟨g,0,none⟩) n cap,t12,.int .i64 to,t14,t15,.pointer (some ⟨z,0,none⟩),fv0,.int .i64 (k:Int),t19,t20,t21,t22,t23,t24,t25,t26,t27,t28,t29,t30,t31,t32,t33,t34,t35,t36,t37,t38,t39,t40,t41,t42,t43,t44,t45,t46,t47,t48,t49,t50,t51,t52,t53,t54,t55,t56,t57,t58,t59,t60,t61,t62,t63,t64,t65,t66,t67,t68,t69,t70,t71,rv,.slice (some ⟨g,0,none⟩) n cap,.int .i64 (k:Int),.pointer (some ⟨g,k,none⟩),wv,.slice (some ⟨b,off,none⟩) m acap,.int .i64 (k:Int),.pointer (some ⟨b,off+k,none⟩),.int .i64 area,.int .i64 src,.int .i64 to,.agg #[.int .i64 x.to,.int .i64 x.cost,.slice xa xl xc],fv0,t85,t86,t87,t88,t89,t90,t91,t92,t93],defers:=[] } W0:=by
  refine wpAnyH_ready (rs:=[13]) (by rw [hops.out];kernel_rfl) (by simp) ?_
  refine AllReadyH.cons (o:=?_) ?_ (fun K hK=>?_) ?_
  rotate_left 1
  ·rw [hops.out];unfold Zdp;simp only [getS];rfl
  ·rw [if_pos (by rfl)]
   go_simp
   refine HT.out.mono ?_
   rintro e w2 ⟨q,ua,ul,uc,fv,rfl,hr⟩;refine hK.out _ _ (hSR w2 _ _ _ hr) (fun _=>?_)
   exact h13 w2 q ua ul uc fv hr
  exact AllReadyH.nil
 show wpAnyH Tryz.prog .any ops Q (fun W=>W.cell? ⟨g,k,none⟩=some wv/\W.cell? ⟨b,off+k,none⟩=some (.int .i64 area)) 19 #[false,false,false,false,false,false,false,false,false,false,false,false,false,false,false,false,false,false,false] _ W0
 refine ZaA 0 (oi:=?_) (v:=?_) ?_ (by rw [hops.out];kernel_rfl) ?_ ?_ ?_ hS ?_
 rotate_left 2
 ·rw [hops.out];unfold Zdp;simp only [getS];rfl
 ·rw [hops.out];kernel_rfl
 ·intro W hW;obtain⟨g1,g2⟩:=hW;go_simp <;> with_reducible rfl
 ·exact fun c _ w h=>hpan c _ _ w h
 try simp only [putS]
 refine ZaA 1 (oi:=?_) (v:=?_) ?_ (by rw [hops.out];kernel_rfl) ?_ ?_ ?_ hS ?_
 rotate_left 2
 ·rw [hops.out];unfold Zdp;simp only [getS];rfl
 ·rw [hops.out];kernel_rfl
 ·intro W hW;obtain⟨g1,g2⟩:=hW;go_simp <;> with_reducible rfl
 ·exact fun c _ w h=>hpan c _ _ w h
 try simp only [putS]
 refine ZaA 2 (oi:=?_) (v:=?_) ?_ (by rw [hops.out];kernel_rfl) ?_ ?_ ?_ hS ?_
 rotate_left 2
 ·rw [hops.out];unfold Zdp;simp only [getS];rfl
 ·rw [hops.out];kernel_rfl
 ·intro W hW;obtain⟨g1,g2⟩:=hW;go_simp <;> with_reducible rfl
 ·exact fun c _ w h=>hpan c _ _ w h
 try simp only [putS]
 refine ZaA 3 (oi:=?_) (v:=?_) ?_ (by rw [hops.out];kernel_rfl) ?_ ?_ ?_ hS ?_
 rotate_left 2
 ·rw [hops.out];unfold Zdp;simp only [getS];rfl
 ·rw [hops.out];kernel_rfl
 ·intro W hW;obtain⟨g1,g2⟩:=hW;go_simp <;> with_reducible rfl
 ·exact fun c _ w h=>hpan c _ _ w h
 try simp only [putS]
 refine ZaA 4 (oi:=?_) (v:=?_) ?_ (by rw [hops.out];kernel_rfl) ?_ ?_ ?_ hS ?_
 rotate_left 2
 ·rw [hops.out];unfold Zdp;simp only [getS];rfl
 ·rw [hops.out];kernel_rfl
 ·intro W hW;obtain⟨g1,g2⟩:=hW;go_simp <;> with_reducible rfl
 ·exact fun c _ w h=>hpan c _ _ w h
 try simp only [putS]
 refine ZaA 5 (oi:=?_) (v:=?_) ?_ (by rw [hops.out];kernel_rfl) ?_ ?_ ?_ hS ?_
 rotate_left 2
 ·rw [hops.out];unfold Zdp;simp only [getS];rfl
 ·rw [hops.out];kernel_rfl
 ·intro W hW;obtain⟨g1,g2⟩:=hW;go_simp <;> with_reducible rfl
 ·exact fun c _ w h=>hpan c _ _ w h
 try simp only [putS]
 refine ZaA 6 (oi:=?_) (v:=?_) ?_ (by rw [hops.out];kernel_rfl) ?_ ?_ ?_ hS ?_
 rotate_left 2
 ·rw [hops.out];unfold Zdp;simp only [getS];rfl
 ·rw [hops.out];kernel_rfl
 ·intro W hW;obtain⟨g1,g2⟩:=hW;go_simp <;> with_reducible rfl
 ·exact fun c _ w h=>hpan c _ _ w h
 try simp only [putS]
 refine ZaA 7 (oi:=?_) (v:=?_) ?_ (by rw [hops.out];kernel_rfl) ?_ ?_ ?_ hS ?_
 rotate_left 2
 ·rw [hops.out];unfold Zdp;simp only [getS];rfl
 ·rw [hops.out];kernel_rfl
 ·intro W hW;obtain⟨g1,g2⟩:=hW;go_simp <;> with_reducible rfl
 ·exact fun c _ w h=>hpan c _ _ w h
 try simp only [putS]
 refine ZaA 8 (oi:=?_) (v:=?_) ?_ (by rw [hops.out];kernel_rfl) ?_ ?_ ?_ hS ?_
 rotate_left 2
 ·rw [hops.out];unfold Zdp;simp only [getS];rfl
 ·rw [hops.out];kernel_rfl
 ·intro W hW;obtain⟨g1,g2⟩:=hW;go_simp <;> with_reducible rfl
 ·exact fun c _ w h=>hpan c _ _ w h
 try simp only [putS]
 refine ZaA 9 (oi:=?_) (v:=?_) ?_ (by rw [hops.out];kernel_rfl) ?_ ?_ ?_ hS ?_
 rotate_left 2
 ·rw [hops.out];unfold Zdp;simp only [getS];rfl
 ·rw [hops.out];kernel_rfl
 ·intro W hW;obtain⟨g1,g2⟩:=hW;go_simp <;> with_reducible rfl
 ·exact fun c _ w h=>hpan c _ _ w h
 try simp only [putS]
 refine ZaA 10 (oi:=?_) (v:=?_) ?_ (by rw [hops.out];kernel_rfl) ?_ ?_ ?_ hS ?_
 rotate_left 2
 ·rw [hops.out];unfold Zdp;simp only [getS];rfl
 ·rw [hops.out];kernel_rfl
 ·intro W hW;obtain⟨g1,g2⟩:=hW;go_simp <;> with_reducible rfl
 ·exact fun c _ w h=>hpan c _ _ w h
 try simp only [putS]
 refine ZaA 12 (oi:=?_) (v:=?_) ?_ (by rw [hops.out];kernel_rfl) ?_ ?_ ?_ hS ?_
 rotate_left 2
 ·rw [hops.out];unfold Zdp;simp only [getS];rfl
 ·rw [hops.out];kernel_rfl
 ·intro W hW;obtain⟨g1,g2⟩:=hW;go_simp <;> with_reducible rfl
 ·exact fun c _ w h=>hpan c _ _ w h
 try simp only [putS]
 refine wpAnyH_ready (rs:=[11]) (by rw [hops.out];kernel_rfl) (by simp) ?_
 refine AllReadyH.cons (o:=?_) ?_ (fun K hK=>?_) ?_
 rotate_left 1
 ·rw [hops.out];unfold Zdp;simp only [getS];rfl
 ·rw [if_pos (by rfl)]
  go_simp
  refine hK.out _ _ hS (fun _=>?_)
  exact h11
 exact AllReadyH.nil
theorem Zc3 (x:WayD)(a:Option Addr)(n c:Nat):∀ u∈encW (x,.slice a n c),u.oneCell'=true:=by
 intro u hu;simp only [encW,List.mem_cons,List.not_mem_nil,or_false] at hu
 rcases hu with rfl | rfl | rfl <;> rfl
theorem Zfw {W:World}{lo lo2 hi n size2:Nat}{v:Value}{xs:List Value}{q:WP}(hq:Zbu W lo hi q)(hr:W.ownsRow lo2 48 size2 v n xs)(j:Nat)(hj:q.2.ownBlock=some j):some j≠v.ownBlock:=by
 intro e
 rcases hr.2 with ⟨h0,_⟩ | ⟨g,cap,cur,hv,_,hh,_⟩
 ·rw [h0] at e;simp [Value.ownBlock] at e
 ·rw [hv] at e
  simp [Value.ownBlock] at e
  subst e;exact Zan hq.1 hh (by decide) hj.symm
theorem WaysOwn.push {W Wa W2:World}{lo:Nat}{v v':Value}{qs:List WP}{p:WP}(h:WaysOwn W lo W.heap.size v qs)(hb:Below W.heap.size W Wa)(hlo:lo<=W.heap.size)(hp:Zbu Wa W.heap.size Wa.heap.size p)
  (row:W2.ownsRow lo 48 3 v' (qs.length+1) (flat encW (qs++[p]))) (hg:Wa.grownBy W2 v.ownBlock):WaysOwn W2 lo W2.heap.size v' (qs++[p]) where
 row:=by simpa using row
 top:=fun k hk=>(row.lt k hk).2
 apart:=ZkS h.apart h.nears (fun k hk=>(hp.1.lt k hk).1)
 nears:=by
  have rowa:=Zaf h.row hb (Nat.le_refl _);have key:∀ q,Zbu Wa lo Wa.heap.size q->Zbu W2 lo W2.heap.size q:=fun q hq=>
   ⟨Zao hq.1 (fun j hj=>hg.block j (hq.2 j hj) (Zfw hq rowa j hj)),fun k hk=>Nat.lt_of_lt_of_le (hq.2 k hk) hg.size⟩
  intro q hq
  rcases List.mem_append.1 hq with h1 | h1
  ·exact key q (((h.nears q h1).keep (W':=Wa) (fun j _ h2 _=>hb.block j h2)).wide (Nat.le_refl _) hb.size)
  ·have:q=p:=by simpa using h1
   subst this;exact key q (hp.wide hlo (Nat.le_refl _))
theorem ZaL {α:Type}{enc:α->List Value}{sz bytes:Nat}(hlen:∀ a,(enc a).length=sz)(hpos:0<sz)(hbb:bytes<=100){P:Program}(w:World){ops:Array Oper}{rest:List Oper}{o:Oper}{a:Act}{Q:Exit->Act->World->Prop}(hgd:o.guard=none)(s x:Operand)(t:TypeId)
  (ho:o.op=.call { callee:=.builtin .append,args:=#[s,x],argTypes:=#[t,t] }) (base:Nat) (e:TypeId) (ht:P.underlying t=some (.slice e)) (zv:Value) (hzv:zv.cells.size=sz)
  (hinfo:(P.info? e).map (fun i=>(i.zero,i.size,i.bytes))=some (some zv,sz,bytes))
  (v:Value) (l:List α) (y:α) (hone:∀ u∈enc y,u.oneCell'=true) (hs:a.eval s=v) (hown:w.ownsRow base e sz v l.length (flat enc l))
  (ad:Addr) (c:Nat) (hx:a.eval x=.slice (some ad) 1 c) (hnews:∀ j u,(enc y)[j]? = some u->w.cell? (ad.add j)=some u)
  (hl:l.length+1<=1000000000) (hbase:base<=w.heap.size)
  (h:∀ v' w',w'.ownsRow base e sz v' (l++[y]).length (flat enc (l++[y]))->w.grownBy w' v.ownBlock->(v'.ownBlock=v.ownBlock\/v'.ownBlock=some w.heap.size)->wpList P ops Q rest (a.put o.dst v') w'):wpList P ops Q (o::rest) a w:=by
 obtain⟨i0,hi,hz0,hz1,hz2⟩:=info_parts hinfo;refine wpList_append_own_at w hgd s x t ho base e i0 zv sz bytes ht hi hz0 hz1 hz2 hzv hpos v l.length (flat enc l) hs hown ad 1 c (enc y) hx (by rw [hlen];omega) hnews hone (by unfold maxLen;omega) ?_ hbase ?_
 ·have:(l.length+1)*bytes<=1000000000*100:=Nat.mul_le_mul hl hbb
  omega
 ·intro v' w' h1 h2 _ h4
  have e1:flat enc l++enc y=flat enc (l++[y]):=by rw [ZaD];simp [flat]
  rw [e1] at h1;exact h v' w' (by simpa using h1) h2 h4
end Go.Proofs.YtgdgkgmjpnbbcaaGreat
