/-
  Parts.
-/
import Derived.Test.YtdhnddfnckgbjaaGreatZi18
namespace Go.Proofs.YtdhnddfnckgbjaaGreat
open Go.RowKit
set_option linter.unusedSimpArgs false
set_option linter.unusedVariables false
set_option maxRecDepth 100000
set_option maxHeartbeats 8000000
variable {border:Bool}{a area src to:Int}{al:List Int}{ls:List LP}{rs xs:List RecD}{g k lo z:Nat}{r:RecD}{bv u:Value}{b d:WayD}{V W W':World}
def Zeg (xs:List RecD)(area src:Int)(r:RecD)(d:WayD):Prop:=
 r.kind=2/\r.area=area/\r.owner≠src/\∃ v,ZaR (Zcd xs area src) r.owner=some v/\v.cost+r.cost<60000/\d=⟨r.key,v.cost+r.cost,v.hops⟩
def outS (xs rs:List RecD)(area src to:Int)(d:WayD):Prop:=d.to=to/\∃ r∈rs,Zeg xs area src r d
theorem Zg2 (hs:ZaN xs=true)(hr:r∈xs)(hk:r.kind=2):(1<=r.key/\r.key<=6)/\(0<=r.cost/\r.cost<=60000):=by
 unfold ZaN at hs;simp only [YAO] at hs;have hok:=Zdo hs.1.2 hr;unfold Za7 at hok;rw [if_neg (by omega),if_pos hk] at hok;simp only [YAO,inB,YAk] at hok;omega
theorem Zfh (hr:r∈xs)(h:Zeg xs area src r d):GoodW d:=by
 obtain⟨h1,_,_,v,h4,h5,rfl⟩:=h;have hm:=(Za2 h4).1;have hv:=((ZcD xs area src).2 v hm).1;have hb:=Zg2 (Ze9 hm).1 hr h1;exact⟨hb.1,⟨by show 0<=v.cost+r.cost;have:=hv.cost;omega,by show v.cost+r.cost<=60000;omega⟩,hv.asc,hv.hop6⟩
theorem Zf4 (hs:∀ r∈rs,r∈xs)(h:outS xs rs area src to d):GoodW d/\d.to=to:=by
 obtain⟨h1,r,hr,h2⟩:=h;exact⟨Zfh (hs r hr) h2,h1⟩
theorem Zit (h:rs[k]? = some r)(d:WayD):outS xs (rs.take (k+1)) area src to d↔outS xs (rs.take k) area src to d\/(d.to=to/\Zeg xs area src r d):=by
 obtain⟨hk,e⟩:=YAD.1 h;unfold outS;rw [YAJ hk,e];constructor
 ·rintro ⟨h1,x,h2,h3⟩;rcases YAH.1 h2 with h4 | h4
  ·exact .inl ⟨h1,x,h4,h3⟩
  ·have:x=r:=by simpa using h4
   subst this;exact .inr ⟨h1,h3⟩
 ·rintro (⟨h1,x,h2,h3⟩ | ⟨h1,h3⟩)
  ·exact ⟨h1,x,YAH.2 (.inl h2),h3⟩
  ·exact ⟨h1,r,YAH.2 (.inr (by simp)),h3⟩
def Zh4 (border:Bool)(a:Int):Prop:=border=true->a=0
def Zb0 (xs:List RecD)(al:List Int)(border:Bool)(src to:Int)(d:WayD):Prop:=(∀ x,¬ZaI xs al src to x)/\∃ a∈al,Zh4 border a/\outS xs xs a src to d
theorem ZaU (h:Zb0 xs al border src to d):GoodW d/\d.to=to:=by
 obtain⟨_,a,_,_,h2⟩:=h;exact Zf4 (fun _ h=>h) h2
theorem Zis (h:outS xs rs area src to d):ZaN xs=true/\0<=area/\area<3:=by
 obtain⟨_,r,_,_,_,_,v,h4,_⟩:=h;exact Ze9 (Za2 h4).1
def Zgh (xs:List RecD)(al:List Int)(border:Bool)(src to:Int)(d:WayD):Prop:=∃ a∈al,Zh4 border a/\outS xs xs a src to d
theorem ZkV (h:Zgh xs al border src to d):GoodW d/\d.to=to:=by
 obtain⟨a,_,_,h2⟩:=h;exact Zf4 (fun _ h=>h) h2
theorem Zg4 (h:al[k]? = some a)(d:WayD):Zgh xs (al.take (k+1)) border src to d↔Zgh xs (al.take k) border src to d\/(Zh4 border a/\outS xs xs a src to d):=by
 obtain⟨hk,e⟩:=YAD.1 h;unfold Zgh;rw [YAJ hk,e];constructor
 ·rintro ⟨b,h2,h3,h4⟩;rcases YAH.1 h2 with h5 | h5
  ·exact .inl ⟨b,h5,h3,h4⟩
  ·have:b=a:=by simpa using h5
   subst this;exact .inr ⟨h3,h4⟩
 ·rintro (⟨b,h2,h3,h4⟩ | ⟨h3,h4⟩)
  ·exact ⟨b,YAH.2 (.inl h2),h3,h4⟩
  ·exact ⟨a,YAH.2 (.inr (by simp)),h3,h4⟩
theorem ZiV {tog:WayD->WayD->WayD}(ht:ZiP tog){o:Option WayD}{S0:WayD->Prop}(hS0:∀ d,S0 d->GoodW d/\d.to=to)(h:xs[k]? = some r)(hb:Zav to (fun d=>S0 d\/outS xs (xs.take k) area src to d) o)(hd:Zeg xs area src r d)(hto:d.to=to):
  Zav to (fun d=>S0 d\/outS xs (xs.take (k+1)) area src to d) (ZeZ tog o (some d)):=by
 have hg:=Zfh (YAF h) hd;refine (hb.add ht (fun w hw=>?_) hto hg.asc hg.hop6).congr (fun w=>?_)
 ·rcases hw with h1 | h1
  ·exact (hS0 w h1).1.hop6
  ·exact (Zf4 (fun r hr=>List.mem_of_mem_take hr) h1).1.hop6
 ·rw [Zit h];have huniq:∀ w,Zeg xs area src r w->w=d:=by
   rintro w ⟨_,_,_,v,h4,_,rfl⟩;obtain⟨_,_,_,v',h4',_,rfl⟩:=hd;rw [h4] at h4';cases h4';rfl
  constructor
  ·rintro ((h1 | h1) | h1)
   ·exact .inl h1
   ·exact .inr (.inl h1)
   ·subst h1;exact .inr (.inr ⟨hto,hd⟩)
  ·rintro (h1 | h1 | ⟨_,h1⟩)
   ·exact .inl (.inl h1)
   ·exact .inl (.inr h1)
   ·exact .inr (huniq w h1)
theorem Zbx {o:Option WayD}{S0:WayD->Prop}(h:xs[k]? = some r)(hb:Zav to (fun d=>S0 d\/outS xs (xs.take k) area src to d) o)(hn:∀ d,d.to=to->¬Zeg xs area src r d):
  Zav to (fun d=>S0 d\/outS xs (xs.take (k+1)) area src to d) o:=by
 refine hb.congr (fun w=>?_);rw [Zit h];constructor
 ·rintro (h1 | h1)
  ·exact .inl h1
  ·exact .inr (.inl h1)
 ·rintro (h1 | h1 | ⟨h1,h2⟩)
  ·exact .inl h1
  ·exact .inr h1
  ·exact absurd h2 (hn w h1)
structure BoxT (W:World) (z lo:Nat) (b:WayD) (bv:Value):Prop where
 box:W.heap[z]? = some (.cells (wayC b bv) 144)
 own:W.ownsRow lo 3 1 bv b.hops.length (flat intE b.hops)
 len:b.hops.length<=6
theorem BoxT.below (h:BoxT W z lo b bv)(hb:Below W.heap.size W W'):BoxT W' z lo b bv:=
 ⟨(hb.block _ (Zab h.box)).trans h.box,Zad h.own hb (YA _),h.len⟩
theorem BoxT.other {cs:Array Value}{T:TypeId}{fr:Nat × Nat}(h:BoxT W z lo b bv)(hg:W.grownBy W' (some g))(hgz:z≠g)(hbox:W.heap[g]? = some (.cells cs T fr))(hT:(3:TypeId)≠T):BoxT W' z lo b bv:=
 ⟨(hg.block z (Zab h.box) (by simp;omega)).trans h.box,Zai h.own (fun j hj=>hg.block j (h.own.lt j hj).2 (fun e=>Zas h.own hbox hT (by rw [hj];exact e.symm))),h.len⟩
theorem BoxT.put (h:BoxT W z lo b bv)(hu:W.ownsRow lo 3 1 u d.hops.length (flat intE d.hops))(hl:d.hops.length<=6):BoxT (ZbJ W z d u) z lo d u:=by
 have hb:=h.box;unfold wayC at hb;have hg:=ZbH W z d u;exact⟨Zid d u hb,Zai hu (fun j hj=>hg.block j (hu.lt j hj).2 (fun e=>Zas hu h.box (by decide) (by rw [hj];exact e.symm))),hl⟩
theorem Zea {o:Obj}(h:W.heap[g]? = some o)(hne:g≠z):(ZbJ W z d u).heap[g]? = some o:=((ZbH W z d u).block g (Zab h) (by simp;omega)).trans h
theorem WLs.keep {hi:Nat}(h:WLs W lo hi u ls)(hk:∀ k,lo<=k->k<hi->k<W.heap.size->W'.heap[k]? = W.heap[k]?):WLs W' lo hi u ls:=
 ⟨Zai h.row (fun k e=>hk k (h.row.lt k e).1 (h.top k e) (h.row.lt k e).2),h.top,fun p hp=>(h.ways p hp).keep hk⟩
def Zbp (xs:List RecD)(src:Int)(al:List Int)(ls:List LP):Prop:=ls.map (fun p=>Zam p.2)=al.map (fun a=>Zcd xs a src)
theorem Zbp.at (h:Zbp xs src al ls)(ha:al[k]? = some a):∃ p,ls[k]? = some p/\Zam p.2=Zcd xs a src:=by
 have h1:=congrArg (fun l=>l[k]?) h;simp only [YAZ,ha,Option.map_some] at h1;cases e:ls[k]? with
 | none=>rw [e] at h1;cases h1
 | some p=>rw [e] at h1;exact⟨p,rfl,by simpa using h1⟩
theorem Zbp.len (h:Zbp xs src al ls):ls.length=al.length:=by
 have:=congrArg List.length h;simpa using this
theorem Zbp.push {p:LP}(h:Zbp xs src (al.take k) ls)(ha:al[k]? = some a)(hp:Zam p.2=Zcd xs a src):Zbp xs src (al.take (k+1)) (ls++[p]):=by
 obtain⟨hk,e⟩:=YAD.1 ha;unfold Zbp;rw [YAJ hk,e,YAW,YAW,h];simp [hp]
theorem ZhS {ps:List WP}(h:Zam ps=Zcd xs a src):totW ps<=42:=by
 have hw:=ZcD xs a src;refine ZjU ?_ (fun d hd=>(hw.2 d (by rw [<-h];exact hd)).1.len);have:=ZeJ hw.1 (fun d hd=>(hw.2 d hd).1.node);rw [<-h] at this;simpa [Zam] using this
theorem ZmC (W:World)(lo:Nat)(hb:lo<=W.heap.size):WLs (W.alloc (.cells #[] 139)) lo (W.alloc (.cells #[] 139)).heap.size (.slice (some ⟨W.heap.size,0,none⟩) 0 0) []:=by
 have h:(W.alloc (.cells #[] 139)).ownsRow lo 139 1 (.slice (some ⟨W.heap.size,0,none⟩) 0 0) 0 (flat Zhr []):=YAU W #[] 0 hb (by unfold maxLen;omega) (by simp);exact⟨h,fun k hk=>(h.lt k hk).2,by simp⟩
theorem Tryz.infoWayS :(Tryz.prog.info? 139).map (fun i=>(i.zero,i.size,i.bytes))=some (some (.slice none 0 0),1,24):=by kernel_rfl
structure BoxSt (V W:World) (z:Nat) (b:WayD) (bv:Value):Prop where
 box:W.heap[z]? = some (.cells (wayC b bv) 144)
 own:W.ownsRow z 3 1 bv b.hops.length (flat intE b.hops)
 bel:Below z V W
 len:b.hops.length<=6
theorem BoxSt.below (h:BoxSt V W z b bv)(hb:Below W.heap.size W W'):BoxSt V W' z b bv:=
 ⟨(hb.block _ (Zab h.box)).trans h.box,Zad h.own hb (YA _),h.bel.trans (hb.mono (by have:=Zab h.box;omega)),h.len⟩
theorem BoxSt.put (h:BoxSt V W z b bv)(hz:V.heap.size=z)(hu:W.ownsRow (z+1) 3 1 u d.hops.length (flat intE d.hops))(hl:d.hops.length<=6):BoxSt V (ZbJ W z d u) z d u:=by
 have hb:=h.box;unfold wayC at hb;have hg:=ZbH W z d u;refine⟨Zid d u hb,?_,h.bel.grown hg (by have:=h.bel.size;omega) (fun k hk=>by simp at hk;omega),hl⟩;refine Zaf (hu.kept hg ?_) (by omega);cases hv:u.ownBlock with
 | none=>exact .inl rfl
 | some g=>exact .inr (fun e=>by have:=(hu.lt g hv).1;simp at e;omega)
theorem BoxSt.other {cs:Array Value}{fr:Nat × Nat}(h:BoxSt V W z b bv)(hg:W.grownBy W' (some g))(hgz:z<g)(hbox:W.heap[g]? = some (.cells cs 144 fr))(hz:V.heap.size=z):BoxSt V W' z b bv:=
 ⟨(hg.block z (Zab h.box) (by simp;omega)).trans h.box,Zai h.own (fun j hj=>hg.block j (h.own.lt j hj).2 (fun e=>Zas h.own hbox (by decide) (by rw [hj];exact e.symm))),h.bel.grown hg (by have:=h.bel.size;omega) (fun k hk=>by simp at hk;omega),h.len⟩
theorem ZgY {l:List Int}(h:W.ownsRow lo 3 1 u l.length (flat intE l))(hg:W.grownBy W' (some g))(hlt:g<lo):W'.ownsRow lo 3 1 u l.length (flat intE l):=
 Zai h (fun j hj=>hg.block j (h.lt j hj).2 (fun e=>by have:=(h.lt j hj).1;simp at e;omega))
end Go.Proofs.YtdhnddfnckgbjaaGreat
namespace Go.Proofs.YtdhnddfnckgbjaaGreat
open Go.RowKit
open Go.ChangeMaps (setBlock)

set_option linter.unusedSimpArgs false
set_option linter.unusedVariables false

theorem ZoI {es:List BE}{clk:Nat}{p:PlP}{v:Value}(hu:es.Pairwise (fun a b=>a.1<b.1))(hb:∀ x∈es,x.1<clk):(es++[(clk,p,v)]).Pairwise (fun a b=>a.1<b.1)/\∀ x∈es++[(clk,p,v)],x.1<clk+1:=by
 refine⟨YAP.2 ⟨hu,by simp,fun a ha b hb2=>?_⟩,fun x hx=>?_⟩
 ·rw [YAl.1 hb2];exact hb a ha
 ·rcases YAH.1 hx with h | h
  ·have:=hb x h;omega
  ·rw [YAl.1 h];exact Nat.lt_succ_self _

theorem up_set {es:List BE}{j:Nat}{y:BE}{p:PlP}{v:Value}(hj:es[j]? = some y)(hu:es.Pairwise (fun a b=>a.1<b.1)):(es.set j (y.1,p,v)).Pairwise (fun a b=>a.1<b.1):=by
 have h1:(es.set j (y.1,p,v)).map (·.1)=es.map (·.1):=by
  rw [List.map_set];obtain⟨hl,e⟩:=YAD.1 hj;apply List.ext_getElem
  ·simp
  ·intro i h2 h3;rw [List.getElem_set]
   split
   ·rename_i e2
    subst e2;simp [e]
   ·rfl
 have h2:(es.map (·.1)).Pairwise (· < ·):=YAY.2 hu;rw [<-h1] at h2;exact YAY.1 h2

theorem Zmc {W:World}{lo g:Nat}{p:PlP}(hg:W.heap[g]? = some (.cells (Zbu p).toArray 68))(hlo:lo<=g):W.ownsRow lo 68 4 (.slice (some ⟨g,0,none⟩) 1 1) 1 (Zbu p)/\∀ k,(Value.slice (some ⟨g,0,none⟩) 1 1).ownBlock=some k->k<W.heap.size:=by
 refine⟨⟨rfl,.inr ⟨g,1,_,rfl,hlo,hg,YA _,by unfold maxLen;omega,rfl,rfl⟩⟩,fun k e=>?_⟩;simp [Value.ownBlock] at e;subst e;exact Zab hg

theorem LgAt.put {W:World}{lo m clk g:Nat}{es:List BE}{pl:Int}{p:JP}(h:LgAt W lo W.heap.size m es clk)(hlo:lo<=g)
  (hg:∀ pl2,(Zbe (ksG es) p.1.thing p.1.to=none->pl2=pl)->(∀ j y,Zbe (ksG es) p.1.thing p.1.to=some j->es[j]? = some y->pl2=y.2.1.1)->W.heap[g]? = some (.cells (Zbu (pl2,p)).toArray 68)):
  LgAt (setBlock W m (.map (Za6 (Zb1 es clk pl p (.slice (some ⟨g,0,none⟩) 1 1))).toArray (putC es clk p))) lo W.heap.size m (Zb1 es clk pl p (.slice (some ⟨g,0,none⟩) 1 1)) (putC es clk p)/\W.grownBy (setBlock W m (.map (Za6 (Zb1 es clk pl p (.slice (some ⟨g,0,none⟩) 1 1))).toArray (putC es clk p))) (some m):=by
 rcases Zdx es p.1.thing p.1.to with ⟨_,e2⟩ | ⟨k,y,hy,_,e2,_,_⟩
 ·have e3:Zb1 es clk pl p (.slice (some ⟨g,0,none⟩) 1 1)=es++[(clk,(pl,p),.slice (some ⟨g,0,none⟩) 1 1)]:=by unfold Zb1;rw [e2]
  have e4:putC es clk p=clk+1:=by unfold putC;rw [e2]
  rw [e3,e4];have hn:=Zmc (hg pl (fun _=>rfl) (fun j y h1 _=>by rw [e2] at h1;cases h1)) hlo;obtain⟨u1,u2⟩:=ZoI (p:=(pl,p)) (v:=.slice (some ⟨g,0,none⟩) 1 1) h.up h.born;exact h.turned (YA _) (fun x hx=>by
   rcases YAH.1 hx with h1 | h1
   ·exact .inl h1
   ·rw [YAl.1 h1];exact .inr hn) u1 u2
 ·have e3:Zb1 es clk pl p (.slice (some ⟨g,0,none⟩) 1 1)=es.set k (y.1,(y.2.1.1,p),.slice (some ⟨g,0,none⟩) 1 1):=by unfold Zb1;rw [e2];simp only [hy]
  have e4:putC es clk p=clk:=by unfold putC;rw [e2]
  rw [e3,e4];have hn:=Zmc (hg y.2.1.1 (fun h1=>by rw [e2] at h1;cases h1) (fun j y2 h1 h2=>by
   rw [e2] at h1;cases h1;rw [hy] at h2;cases h2;rfl)) hlo
  refine h.turned (YA _) (fun x hx=>?_) (up_set hy h.up) (fun x hx=>?_)
  ·rcases List.mem_or_eq_of_mem_set hx with h1 | h1
   ·exact .inl h1
   ·rw [h1];exact .inr hn
  ·rcases List.mem_or_eq_of_mem_set hx with h1 | h1
   ·exact h.born x h1
   ·rw [h1];exact h.born y (YAF hy)
theorem Zj5 (W:World)(m clk:Nat)(es:List BE)(pl:Int)(p:JP)(v:Value)(hm:W.heap[m]? = some (.map (Za6 es).toArray clk)):
  (Instr.mapUpdate 43 (.map (some m)) (kV p.1.thing p.1.to) v).run Tryz.prog W=.ok () (setBlock W m (.map (Za6 (Zb1 es clk pl p v)).toArray (putC es clk p))):=by
 rcases Zdx es p.1.thing p.1.to with ⟨_,e2⟩ | ⟨k,y,hy,_,e2,_,_⟩
 ·have e3:Zb1 es clk pl p v=es++[(clk,(pl,p),v)]:=by unfold Zb1;rw [e2]
  have e4:putC es clk p=clk+1:=by unfold putC;rw [e2]
  rw [e3,e4,Zjl W m _ clk (ksG es) p.1.thing p.1.to v hm (Zep es) e2];simp [Za6]
 ·have e3:Zb1 es clk pl p v=es.set k (y.1,(y.2.1.1,p),v):=by unfold Zb1;rw [e2];simp only [hy]
  have e4:putC es clk p=clk:=by unfold putC;rw [e2]
  rw [e3,e4,Zot W m _ clk (ksG es) p.1.thing p.1.to v k hm (Zep es) e2,ZlB es k y (y.1,(y.2.1.1,p),v) v hy rfl rfl];simp

set_option maxRecDepth 100000 in
set_option maxHeartbeats 4000000 in
theorem Zns (lo m clk:Nat)(es:List BE)(x:LnD)(hv:Value)(pl:Int)(w:World)(h:LgAt w lo w.heap.size m es clk):
  Calls Tryz.prog 18 #[.map (some m),.agg (lnC x hv),.int .i64 pl] w fun e w'=>e=.returned (.tuple #[])/\∃ v,LgAt w' lo w'.heap.size m (Zb1 es clk pl (x,hv) v) (putC es clk (x,hv))/\w.grownBy w' (some m):=by
 have hb:=(YAB w.heap.size w).alloc (YA _) (.cells #[.bool x.thing,.int .i64 x.to,hv] 39);have hbox:=YAE w (.cells #[.bool x.thing,.int .i64 x.to,hv] 39);unfold lnC;have HL:=hide h;clear h
 go_enter Tryz.func18,Tryz.ntmps18
 go_wp2_with fail
 obtain⟨W0,hW0⟩:∃ W0,W0=w.alloc (.cells #[.bool x.thing,.int .i64 x.to,hv] 39):=⟨_,rfl⟩;rw [<-hW0] at hb hbox |-;have c0:=Zaa hbox 0;have c1:=Zaa hbox 1;have c2:=Zaa hbox 2;simp at c0 c1 c2;have hl0:=Zab hbox;have hbs:=hb.size;have HL0:=hide ((HL.out.below hb (YA _)).wide hbs);refine (Zcs x hv W0).mono ?_;rintro e w1 ⟨rfl,b1⟩;have HL1:=hide ((HL0.out.below b1 (YA _)).wide b1.size)
 go_wp2_with fail
 refine (ZkG lo m clk es x.thing x.to w1 HL1.out).mono ?_;rintro e w2 ⟨rfl,b2⟩;have HL2:=hide ((HL1.out.below b2 (YA _)).wide b2.size);have hbox2:=(b2.block _ (by have:=b1.size;omega)).trans ((b1.block _ hl0).trans hbox);have bw2:Below w.heap.size w w2:=hb.trans ((b1.trans (b2.mono b1.size)).mono hbs);have hw2s:=bw2.size;clear hb hbox c0 c1 c2 HL0 HL1 b1 b2 hbs hl0 hW0 HL;have TAIL:=hide (fun (w3:World) (b3:Below w.heap.size w w3) (HL3:LgAt w3 lo w3.heap.size m es clk) (W:World) (g1:Nat) (g:Below w3.heap.size w3 W) (hlg:w3.heap.size<=g1) (pl2:Int) (hg1:W.heap[g1]? = some (.cells #[.int .i64 pl2,.bool x.thing,.int .i64 x.to,hv] 68))
   (ho:(Zbe (ksG es) x.thing x.to=none->pl2=pl)/\(∀ j y,Zbe (ksG es) x.thing x.to=some j->es[j]? = some y->pl2=y.2.1.1))=>
  (show LgAt (setBlock W m (.map (Za6 (Zb1 es clk pl (x,hv) (.slice (some ⟨g1,0,none⟩) 1 1))).toArray (putC es clk (x,hv)))) lo W.heap.size m (Zb1 es clk pl (x,hv) (.slice (some ⟨g1,0,none⟩) 1 1)) (putC es clk (x,hv))/\w.grownBy (setBlock W m (.map (Za6 (Zb1 es clk pl (x,hv) (.slice (some ⟨g1,0,none⟩) 1 1))).toArray (putC es clk (x,hv)))) (some m) from by
   have HW:=(HL3.below g (YA _)).wide g.size;have hr:=HW.put (pl:=pl) (p:=(x,hv)) (g:=g1) (by have:=HL3.low;have:=HL3.high;omega) (fun p2 h1 h2=>by
    have:p2=pl2:=by
     rcases Zdx es x.thing x.to with ⟨_,e2⟩ | ⟨k,y,hy,_,e2,_,_⟩
     ·rw [h1 e2,ho.1 e2]
     ·rw [h2 k y e2 hy,ho.2 k y e2 hy]
    rw [this];exact hg1)
   refine⟨hr.1,?_⟩;have h1:w.grownBy w3 (some m):=⟨b3.os,b3.tape,b3.output,b3.size,fun j hj _=>b3.block j hj⟩;have h2:w3.grownBy W (some m):=⟨g.os,g.tape,g.output,g.size,fun j hj _=>g.block j hj⟩;exact Zaq (Zaq h1 h2) hr.2))
 rcases Zdx es x.thing x.to with ⟨e1,e2⟩ | ⟨k,y,hy,e1,e2,e3,e4⟩
 ·rw [YAo (show ¬0<=idxZ (lnsG es) x.thing x.to by rw [e1];omega)];have HBX:=hide hbox2;clear hbox2 e1;go_wp2;refine wp_region_noPanic ?_;refine Zah (S:=fun _=>True) (by kernel_rfl) 8 rfl trivial (fun ops hops _=>?_);refine Zn4 w.heap.size m x hv pl (Za6 es).toArray clk w2.drew _ ops hops (Zab HBX.out) (Zab HL2.out.map) (Zcs x hv) HBX.out HL2.out.map (fun v=>(Za6 (Zb1 es clk pl (x,hv) v)).toArray) (putC es clk (x,hv)) (fun W v hW=>Zj5 W m clk es pl (x,hv) v hW) ?_;intro W g1 g hg1 hlg;clear hops ops;have T:=TAIL.out w2.drew bw2.drew ((HL2.out.below (YAB _ _).drew (YA _))) W g1 g hlg pl hg1 ⟨fun _=>rfl,fun j y h1 _=>by rw [e2] at h1;cases h1⟩;have HT:=hide T;have hsz:(setBlock W m (.map (Za6 (Zb1 es clk pl (x,hv) (.slice (some ⟨g1,0,none⟩) 1 1))).toArray (putC es clk (x,hv)))).heap.size=W.heap.size:=by simp [setBlock]
  have HSZ:=hide hsz;clear T hsz;obtain⟨W9,hW9⟩:∃ W9,W9=setBlock W m (.map (Za6 (Zb1 es clk pl (x,hv) (.slice (some ⟨g1,0,none⟩) 1 1))).toArray (putC es clk (x,hv))):=⟨_,rfl⟩;rw [<-hW9] at HT HSZ |-;clear hW9;go_wp2
  go_returns
  exact⟨rfl,_,HSZ.out ▸ HT.out.1,HT.out.2⟩
 ·rw [YAi (show 0<=idxZ (lnsG es) x.thing x.to by rw [e1];omega)];have n0:=Zaa hbox2 0;have n1:=Zaa hbox2 1;have n2:=Zaa hbox2 2;simp at n0 n1 n2;have HBX2:=hide hbox2;have HEY:=hide (show Zbe (ksG es) x.thing x.to=some k/\es[k]? = some y from ⟨e2,hy⟩);clear hbox2 e1 e3 e4 hy e2
  go_wp2_with fail
  refine (Zcs x hv w2).mono ?_;rintro e w3 ⟨rfl,b3⟩;have HL3:=hide ((HL2.out.below b3 (YA _)).wide b3.size);have HBX:=hide ((b3.block _ (Zab HBX2.out)).trans HBX2.out);have bw3:=bw2.trans (b3.mono hw2s);have n0:=Zaa HBX.out 0;have n1:=Zaa HBX.out 1;have n2:=Zaa HBX.out 2;simp at n0 n1 n2;have hw3s:=bw3.size;clear HL2 HBX2 b3 bw2 hw2s;obtain⟨z,hz⟩:∃ z,z=y.2.1.1:=⟨_,rfl⟩;have HZ:=hide hz;have hro:=(HL3.out.rows y (YAF HEY.out.2)).1;obtain⟨g,cap,hvy,hg1,hg2⟩:=ZbC hro (by omega);rw [hvy] at hro;have f0:=hro.cellAt 0 (by omega);simp [Zbu] at f0;rw [<-hz] at f0;have hlk:(Instr.lookup 43 (.map (some m)) (.agg #[.bool x.thing,.int .i64 x.to]) false).run Tryz.prog w3=.ok (.slice (some ⟨g,0,none⟩) 1 cap) w3:=by
   rcases HL3.out.look x.thing x.to with ⟨_,q2,_⟩ | ⟨k2,y2,q1,_,q2,_,_,q3⟩
   ·rw [HEY.out.1] at q2;cases q2
   ·rw [HEY.out.1] at q2;cases q2;rw [HEY.out.2] at q1;cases q1;rw [q3,hvy]
  clear hz hro hvy;unfold kV;go_wp2;refine wp_region_noPanic ?_;refine Zah (S:=fun _=>True) (by kernel_rfl) 8 rfl trivial (fun ops hops _=>?_);refine Zn4 w.heap.size m x hv z (Za6 es).toArray clk w3.drew _ ops hops (Zab HBX.out) (Zab HL3.out.map) (Zcs x hv) HBX.out HL3.out.map (fun v=>(Za6 (Zb1 es clk pl (x,hv) v)).toArray) (putC es clk (x,hv)) (fun W v hW=>Zj5 W m clk es pl (x,hv) v hW) ?_;intro W g1 g hg1 hlg;clear hops ops;have ho1:Zbe (ksG es) x.thing x.to=none->z=pl:=fun h1=>by
   rw [HEY.out.1] at h1;cases h1
  have ho2:∀ j y2,Zbe (ksG es) x.thing x.to=some j->es[j]? = some y2->z=y2.2.1.1:=fun j y2 h1 h2=>by
   rw [HEY.out.1] at h1;cases h1;rw [HEY.out.2] at h2;cases h2;exact HZ.out
  have T:=TAIL.out w3.drew bw3.drew ((HL3.out.below (YAB _ _).drew (YA _))) W g1 g hlg z hg1 ⟨ho1,ho2⟩;have HT:=hide T;have hsz:(setBlock W m (.map (Za6 (Zb1 es clk pl (x,hv) (.slice (some ⟨g1,0,none⟩) 1 1))).toArray (putC es clk (x,hv)))).heap.size=W.heap.size:=by simp [setBlock]
  have HSZ:=hide hsz;clear T hsz;obtain⟨W9,hW9⟩:∃ W9,W9=setBlock W m (.map (Za6 (Zb1 es clk pl (x,hv) (.slice (some ⟨g1,0,none⟩) 1 1))).toArray (putC es clk (x,hv))):=⟨_,rfl⟩;rw [<-hW9] at HT HSZ |-;clear hW9;go_wp2
  go_returns
  exact⟨rfl,_,HSZ.out ▸ HT.out.1,HT.out.2⟩
end Go.Proofs.YtdhnddfnckgbjaaGreat
namespace Go.Proofs.YtdhnddfnckgbjaaGreat
open Go.RowKit
set_option linter.unusedSimpArgs false
set_option linter.unusedVariables false
set_option maxRecDepth 100000
set_option maxHeartbeats 8000000
variable {xs:List Value}{B k n₀:Nat}{tmp:Obj}{v v':Value}{W w5:World}
def ZeK (x:TnP):List Value:=[.bool x.1.gone,.bool x.1.line.thing,.int .i64 x.1.line.to,x.2]
theorem ZlA (x:TnP):(ZeK x).length=4:=rfl
theorem Zja (hv:Boxed W B 27 v)(hr:W.ownsRow n₀ 41 4 v k xs)(hb:Below n₀ W (w5.setCell ⟨B,0,none⟩ v'))(hg:(W.alloc tmp).grownBy w5 v.ownBlock):KeepK kpT n₀ W (w5.setCell ⟨B,0,none⟩ v'):=by
 refine⟨hb,fun i o hi ho=>?_⟩;have h1:i≠B:=by
  intro e;subst e;rw [show W.heap[i]? = _ from hv] at hi;cases hi;cases ho
 have h2:some i≠v.ownBlock:=by
  intro e;rcases hr.2 with ⟨e1,_⟩ | ⟨g,cap,cur,e1,_,hh,_⟩
  ·rw [e1] at e;cases e
  ·rw [e1] at e;simp [Value.ownBlock] at e;subst e;rw [hi] at hh;cases hh;cases ho
 have hlt:=(Array.getElem?_eq_some_iff.1 hi).1;rw [Below.heap_setCell _ _ _ _ h1,hg.block i (by simp;omega) h2];exact (YAI _ _ _ hlt).trans hi
def Zkg (lo:Nat)(w:World)(pre:List TnP)(W:World):Prop:=∃ v,Boxed W (w.heap.size+1) 27 v/\W.ownsRow w.heap.size 41 4 v pre.length (flat ZeK pre)/\(∀ x∈pre,OkT lo x W)/\Below w.heap.size w W
theorem Zkg.keep {lo:Nat}{w:World}{pre:List TnP}{A B:World}(h:Zkg lo w pre A)(k:Zk9 w.heap.size A B):Zkg lo w pre B:=by
 obtain⟨v,h1,h2,h3,h4⟩:=h;exact⟨v,k.same _ _ h1 rfl,Zbf h2 k (fun _ _=>rfl),fun x hx=>Zbf (h3 x hx) k (fun _ _=>rfl),h4.trans k.below⟩
theorem Zkj {m:Nat}{ys:List Value}(hv:Boxed W B 27 v)(hr:W.ownsRow n₀ 41 4 v k xs)(hn:n₀<=W.heap.size)(hB:n₀<=B)
  (ho:w5.ownsRow n₀ 41 4 v' (m+1) ys) (hg:(W.alloc tmp).grownBy w5 v.ownBlock):
  ∃ g cap,v'=.slice (some ⟨g,0,none⟩) (m+1) cap/\w5.cell? ⟨B,0,none⟩=some v/\w5.frozen? ⟨B,0,none⟩=false/\Boxed (w5.setCell ⟨B,0,none⟩ v') B 27 v'/\(w5.setCell ⟨B,0,none⟩ v').ownsRow n₀ 41 4 v' (m+1) ys/\KeepsOthers W (w5.setCell ⟨B,0,none⟩ v')/\KeepK kpT n₀ W (w5.setCell ⟨B,0,none⟩ v'):=by
 obtain⟨h1,h2,h3,h4,h5⟩:=hv.appended (by decide) hr hn hB ho hg;obtain⟨g,cap,e⟩:=ownsRow_succ ho;exact⟨g,cap,e,h1.cell,h1.frozen,h2,h3,h4,Zja hv hr h5 hg⟩
theorem Zh5 (a1:Option Addr)(n1 c1:Nat)(a2:Option Addr)(n2 c2:Nat)(w:World):
  Calls Tryz.prog 15 #[.slice a1 n1 c1,.slice a2 n2 c2] w fun e w'=>∃ q1 q2,e=.returned (.func (.func 32) #[] #[.pointer (some ⟨q1,0,none⟩),.pointer (some ⟨q2,0,none⟩)])/\w'.heap[q1]? = some (.cells #[.slice a1 n1 c1] 24)/\w'.heap[q2]? = some (.cells #[.slice a2 n2 c2] 24)/\Below w.heap.size w w':=by
 have hb:=((YAB w.heap.size w).alloc (YA _) (.cells #[.slice a1 n1 c1] 24)).alloc (by simp) (.cells #[.slice a2 n2 c2] 24);have e1:((w.alloc (.cells #[.slice a1 n1 c1] 24)).alloc (.cells #[.slice a2 n2 c2] 24)).heap[w.heap.size]? = some (.cells #[.slice a1 n1 c1] 24):=(YAI _ _ _ (by simp)).trans (YAE w _);have e2:((w.alloc (.cells #[.slice a1 n1 c1] 24)).alloc (.cells #[.slice a2 n2 c2] 24)).heap[w.heap.size+1]? = some (.cells #[.slice a2 n2 c2] 24):=by
  have h9:=YAE (w.alloc (.cells #[.slice a1 n1 c1] 24)) (.cells #[.slice a2 n2 c2] 24)
  rwa [World.size_alloc] at h9
 go_enter Tryz.func15,Tryz.ntmps15
 go_wp2;go_ret;exact⟨_,_,rfl,e1,e2,hb⟩
attribute [local go_sem] Oper.semAt_some ZmB Zhe
theorem ZfM (lo:Nat)(v1 v2:Value)(ps qs:List JP)(w:World)(h1:LnsOwn w lo w.heap.size v1 ps)(h2:LnsOwn w lo w.heap.size v2 qs)(hk1:ZaP (Zag ps))(hk2:ZaP (Zag qs))(hn:totJ ps<=1048576)(hm:totJ qs<=1048576)(hlo:lo<=w.heap.size):
  Calls Tryz.prog 6 #[v1,v2] w fun e w'=>∃ v,∃ xs:List TnP,e=.returned v/\xs.map (·.1)=Zbn (Zag ps) (Zag qs)/\w'.ownsRow w.heap.size 41 4 v xs.length (flat ZeK xs)/\(∀ x∈xs,OkT lo x w')/\Below w.heap.size w w':=by
 have hln:=Zbj ps;have hlm:=Zbj qs;obtain⟨a1,c1,rfl⟩:=h1.at.shape;obtain⟨a2,c2,rfl⟩:=h2.at.shape;have H1:=hide h1;have H2:=hide h2;have HK1:=hide hk1;have HK2:=hide hk2;clear h1 h2 hk1 hk2;refine (callsIn_wide (n:=9)).1 ?_;refine callsIn_of_wp_marks Tryz.func6 rfl trivial ?_ rfl;simp only [Tryz.ntmps6,List.size_toArray,YAd,List.length_nil,Nat.reduceAdd,Nat.reduceSub,Array.replicate_succ,Array.replicate_zero,List.push_toArray,List.append_toArray,List.nil_append,List.cons_append]
 gi_wp2_with (gi_at_call 15;refine (callsIn_wide.2 (Zh5 _ _ _ _ _ _ _)).mono ?_;rintro e w3 ⟨q1,q2,rfl,hq1,hq2,b3⟩)
 have B3:Below w.heap.size w w3:=(((YAB w.heap.size w).alloc (YA _) (.cells #[] 41)).alloc (by simp) (.cells #[.slice (some ⟨w.heap.size,0,none⟩) 0 0] 27)).trans (b3.mono (by simp;omega));have s3:=B3.size;have hbx:Boxed w3 (w.heap.size+1) 27 (.slice (some ⟨w.heap.size,0,none⟩) 0 0):=by
  have h9:=YAE (w.alloc (.cells #[] 41)) (.cells #[.slice (some ⟨w.heap.size,0,none⟩) 0 0] 27);rw [World.size_alloc] at h9;exact (b3.block _ (by simp)).trans h9
 have hor:w3.ownsRow w.heap.size 41 4 (.slice (some ⟨w.heap.size,0,none⟩) 0 0) 0 (flat ZeK []):=by
  have h9:(w.alloc (.cells #[] 41)).ownsRow w.heap.size 41 4 (.slice (some ⟨w.heap.size,0,none⟩) 0 0) ([]:List TnP).length (flat ZeK []):=YAU w #[] 0 (YA _) (by unfold maxLen;omega) (by simp);exact Zai h9 (fun k e=>by
   simp [Value.ownBlock] at e;subst e;exact (b3.block _ (by simp;omega)).trans (YAI _ _ _ (by simp)))
 have hb2:=Zab (show w3.heap[w.heap.size+1]? = _ from hbx);have info:=Tryz.infoTn;obtain⟨i0,hi,hz0,hz1,hz2⟩:=info_parts info;refine Ziw rfl (by omega) rfl trivial (enters_of Tryz.func32 (by kernel_rfl) rfl)
  (ZiY (9-1) w.heap.size lo q1 q2 (.slice a1 ps.length c1) (.slice a2 qs.length c2) ps qs w3 (H1.out.below B3 (YA _)) (H2.out.below B3 (YA _)) HK1.out HK2.out hn hm hlo s3 hq1 hq2)
  (fun _=>rfl) s3 (YAB _ _) (fun _=>rfl)
  (Zkg lo w)
  (fun _ _ _ h k=>h.keep k) (fun x A B h k=>Zbf h k (fun _ _=>rfl)) ⟨_,hbx,hor,by simp,B3⟩ ?round ?done
 case round=>
  clear hbx hor hq1 hq2 b3;rintro l pre ⟨⟨gn,⟨tg,z,hs⟩⟩,u⟩ W ⟨v,hbx,hor,hok,hbl⟩ hx hlen hl1 hl2;unfold OkT at hx;dsimp only at hx;obtain⟨ua,uc,rfl⟩:=Zac hx;dsimp only [ZmU];obtain⟨va,vc,rfl⟩:=Zac hor
  gi_wp2
  have wsz:=hbl.size;have kA:KeepK Obj.isCells w.heap.size W (W.alloc (.cells #[.bool gn,.bool tg,.int .i64 z,.slice ua hs.length uc] 41)):=KeepK.of_below _ ((YAB _ W).alloc (YA _) _) wsz;have nA:=YAE W (.cells #[.bool gn,.bool tg,.int .i64 z,.slice ua hs.length uc] 41);refine⟨KeepK.of_below _ ((YAB _ W).alloc (YA _) _) wsz,KeepsOthers.alloc _ _,fun W2 k2 e2=>?_⟩;have kW:=kA.trans k2;have bx2:Boxed W2 (w.heap.size+1) 27 (.slice va pre.length vc):=kW.same _ _ hbx rfl;have or2:=Zbf hor kW (fun _ _=>rfl);have OK2:=hide (fun x hx=>Zbf (hok x hx) kW (fun _ _=>rfl):∀ x∈pre,OkT lo x W2);have HX2:=hide (Zbf hx kW (fun _ _=>rfl));have b6:=k2.same _ _ nA rfl;have y0:=Zaa b6 0;have y1:=Zaa b6 1;have y2:=Zaa b6 2;have y3:=Zaa b6 3;simp at y0 y1 y2 y3;have BW2:=hide (hbl.trans kW.below);have w2s:=BW2.out.size;have OR2:=hide or2;have BX2:=hide bx2;have c5:=bx2.cell;have f5:=bx2.frozen;clear hbx hor hok hx kA nA k2 kW bx2 or2 b6 e2 hbl;have hone:∀ u∈ZeK (⟨gn,⟨tg,z,hs⟩⟩,.slice ua hs.length uc),u.oneCell'=true:=by
   intro u hu;simp only [ZeK,YAR,List.not_mem_nil,or_false] at hu;rcases hu with rfl | rfl | rfl | rfl <;> rfl
  have hm1:pre.length+1<=maxLen:=by unfold maxLen;omega
  have hm2:(pre.length+1)*48<=140737488355328:=by omega
  have hm3:∀ o,w.heap.size<=(W2.alloc o).heap.size:=fun o=>by simp;omega
  have hB5:w.heap.size<=w.heap.size+1:=by omega
  have h04:0<4:=by decide
  have hlen1:(ZeK (⟨gn,⟨tg,z,hs⟩⟩,.slice ua hs.length uc)).length=1*4:=rfl;have hnew:=Zak (w:=W2) (cs:=ZeK (⟨gn,⟨tg,z,hs⟩⟩,.slice ua hs.length uc)) (t:=41)
  gi_wp2_with (gi_at_builtin;refine wpListIn_append_own _ rfl _ _ 27 rfl w.heap.size 41 i0 (.agg #[.bool false,.bool false,.int .i64 0,.slice none 0 0]) 4 48 Tryz.underlying27 hi hz0 hz1 hz2 rfl h04 (.slice va pre.length vc) pre.length (flat ZeK pre) rfl (OR2.out.alloc _) ⟨W2.heap.size,0,none⟩ 1 1 (ZeK (⟨gn,⟨tg,z,hs⟩⟩,.slice ua hs.length uc)) rfl hlen1 hnew hone hm1 hm2 (hm3 _) ?_;intro v' w5 ho5 gr5 _;obtain⟨g5,cap5,rfl,hc5,hf5,X⟩:=Zkj BX2.out OR2.out w2s hB5 ho5 gr5;replace X:=hide X)
  obtain⟨x1,x2,x3,x4⟩:=X.out;refine⟨x3,x4,_,x1,by rw [YAM];simpa [flat] using x2,?_,BW2.out.trans x4.below⟩;intro x hx;rcases YAH.1 hx with h9 | h9
  ·exact Zbf (OK2.out x h9) x4 (fun _ _=>rfl)
  ·rw [YAl.1 h9];exact Zbf HX2.out x4 (fun _ _=>rfl)
 case done=>
  rintro D xs W hD hS ⟨v,hbx,hor,hok,hbl⟩ hK;obtain⟨va,vc,rfl⟩:=Zac hor;have c5:=hbx.cell;have HX:=hide (show Zkg lo w xs (W.putObj D (.deferred none)) from Zkg.keep ⟨_,hbx,hor,hok,hbl⟩ (KeepK.put _ hK rfl (YAG s3 hD)));have hvb:=hbx;clear hbx hor hok hbl
  gi_wp2
  refine⟨by simp,.inl ⟨_,_,rfl,run_takeDeferred hK,?_⟩⟩;obtain⟨v2,g1,g2,g3,g4⟩:=HX.out;have hne:w.heap.size+1≠D:=by
   intro e;subst e;omega
  have e9:v2=.slice va xs.length vc:=by
   have g9:=(World.putObj_heap_other (o:=.deferred none) (w:=W) hne).symm.trans g1;have g8:=(show W.heap[w.heap.size+1]? = _ from hvb).symm.trans g9;simpa using g8.symm
  subst e9;exact⟨_,results_tmp rfl _ _ _,.slice va xs.length vc,xs,rfl,hS,g2,g3,g4⟩
theorem ZiR {m:Nat}{ys:List Value}(hv:Boxed W B 24 v)(hr:W.ownsRow n₀ 39 3 v k xs)(hn:n₀<=W.heap.size)(hB:n₀<=B)
  (ho:w5.ownsRow n₀ 39 3 v' (m+1) ys) (hg:(W.alloc tmp).grownBy w5 v.ownBlock):
  ∃ g cap,v'=.slice (some ⟨g,0,none⟩) (m+1) cap/\w5.cell? ⟨B,0,none⟩=some v/\w5.frozen? ⟨B,0,none⟩=false/\Boxed (w5.setCell ⟨B,0,none⟩ v') B 24 v'/\(w5.setCell ⟨B,0,none⟩ v').ownsRow n₀ 39 3 v' (m+1) ys/\KeepsOthers W (w5.setCell ⟨B,0,none⟩ v')/\KeepK kpF n₀ W (w5.setCell ⟨B,0,none⟩ v'):=by
 obtain⟨h1,h2,h3,h4,h5⟩:=hv.appended (by decide) hr hn hB ho hg;obtain⟨g,cap,e⟩:=ownsRow_succ ho;exact⟨g,cap,e,h1.cell,h1.frozen,h2,h3,h4,keepF h5⟩
def ClAt (w:World)(pre:List JP)(W:World):Prop:=∃ v,Boxed W w.heap.size 24 v/\W.ownsRow w.heap.size 39 3 v pre.length (flat encJ pre)/\Below w.heap.size w W
theorem ClAt.keep {w:World}{pre:List JP}{A B:World}(h:ClAt w pre A)(k:Zk9 w.heap.size A B):ClAt w pre B:=by
 obtain⟨v,h1,h2,h4⟩:=h;exact⟨v,k.same _ _ h1 rfl,Zbf h2 k (fun _ _=>rfl),h4.trans k.below⟩
attribute [local go_sem] Oper.semAt_some Zke Zgp
theorem Zgr (q1:Nat)(v1:Value)(ps:List JP)(w:World)(h1:Zb8 w v1 ps w.heap.size)(hq1:w.heap[q1]? = some (.cells #[v1] 24))(hl:ps.length<=1048576):
  Calls Tryz.prog 75 #[.slice none 0 0,.func (.func 54) #[] #[.pointer (some ⟨q1,0,none⟩)]] w fun e w'=>∃ v,e=.returned v/\w'.ownsRow w.heap.size 39 3 v ps.length (flat encJ ps)/\Below w.heap.size w w':=by
 have H1:=hide h1;clear h1;refine (callsIn_wide (n:=9)).1 ?_;refine callsIn_of_wp_marks Tryz.func75 rfl trivial ?_ rfl;simp only [Tryz.ntmps75,List.size_toArray,YAd,List.length_nil,Nat.reduceAdd,Nat.reduceSub,Array.replicate_succ,Array.replicate_zero,List.push_toArray,List.append_toArray,List.nil_append,List.cons_append];have B3:=(YAB w.heap.size w).alloc (YA _) (.cells #[.slice none 0 0] 24);have hbx:Boxed (w.alloc (.cells #[.slice none 0 0] 24)) w.heap.size 24 (.slice none 0 0):=YAE w _;have hor:(w.alloc (.cells #[.slice none 0 0] 24)).ownsRow w.heap.size 39 3 (.slice none 0 0) 0 (flat encJ []):=YAj _ _ _ _
 gi_wp2
 have info:=Tryz.infoLine;obtain⟨i0,hi,hz0,hz1,hz2⟩:=info_parts info;refine Ziw rfl (by omega) rfl trivial (enters_of Tryz.func54 (by kernel_rfl) rfl)
  (Zmz (9-1) w.heap.size q1 v1 ps w H1.out (YA _) hq1 hl)
  (fun _=>rfl) (by simp) B3 (fun _=>rfl)
  (ClAt w) (fun _ _ _ h k=>h.keep k) (fun x A B h k=>Zau.later h k.below (YA _)) ⟨_,hbx,hor,B3⟩ ?round ?done
 case round=>
  clear hbx hor hq1 B3;rintro l pre ⟨⟨tg,z,hs⟩,u⟩ W ⟨v,hbx,hor,hbl⟩ hx hlen hl1 hl2;dsimp only at hx;obtain⟨ua,uc,rfl⟩:=Zal.shape hx;dsimp only [Zod];obtain⟨va,vc,rfl⟩:=Zac hor;have wsz:=hbl.size;have kA:KeepK Obj.isCells w.heap.size W (W.alloc (.cells #[.bool tg,.int .i64 z,.slice ua hs.length uc] 39)):=KeepK.of_below _ ((YAB _ W).alloc (YA _) _) wsz;have nA:=YAE W (.cells #[.bool tg,.int .i64 z,.slice ua hs.length uc] 39)
  gi_wp2
  refine⟨KeepK.of_below _ ((YAB _ W).alloc (YA _) _) wsz,KeepsOthers.alloc _ _,fun W2 k2 e2=>?_⟩;have kW:=kA.trans k2;have bx2:Boxed W2 w.heap.size 24 (.slice va pre.length vc):=kW.same _ _ hbx rfl;have or2:=Zbf hor kW (fun _ _=>rfl);have b6:=k2.same _ _ nA rfl;have y0:=Zaa b6 0;have y1:=Zaa b6 1;have y2:=Zaa b6 2;simp at y0 y1 y2;have BW2:=hide (hbl.trans kW.below);have w2s:=BW2.out.size;have OR2:=hide or2;have BX2:=hide bx2;have c5:=bx2.cell;have f5:=bx2.frozen;clear hbx hor hx kA nA k2 kW bx2 or2 b6 e2 hbl;have hone:∀ u∈encJ (⟨tg,z,hs⟩,.slice ua hs.length uc),u.oneCell'=true:=by
   intro u hu;simp only [encJ,YAR,List.not_mem_nil,or_false] at hu;rcases hu with rfl | rfl | rfl <;> rfl
  have hm1:pre.length+1<=maxLen:=by unfold maxLen;omega
  have hm2:(pre.length+1)*40<=140737488355328:=by omega
  have hm3:∀ o,w.heap.size<=(W2.alloc o).heap.size:=fun o=>by simp;omega
  have hB5:w.heap.size<=w.heap.size:=YA _;have h03:0<3:=by decide
  have hlen1:(encJ (⟨tg,z,hs⟩,.slice ua hs.length uc)).length=1*3:=rfl;have hnew:=Zak (w:=W2) (cs:=encJ (⟨tg,z,hs⟩,.slice ua hs.length uc)) (t:=39)
  gi_wp2_with (gi_at_builtin;refine wpListIn_append_own _ rfl _ _ 24 rfl w.heap.size 39 i0 (.agg (lnC ZdW (.slice none 0 0))) 3 40 Tryz.underlying24 hi hz0 hz1 hz2 rfl h03 (.slice va pre.length vc) pre.length (flat encJ pre) rfl (OR2.out.alloc _) ⟨W2.heap.size,0,none⟩ 1 1 (encJ (⟨tg,z,hs⟩,.slice ua hs.length uc)) rfl hlen1 hnew hone hm1 hm2 (hm3 _) ?_;intro v' w5 ho5 gr5 _;obtain⟨g5,cap5,rfl,hc5,hf5,X⟩:=ZiR BX2.out OR2.out w2s hB5 ho5 gr5;replace X:=hide X)
  obtain⟨x1,x2,x3,x4⟩:=X.out;exact⟨x3,x4,_,x1,by rw [YAM];simpa [flat] using x2,BW2.out.trans x4.below⟩
 case done=>
  rintro D xs W hD rfl ⟨v,hbx,hor,hbl⟩ hK;obtain⟨va,vc,rfl⟩:=Zac hor;have c5:=hbx.cell;have HX:=hide (show ClAt w xs (W.putObj D (.deferred none)) from ClAt.keep ⟨_,hbx,hor,hbl⟩ (KeepK.put _ hK rfl (by simp at hD;omega)));have hvb:=hbx;clear hbx hor hbl
  gi_wp2
  refine⟨by simp,.inl ⟨_,_,rfl,run_takeDeferred hK,?_⟩⟩;obtain⟨v2,g1,g2,g4⟩:=HX.out;have hne:w.heap.size≠D:=by
   intro e;subst e;simp at hD;omega
  have e9:v2=.slice va xs.length vc:=by
   have g9:=(World.putObj_heap_other (o:=.deferred none) (w:=W) hne).symm.trans g1;have g8:=(show W.heap[w.heap.size]? = _ from hvb).symm.trans g9;simpa using g8.symm
  subst e9;exact⟨_,results_tmp rfl _ _ _,.slice va xs.length vc,rfl,g2,g4⟩
theorem Zh6 (q1:Nat)(v1:Value)(ps:List JP)(w:World)(h1:Zb8 w v1 ps w.heap.size)(hq1:w.heap[q1]? = some (.cells #[v1] 24))(hl:ps.length<=1048576):
  Calls Tryz.prog 52 #[.func (.func 54) #[] #[.pointer (some ⟨q1,0,none⟩)]] w fun e w'=>∃ a c,e=.returned (.slice a ps.length c)/\w'.ownsRow w.heap.size 39 3 (.slice a ps.length c) ps.length (flat encJ ps)/\Below w.heap.size w w':=by
 have HA:=hide (Zgr q1 v1 ps w h1 hq1 hl);clear h1 hq1
 go_enter Tryz.func52,Tryz.ntmps52
 go_wp2_with fail
 refine HA.out.mono ?_;rintro e w1 ⟨v,rfl,ho,hb⟩;obtain⟨a,c,rfl⟩:=Zac ho;have HO:=hide ho;have HB:=hide hb;clear ho hb HA;go_wp2;go_ret;exact⟨_,_,rfl,HO.out,HB.out⟩
theorem Zgi (q1:Nat)(v1:Value)(ps:List JP)(w:World)(h1:Zb8 w v1 ps w.heap.size)(hq1:w.heap[q1]? = some (.cells #[v1] 24))(hl:ps.length<=1048576)(hh:∀ p∈ps,p.1.hops.length<=1048576):
  Calls Tryz.prog 38 #[.func (.func 54) #[] #[.pointer (some ⟨q1,0,none⟩)],.func (.func 23) #[] #[]] w fun e w'=>∃ a c,∃ qs:List JP,e=.returned (.slice a qs.length c)/\qs.Perm ps/\ZcI (Zag qs)/\w'.ownsRow w.heap.size 39 3 (.slice a qs.length c) qs.length (flat encJ qs)/\Below w.heap.size w w':=by
 have HC:=hide (Zh6 q1 v1 ps w h1 hq1 hl);have H1:=hide h1;have HH:=hide hh;clear h1 hq1 hh
 go_enter Tryz.func38,Tryz.ntmps38
 go_wp2_with fail
 refine HC.out.mono ?_;rintro e w1 ⟨a,c,rfl,ho,hb⟩;have HS:=hide (ZkW (.slice a ps.length c) ps w.heap.size w1 ho (fun q hq=>⟨Zau.later (H1.out.2 q hq) hb (YA _),HH.out q hq⟩) hb.size hl);have HO:=hide ho;have HB:=hide hb;clear ho hb HC
 go_wp2_with fail
 refine HS.out.mono ?_;rintro e w2 ⟨rfl,qs,hp,hs,ho2,hg⟩;have hlq:=hp.length_eq;have HE:=hide (show Value.slice a ps.length c=.slice a qs.length c by rw [hlq]);have HO2:=hide (show w2.ownsRow w.heap.size 39 3 (.slice a qs.length c) qs.length (flat encJ qs) by rw [<-HE.out];exact ho2);have HB2:=hide (HB.out.grown hg HB.out.size (fun k hk=>(HO.out.lt k hk).1));have HP:=hide hp;have HSS:=hide hs;clear hp hs ho2 hg hlq HS;go_wp2;go_ret;exact⟨a,c,qs,by rw [<-HE.out];rfl,HP.out,HSS.out,HO2.out,HB2.out⟩
theorem ZjB (a:Option Addr)(n c:Nat)(w:World):
  Calls Tryz.prog 39 #[.slice a n c] w fun e w'=>e=.returned (.func (.func 54) #[] #[.pointer (some ⟨w.heap.size,0,none⟩)])/\w'.heap[w.heap.size]? = some (.cells #[.slice a n c] 24)/\Below w.heap.size w w':=by
 have hb:=(YAB w.heap.size w).alloc (YA _) (.cells #[.slice a n c] 24);have e1:=YAE w (.cells #[.slice a n c] 24)
 go_enter Tryz.func39,Tryz.ntmps39
 go_wp2;go_ret;exact⟨rfl,e1,hb⟩
theorem ZdG (v:Value)(ps:List JP)(w:World)(h1:Zb8 w v ps w.heap.size)(hl:ps.length<=1048576)(hh:∀ p∈ps,p.1.hops.length<=1048576):
  Calls Tryz.prog 21 #[v] w fun e w'=>∃ a c,∃ qs:List JP,e=.returned (.slice a qs.length c)/\qs.Perm ps/\ZcI (Zag qs)/\w'.ownsRow w.heap.size 39 3 (.slice a qs.length c) qs.length (flat encJ qs)/\Below w.heap.size w w':=by
 obtain⟨va,vc,rfl⟩:=h1.shape;have H1:=hide h1;have HH:=hide hh;clear h1 hh
 go_enter Tryz.func21,Tryz.ntmps21
 go_wp2_with fail
 refine (ZjB va ps.length vc w).mono ?_;rintro e w1 ⟨rfl,hbx,hb⟩;have hws:=hb.size;have HS:=hide (Zgi w.heap.size (.slice va ps.length vc) ps w1 ((H1.out.later hb (YA _)).more hb.size) hbx hl HH.out);have HB:=hide hb;clear hbx hb
 go_wp2_with fail
 refine HS.out.mono ?_;rintro e w2 ⟨a,c,qs,rfl,hp,hs,ho2,hb2⟩;have HO2:=hide (Zaf ho2 hws);have HB2:=hide (HB.out.trans (hb2.mono hws));have HP:=hide hp;have HSS:=hide hs;clear hp hs ho2 hb2 HS;go_wp2;go_ret;exact⟨a,c,qs,rfl,HP.out,HSS.out,HO2.out,HB2.out⟩
end Go.Proofs.YtdhnddfnckgbjaaGreat
