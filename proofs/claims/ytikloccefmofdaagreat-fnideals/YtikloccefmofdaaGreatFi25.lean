/-
  Parts.
-/
import Derived.Test.YtikloccefmofdaaGreatFi24
namespace Go.Proofs.YtikloccefmofdaaGreat
open Go.RowKit

set_option linter.unusedSimpArgs false

/-! ### there are shortest ways -/

section
variable {L:Nat->Nat->Int} {K:Int} {src:Nat}

theorem ZoK (hs:Zca src):Inv L src (fun _=>false) (fun v=>if v=src then 0 else -1) (fun _=>[]) where
 fnode:=fun v h=>by cases h
 cnode:=fun v h=>by
  by_cases e:v=src
  ·rw [e];exact hs
  ·simp [e] at h
 start:=by simp
 start0:=rfl
 closed:=fun u v h=>by cases h
 pred:=fun v hv h=>by simp [hv] at h
 mono:=fun u v h=>by cases h
 hop:=fun v hv x=>by
  constructor
  ·intro h;cases h
  ·rintro ⟨_,u,h,_⟩;cases h
 asc:=fun v=>List.Pairwise.nil
 rng:=fun v x h=>by cases h

open Classical in
noncomputable def Zqi (L:Nat->Nat->Int) (src:Nat) (c:Nat->Int) (h:Nat->List Int) (u v:Nat):List Int:=
 ([1,2,3,4,5,6]:List Int).filter (fun x=>decide ((x∈h v/\Zaz L c u v=c v)\/(0<L u v/\Zaz L c u v=c u+L u v/\Zdq src h u v x)))

open Classical in
theorem Zm8 {F:Nat->Bool}{c:Nat->Int}{h:Nat->List Int}(I:Inv L src F c h)(hL:Links L K)(u v:Nat):RelaxH L src c h u v (Zqi L src c h u v):=by
 refine⟨?_,fun x=>?_⟩
 ·unfold Zqi;exact List.Pairwise.filter _ (by decide)
 ·unfold Zqi;rw [YAP,YAS];refine⟨fun h=>h.2,fun h=>⟨?_,h⟩⟩;have hr:1<=x/\x<=6:=by
   rcases h with ⟨h1,_⟩ | ⟨h1,_,h3⟩
   ·exact I.rng v x h1
   ·rcases h3 with ⟨_,rfl⟩ | ⟨_,h4⟩
    ·have:=(hL.node u v h1).2;unfold Zca at this;omega
    ·exact I.rng u x h4
  have:x=1\/x=2\/x=3\/x=4\/x=5\/x=6:=by omega
  simpa using this

theorem Zib {F:Nat->Bool}{c:Nat->Int}:∀ n:Nat,(∃ v,F v=false/\0<=c v/\(c v).toNat<=n)->∃ u,F u=false/\0<=c u/\∀ v,F v=false->0<=c v->c u<=c v
 | 0,⟨v,h1,h2,h3⟩=>⟨v,h1,h2,fun w _ hw=>by omega⟩
 | n+1,⟨v,h1,h2,h3⟩=>by
  by_cases hx:∃ v,F v=false/\0<=c v/\(c v).toNat<=n
  ·exact Zib n hx
  ·refine ⟨v,h1,h2,fun w hw hw0=>?_⟩;have:¬(c w).toNat<=n:=fun h=>hx ⟨w,hw,hw0,h⟩;omega

theorem Zp5 (F:Nat->Bool):Zb4 F<=6:=by
 unfold Zb4;have h:∀ b:Bool,b.toNat<=1:=fun b=>by cases b <;> decide
 have:=h (F 1);have:=h (F 2);have:=h (F 3);have:=h (F 4);have:=h (F 5);have:=h (F 6);omega

theorem Zl8 (hL:Links L K):∀ (n:Nat) (F:Nat->Bool) (c:Nat->Int) (h:Nat->List Int),Inv L src F c h->6<=Zb4 F+n->∃ c h,Fix L src c h
 | n,F,c,h,I,hn=>by
  by_cases hx:∃ v,F v=false/\0<=c v
  ·obtain ⟨v,h1,h2⟩:=hx;obtain⟨u,hu,hu0,hmin⟩:=Zib (c v).toNat ⟨v,h1,h2,YA _⟩;have hno:=I.cnode u hu0;have hc:=ZdN (F:=F) hno hu;have I':=I.step hL hu hu0 hmin (h':=fun v=>Zqi L src c h u v) (fun v=>Zm8 I hL u v);cases n with
   | zero=>
    have:=Zp5 (fun v=>F v||v==u);omega
   | succ n=>exact Zl8 hL n _ _ _ I' (by omega)
  ·refine ⟨c,h,F,I,fun v hv=>?_⟩;cases e:F v with
   | true=>rfl
   | false=>exact absurd ⟨v,e,hv⟩ hx

theorem Zm1 (hL:Links L K)(hs:Zca src):∃ c h,Fix L src c h:=Zl8 hL 6 _ _ _ (ZoK hs) (by omega)

end

theorem ZdP (xs:List RecD)(area src:Int):ZaX xs area src (ZbE xs area src):=by
 have hx:∃ ds,ZaX xs area src ds:=by
  unfold ZaX
  split
  ·rename_i h
   simp only [YAJ] at h;obtain⟨⟨h1,h2⟩,h3⟩:=h;have hn:Zca src.toNat:=by
    simp [inB] at h2;unfold Zca;omega
   obtain⟨c,g,A⟩:=Zm1 (ZdQ (area:=area) h1) hn;exact⟨Zcc c g 6,c,g,A,rfl⟩
  ·exact ⟨[],rfl⟩
 obtain⟨ds,hd⟩:=hx;have e:=hd.eq;rw [<-e];exact hd

end Go.Proofs.YtikloccefmofdaaGreat
namespace Go.Proofs.YtikloccefmofdaaGreat
open Go.RowKit
set_option linter.unusedSimpArgs false
set_option linter.unusedVariables false
set_option maxRecDepth 100000
set_option maxHeartbeats 8000000
variable {border:Bool}{a area src to:Int}{al:List Int}{ls:List LP}{rs xs:List RecD}{g k lo z:Nat}{r:RecD}{bv u:Value}{b d:WayD}{V W W':World}
def Zcz (xs:List RecD)(area src:Int)(r:RecD)(d:WayD):Prop:=
 r.kind=2/\r.area=area/\r.owner≠src/\∃ v,ZaV (ZbE xs area src) r.owner=some v/\v.cost+r.cost<60000/\d=⟨r.key,v.cost+r.cost,v.hops⟩
def outS (xs rs:List RecD)(area src to:Int)(d:WayD):Prop:=d.to=to/\∃ r∈rs,Zcz xs area src r d
theorem ZeE (hs:Zax xs=true)(hr:r∈xs)(hk:r.kind=2):(1<=r.key/\r.key<=6)/\(0<=r.cost/\r.cost<=60000):=by
 unfold Zax at hs;simp only [YAJ] at hs;have hok:=Zdv hs.1.2 hr;unfold ZaW at hok;rw [if_neg (by omega),if_pos hk] at hok;simp only [YAJ,inB,YAS] at hok;omega
theorem Zel (hr:r∈xs)(h:Zcz xs area src r d):GoodW d:=by
 obtain⟨h1,_,_,v,h4,h5,rfl⟩:=h;have hm:=(ZaM h4).1;have hv:=((ZbL xs area src).2 v hm).1;have hb:=ZeE (ZcU hm).1 hr h1;exact⟨hb.1,⟨by show 0<=v.cost+r.cost;have:=hv.cost;omega,by show v.cost+r.cost<=60000;omega⟩,hv.asc,hv.hop6⟩
theorem ZfO (hs:∀ r∈rs,r∈xs)(h:outS xs rs area src to d):GoodW d/\d.to=to:=by
 obtain⟨h1,r,hr,h2⟩:=h;exact⟨Zel (hs r hr) h2,h1⟩
theorem Zkt (h:rs[k]? = some r)(d:WayD):outS xs (rs.take (k+1)) area src to d↔outS xs (rs.take k) area src to d\/(d.to=to/\Zcz xs area src r d):=by
 obtain⟨hk,e⟩:=YAD.1 h;unfold outS;rw [YAI hk,e];constructor
 ·rintro ⟨h1,x,h2,h3⟩;rcases YAF.1 h2 with h4 | h4
  ·exact .inl ⟨h1,x,h4,h3⟩
  ·have:x=r:=by simpa using h4
   subst this;exact .inr ⟨h1,h3⟩
 ·rintro (⟨h1,x,h2,h3⟩ | ⟨h1,h3⟩)
  ·exact ⟨h1,x,YAF.2 (.inl h2),h3⟩
  ·exact ⟨h1,r,YAF.2 (.inr (by simp)),h3⟩
def ZjZ (border:Bool)(a:Int):Prop:=border=true->a=0
def Zbw (xs:List RecD)(al:List Int)(border:Bool)(src to:Int)(d:WayD):Prop:=(∀ x,¬Zaq xs al src to x)/\∃ a∈al,ZjZ border a/\outS xs xs a src to d
theorem Zby (h:Zbw xs al border src to d):GoodW d/\d.to=to:=by
 obtain⟨_,a,_,_,h2⟩:=h;exact ZfO (fun _ h=>h) h2
theorem Zhn (h:outS xs rs area src to d):Zax xs=true/\0<=area/\area<3:=by
 obtain⟨_,r,_,_,_,_,v,h4,_⟩:=h;exact ZcU (ZaM h4).1
def Zhz (xs:List RecD)(al:List Int)(border:Bool)(src to:Int)(d:WayD):Prop:=∃ a∈al,ZjZ border a/\outS xs xs a src to d
theorem ZnI (h:Zhz xs al border src to d):GoodW d/\d.to=to:=by
 obtain⟨a,_,_,h2⟩:=h;exact ZfO (fun _ h=>h) h2
theorem Ziq (h:al[k]? = some a)(d:WayD):Zhz xs (al.take (k+1)) border src to d↔Zhz xs (al.take k) border src to d\/(ZjZ border a/\outS xs xs a src to d):=by
 obtain⟨hk,e⟩:=YAD.1 h;unfold Zhz;rw [YAI hk,e];constructor
 ·rintro ⟨b,h2,h3,h4⟩;rcases YAF.1 h2 with h5 | h5
  ·exact .inl ⟨b,h5,h3,h4⟩
  ·have:b=a:=by simpa using h5
   subst this;exact .inr ⟨h3,h4⟩
 ·rintro (⟨b,h2,h3,h4⟩ | ⟨h3,h4⟩)
  ·exact ⟨b,YAF.2 (.inl h2),h3,h4⟩
  ·exact ⟨a,YAF.2 (.inr (by simp)),h3,h4⟩
theorem ZkZ {tog:WayD->WayD->WayD}(ht:ZkU tog){o:Option WayD}{S0:WayD->Prop}(hS0:∀ d,S0 d->GoodW d/\d.to=to)(h:xs[k]? = some r)(hb:ZaN to (fun d=>S0 d\/outS xs (xs.take k) area src to d) o)(hd:Zcz xs area src r d)(hto:d.to=to):
  ZaN to (fun d=>S0 d\/outS xs (xs.take (k+1)) area src to d) (ZfI tog o (some d)):=by
 have hg:=Zel (YAG h) hd;refine (hb.add ht (fun w hw=>?_) hto hg.asc hg.hop6).congr (fun w=>?_)
 ·rcases hw with h1 | h1
  ·exact (hS0 w h1).1.hop6
  ·exact (ZfO (fun r hr=>YAj hr) h1).1.hop6
 ·rw [Zkt h];have huniq:∀ w,Zcz xs area src r w->w=d:=by
   rintro w ⟨_,_,_,v,h4,_,rfl⟩;obtain⟨_,_,_,v',h4',_,rfl⟩:=hd;rw [h4] at h4';cases h4';rfl
  constructor
  ·rintro ((h1 | h1) | h1)
   ·exact .inl h1
   ·exact .inr (.inl h1)
   ·subst h1;exact .inr (.inr ⟨hto,hd⟩)
  ·rintro (h1 | h1 | ⟨_,h1⟩)
   ·exact .inl (.inl h1)
   ·exact .inl (.inr h1)
   ·exact .inr (huniq w h1)
theorem ZbS {o:Option WayD}{S0:WayD->Prop}(h:xs[k]? = some r)(hb:ZaN to (fun d=>S0 d\/outS xs (xs.take k) area src to d) o)(hn:∀ d,d.to=to->¬Zcz xs area src r d):
  ZaN to (fun d=>S0 d\/outS xs (xs.take (k+1)) area src to d) o:=by
 refine hb.congr (fun w=>?_);rw [Zkt h];constructor
 ·rintro (h1 | h1)
  ·exact .inl h1
  ·exact .inr (.inl h1)
 ·rintro (h1 | h1 | ⟨h1,h2⟩)
  ·exact .inl h1
  ·exact .inr h1
  ·exact absurd h2 (hn w h1)
structure BoxT (W:World) (z lo:Nat) (b:WayD) (bv:Value):Prop where
 box:W.heap[z]? = some (.cells (wayC b bv) 108)
 own:W.ownsRow lo 3 1 bv b.hops.length (flat intE b.hops)
 len:b.hops.length<=6
theorem BoxT.below (h:BoxT W z lo b bv)(hb:Below W.heap.size W W'):BoxT W' z lo b bv:=
 ⟨(hb.block _ (Zab h.box)).trans h.box,Zad h.own hb (YA _),h.len⟩
theorem BoxT.other {cs:Array Value}{T:TypeId}{fr:Nat × Nat}(h:BoxT W z lo b bv)(hg:W.grownBy W' (some g))(hgz:z≠g)(hbox:W.heap[g]? = some (.cells cs T fr))(hT:(3:TypeId)≠T):BoxT W' z lo b bv:=
 ⟨(hg.block z (Zab h.box) (by simp;omega)).trans h.box,Zal h.own (fun j hj=>hg.block j (h.own.lt j hj).2 (fun e=>Zar h.own hbox hT (by rw [hj];exact e.symm))),h.len⟩
theorem BoxT.put (h:BoxT W z lo b bv)(hu:W.ownsRow lo 3 1 u d.hops.length (flat intE d.hops))(hl:d.hops.length<=6):BoxT (Za8 W z d u) z lo d u:=by
 have hb:=h.box;unfold wayC at hb;have hg:=Za2 W z d u;exact⟨Zds d u hb,Zal hu (fun j hj=>hg.block j (hu.lt j hj).2 (fun e=>Zar hu h.box (by decide) (by rw [hj];exact e.symm))),hl⟩
theorem Ze9 {o:Obj}(h:W.heap[g]? = some o)(hne:g≠z):(Za8 W z d u).heap[g]? = some o:=((Za2 W z d u).block g (Zab h) (by simp;omega)).trans h
theorem WLs.keep {hi:Nat}(h:WLs W lo hi u ls)(hk:∀ k,lo<=k->k<hi->k<W.heap.size->W'.heap[k]? = W.heap[k]?):WLs W' lo hi u ls:=
 ⟨Zal h.row (fun k e=>hk k (h.row.lt k e).1 (h.top k e) (h.row.lt k e).2),h.top,fun p hp=>(h.ways p hp).keep hk⟩
def ZbN (xs:List RecD)(src:Int)(al:List Int)(ls:List LP):Prop:=ls.map (fun p=>Zaj p.2)=al.map (fun a=>ZbE xs a src)
theorem ZbN.at (h:ZbN xs src al ls)(ha:al[k]? = some a):∃ p,ls[k]? = some p/\Zaj p.2=ZbE xs a src:=by
 have h1:=congrArg (fun l=>l[k]?) h;simp only [List.getElem?_map,ha,Option.map_some] at h1;cases e:ls[k]? with
 | none=>rw [e] at h1;cases h1
 | some p=>rw [e] at h1;exact⟨p,rfl,by simpa using h1⟩
theorem ZbN.len (h:ZbN xs src al ls):ls.length=al.length:=by
 have:=congrArg List.length h;simpa using this
theorem ZbN.push {p:LP}(h:ZbN xs src (al.take k) ls)(ha:al[k]? = some a)(hp:Zaj p.2=ZbE xs a src):ZbN xs src (al.take (k+1)) (ls++[p]):=by
 obtain⟨hk,e⟩:=YAD.1 ha;unfold ZbN;rw [YAI hk,e,YAf,YAf,h];simp [hp]
theorem ZjJ {ps:List WP}(h:Zaj ps=ZbE xs a src):totW ps<=42:=by
 have hw:=ZbL xs a src;refine ZgJ ?_ (fun d hd=>(hw.2 d (by rw [<-h];exact hd)).1.len);have:=Zdr hw.1 (fun d hd=>(hw.2 d hd).1.node);rw [<-h] at this;simpa [Zaj] using this
theorem ZpS (W:World)(lo:Nat)(hb:lo<=W.heap.size):WLs (W.alloc (.cells #[] 102)) lo (W.alloc (.cells #[] 102)).heap.size (.slice (some ⟨W.heap.size,0,none⟩) 0 0) []:=by
 have h:(W.alloc (.cells #[] 102)).ownsRow lo 102 1 (.slice (some ⟨W.heap.size,0,none⟩) 0 0) 0 (flat ZiX []):=World.ownsRow_lit W #[] 0 hb (by unfold maxLen;omega) (by simp);exact⟨h,fun k hk=>(h.lt k hk).2,by simp⟩
theorem Tryz.infoWayS :(Tryz.prog.info? 102).map (fun i=>(i.zero,i.size,i.bytes))=some (some (.slice none 0 0),1,24):=by kernel_rfl
structure BoxSt (V W:World) (z:Nat) (b:WayD) (bv:Value):Prop where
 box:W.heap[z]? = some (.cells (wayC b bv) 108)
 own:W.ownsRow z 3 1 bv b.hops.length (flat intE b.hops)
 bel:Below z V W
 len:b.hops.length<=6
theorem BoxSt.below (h:BoxSt V W z b bv)(hb:Below W.heap.size W W'):BoxSt V W' z b bv:=
 ⟨(hb.block _ (Zab h.box)).trans h.box,Zad h.own hb (YA _),h.bel.trans (hb.mono (by have:=Zab h.box;omega)),h.len⟩
theorem BoxSt.put (h:BoxSt V W z b bv)(hz:V.heap.size=z)(hu:W.ownsRow (z+1) 3 1 u d.hops.length (flat intE d.hops))(hl:d.hops.length<=6):BoxSt V (Za8 W z d u) z d u:=by
 have hb:=h.box;unfold wayC at hb;have hg:=Za2 W z d u;refine⟨Zds d u hb,?_,h.bel.grown hg (by have:=h.bel.size;omega) (fun k hk=>by simp at hk;omega),hl⟩;refine Zaf (hu.kept hg ?_) (by omega);cases hv:u.ownBlock with
 | none=>exact .inl rfl
 | some g=>exact .inr (fun e=>by have:=(hu.lt g hv).1;simp at e;omega)
theorem BoxSt.other {cs:Array Value}{fr:Nat × Nat}(h:BoxSt V W z b bv)(hg:W.grownBy W' (some g))(hgz:z<g)(hbox:W.heap[g]? = some (.cells cs 108 fr))(hz:V.heap.size=z):BoxSt V W' z b bv:=
 ⟨(hg.block z (Zab h.box) (by simp;omega)).trans h.box,Zal h.own (fun j hj=>hg.block j (h.own.lt j hj).2 (fun e=>Zar h.own hbox (by decide) (by rw [hj];exact e.symm))),h.bel.grown hg (by have:=h.bel.size;omega) (fun k hk=>by simp at hk;omega),h.len⟩
theorem Zij {l:List Int}(h:W.ownsRow lo 3 1 u l.length (flat intE l))(hg:W.grownBy W' (some g))(hlt:g<lo):W'.ownsRow lo 3 1 u l.length (flat intE l):=
 Zal h (fun j hj=>hg.block j (h.lt j hj).2 (fun e=>by have:=(h.lt j hj).1;simp at e;omega))
theorem ZrR {L:Nat->Nat->Int}{src:Nat}(h:∃ m,GO W lo z L src m/\m<=43):∃ u n q bp wd wv F c hh,FS W lo z u n q bp wd wv/\GI F c hh n q bp wd/\Inv L src F c hh/\(∀ v,c v<=1000*(Zb4 F:Int))/\Zia (GO W lo z L src)=7*(6-Zb4 F)+n/\7*(6-Zb4 F)+n<=43:=by
 obtain⟨m,hm,h43⟩:=h;have hle:=Zhj hm;obtain⟨u,n,q,bp,wd,wv,F,c,hh,a1,a2,a3,a4,a5⟩:=Zlp ⟨m,hm⟩;exact⟨u,n,q,bp,wd,wv,F,c,hh,a1,a2,a3,a4,a5,by omega⟩
theorem ZkQ {P:Program}{a:Act}{w:World}{Q:Exit->Act->World->Prop}{c rest:Go.Code}(l:Nat)(hf:findLabel c l=some rest)
  (pass:∀ a w,Q .normal a w->rest.wp P (Exit.jump l (fun a' w'=>Q .normal a' w'/\(0:Nat)<0) Q) a w)
  (first:c.wp P (Exit.jump l (fun a' w'=>Q .normal a' w') Q) a w):(Go.Code.scope c).wp P Q a w:=
 wp_scope_jumps l (fun a' w'=>Q .normal a' w') (fun _ _=>0) hf first pass
theorem Zqh (W:World)(lo z:Nat)(v:Value)(ps:List RP)(hi:Nat)(area:Int)(L:Nat->Nat->Int)(src:Nat)(hv:RecsIn W hi v ps)(hhi:hi<=lo)(hn:tot ps<=1048576)(hL:Links L 1000)(hLk:∀ a b:Nat,1<=a/\a<=6->1<=b/\b<=6->Ze4 (fsts ps) area (a:Int) (b:Int)=L a b)(hgo:∃ m,GO W lo z L src m/\m<=43):
  Calls Tryz.prog 114 #[.pointer (some ⟨z,0,none⟩),v,.int .i64 area] W fun e W'=>e=.returned (.tuple #[])/\GEnd W' lo z L src/\Below lo W W':=by
 obtain⟨a1,c1,rfl⟩:=Zac hv.row;have HLI:=hide (fun V (hb:Below lo W V) (a b:Nat) (ha:1<=a/\a<=6) (hb':1<=b/\b<=6) (hl:lo<=V.heap.size)=>by
  have:=Zli (.slice a1 ps.length c1) ps hi area (a:Int) (b:Int) V (hv.below hb hhi) (YAK hhi hl) hn;rw [hLk a b ha hb'] at this;exact this)
 have HGO:=hide hgo;have HLL:=hide hL;clear hgo hv hLk hL
 go_enter Tryz.func114,Tryz.ntmps114
 go_wp2
 go_loopw [6] (fun p wr=>(p=p)/\(∃ m,GO wr lo z L src m/\m<=43)/\Below lo W wr) (fun _ wr=>Zia (GO wr lo z L src))
 case atStart=>exact ⟨rfl,HGO.out,YAC _ _⟩
 case round=>
  rename World=>wa
  clear HGO;obtain⟨_,hgo,hba⟩:=hrel;obtain⟨u,n,q,bp,wd,wv,F,c,hh,fs,gi,iv,bnd,hM,hn43⟩:=ZrR hgo;have cz:=fs.hb.cell;obtain⟨ua,uc,hu⟩:=Zac fs.hb.hq.row;rw [hu] at cz;have hlo:=fs.size;have HFS:=hide fs;have HGI:=hide gi;have HIV:=hide iv;have HBN:=hide bnd;have HM:=hide hM;clear hgo fs gi iv bnd hM;by_cases hn0:n=0
  ·subst hn0;have HEND:=hide (show GEnd wa lo z L src from ⟨u,q,bp,wd,wv,c,hh,HFS.out,HGI.out.cc,HGI.out.hh,HGI.out.nn,HGI.out.end HIV.out⟩);clear hu
   go_wp2_with fail
   refine (Zje _ _ _ _).mono ?_;rintro e w1 ⟨rfl,rfl⟩;go_wp2
   go_returns
   exact⟨rfl,HEND.out,hba⟩
  ·obtain ⟨m,hm⟩:∃ m,n=m+1:=⟨n-1,by omega⟩;subst hm;have HPOP:=hide (Zlb wa lo z m _ u q wd wv HFS.out.hb hlo (by omega) rfl HFS.out.lz HFS.out.hp);unfold ptrV at HPOP;have hgt:(0:Int)<((m+1:Nat):Int):=by omega
   have hAs:=fun v W=>ZmU v W;clear hu
   go_wp2_with fail
   refine (Zje _ _ _ _).mono ?_;rintro e w1 ⟨rfl,rfl⟩;obtain⟨t0,kb,hto,hbp,hent⟩:=HGI.out.ent 0 (by omega);have ht0:1<=t0/\t0<=6:=by
    have h1:=HGI.out.cc t0;rw [ZcC hbp] at h1;have h2:=HGI.out.nn t0 kb hbp;have h3:=HIV.out.cnode t0 (by omega);exact h3
   go_wp2_with fail
   by_cases hst:(wd kb).cost<(wd (q 0)).cost
   ·refine ZkQ 0 (rest:=?rest) ?hf ?_ ?_
    case hf=>rfl
    ·intro a w hq;refine wp_skip ?_;exact hq
    ·go_wp2_with fail
     refine HPOP.out.mono ?_;rintro e w2 ⟨u',q',rfl,hip,hsh,hb',fk⟩;rw [Zg8] at hb';have fs2:=HFS.out.popped fk hb' hip;have ba2:Below lo W w2:=hba.trans fk.below;have hlo2:=fs2.size;have hw0:=HFS.out.hb.hq.way 0 (by omega);have hp2:=(fk.typed _ _ _ _ hw0 (by decide) (fun e=>by rw [e,HFS.out.hb.box] at hw0;simp at hw0)).trans hw0;obtain⟨pa,pl,pk,hpv⟩:=HFS.out.hb.hq.sl 0 (by omega);have hk2:=(fs2.way t0 kb hbp).1;obtain⟨ba,bk,hbv⟩:=Zac (fs2.row t0 kb hbp);have kz:=fs2.known ht0;rw [hbp] at kz;unfold ptrO at kz;rw [hpv] at hp2;rw [hbv] at hk2;obtain⟨p0,hp0⟩:∃ p,p=q 0:=⟨_,rfl⟩;obtain⟨xp,hxp⟩:∃ x,x=wd (q 0):=⟨_,rfl⟩;obtain⟨xb,hxb⟩:∃ x,x=wd kb:=⟨_,rfl⟩;have HBT:=hide (fun V=>Zcs (.slice ba (wd kb).hops.length bk) (.slice pa pl pk) (wd kb) (wd (q 0)) V);rw [<-hxp, <-hxb] at HBT;rw [<-hxp] at hp2;rw [<-hxb] at hk2;rw [<-hp0] at hp2 |-;obtain⟨bl,hbl⟩:∃ l,l=xb.hops.length:=⟨_,rfl⟩;rw [<-hbl] at hk2 HBT;have hwp:wayC xp (.slice pa pl pk)=#[.int .i64 (t0:Int),.int .i64 xp.cost,.slice pa pl pk]:=by unfold wayC;rw [hxp,hto]
     rw [hwp] at hp2 HBT;unfold wayC Zbr at HBT;unfold wayC at hk2;obtain⟨pc,hpc⟩:∃ c,c=xp.cost:=⟨_,rfl⟩;obtain⟨bt,hbt⟩:∃ c,c=xb.to:=⟨_,rfl⟩;obtain⟨bc,hbc⟩:∃ c,c=xb.cost:=⟨_,rfl⟩;rw [<-hpc] at hp2 HBT;rw [<-hbt, <-hbc] at hk2 HBT;have lp2:=Zab hp2;have lb2:=Zab hk2;have lz2:=Zab fs2.hb.box;have s1:=Zaa hp2 0;have s2:=Zaa hp2 1;have s3:=Zaa hp2 2;have s4:=Zaa hk2 0;have s5:=Zaa hk2 1;have s6:=Zaa hk2 2;simp at s1 s2 s3 s4 s5 s6;have hti:(0:Int)<=(t0:Int):=by omega
     have htj:(t0:Int)<7:=by omega
     have FS2:=hide fs2;have HSH:=hide hsh;have HP0:=hide hp0;have HXP:=hide hxp;have HXB:=hide hxb;have HPC:=hide hpc;have HBC:=hide hbc;have HP2:=hide hp2;have HTO:=hide hto;have HBP:=hide hbp;have HEN:=hide hent;clear fs2 hsh hp0 hxp hxb hpc hbt hbc hbl hp2 hk2 hw0 fk hb' hip hpv hbv hwp hto hbp hent HPOP cz;go_wp2;refine wp_region_noPanic ?_;have hS0:w2.drew.cell? ⟨z,t0,none⟩=some (.pointer (some ⟨kb,0,none⟩))/\w2.drew.cell? ⟨p0,0,none⟩=some (.int .i64 (t0:Int))/\w2.drew.cell? ⟨p0,1,none⟩=some (.int .i64 pc)/\w2.drew.cell? ⟨p0,2,none⟩=some (.slice pa pl pk)/\w2.drew.cell? ⟨kb,0,none⟩=some (.int .i64 bt)/\w2.drew.cell? ⟨kb,1,none⟩=some (.int .i64 bc)/\w2.drew.cell? ⟨kb,2,none⟩=some (.slice ba bl bk):=⟨kz,s1,s2,s3,s4,s5,s6⟩;have lz4:z<w2.drew.heap.size:=lz2;have lp4:p0<w2.drew.heap.size:=lp2;have lb4:kb<w2.drew.heap.size:=lb2;refine Zag (S:=fun W=>W.cell? ⟨z,t0,none⟩=some (.pointer (some ⟨kb,0,none⟩))/\W.cell? ⟨p0,0,none⟩=some (.int .i64 (t0:Int))/\W.cell? ⟨p0,1,none⟩=some (.int .i64 pc)/\W.cell? ⟨p0,2,none⟩=some (.slice pa pl pk)/\W.cell? ⟨kb,0,none⟩=some (.int .i64 bt)/\W.cell? ⟨kb,1,none⟩=some (.int .i64 bc)/\W.cell? ⟨kb,2,none⟩=some (.slice ba bl bk)) (by kernel_rfl) 15 rfl hS0 ?_;intro ops hops _;show wpAnyH Tryz.prog .any ops _ _ 15 #[false,false,false,false,false,false,false,false,false,false,false,false,false,false,false] _ w2.drew
     iterate 14
      refine ZhD 15 ?_ ?_ ?_ (by rw [hops.out];kernel_rfl) ?_ ?_ (by assumption) ?_
      rotate_left 2
      ·rw [hops.out];simp only [getS,Nat.reduceSub,Nat.reduceAdd];rfl
      ·intro W hW;obtain⟨k1,k2,k3,k4,k5,k6,k7⟩:=hW;go_simp <;> with_reducible rfl
      ·exact fun _ _ _=>id
      try simp only [putS]
     refine TC 14 ?_;intro K hK;go_simp;refine (HBT.out _).mono ?_;rintro e w5 ⟨rfl,b5⟩;have hK5:w5.cell? ⟨z,t0,none⟩=some (.pointer (some ⟨kb,0,none⟩))/\w5.cell? ⟨p0,0,none⟩=some (.int .i64 (t0:Int))/\w5.cell? ⟨p0,1,none⟩=some (.int .i64 pc)/\w5.cell? ⟨p0,2,none⟩=some (.slice pa pl pk)/\w5.cell? ⟨kb,0,none⟩=some (.int .i64 bt)/\w5.cell? ⟨kb,1,none⟩=some (.int .i64 bc)/\w5.cell? ⟨kb,2,none⟩=some (.slice ba bl bk):=by
      refine⟨?_,?_,?_,?_,?_,?_,?_⟩
      ·rw [b5.cell lz4];exact hS0.1
      ·rw [b5.cell lp4];exact hS0.2.1
      ·rw [b5.cell lp4];exact hS0.2.2.1
      ·rw [b5.cell lp4];exact hS0.2.2.2.1
      ·rw [b5.cell lb4];exact hS0.2.2.2.2.1
      ·rw [b5.cell lb4];exact hS0.2.2.2.2.2.1
      ·rw [b5.cell lb4];exact hS0.2.2.2.2.2.2
     refine hK.out _ _ hK5 (fun _=>?_);clear hK K
     try simp only [putS]
     refine wpAnyH_done (by rw [hops.out];kernel_rfl) ?_ _;clear hops ops;refine NoPanic.normal ?_;have hcc:bc<pc:=by rw [HBC.out,HPC.out,HXB.out,HXP.out];exact hst
     rw [YAT hcc];have fs5:=FS2.out.below ((bdr1 w2).trans b5);have HNX:=hide (show GO w5 lo z L src (7*(6-Zb4 F)+m) from ⟨u',m,q',bp,wd,wv,F,c,hh,fs5,HGI.out.stale HSH.out HTO.out HBP.out hst,HIV.out,HBN.out,rfl⟩);have B5:Below lo W w5:=ba2.trans (((bdr1 w2).trans b5).mono hlo2);go_wp2
     go_step3
     (try simp only [Exit.then,Exit.jump])
     refine⟨rfl,?_⟩;go_wp2;go_roundw
     case rel=>exact ⟨trivial,⟨_,HNX.out,by omega⟩,B5⟩
     case measure=>
      have h1:=Zhj HNX.out;have h2:=HM.out;omega
   ·go_step3
    go_wp2_with fail
    refine HPOP.out.mono ?_;rintro e w2 ⟨u',q',rfl,hip,hsh,hb',fk⟩;rw [Zg8] at hb';have fs2:=HFS.out.popped fk hb' hip;have ba2:Below lo W w2:=hba.trans fk.below;have hlo2:=fs2.size;have hw0:=HFS.out.hb.hq.way 0 (by omega);have hp2:=(fk.typed _ _ _ _ hw0 (by decide) (fun e=>by rw [e,HFS.out.hb.box] at hw0;simp at hw0)).trans hw0;obtain⟨pa,pl,pk,hpv⟩:=HFS.out.hb.hq.sl 0 (by omega);have hk2:=(fs2.way t0 kb hbp).1;obtain⟨ba,bk,hbv⟩:=Zac (fs2.row t0 kb hbp);have kz:=fs2.known ht0;rw [hbp] at kz;unfold ptrO at kz;rw [hpv] at hp2;rw [hbv] at hk2;obtain⟨p0,hp0⟩:∃ p,p=q 0:=⟨_,rfl⟩;obtain⟨xp,hxp⟩:∃ x,x=wd (q 0):=⟨_,rfl⟩;obtain⟨xb,hxb⟩:∃ x,x=wd kb:=⟨_,rfl⟩;have HBT:=hide (fun V=>Zcs (.slice ba (wd kb).hops.length bk) (.slice pa pl pk) (wd kb) (wd (q 0)) V);rw [<-hxp, <-hxb] at HBT;rw [<-hxp] at hp2;rw [<-hxb] at hk2;rw [<-hp0] at hp2 |-;obtain⟨bl,hbl⟩:∃ l,l=xb.hops.length:=⟨_,rfl⟩;rw [<-hbl] at hk2 HBT;have hwp:wayC xp (.slice pa pl pk)=#[.int .i64 (t0:Int),.int .i64 xp.cost,.slice pa pl pk]:=by unfold wayC;rw [hxp,hto]
    rw [hwp] at hp2 HBT;unfold wayC Zbr at HBT;unfold wayC at hk2;obtain⟨pc,hpc⟩:∃ c,c=xp.cost:=⟨_,rfl⟩;obtain⟨bt,hbt⟩:∃ c,c=xb.to:=⟨_,rfl⟩;obtain⟨bc,hbc⟩:∃ c,c=xb.cost:=⟨_,rfl⟩;rw [<-hpc] at hp2 HBT;rw [<-hbt, <-hbc] at hk2 HBT;have lp2:=Zab hp2;have lb2:=Zab hk2;have lz2:=Zab fs2.hb.box;have s1:=Zaa hp2 0;have s2:=Zaa hp2 1;have s3:=Zaa hp2 2;have s4:=Zaa hk2 0;have s5:=Zaa hk2 1;have s6:=Zaa hk2 2;simp at s1 s2 s3 s4 s5 s6;have hti:(0:Int)<=(t0:Int):=by omega
    have htj:(t0:Int)<7:=by omega
    have FS2:=hide fs2;have HSH:=hide hsh;have HP0:=hide hp0;have HXP:=hide hxp;have HXB:=hide hxb;have HPC:=hide hpc;have HBC:=hide hbc;have HP2:=hide hp2;have HTO:=hide hto;have HBP:=hide hbp;have HEN:=hide hent;clear fs2 hsh hp0 hxp hxb hpc hbt hbc hbl hp2 hk2 hw0 fk hb' hip hpv hbv hwp hto hbp hent HPOP cz;go_wp2;refine wp_region_noPanic ?_;have hS0:w2.drew.cell? ⟨z,t0,none⟩=some (.pointer (some ⟨kb,0,none⟩))/\w2.drew.cell? ⟨p0,0,none⟩=some (.int .i64 (t0:Int))/\w2.drew.cell? ⟨p0,1,none⟩=some (.int .i64 pc)/\w2.drew.cell? ⟨p0,2,none⟩=some (.slice pa pl pk)/\w2.drew.cell? ⟨kb,0,none⟩=some (.int .i64 bt)/\w2.drew.cell? ⟨kb,1,none⟩=some (.int .i64 bc)/\w2.drew.cell? ⟨kb,2,none⟩=some (.slice ba bl bk):=⟨kz,s1,s2,s3,s4,s5,s6⟩;have lz4:z<w2.drew.heap.size:=lz2;have lp4:p0<w2.drew.heap.size:=lp2;have lb4:kb<w2.drew.heap.size:=lb2;refine Zag (S:=fun W=>W.cell? ⟨z,t0,none⟩=some (.pointer (some ⟨kb,0,none⟩))/\W.cell? ⟨p0,0,none⟩=some (.int .i64 (t0:Int))/\W.cell? ⟨p0,1,none⟩=some (.int .i64 pc)/\W.cell? ⟨p0,2,none⟩=some (.slice pa pl pk)/\W.cell? ⟨kb,0,none⟩=some (.int .i64 bt)/\W.cell? ⟨kb,1,none⟩=some (.int .i64 bc)/\W.cell? ⟨kb,2,none⟩=some (.slice ba bl bk)) (by kernel_rfl) 15 rfl hS0 ?_;intro ops hops _;show wpAnyH Tryz.prog .any ops _ _ 15 #[false,false,false,false,false,false,false,false,false,false,false,false,false,false,false] _ w2.drew
    iterate 14
     refine ZhD 15 ?_ ?_ ?_ (by rw [hops.out];kernel_rfl) ?_ ?_ (by assumption) ?_
     rotate_left 2
     ·rw [hops.out];simp only [getS,Nat.reduceSub,Nat.reduceAdd];rfl
     ·intro W hW;obtain⟨k1,k2,k3,k4,k5,k6,k7⟩:=hW;go_simp <;> with_reducible rfl
     ·exact fun _ _ _=>id
     try simp only [putS]
    refine TC 14 ?_;intro K hK;go_simp;refine (HBT.out _).mono ?_;rintro e w5 ⟨rfl,b5⟩;have hK5:w5.cell? ⟨z,t0,none⟩=some (.pointer (some ⟨kb,0,none⟩))/\w5.cell? ⟨p0,0,none⟩=some (.int .i64 (t0:Int))/\w5.cell? ⟨p0,1,none⟩=some (.int .i64 pc)/\w5.cell? ⟨p0,2,none⟩=some (.slice pa pl pk)/\w5.cell? ⟨kb,0,none⟩=some (.int .i64 bt)/\w5.cell? ⟨kb,1,none⟩=some (.int .i64 bc)/\w5.cell? ⟨kb,2,none⟩=some (.slice ba bl bk):=by
     refine⟨?_,?_,?_,?_,?_,?_,?_⟩
     ·rw [b5.cell lz4];exact hS0.1
     ·rw [b5.cell lp4];exact hS0.2.1
     ·rw [b5.cell lp4];exact hS0.2.2.1
     ·rw [b5.cell lp4];exact hS0.2.2.2.1
     ·rw [b5.cell lb4];exact hS0.2.2.2.2.1
     ·rw [b5.cell lb4];exact hS0.2.2.2.2.2.1
     ·rw [b5.cell lb4];exact hS0.2.2.2.2.2.2
    refine hK.out _ _ hK5 (fun _=>?_);clear hK K
    try simp only [putS]
    refine wpAnyH_done (by rw [hops.out];kernel_rfl) ?_ _;clear hops ops;refine NoPanic.normal ?_;have hcc:¬bc<pc:=by rw [HBC.out,HPC.out,HXB.out,HXP.out];omega
    rw [YAe hcc];have fs5:=FS2.out.below ((bdr1 w2).trans b5);have B5:Below lo W w5:=ba2.trans (((bdr1 w2).trans b5).mono hlo2);obtain⟨gi5,hq0,hFt,hct,hcost,hhops,hmin⟩:=HGI.out.fresh HSH.out HFS.out.hp HTO.out HBP.out (by omega);have hpk:p0=kb:=by rw [HP0.out];exact hq0
    have hbp0:bp t0=some p0:=by rw [hpk];exact HBP.out
    have HGI5:=hide gi5;have HFS5:=hide fs5;have HFT:=hide hFt;have HCT:=hide hct;have HMIN:=hide hmin;have hcb:=HBN.out t0;have hcard:Zb4 F<=5:=by
     have h1:=ZdN (F:=F) (u:=t0) ht0 hFt;have h2:=ZiQ (fun v=>F v||v==t0);omega
    have hc5:c t0<=5000:=by omega
    have HBP0:=hide hbp0;clear gi5 fs5 hFt hct hmin hq0 hpk hbp0 hcost hhops HFS FS2 HP2 HBT hK5 hS0 kz s1 s2 s3 s4 s5 s6 HP0 HXP HXB HPC HBC HSH HTO HBP HEN hcc hst b5;go_wp2
    go_loopw [7] (fun i wr=>∃ (t:Nat) (u:Value) (n:Nat) (q:Nat->Nat) (bp:Nat->Option Nat) (wd:Nat->WayD) (wv:Nat->Value),1<=t/\t<=7/\i=.int .i64 (t:Int)/\Hid (FS wr lo z u n q bp wd wv)/\Hid (GI (fun x=>F x||x==t0) (mixC L c t0 t) (mixH L src c hh t0 t) n q bp wd)/\Hid (bp t0=some p0)/\n+1<=m+t/\Below lo W wr) (fun i _=>8-(intOf i).toNat)
    case atStart=>exact ⟨1,_,m,q',bp,wd,wv,by omega,by omega,rfl,HFS5,hide (by rw [Zmo HLL.out,Zmq HLL.out];exact HGI5.out),HBP0,by omega,B5⟩
    case round=>
     rename World=>wr
     clear HFS5 HGI5 HBP0;obtain⟨t,u2,n2,q2,bp2,wd2,wv2,ht1,ht7,rfl,HF2,HG2,HB2,hn2,hbr⟩:=hrel;by_cases htl:t<7
     ·have ht6:(t:Int)<=6:=by omega
      have ht:1<=t/\t<=6:=by omega
      have hw:=(HF2.out.way t0 p0 HB2.out).1;have hto2:=HF2.out.to t0 p0 HB2.out;have hrow2:=HF2.out.row t0 p0 HB2.out;obtain⟨xa,xc,hxv⟩:=Zac hrow2;have hcx:(wd2 p0).cost=c t0:=by
       have h1:=HG2.out.cc t0;rw [ZcC HB2.out,ZoU HCT.out] at h1;exact h1
      have hhx:(wd2 p0).hops=hh t0:=by
       have h1:=HG2.out.hh t0;rw [Zet HB2.out,Zlv HCT.out] at h1;exact h1
      have hxl:=HF2.out.short t0 p0 HB2.out;obtain⟨x,hx⟩:∃ x,x=wd2 p0:=⟨_,rfl⟩;rw [hxv, <-hx] at hw hrow2;rw [<-hx] at hto2 hcx hhx hxl;have hwx:wayC x (.slice xa x.hops.length xc)=#[.int .i64 (t0:Int),.int .i64 x.cost,.slice xa x.hops.length xc]:=by unfold wayC;rw [hto2]
      rw [hwx] at hw;have e0:=Zaa hw 0;simp at e0;have hlr:=HF2.out.size;have lpr:=Zab hw;have HLI2:=hide (HLI.out wr hbr t0 t ht0 ht hlr);have hl0:=HLL.out.pos t0 t;have hl1:=HLL.out.le t0 t;obtain⟨lk,hlk⟩:∃ l,l=L t0 t:=⟨_,rfl⟩;rw [<-hlk] at HLI2 hl0 hl1;have HLK:=hide hlk;have HW:=hide hw;have HROW:=hide hrow2;have HCX:=hide hcx;have HHX:=hide hhx;have HX:=hide hx;have HWX:=hide hwx;have HTO2:=hide hto2;clear hlk hw hrow2 hcx hhx hx hwx hxv hto2;by_cases hlz:lk=0
      ·subst hlz;have HG3:=hide (ZnD (by rw [<-HLK.out];omega) HG2.out)
       go_wp2_with fail
       refine HLI2.out.mono ?_;rintro e w6 ⟨rfl,b6⟩;have FS6:=hide (HF2.out.below b6);have B6:Below lo W w6:=hbr.trans (b6.mono hlr);clear b6;go_wp2;go_roundw
       case rel=>exact ⟨t+1,u2,n2,q2,bp2,wd2,wv2,by omega,by omega,by go_num,FS6,HG3,HB2,by omega,B6⟩
       case measure=>simp [intOf];omega
      ·have hlp:0<lk:=by omega
       have hlp2:lk>0:=hlp;have HY:=hide (ZqI HIV.out HCT.out HHX.out lk (t:=t))
       go_wp2_with fail
       refine HLI2.out.mono ?_;rintro e w6 ⟨rfl,b6⟩;have fs6:=HF2.out.below b6;have B6:Below lo W w6:=hbr.trans (b6.mono hlr);have hw6:=(b6.block _ lpr).trans HW.out;have g0:=Zaa hw6 0;have g1:=Zaa hw6 1;have g2:=Zaa hw6 2;simp at g0 g1 g2;rw [HCX.out] at g1;have hon:=Znt x (.slice xa x.hops.length xc) lo (t:Int) lk w6 (Zad HROW.out b6 (YA _)) (by omega) (by rw [HCX.out];have:=HCT.out;omega) (by rw [HCX.out];omega);rw [HWX.out,HY.out,HCX.out] at hon;have HON:=hide hon;have HFS6:=hide fs6;clear hon fs6 b6 hw6
       go_wp2_with fail
       refine HON.out.mono ?_;rintro e w7 ⟨v7,rfl,ho7,b7⟩;have fs7:=HFS6.out.below b7;have B7:Below lo W w7:=B6.trans (b7.mono HFS6.out.size);have hl67:=b7.size;have hfr:∀ v' k' b,bp2 v'=some k'->(wv2 k').ownBlock=some b->v7.ownBlock≠some b:=by
        intro v' k' b e1 e2 e3;have h1:=((HFS6.out.row v' k' e1).lt b e2).2;have h2:=(ho7.lt b e3).1;omega
       have hjl:∀ kn,bp2 t=some kn->¬c t0+lk<(wd2 kn).cost->(togI (wd2 kn) ⟨(t:Int),c t0+lk,wayL src hh t0 t⟩).hops.length<=6/\(togI (wd2 kn) ⟨(t:Int),c t0+lk,wayL src hh t0 t⟩).cost=(wd2 kn).cost/\(togI (wd2 kn) ⟨(t:Int),c t0+lk,wayL src hh t0 t⟩).to=(wd2 kn).to:=by
        intro kn e1 e2;rw [HLK.out] at e2 |-;obtain⟨j1,_,j3,j4⟩:=ZoP HIV.out (by rw [<-HLK.out];exact hlp) ht HG2.out e1 e2;exact⟨by rw [j1];exact Zpq HIV.out HLL.out HCT.out,j3,j4⟩
       have HFO:=hide (Zj8 w7 lo z u2 n2 q2 bp2 wd2 wv2 t ⟨(t:Int),c t0+lk,wayL src hh t0 t⟩ v7 fs7 (by omega) ht rfl (Zaf ho7 HFS6.out.size) (Zsq HIV.out ht) hfr hjl);obtain⟨na,nc,hv7⟩:=Zac ho7;have hkq:∀ i,i<n2->q2 i≠w7.heap.size:=fun i hi e=>by have:=Zab (fs7.hb.hq.way i hi);omega
       have hkb:∀ v,bp2 v≠some w7.heap.size:=fun v e=>by have:=Zab (fs7.way v _ e).1;omega
       have hp7:p0≠w7.heap.size:=fun e=>hkb t0 (by rw [HB2.out,e]);have HKQ:=hide hkq;have HKB:=hide hkb;rw [hv7];rw [hv7] at HFO;clear fs7 hfr hjl ho7 b7 hkq hkb hv7
       go_wp2_with fail
       refine HFO.out.mono ?_;rintro e w8 ⟨rfl,b8,hcs⟩;have B8:Below lo W w8:=B7.trans b8;rcases hcs with ⟨hcase,u3,q3,fs8,hsh8⟩ | ⟨kn,vy,e1,e2,fs8⟩
       ·have HG8:=hide (ZnC HIV.out HFT.out HCT.out (by rw [<-HLK.out];exact hlp) ht HG2.out (by rw [<-HLK.out];exact hcase) HKQ.out HKB.out hsh8);rw [<-HLK.out] at HG8;have HFS8:=hide fs8;have HB8:=hide (show upd bp2 t (some w7.heap.size) t0=some p0 by
         rw [Zao]
         ·exact HB2.out
         ·intro e;subst e;have hcc:=HCT.out;have hx1:=HG2.out.cc t0;rw [ZdB] at hx1;rcases hcase with e3 | ⟨kn,e3,e4⟩
          ·rw [HB2.out] at e3;cases e3
          ·rw [ZcC e3] at hx1;have e5:c t0+lk<(wd2 kn).cost:=e4;omega)
        clear fs8 hsh8 hcase;go_wp2;go_roundw
        case rel=>exact ⟨t+1,u3,n2+1,q3,_,_,_,by omega,by omega,by go_num,HFS8,HG8,HB8,by omega,B8⟩
        case measure=>simp [intOf];omega
       ·have HG8:=hide (ZnB HIV.out (by rw [<-HLK.out];exact hlp) ht HG2.out e1 (by rw [<-HLK.out];exact e2));rw [<-HLK.out] at HG8;have HFS8:=hide fs8;clear fs8 e1 e2;go_wp2;go_roundw
        case rel=>exact ⟨t+1,u2,n2,q2,bp2,_,_,by omega,by omega,by go_num,HFS8,HG8,HB2,by omega,B8⟩
        case measure=>simp [intOf];omega
     ·have ht6:¬(t:Int)<=6:=by omega
      have htt:t=7:=by omega
      subst htt;have hg9:=HG2.out;rw [Zmn HLL.out,Zmp HLL.out] at hg9;have iv9:=HIV.out.step HLL.out HFT.out HCT.out HMIN.out (fun v=>Zfe HIV.out HLL.out HCT.out v);have hcard9:Zb4 (fun v=>F v||v==t0)=Zb4 F+1:=ZdN ht0 HFT.out;have HNX:=hide (show GO wr lo z L src (7*(6-Zb4 (fun v=>F v||v==t0))+n2) from ⟨u2,n2,q2,bp2,wd2,wv2,_,_,_,HF2.out,hg9,iv9,fun v=>by
       rw [hcard9];have h1:=Zgx (L:=L) (u:=t0) (v:=v) HBN.out HLL.out.le;omega,rfl⟩)
      rw [hcard9] at HNX;clear hg9 iv9 hcard9;go_wp2
      go_step3
      rw [Exit.noGoto_normal];go_wp2;go_roundw
      case rel=>exact ⟨trivial,⟨_,HNX.out,by omega⟩,hbr⟩
      case measure=>
       have h1:=Zhj HNX.out;have h2:=HM.out;omega
end Go.Proofs.YtikloccefmofdaaGreat
namespace Go.Proofs.YtikloccefmofdaaGreat
open Go.RowKit

structure PutSt (W:World) (lo loR hiR loW hiW:Nat) (S:Int->WayD->Prop) (x:Value) (qs:List WP) (u:Value) (ws:List WP) (j:Nat):Prop where
 own:WaysOwn W lo W.heap.size x qs
 best:ZaE S (Zaj qs)
 offR:Off x loR hiR
 offW:Off x loW hiW
 from_:WaysOwn W loW hiW u ws
 lw:lo<=loW
 wide:loW<=hiW
 hW:hiW<=W.heap.size
 hR:hiR<=loW
 apart:∀ p∈qs,∀ q∈ws.drop j,ZcM p q

section
variable {W:World} {lo loR hiR loW hiW:Nat} {S:Int->WayD->Prop} {x u:Value} {qs ws:List WP} {j:Nat}

theorem PutSt.below {W':World}(h:PutSt W lo loR hiR loW hiW S x qs u ws j)(hb:Below W.heap.size W W'):PutSt W' lo loR hiR loW hiW S x qs u ws j:=
 {h with
  own:=(h.own.below hb (YA _)).wide (YA _) hb.size
  from_:=h.from_.below hb h.hW
  hW:=YAK h.hW hb.size }

theorem PutSt.hop (h:PutSt W lo loR hiR loW hiW S x qs u ws j){r:WP}(hr:ws[j]? = some r):ZbA W lo W.heap.size r:=(h.from_.nears r (YAG hr)).wide h.lw h.hW

theorem Zfu {r:WP}(hr:ws[j]? = some r):ws.drop j=r::ws.drop (j+1):=by
 obtain⟨h1,e1⟩:=YAD.1 hr;rw [YAl h1,e1]

theorem PutSt.apartR (h:PutSt W lo loR hiR loW hiW S x qs u ws j){r:WP}(hr:ws[j]? = some r):∀ p∈qs,ZcM p r:=fun p hp=>h.apart p hp r (by rw [Zfu hr];exact List.mem_cons_self)

theorem PutSt.good (h:PutSt W lo loR hiR loW hiW S x qs u ws j)(hS:∀ to w,S to w->GoodW w/\w.to=to):qs.length<=6/\∀ p∈qs,p.1.hops.length<=6:=by
 have hg:=h.best.good hS;refine⟨?_,fun p hp=>(hg p.1 (by simp only [Zaj,YAR];exact⟨p,hp,rfl⟩)).len⟩;have:=Zdr h.best.1 (fun w hw=>(hg w hw).node);simpa [Zaj] using this

theorem PutSt.pass (h:PutSt W lo loR hiR loW hiW S x qs u ws j){r:WP}(hr:ws[j]? = some r){T:Int->WayD->Prop}(hT:∀ to w,S to w↔T to w):PutSt W lo loR hiR loW hiW T x qs u ws (j+1):=
 {h with
  best:=h.best.congr hT
  apart:=fun p hp q hq=>h.apart p hp q (by rw [Zfu hr];exact YAg _ hq) }

theorem PutSt.put {W':World}{x':Value}{qs':List WP}(h:PutSt W lo loR hiR loW hiW S x qs u ws j){r:WP}(hr:ws[j]? = some r)(hS:∀ to w,S to w->GoodW w/\w.to=to)(hg:GoodW r.1){T:Int->WayD->Prop}(hT:∀ to w,(S to w\/(w=r.1/\r.1.to=to))↔T to w)
  (hp:PutD (Zaj qs) r.1 (Zaj qs')) (ho:WaysOwn W' lo W'.heap.size x' qs') (hf:ZeS W.heap.size qs r qs') (hn:∀ b,x'.ownBlock=some b->x.ownBlock=some b\/W.heap.size<=b) (hgr:W.grownBy W' x.ownBlock):PutSt W' lo loR hiR loW hiW T x' qs' u ws (j+1) where
 own:=ho
 best:=(h.best.put Zjw hS hg hp.1 hp.2).congr hT
 offR:=h.offR.next hn (by have:=h.hR;have:=h.wide;have:=h.hW;omega)
 offW:=h.offW.next hn h.hW
 from_:=h.from_.keep (h.offW.kept hgr)
 lw:=h.lw
 wide:=h.wide
 hW:=YAK h.hW hgr.size
 hR:=h.hR
 apart:=by
  intro p hp q hq;have hq':q∈ws.drop j:=by rw [Zfu hr];exact YAg _ hq
  rcases hf p hp with ⟨p',hp',e⟩ | e | e
  ·have h1:=h.apart p' hp' q hq';intro k hk;rw [e] at hk;exact h1 k hk
  ·intro k hk;rw [e] at hk;have hpw:=h.from_.apart;rw [<-YAc j ws,YAM] at hpw;have h2:=hpw.2.1;rw [Zfu hr] at h2;exact (YAo.1 h2).1 q hq k hk
  ·intro k hk he;have h1:=e k hk;have h2:=(h.from_.nears q (List.mem_of_mem_drop hq')).2 k he;have:=h.hW;omega

theorem PutSt.start {W0:World}(ho:WaysOwn W0 lo W0.heap.size x qs)(hb:ZaE S (Zaj qs))(hoff:Off x loR hiR)(hR:hiR<=W0.heap.size)(hlo:lo<=W0.heap.size)(hbl:Below W0.heap.size W0 W)(hf:WaysOwn W W0.heap.size W.heap.size u ws):PutSt W lo loR hiR W0.heap.size W.heap.size S x qs u ws 0 where
 own:=(ho.below hbl (YA _)).wide (YA _) hbl.size
 best:=hb
 offR:=hoff
 offW:=fun b hx=>.inl (ho.top b hx)
 from_:=hf
 lw:=hlo
 wide:=hbl.size
 hW:=YA _
 hR:=hR
 apart:=by
  intro p hp q hq k hk he;have h1:=(ho.nears p hp).2 k hk;have h2:=((hf.nears q (List.mem_of_mem_drop hq)).1.lt k he).1;omega
end
end Go.Proofs.YtikloccefmofdaaGreat
