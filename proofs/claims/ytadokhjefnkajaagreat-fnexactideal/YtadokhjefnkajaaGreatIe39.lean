/-
  TellM WaysInI
-/
import Derived.Test.YtadokhjefnkajaaGreatIe37
import Derived.Test.YtadokhjefnkajaaGreatIe29
import Derived.Test.YtadokhjefnkajaaGreatIe35
import Derived.Test.YtadokhjefnkajaaGreatIe14
namespace Go.Proofs.YtadokhjefnkajaaGreat
open Go.RowKit
set_option linter.unusedSimpArgs false
set_option linter.unusedVariables false
set_option maxRecDepth 100000
set_option maxHeartbeats 8000000
def Zcj (xs:List RecD)(area src to:Int):Prop:=∀ d,d∈ZbE xs area src->d.to≠to
def ZbC (area src to c:Int):RecD:=⟨area,2,src,to,0,[],c,false⟩
def Zb8 (xs:List RecD)(al:List Int)(src area to c:Int):Prop:=Zcj xs area src to/\to≠src /\
 ((∃ w,ZaQ to (Zau xs al src to) (some w)/\c=w.cost)\/(area≠0/\∃ w,ZaQ to (Zbq xs al true src to) (some w)/\c=w.cost))
def ZbH (xs:List RecD)(al:List Int)(src area:Int)(ds:List RecD):Prop:=Asc ds/\∀ r,r∈ds↔∃ to c,r=ZbC area src to c/\Zb8 xs al src area to c
theorem ZfE:∀ {a b:List RecD},Asc a->Asc b->(∀ x,x∈a↔x∈b)->a=b
 | [],[],_,_,_=>rfl
 | [],y::ys,_,_,h=>by have:=(h y).2 (by simp);cases this
 | x::xs,[],_,_,h=>by have:=(h x).1 (by simp);cases this
 | x::xs,y::ys,ha,hb,h=>by
  have ha':=List.pairwise_cons.1 ha;have hb':=List.pairwise_cons.1 hb;have irr:∀ z:RecD,Zam z z=true->False:=fun z hz=>by
   have:=(Zbk (x:=z) (y:=z) (by simp [Zaw])).1
   rw [this] at hz;cases hz
  have hxy:x=y:=by
   have h1:=(h x).1 (by simp)
   have h2:=(h y).2 (by simp)
   rcases List.mem_cons.1 h1 with e | e
   ·exact e
   ·rcases List.mem_cons.1 h2 with e2 | e2
    ·exact e2.symm
    ·exact (irr x (Zcv (ha'.1 y e2) (hb'.1 x e))).elim
  subst hxy;have:xs=ys:=by
   refine ZfE ha'.2 hb'.2 (fun z=>?_)
   have hz:=h z
   constructor
   ·intro hm
    have h1:=hz.1 (List.mem_cons_of_mem _ hm)
    rcases List.mem_cons.1 h1 with e | e
    ·have:=ha'.1 z hm;subst e;exact (irr z this).elim
    ·exact e
   ·intro hm
    have h1:=hz.2 (List.mem_cons_of_mem _ hm)
    rcases List.mem_cons.1 h1 with e | e
    ·have:=hb'.1 z hm;subst e;exact (irr z this).elim
    ·exact e
  rw [this]
theorem ZbH.unique {xs:List RecD}{al:List Int}{src area:Int}{a b:List RecD}(ha:ZbH xs al src area a)(hb:ZbH xs al src area b):a=b:=
 ZfE ha.1 hb.1 (fun r=>by rw [ha.2,hb.2])
theorem ZeC {to:Int}{S:WayD->Prop}{w:WayD}(h:ZaQ to S (some w))(hS:∀ d,S d->GoodW d/\d.to=to):GoodW w/\w.to=to:=⟨h.good hS,h.1⟩
theorem Zcn {xs:List RecD}{al:List Int}{src area to c:Int}(h:Zb8 xs al src area to c):1<=to/\to<=6:=by
 obtain⟨_,_,⟨w,h1,_⟩ | ⟨_,w,h1,_⟩⟩:=h
 ·have hg:=ZeC h1 (fun d h=>Zbc h)
  rw [<-hg.2];exact hg.1.node
 ·have hg:=ZeC h1 (fun d h=>ZbM h)
  rw [<-hg.2];exact hg.1.node
theorem Zkn {xs:List RecD}{al:List Int}{src area to c c':Int}(h:Zb8 xs al src area to c)(h':Zb8 xs al src area to c'):c=c':=by
 have hno:∀ {w v:WayD},ZaQ to (Zau xs al src to) (some w)->ZaQ to (Zbq xs al true src to) (some v)->False:=by
  intro w v h1 h2;obtain⟨_,⟨u,hu,_⟩,_⟩:=h1;obtain⟨_,⟨u',hu',_⟩,_⟩:=h2;exact hu'.1 u hu
 obtain⟨_,_,⟨w,h1,rfl⟩ | ⟨_,w,h1,rfl⟩⟩:=h
 ·obtain ⟨_,_,⟨v,h2,rfl⟩ | ⟨_,v,h2,rfl⟩⟩:=h'
  ·have:=h1.unique h2;cases this;rfl
  ·exact (hno h1 h2).elim
 ·obtain ⟨_,_,⟨v,h2,rfl⟩ | ⟨_,v,h2,rfl⟩⟩:=h'
  ·exact (hno h2 h1).elim
  ·have:=h1.unique h2;cases this;rfl
theorem Zc1 {area src a b c d:Int}:Zam (ZbC area src a c) (ZbC area src b d)=decide (a<b):=by
 simp [Zam,ZbC]
 try exact decide_eq_decide.2 Iff.rfl
theorem ZbH.tot {xs:List RecD}{al:List Int}{src area:Int}{ds:List RecD}(h:ZbH xs al src area ds):ds.length<=6/\∀ r∈ds,r.near=[]:=by
 constructor
 ·have h1:(ds.map (·.key)).Pairwise (· < ·):=by
   rw [List.pairwise_map];refine List.Pairwise.imp_of_mem ?_ h.1
   intro a b ha hb hab;obtain⟨to,c,rfl,_⟩:=(h.2 a).1 ha;obtain⟨to',c',rfl,_⟩:=(h.2 b).1 hb;rw [Zc1] at hab;exact of_decide_eq_true hab
  have h2:=ZeA h1 (fun z hz=>by
   obtain⟨r,hr,rfl⟩:=List.mem_map.1 hz;obtain⟨to,c,rfl,ht⟩:=(h.2 r).1 hr;exact Zcn ht)
  simpa using h2
 ·intro r hr
  obtain⟨to,c,rfl,_⟩:=(h.2 r).1 hr
  rfl
theorem ZgP {xs:List RecD}{al:List Int}{src area to:Int}(hn:Zcj xs area src to)(d:WayD):Zau xs (al.filter (fun a=>a != area)) src to d↔Zau xs al src to d:=by
 constructor
 ·rintro ⟨h1,a,h2,h3⟩
  exact⟨h1,a,(List.mem_filter.1 h2).1,h3⟩
 ·rintro ⟨h1,a,h2,h3⟩
  refine⟨h1,a,List.mem_filter.2 ⟨h2,?_⟩,h3⟩
  have:a≠area:=fun e=>by subst e;exact hn d h3 h1
  simpa using this
theorem ZkW (xs:List RecD)(area src to:Int):(Zbs (ZbE xs area src) to=true/\¬Zcj xs area src to)\/(Zbs (ZbE xs area src) to=false/\Zcj xs area src to):=by
 rcases Zcp (ZbE xs area src) to with ⟨h1,h2⟩ | ⟨h1,h2⟩
 ·have h3:=Za0 h2
  exact .inl ⟨h1,fun h=>h _ h3.1 h3.2⟩
 ·exact .inr ⟨h1,fun d hd=>Zc7 h2 d hd⟩
theorem Zkx {S:Int->WayD->Prop}{ds:List WayD}(h:ZaR S ds)(to:Int):(Zbs ds to=true/\ZaQ to (S to) (some (ZbD ds to)))\/(Zbs ds to=false/\∀ d,¬S to d):=by
 have hb:=h.2 to
 rcases Zcp ds to with ⟨h1,h2⟩ | ⟨h1,h2⟩
 ·rw [h2] at hb
  exact .inl ⟨h1,hb⟩
 ·rw [h2] at hb
  exact .inr ⟨h1,hb⟩
theorem ZhY {to:Int}{S:WayD->Prop}{w:WayD}(h:∀ d,¬S d):¬ZaQ to S (some w):=fun ⟨_,⟨u,hu,_⟩,_⟩=>h u hu
def ZaW (xs:List RecD)(al:List Int)(src area:Int)(t:Int)(ds:List RecD):Prop:=Asc ds/\∀ r,r∈ds↔∃ to c,r=ZbC area src to c/\to<t/\Zb8 xs al src area to c
theorem ZaW.skip {xs:List RecD}{al:List Int}{src area t:Int}{ds:List RecD}(h:ZaW xs al src area t ds)(hn:∀ c,¬Zb8 xs al src area t c):ZaW xs al src area (t+1) ds:=by
 refine⟨h.1,fun r=>?_⟩
 rw [h.2]
 constructor
 ·rintro ⟨to,c,h1,h2,h3⟩
  exact⟨to,c,h1,by omega,h3⟩
 ·rintro ⟨to,c,h1,h2,h3⟩
  refine⟨to,c,h1,?_,h3⟩
  by_cases e:to=t
  ·subst e;exact absurd h3 (hn c)
  ·omega
theorem ZaW.push {xs:List RecD}{al:List Int}{src area t c:Int}{ds:List RecD}(h:ZaW xs al src area t ds)(ht:Zb8 xs al src area t c):ZaW xs al src area (t+1) (ds++[ZbC area src t c]):=by
 refine⟨?_,fun r=>?_⟩
 ·unfold Asc
  rw [List.pairwise_append];refine⟨h.1,by simp,fun a ha b hb=>?_⟩
  have:b=ZbC area src t c:=by simpa using hb
  subst this;obtain⟨to,c',rfl,h2,_⟩:=(h.2 a).1 ha;rw [Zc1]
  simpa using h2
 ·rw [List.mem_append,h.2]
  constructor
  ·rintro (⟨to,c',h1,h2,h3⟩ | h1)
   ·exact ⟨to,c',h1,by omega,h3⟩
   ·exact ⟨t,c,by simpa using h1,by omega,ht⟩
  ·rintro ⟨to,c',h1,h2,h3⟩
   by_cases e:to=t
   ·subst e
    rw [Zkn h3 ht] at h1;exact .inr (by simpa using h1)
   ·exact .inl ⟨to,c',h1,by omega,h3⟩
theorem ZaW.all {xs:List RecD}{al:List Int}{src area:Int}{ds:List RecD}(h:ZaW xs al src area 7 ds):ZbH xs al src area ds:=by
 refine⟨h.1,fun r=>?_⟩
 rw [h.2]
 constructor
 ·rintro ⟨to,c,h1,_,h3⟩
  exact⟨to,c,h1,h3⟩
 ·rintro ⟨to,c,h1,h3⟩
  exact⟨to,c,h1,by have:=Zcn h3;omega,h3⟩
theorem ZaW.none {xs:List RecD}{al:List Int}{src area:Int}:ZaW xs al src area 1 []:=by
 refine⟨List.Pairwise.nil,fun r=>?_⟩
 constructor
 ·intro h;cases h
 ·rintro ⟨to,c,_,h2,h3⟩
  have:=Zcn h3;omega
theorem ZaW.len {xs:List RecD}{al:List Int}{src area t:Int}{ds:List RecD}(h:ZaW xs al src area t ds):ds.length<=6/\∀ r∈ds,r.near=[]:=by
 constructor
 ·have h1:(ds.map (·.key)).Pairwise (· < ·):=by
   rw [List.pairwise_map];refine List.Pairwise.imp_of_mem ?_ h.1
   intro a b ha hb hab;obtain⟨to,c,rfl,_⟩:=(h.2 a).1 ha;obtain⟨to',c',rfl,_⟩:=(h.2 b).1 hb;rw [Zc1] at hab;exact of_decide_eq_true hab
  have h2:=ZeA h1 (fun z hz=>by
   obtain⟨r,hr,rfl⟩:=List.mem_map.1 hz;obtain⟨to,c,rfl,_,ht⟩:=(h.2 r).1 hr;exact Zcn ht)
  simpa using h2
 ·intro r hr
  obtain⟨to,c,rfl,_⟩:=(h.2 r).1 hr
  rfl
theorem Zme {xs:List RecD}{al:List Int}{src area to c:Int}(h:Zb8 xs al src area to c):ZaI xs=true:=by
 obtain⟨_,_,⟨w,⟨_,⟨u,hu,_⟩,_⟩,_⟩ | ⟨_,w,⟨_,⟨u,hu,_⟩,_⟩,_⟩⟩:=h
 ·obtain ⟨_,a,_,h3⟩:=hu
  exact (ZcF h3).1
 ·obtain ⟨_,a,_,_,h3⟩:=hu
  exact (Zgm h3).1
theorem ZpD (q:Nat->Nat)(wd:Nat->WayD):GI (fun _=>false) (fun _ => -1) (fun _=>[]) 0 q (fun _=>none) wd:=
 ⟨fun _=>rfl,fun _=>rfl,fun _ _ e=>(by cases e),fun i hi=>(by omega),fun _ _ e=>(by cases e),fun i j hi=>(by omega),fun _ _ e=>(by cases e)⟩
theorem fs_new (W:World)(wd:Nat->WayD)(wv:Nat->Value)(q:Nat->Nat):FS (W.alloc (.cells #[.pointer none,.pointer none,.pointer none,.pointer none,.pointer none,.pointer none,.pointer none,.slice none 0 0] 278)) W.heap.size W.heap.size (.slice none 0 0) 0 q (fun _=>none) wd wv where
 lz:=Nat.le_refl _
 hb:=⟨heap_alloc_new W _,rfl,World.ownsRow_nil _ _ _ _,fun i hi=>by omega,fun i hi=>by omega⟩
 hp:=fun i _ hi=>by omega
 way:=fun _ _ e=>by cases e
 row:=fun _ _ e=>by cases e
 short:=fun _ _ e=>by cases e
 apart:=fun _ _ _ _ _ e=>by cases e
 to:=fun _ _ e=>by cases e
 b0:=rfl
theorem Zei (v:Value)(ps:List RP)(hi:Nat)(area src:Int)(w:World)(hv:RecsIn w hi v ps)(hhi:hi<=w.heap.size)(hn:tot ps<=1048576):
  Calls Tryz.prog 206 #[v,.int .i64 area,.int .i64 src] w fun e w'=>∃ u qs,e=.returned u/\Zbf (fsts ps) area src (Zal qs)/\WaysOwn w' w.heap.size w'.heap.size u qs/\Below w.heap.size w w':=by
 obtain⟨a1,c1,rfl⟩:=Zac hv.row;have HS:=hide (ZiU (.slice a1 ps.length c1) ps w hn (Zbn.more hv.at hhi));have HP:=hide (fun W (hb:Below w.heap.size w W)=>Zha (.slice a1 ps.length c1) ps hi area src W (hv.below hb hhi) (Nat.le_trans hhi hb.size) hn)
 have HV:=hide hv;clear hv;obtain⟨SB,hSB⟩:∃ b,b=ZaI (fsts ps):=⟨_,rfl⟩;obtain⟨IB,hIB⟩:∃ b,b=inB src 1 6:=⟨_,rfl⟩;rw [<-hSB] at HS;have HSB:=hide hSB;have HIB:=hide hIB;clear hSB hIB;have EMP:=hide (fun (e:(ZaI (fsts ps)&&inB src 1 6&&Zgh (fsts ps) area src)=false)=>show Zbf (fsts ps) area src (Zal []) by unfold Zbf;rw [e];rfl)
 have LIT:=hide (fun W (hb:Below w.heap.size w W)=>Ze5 W w.heap.size hb.size)
 go_enter Tryz.func206,Tryz.ntmps206
 go_wp2_with fail
 refine HS.out.mono ?_
 rintro e w1 ⟨rfl,b1⟩;cases SB
 ·have HE:=hide (EMP.out (by rw [<-HSB.out];rfl))
  have HL:=hide (LIT.out w1 b1);have HB:=hide (b1.alloc b1.size (.cells #[] 194))
  go_wp2
  go_ret
  exact⟨_,[],rfl,HE.out,HL.out,HB.out⟩
 ·go_wp2_with fail
  refine (Za3 _ _ _ _).mono ?_
  rintro e w2 ⟨rfl,rfl⟩;rw [<-HIB.out];cases IB
  ·have HE:=hide (EMP.out (by rw [<-HSB.out, <-HIB.out];rfl))
   have HL:=hide (LIT.out w1 b1);have HB:=hide (b1.alloc b1.size (.cells #[] 194))
   go_wp2
   go_ret
   exact⟨_,[],rfl,HE.out,HL.out,HB.out⟩
  ·have hpl:=HP.out w1 b1
   have hnb:=ZlP HSB.out.symm area src;cases hR:plN (fsts ps) area src with
   | none=>
    rw [hR] at hpl hnb;unfold plV2 at hpl;have HPL:=hide hpl;have HE:=hide (EMP.out (by rw [hnb, <-HSB.out, <-HIB.out];rfl))
    clear hpl hnb hR
    go_wp2_with fail
    refine HPL.out.mono ?_
    rintro e w2 ⟨rfl,b2⟩;have B2:Below w.heap.size w w2:=b1.trans (b2.mono b1.size);have HL:=hide (LIT.out w2 B2);have HB:=hide (B2.alloc B2.size (.cells #[] 194));clear b2
    go_wp2
    go_ret
    exact⟨_,[],rfl,HE.out,HL.out,HB.out⟩
   | some k0=>
    rw [hR] at hpl hnb;unfold plV2 at hpl;have HPL:=hide hpl;obtain⟨s,rfl⟩:∃ s:Nat,src=(s:Int):=⟨src.toNat,by have:=Zdx.1 HIB.out.symm;omega⟩
    have hs6:=Zdx.1 HIB.out.symm;have hs:1<=s/\s<=6:=by omega
    have FIN:=hide (fun c h (hf:Fix (Zdz (fsts ps) area) s c h)=>show Zbf (fsts ps) area (s:Int) (ZcJ c h 6) by
     unfold Zbf;rw [hnb, <-HSB.out, <-HIB.out];exact⟨c,h,by simpa using hf,rfl⟩)
    have HLK:=hide (Zej (area:=area) HSB.out.symm);have HLN:=hide (fun (a b:Nat) (ha:1<=a/\a<=6) (hb:1<=b/\b<=6)=>ZiV HSB.out.symm area ha hb)
    clear hpl hnb hR EMP LIT HP
    go_wp2_with fail
    refine HPL.out.mono ?_
    rintro e w2 ⟨rfl,b2⟩;have B2:Below w.heap.size w w2:=b1.trans (b2.mono b1.size);have B3:Below w2.heap.size w2 (w2.alloc (.cells #[.pointer none,.pointer none,.pointer none,.pointer none,.pointer none,.pointer none,.pointer none,.slice none 0 0] 278)):=(Below.refl _ _).alloc (Nat.le_refl _) _;have fs:=fs_new w2 (fun _=>Zbt) (fun _=>.slice none 0 0) (fun _=>0)
    obtain⟨w3,hw3⟩:∃ W,W=w2.alloc (.cells #[.pointer none,.pointer none,.pointer none,.pointer none,.pointer none,.pointer none,.pointer none,.slice none 0 0] 278):=⟨_,rfl⟩;rw [<-hw3] at B3 fs;obtain⟨lo,hlo⟩:∃ l,l=w2.heap.size:=⟨_,rfl⟩;have HFO:=hide (ZiI w3 w2.heap.size w2.heap.size (.slice none 0 0) 0 (fun _=>0) (fun _=>none) (fun _=>Zbt) (fun _=>.slice none 0 0) s ⟨(s:Int),0,[]⟩ (.slice none 0 0) fs (by omega) hs rfl (World.ownsRow_nil _ _ _ _) (by simp) (fun _ _ _ e=>by cases e) (fun _ e=>by cases e))
    unfold wayC at HFO;have HHI:hi<=w2.heap.size:=by have:=B2.size;omega
    have hwlo:w.heap.size<=w2.heap.size:=B2.size;have HV3:=hide (HV.out.below (B2.trans (B3.mono hwlo)) hhi);clear fs b2 HPL HV
    go_wp2_with fail
    rw [<-hw3];clear hw3;refine HFO.out.mono ?_
    rintro e w4 ⟨rfl,b4,hcs⟩;have HGO:Hid (∃ m,GO w4 w2.heap.size w2.heap.size (Zdz (fsts ps) area) s m/\m<=43):=by
     rcases hcs with ⟨hcase,u3,q3,fs4,hsh⟩ | ⟨kn,vy,e1,_⟩
     ·refine ⟨7*(6-Zb1 (fun _=>false))+1,⟨u3,1,q3,_,_,_,(fun _=>false),(fun v=>if v=s then 0 else -1),(fun _=>[]),fs4,?_,Inv.init hs,fun v=>?_,rfl⟩,by rw [ZfT];omega⟩
      ·have g:=(ZpD (fun _=>0) (fun _=>Zbt)).push (t:=s) (k:=w3.heap.size) (x:=⟨(s:Int),0,[]⟩) rfl rfl (.inl (by omega)) (fun i hi=>by omega) (fun v e=>by cases e) hsh (by show (0:Int)<=0;omega)
       have ec:upd (fun _=>(-1:Int)) s 0=fun v=>if v=s then 0 else -1:=by funext v;rfl
       have eh:upd (fun _=>([]:List Int)) s []=fun _=>[]:=by funext v;unfold upd;split <;> rfl
       rw [<-ec, <-eh];exact g
      ·rw [ZfT]
       show (if v=s then (0:Int) else -1)<=_
       split <;> omega
     ·cases e1
    have HGN:=hide (Zoj w4 w2.heap.size w2.heap.size (.slice a1 ps.length c1) ps hi area (Zdz (fsts ps) area) s (HV3.out.below b4 HHI) HHI hn HLK.out HLN.out HGO.out);have B4:Below w.heap.size w w4:=(B2.trans (B3.mono hwlo)).trans (b4.mono hwlo);clear hcs b4 HGO HFO
    go_wp2_with fail
    refine HGN.out.mono ?_
    rintro e w5 ⟨rfl,hge,b5⟩;obtain⟨u5,q5,bp5,wd5,wv5,c5,h5,fs5,cc5,hh5,nn5,fx5⟩:=hge;have B5:Below w.heap.size w w5:=B4.trans (b5.mono hwlo);have HWA:=hide (Zpe w5 w2.heap.size w2.heap.size u5 0 q5 bp5 wd5 wv5 fs5);have HIS:=hide (show Zbf (fsts ps) area (s:Int) (Zal (Zcd bp5 wd5 wv5 7)) by
     rw [ZgV fs5.b0 cc5 hh5 fs5.to nn5 6];exact FIN.out c5 h5 fx5)
    clear fs5 cc5 hh5 nn5 fx5 b5 HGN
    go_wp2_with fail
    refine HWA.out.mono ?_
    rintro e w6 ⟨x,rfl,ow6,b6⟩;obtain⟨xa,xc,rfl⟩:=Zac ow6.row;have B6:=hide (B5.trans (b6.mono hwlo));have O6:=hide (ow6.wide hwlo (Nat.le_refl _));clear ow6 b6 HWA
    go_wp2
    go_ret
    first
     | exact ⟨_,_,rfl,HIS.out,O6.out,B6.out⟩
     | exact ⟨_,rfl,_,HIS.out,O6.out,B6.out⟩
end Go.Proofs.YtadokhjefnkajaaGreat
