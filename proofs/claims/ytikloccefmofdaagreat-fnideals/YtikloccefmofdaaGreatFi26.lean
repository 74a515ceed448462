/-
  Parts.
-/
import Derived.Test.YtikloccefmofdaaGreatFi25
namespace Go.Proofs.YtikloccefmofdaaGreat
open Go.RowKit
set_option linter.unusedSimpArgs false
set_option linter.unusedVariables false
set_option maxRecDepth 100000
set_option maxHeartbeats 8000000
variable {area c src t to:Int}{al:List Int}{ds xs:List RecD}{w:WayD}{S:WayD->Prop}
def Zcv (xs:List RecD)(area src to:Int):Prop:=∀ d,d∈ZbE xs area src->d.to≠to
def ZbK (area src to c:Int):RecD:=⟨area,2,src,to,0,[],c,false⟩
def Zcl (xs:List RecD)(al:List Int)(src area to c:Int):Prop:=Zcv xs area src to/\to≠src /\
 ((∃ w,ZaN to (Zaq xs al src to) (some w)/\c=w.cost)\/(area≠0/\∃ w,ZaN to (Zbw xs al true src to) (some w)/\c=w.cost))
def ZbO (xs:List RecD)(al:List Int)(src area:Int)(ds:List RecD):Prop:=Asc ds/\∀ r,r∈ds↔∃ to c,r=ZbK area src to c/\Zcl xs al src area to c
theorem ZgF :∀ {a b:List RecD},Asc a->Asc b->(∀ x,x∈a↔x∈b)->a=b
 | [],[],_,_,_=>rfl
 | [],y::ys,_,_,h=>by have:=(h y).2 (by simp);cases this
 | x::xs,[],_,_,h=>by have:=(h x).1 (by simp);cases this
 | x::xs,y::ys,ha,hb,h=>by
  have ha':=YAo.1 ha;have hb':=YAo.1 hb;have irr:∀ z:RecD,Zak z z=true->False:=fun z hz=>by
   have:=(Zbq (x:=z) (y:=z) (by simp [Zap])).1;rw [this] at hz;cases hz
  have hxy:x=y:=by
   have h1:=(h x).1 (by simp);have h2:=(h y).2 (by simp);rcases YAb.1 h1 with e | e
   ·exact e
   ·rcases YAb.1 h2 with e2 | e2
    ·exact e2.symm
    ·exact (irr x (ZcG (ha'.1 y e2) (hb'.1 x e))).elim
  subst hxy;have:xs=ys:=by
   refine ZgF ha'.2 hb'.2 (fun z=>?_);have hz:=h z;constructor
   ·intro hm;have h1:=hz.1 (YAg _ hm);rcases YAb.1 h1 with e | e
    ·have:=ha'.1 z hm;subst e;exact (irr z this).elim
    ·exact e
   ·intro hm;have h1:=hz.2 (YAg _ hm);rcases YAb.1 h1 with e | e
    ·have:=hb'.1 z hm;subst e;exact (irr z this).elim
    ·exact e
  rw [this]
theorem ZbO.unique {a b:List RecD}(ha:ZbO xs al src area a)(hb:ZbO xs al src area b):a=b:=
 ZgF ha.1 hb.1 (fun r=>by rw [ha.2,hb.2])
theorem Zfo (h:ZaN to S (some w))(hS:∀ d,S d->GoodW d/\d.to=to):GoodW w/\w.to=to:=⟨h.good hS,h.1⟩
theorem ZcA (h:Zcl xs al src area to c):1<=to/\to<=6:=by
 obtain⟨_,_,⟨w,h1,_⟩ | ⟨_,w,h1,_⟩⟩:=h
 ·have hg:=Zfo h1 (fun d h=>Za1 h);rw [<-hg.2];exact hg.1.node
 ·have hg:=Zfo h1 (fun d h=>Zby h);rw [<-hg.2];exact hg.1.node
theorem ZlM {c':Int}(h:Zcl xs al src area to c)(h':Zcl xs al src area to c'):c=c':=by
 have hno:∀ {w v:WayD},ZaN to (Zaq xs al src to) (some w)->ZaN to (Zbw xs al true src to) (some v)->False:=by
  intro w v h1 h2;obtain⟨_,⟨u,hu,_⟩,_⟩:=h1;obtain⟨_,⟨u',hu',_⟩,_⟩:=h2;exact hu'.1 u hu
 obtain⟨_,_,⟨w,h1,rfl⟩ | ⟨_,w,h1,rfl⟩⟩:=h
 ·obtain ⟨_,_,⟨v,h2,rfl⟩ | ⟨_,v,h2,rfl⟩⟩:=h'
  ·have:=h1.unique h2;cases this;rfl
  ·exact (hno h1 h2).elim
 ·obtain ⟨_,_,⟨v,h2,rfl⟩ | ⟨_,v,h2,rfl⟩⟩:=h'
  ·exact (hno h2 h1).elim
  ·have:=h1.unique h2;cases this;rfl
theorem Zdo {a b d:Int}:Zak (ZbK area src a c) (ZbK area src b d)=decide (a<b):=by
 simp [Zak,ZbK]
 try exact decide_eq_decide.2 Iff.rfl
theorem ZbO.tot (h:ZbO xs al src area ds):ds.length<=6/\∀ r∈ds,r.near=[]:=by
 constructor
 ·have h1:(ds.map (·.key)).Pairwise (· < ·):=by
   rw [YAm];refine List.Pairwise.imp_of_mem ?_ h.1;intro a b ha hb hab;obtain⟨to,c,rfl,_⟩:=(h.2 a).1 ha;obtain⟨to',c',rfl,_⟩:=(h.2 b).1 hb;rw [Zdo] at hab;exact of_decide_eq_true hab
  have h2:=Zdf h1 (fun z hz=>by
   obtain⟨r,hr,rfl⟩:=YAR.1 hz;obtain⟨to,c,rfl,ht⟩:=(h.2 r).1 hr;exact ZcA ht)
  simpa using h2
 ·intro r hr;obtain⟨to,c,rfl,_⟩:=(h.2 r).1 hr;rfl
theorem ZhS (hn:Zcv xs area src to)(d:WayD):Zaq xs (al.filter (fun a=>a != area)) src to d↔Zaq xs al src to d:=by
 constructor
 ·rintro ⟨h1,a,h2,h3⟩;exact⟨h1,a,(YAP.1 h2).1,h3⟩
 ·rintro ⟨h1,a,h2,h3⟩;refine⟨h1,a,YAP.2 ⟨h2,?_⟩,h3⟩;have:a≠area:=fun e=>by subst e;exact hn d h3 h1
  simpa using this
theorem Zms (xs:List RecD)(area src to:Int):(Zbk (ZbE xs area src) to=true/\¬Zcv xs area src to)\/(Zbk (ZbE xs area src) to=false/\Zcv xs area src to):=by
 rcases Zcb (ZbE xs area src) to with ⟨h1,h2⟩ | ⟨h1,h2⟩
 ·have h3:=ZaM h2;exact .inl ⟨h1,fun h=>h _ h3.1 h3.2⟩
 ·exact .inr ⟨h1,fun d hd=>Zdz h2 d hd⟩
theorem Zl3 {S:Int->WayD->Prop}{ds:List WayD}(h:ZaE S ds)(to:Int):(Zbk ds to=true/\ZaN to (S to) (some (Zbo ds to)))\/(Zbk ds to=false/\∀ d,¬S to d):=by
 have hb:=h.2 to;rcases Zcb ds to with ⟨h1,h2⟩ | ⟨h1,h2⟩
 ·rw [h2] at hb;exact .inl ⟨h1,hb⟩
 ·rw [h2] at hb;exact .inr ⟨h1,hb⟩
theorem Zji (h:∀ d,¬S d):¬ZaN to S (some w):=fun ⟨_,⟨u,hu,_⟩,_⟩=>h u hu
def ZaY (xs:List RecD)(al:List Int)(src area:Int)(t:Int)(ds:List RecD):Prop:=Asc ds/\∀ r,r∈ds↔∃ to c,r=ZbK area src to c/\to<t/\Zcl xs al src area to c
theorem ZaY.skip (h:ZaY xs al src area t ds)(hn:∀ c,¬Zcl xs al src area t c):ZaY xs al src area (t+1) ds:=by
 refine⟨h.1,fun r=>?_⟩;rw [h.2];constructor
 ·rintro ⟨to,c,h1,h2,h3⟩;exact⟨to,c,h1,by omega,h3⟩
 ·rintro ⟨to,c,h1,h2,h3⟩;refine⟨to,c,h1,?_,h3⟩;by_cases e:to=t
  ·subst e;exact absurd h3 (hn c)
  ·omega
theorem ZaY.push (h:ZaY xs al src area t ds)(ht:Zcl xs al src area t c):ZaY xs al src area (t+1) (ds++[ZbK area src t c]):=by
 refine⟨?_,fun r=>?_⟩
 ·unfold Asc;rw [YAM];refine⟨h.1,by simp,fun a ha b hb=>?_⟩;have:b=ZbK area src t c:=by simpa using hb
  subst this;obtain⟨to,c',rfl,h2,_⟩:=(h.2 a).1 ha;rw [Zdo];simpa using h2
 ·rw [YAF,h.2];constructor
  ·rintro (⟨to,c',h1,h2,h3⟩ | h1)
   ·exact ⟨to,c',h1,by omega,h3⟩
   ·exact ⟨t,c,by simpa using h1,by omega,ht⟩
  ·rintro ⟨to,c',h1,h2,h3⟩;by_cases e:to=t
   ·subst e;rw [ZlM h3 ht] at h1;exact .inr (by simpa using h1)
   ·exact .inl ⟨to,c',h1,by omega,h3⟩
theorem ZaY.all (h:ZaY xs al src area 7 ds):ZbO xs al src area ds:=by
 refine⟨h.1,fun r=>?_⟩;rw [h.2];constructor
 ·rintro ⟨to,c,h1,_,h3⟩;exact⟨to,c,h1,h3⟩
 ·rintro ⟨to,c,h1,h3⟩;exact⟨to,c,h1,by have:=ZcA h3;omega,h3⟩
theorem ZaY.none :ZaY xs al src area 1 []:=by
 refine⟨List.Pairwise.nil,fun r=>?_⟩;constructor
 ·intro h;cases h
 ·rintro ⟨to,c,_,h2,h3⟩;have:=ZcA h3;omega
theorem ZaY.len (h:ZaY xs al src area t ds):ds.length<=6/\∀ r∈ds,r.near=[]:=by
 constructor
 ·have h1:(ds.map (·.key)).Pairwise (· < ·):=by
   rw [YAm];refine List.Pairwise.imp_of_mem ?_ h.1;intro a b ha hb hab;obtain⟨to,c,rfl,_⟩:=(h.2 a).1 ha;obtain⟨to',c',rfl,_⟩:=(h.2 b).1 hb;rw [Zdo] at hab;exact of_decide_eq_true hab
  have h2:=Zdf h1 (fun z hz=>by
   obtain⟨r,hr,rfl⟩:=YAR.1 hz;obtain⟨to,c,rfl,_,ht⟩:=(h.2 r).1 hr;exact ZcA ht)
  simpa using h2
 ·intro r hr;obtain⟨to,c,rfl,_⟩:=(h.2 r).1 hr;rfl
theorem ZnR (h:Zcl xs al src area to c):Zax xs=true:=by
 obtain⟨_,_,⟨w,⟨_,⟨u,hu,_⟩,_⟩,_⟩ | ⟨_,w,⟨_,⟨u,hu,_⟩,_⟩,_⟩⟩:=h
 ·obtain ⟨_,a,_,h3⟩:=hu;exact (ZcU h3).1
 ·obtain ⟨_,a,_,_,h3⟩:=hu;exact (Zhn h3).1
def Zgz (to:Int)(S:WayD->Prop)(E:WayD)(fv:Value):Prop:=∃ F:Bool,fv=.bool F/\ZaN to S (if F then some E else none)
theorem Zgz.of {E:WayD}{F:Bool}(h:ZaN to S (if F then some E else none)):Zgz to S E (.bool F):=⟨F,rfl,h⟩
theorem Zre (v uw:Value)(ps:List RP)(ws:List WP)(hi lo2 hi2 lo:Nat)(area src to:Int)(b0:WayD)(bv0:Value)(F0:Bool)(w:World)(S0:WayD->Prop)(hv:RecsIn w hi v ps)(hhi:hi<=w.heap.size)(hn:tot ps<=1048576)
  (hw:WaysOwn w lo2 hi2 uw ws) (hhi2:hi2<=w.heap.size) (hws:Zaj ws=ZbE (fsts ps) area src) (hst:Zax (fsts ps)=true) (hbo:ZaN to S0 (if F0 then some b0 else none)) (hS0:∀ d,S0 d->GoodW d/\d.to=to) (hb0:w.ownsRow lo 3 1 bv0 b0.hops.length (flat intE b0.hops)) (hlo:lo<=w.heap.size) (hl0:b0.hops.length<=6):
  Calls Tryz.prog 121 #[v,uw,.int .i64 area,.int .i64 src,.int .i64 to,.agg (wayC b0 bv0),.bool F0] w fun e w'=>∃ (E:WayD) (u fv:Value),e=.returned (.tuple #[.agg (wayC E u),fv])/\Zgz to (fun d=>S0 d\/outS (fsts ps) (fsts ps) area src to d) E fv/\w'.ownsRow lo 3 1 u E.hops.length (flat intE E.hops)/\E.hops.length<=6/\Below w.heap.size w w':=by
 have hnl:=Zbj ps;obtain⟨a1,c1,rfl⟩:=Zac hv.row;obtain⟨a2,c2,rfl⟩:=Zac hw.row;obtain⟨a3,c3,rfl⟩:=Zac hb0;have hwt:totW ws<=1048576:=by have:=ZjJ hws;omega
 have BX:Below w.heap.size w ((w.alloc (.cells #[.int .i64 b0.to,.int .i64 b0.cost,.slice a3 b0.hops.length c3] 108)).alloc (.cells #[.int .i64 0,.int .i64 0,.slice none 0 0] 108)):=ZaB _ _;have q0:((w.alloc (.cells #[.int .i64 b0.to,.int .i64 b0.cost,.slice a3 b0.hops.length c3] 108)).alloc (.cells #[.int .i64 0,.int .i64 0,.slice none 0 0] 108)).heap[w.heap.size]? = some (.cells #[.int .i64 b0.to,.int .i64 b0.cost,.slice a3 b0.hops.length c3] 108):=by
  rw [YAH _ _ _ (by simp),YAE]
 have q1:((w.alloc (.cells #[.int .i64 b0.to,.int .i64 b0.cost,.slice a3 b0.hops.length c3] 108)).alloc (.cells #[.int .i64 0,.int .i64 0,.slice none 0 0] 108)).heap[w.heap.size+1]? = some (.cells #[.int .i64 0,.int .i64 0,.slice none 0 0] 108):=by
  have e:=YAE (w.alloc (.cells #[.int .i64 b0.to,.int .i64 b0.cost,.slice a3 b0.hops.length c3] 108)) (.cells #[.int .i64 0,.int .i64 0,.slice none 0 0] 108);rw [show (w.alloc (.cells #[.int .i64 b0.to,.int .i64 b0.cost,.slice a3 b0.hops.length c3] 108)).heap.size=w.heap.size+1 by simp] at e;exact e
 have hs2:((w.alloc (.cells #[.int .i64 b0.to,.int .i64 b0.cost,.slice a3 b0.hops.length c3] 108)).alloc (.cells #[.int .i64 0,.int .i64 0,.slice none 0 0] 108)).heap.size=w.heap.size+2:=by simp
 obtain⟨w0,hw0⟩:∃ W,W=((w.alloc (.cells #[.int .i64 b0.to,.int .i64 b0.cost,.slice a3 b0.hops.length c3] 108)).alloc (.cells #[.int .i64 0,.int .i64 0,.slice none 0 0] 108)):=⟨_,rfl⟩;rw [<-hw0] at BX q0 q1 hs2;have HBX0:=hide (show BoxT w0 w.heap.size lo b0 (.slice a3 b0.hops.length c3) from ⟨q0,Zad hb0 BX (YA _),hl0⟩);have HQ1:=hide q1;have HV:=hide hv;have HWT:=hide (fun (z:Int) (W:World) (hb:Below w.heap.size w W)=>ZcT (.slice a2 ws.length c2) ws lo2 hi2 z W (hw.below hb hhi2) (YAK hhi2 hb.size) hwt);have HB0:=hide (show ZaN to (fun d=>S0 d\/outS (fsts ps) ((fsts ps).take 0) area src to d) (if F0 then some b0 else none) from hbo.congr (fun d=>⟨.inl,by rintro (h | ⟨_,r,h,_⟩);exact h;simp at h⟩));have HS2:=hide hs2;unfold wayC;clear hv hw hb0 q0 q1 hbo hs2
 go_enter Tryz.func121,Tryz.ntmps121
 go_wp2;rw [<-hw0];clear hw0
 go_loopw [16,6] (fun i f wr=>∃ (k:Nat) (F:Bool) (b:WayD) (bv:Value),k<=ps.length/\i=.int .i64 (k:Int)/\f=.bool F/\BoxT wr w.heap.size lo b bv/\wr.heap[w.heap.size+1]? = some (.cells #[.int .i64 0,.int .i64 0,.slice none 0 0] 108)/\Hid (ZaN to (fun d=>S0 d\/outS (fsts ps) ((fsts ps).take k) area src to d) (if F then some b else none))/\Below w.heap.size w wr/\w.heap.size+2<=wr.heap.size) (fun i _ _=>ps.length-(intOf i).toNat)
 case atStart=>exact ⟨0,F0,b0,_,by omega,rfl,rfl,HBX0.out,HQ1.out,HB0,BX,by have:=HS2.out;omega⟩
 case round=>
  obtain⟨k,F,b,bv,hk,rfl,rfl,hbx,hrz,HBO,hnx,hsz⟩:=hrel;clear HBX0 HQ1 HB0 HS2 BX;obtain⟨ba,bc,rfl⟩:=Zac hbx.own;by_cases hlt:k<ps.length
  ·obtain ⟨p,hp⟩:∃ p,ps[k]? = some p:=⟨ps[k],YAA hlt⟩;obtain⟨bb,off,cap',hve,hbb,c0,c1,c2,c3,c4,c5,c6,c7,hnr⟩:=HV.out.at.cells k p hp;cases hve;obtain⟨pa,pc,hpn⟩:=Zat.shape hnr;rw [hpn] at c5;replace c0:=(hnx.cell (YAB hbb hhi)).trans c0;replace c1:=(hnx.cell (YAB hbb hhi)).trans c1;replace c2:=(hnx.cell (YAB hbb hhi)).trans c2;replace c3:=(hnx.cell (YAB hbb hhi)).trans c3;replace c4:=(hnx.cell (YAB hbb hhi)).trans c4;replace c5:=(hnx.cell (YAB hbb hhi)).trans c5;replace c6:=(hnx.cell (YAB hbb hhi)).trans c6;replace c7:=(hnx.cell (YAB hbb hhi)).trans c7;have HPP:=hide (Zbf hp);have hpm:p.1∈fsts ps:=YAG (Zbf hp);have BAL:Below wr.heap.size wr (wr.alloc (.cells #[.int .i64 p.1.area,.int .i64 p.1.kind,.int .i64 p.1.owner,.int .i64 p.1.key,.int .i64 p.1.seq,.slice pa p.1.near.length pc,.int .i64 p.1.cost,.bool p.1.far] 37)):=(YAC _ _).alloc (YA _) _;have hxl:=YAE wr (.cells #[.int .i64 p.1.area,.int .i64 p.1.kind,.int .i64 p.1.owner,.int .i64 p.1.key,.int .i64 p.1.seq,.slice pa p.1.near.length pc,.int .i64 p.1.cost,.bool p.1.far] 37);obtain⟨wl,hwl⟩:∃ W,W=(wr.alloc (.cells #[.int .i64 p.1.area,.int .i64 p.1.kind,.int .i64 p.1.owner,.int .i64 p.1.key,.int .i64 p.1.seq,.slice pa p.1.near.length pc,.int .i64 p.1.cost,.bool p.1.far] 37)):=⟨_,rfl⟩;rw [<-hwl] at BAL hxl;have hki:(0:Int)<=(k:Int):=by omega
   have hkj:(k:Int)<(ps.length:Int):=by omega
   clear hp hnr hpn;by_cases hK:p.1.kind=2
   case neg=>
    have hd:(p.1.kind != 2)=true:=by simpa using hK
    have HhK:=hide hK;clear hK;have HN:=hide (ZbS HPP.out HBO.out (fun d hdt ht=>HhK.out ht.1));have HBX:=hide (hbx.below BAL);have HRZ:=hide ((BAL.block _ (by have:=Zab hrz;omega)).trans hrz);have BN:=hide (hnx.trans (BAL.mono hnx.size));rw [hwl] at HBX HRZ BN;have hszn:w.heap.size+2<=(wr.alloc (.cells #[.int .i64 p.1.area,.int .i64 p.1.kind,.int .i64 p.1.owner,.int .i64 p.1.key,.int .i64 p.1.seq,.slice pa p.1.near.length pc,.int .i64 p.1.cost,.bool p.1.far] 37)).heap.size:=by simp;omega
    clear hbx hrz HBO HPP HWT BAL hwl;go_wp2;go_roundw
    case rel=>exact ⟨k+1,F,b,_,by omega,by go_num,rfl,HBX.out,HRZ.out,HN,BN.out,hszn⟩
    case measure=>simp [intOf];omega
   have hdK:(p.1.kind != 2)=false:=by simpa using hK
   have HhK:=hide hK;clear hK;by_cases hA:p.1.area=area
   case neg=>
    have hd:(p.1.area != area)=true:=by simpa using hA
    have HhA:=hide hA;clear hA;have HN:=hide (ZbS HPP.out HBO.out (fun d hdt ht=>HhA.out ht.2.1));have HBX:=hide (hbx.below BAL);have HRZ:=hide ((BAL.block _ (by have:=Zab hrz;omega)).trans hrz);have BN:=hide (hnx.trans (BAL.mono hnx.size));rw [hwl] at HBX HRZ BN;have hszn:w.heap.size+2<=(wr.alloc (.cells #[.int .i64 p.1.area,.int .i64 p.1.kind,.int .i64 p.1.owner,.int .i64 p.1.key,.int .i64 p.1.seq,.slice pa p.1.near.length pc,.int .i64 p.1.cost,.bool p.1.far] 37)).heap.size:=by simp;omega
    clear hbx hrz HBO HPP HWT BAL hwl;go_wp2;go_roundw
    case rel=>exact ⟨k+1,F,b,_,by omega,by go_num,rfl,HBX.out,HRZ.out,HN,BN.out,hszn⟩
    case measure=>simp [intOf];omega
   have hdA:(p.1.area != area)=false:=by simpa using hA
   have HhA:=hide hA;clear hA;by_cases hY:p.1.key=to
   case neg=>
    have hd:(p.1.key != to)=true:=by simpa using hY
    have HhY:=hide hY;clear hY;have HN:=hide (ZbS HPP.out HBO.out (fun d hdt ht=>HhY.out (by obtain ⟨_,_,_,v,_,_,rfl⟩:=ht;exact hdt)));have HBX:=hide (hbx.below BAL);have HRZ:=hide ((BAL.block _ (by have:=Zab hrz;omega)).trans hrz);have BN:=hide (hnx.trans (BAL.mono hnx.size));rw [hwl] at HBX HRZ BN;have hszn:w.heap.size+2<=(wr.alloc (.cells #[.int .i64 p.1.area,.int .i64 p.1.kind,.int .i64 p.1.owner,.int .i64 p.1.key,.int .i64 p.1.seq,.slice pa p.1.near.length pc,.int .i64 p.1.cost,.bool p.1.far] 37)).heap.size:=by simp;omega
    clear hbx hrz HBO HPP HWT BAL hwl;go_wp2;go_roundw
    case rel=>exact ⟨k+1,F,b,_,by omega,by go_num,rfl,HBX.out,HRZ.out,HN,BN.out,hszn⟩
    case measure=>simp [intOf];omega
   have hdY:(p.1.key != to)=false:=by simpa using hY
   have HhY:=hide hY;clear hY;by_cases hO:p.1.owner=src
   case pos=>
    have hd:(p.1.owner==src)=true:=by simpa using hO
    have HhO:=hide hO;clear hO;have HN:=hide (ZbS HPP.out HBO.out (fun d hdt ht=>ht.2.2.1 HhO.out));have HBX:=hide (hbx.below BAL);have HRZ:=hide ((BAL.block _ (by have:=Zab hrz;omega)).trans hrz);have BN:=hide (hnx.trans (BAL.mono hnx.size));rw [hwl] at HBX HRZ BN;have hszn:w.heap.size+2<=(wr.alloc (.cells #[.int .i64 p.1.area,.int .i64 p.1.kind,.int .i64 p.1.owner,.int .i64 p.1.key,.int .i64 p.1.seq,.slice pa p.1.near.length pc,.int .i64 p.1.cost,.bool p.1.far] 37)).heap.size:=by simp;omega
    clear hbx hrz HBO HPP HWT BAL hwl;go_wp2;go_roundw
    case rel=>exact ⟨k+1,F,b,_,by omega,by go_num,rfl,HBX.out,HRZ.out,HN,BN.out,hszn⟩
    case measure=>simp [intOf];omega
   have hdO:(p.1.owner==src)=false:=by simpa using hO
   have HhO:=hide hO;clear hO;have hrb:=ZeE hst hpm HhK.out;by_cases hC:60000<=p.1.cost
   case pos=>
    have HN:=hide (ZbS HPP.out HBO.out (fun d hdt ht=>by obtain ⟨_,_,_,v,h4,h5,_⟩:=ht;have:=((ZbL (fsts ps) area src).2 v (ZaM h4).1).1.cost;omega));have HBX:=hide (hbx.below BAL);have HRZ:=hide ((BAL.block _ (by have:=Zab hrz;omega)).trans hrz);have BN:=hide (hnx.trans (BAL.mono hnx.size));rw [hwl] at HBX HRZ BN;have hszn:w.heap.size+2<=(wr.alloc (.cells #[.int .i64 p.1.area,.int .i64 p.1.kind,.int .i64 p.1.owner,.int .i64 p.1.key,.int .i64 p.1.seq,.slice pa p.1.near.length pc,.int .i64 p.1.cost,.bool p.1.far] 37)).heap.size:=by simp;omega
    clear hbx hrz HBO HPP HWT BAL hwl;go_wp2;go_roundw
    case rel=>exact ⟨k+1,F,b,_,by omega,by go_num,rfl,HBX.out,HRZ.out,HN,BN.out,hszn⟩
    case measure=>simp [intOf];omega
   have hfd:=Zcb (Zaj ws) p.1.owner;rw [hws] at hfd;have HW:=HWT.out p.1.owner wl (hnx.trans (BAL.mono hnx.size));rw [hws] at HW;obtain⟨D,hD⟩:∃ D,D=Zbo (ZbE (fsts ps) area src) p.1.owner:=⟨_,rfl⟩;obtain⟨FB,hFB⟩:∃ F,F=Zbk (ZbE (fsts ps) area src) p.1.owner:=⟨_,rfl⟩;rw [<-hD, <-hFB] at HW hfd;have hx2:=Zaa hxl 2;simp at hx2;have HXL:=hide hxl;rw [hwl] at hx2;have HWW:=hide HW;have HFD:=hide hfd;have HBX:=hide (hbx.below BAL);have HRZ:=hide ((BAL.block _ (by have:=Zab hrz;omega)).trans hrz);have HBL:=hide BAL;have hsl:=BAL.size;unfold wayC at HWW;clear HW hfd hD hFB hbx hrz hxl BAL
   go_wp2_with fail
   rw [<-hwl];clear hwl hx2;refine HWW.out.mono ?_;rintro e w3 ⟨du,rfl,hdu,b3⟩;obtain⟨da,dc,rfl⟩:=Zac hdu;have hb3:=b3.size;have BW3:Below w.heap.size w w3:=hnx.trans ((HBL.out.mono hnx.size).trans (b3.mono (by have:=hnx.size;omega)));have hbx3:=HBX.out.below b3;have hrz3:=(b3.block _ (Zab HRZ.out)).trans HRZ.out;have hxl3:=(b3.block _ (Zab HXL.out)).trans HXL.out;have hwl3:=Zab HXL.out;have HBA:=hide (fun o=>hbx3.below ((YAC w3.heap.size w3).alloc (YA _) o));have HZA:=hide (fun o=>(((YAC w3.heap.size w3).alloc (YA _) o).block _ (Zab hrz3)).trans hrz3);have HWA:=hide (fun o=>BW3.trans (((YAC w3.heap.size w3).alloc (YA _) o).mono BW3.size));have HDA:=hide (fun o=>Zad hdu ((YAC w3.heap.size w3).alloc (YA _) o) (YA _));have HXA:=hide (fun o=>by
    have h:=Zaa ((((YAC w3.heap.size w3).alloc (YA _) o).block _ (Zab hxl3)).trans hxl3) 6;simp at h;exact h)
   have HB3:=hide hbx3;have HZ3:=hide hrz3;have HD3:=hide hdu;have HW3:=hide BW3;have hz3:w.heap.size<w3.heap.size:=Zab hbx3.box;have hzne:w.heap.size≠w3.heap.size:=by omega
   clear hdu b3 hbx3 hrz3 hxl3 HWW HBX HRZ HXL HBL BW3;cases FB
   ·have HN:=hide (ZbS HPP.out HBO.out (fun d hdt ht=>by
     obtain⟨_,_,_,v,h4,_⟩:=ht;rcases HFD.out with ⟨h1,_⟩ | ⟨_,h2⟩
     ·cases h1
     ·rw [h2] at h4;cases h4))
    have N1:=hide (HBA.out (.cells #[.int .i64 D.to,.int .i64 D.cost,.slice da D.hops.length dc] 108));have N2:=hide (HZA.out (.cells #[.int .i64 D.to,.int .i64 D.cost,.slice da D.hops.length dc] 108));have N3:=hide (HWA.out (.cells #[.int .i64 D.to,.int .i64 D.cost,.slice da D.hops.length dc] 108));have hszn:w.heap.size+2<=(w3.alloc (.cells #[.int .i64 D.to,.int .i64 D.cost,.slice da D.hops.length dc] 108)).heap.size:=by simp;omega
    clear HBA HZA HWA HDA HXA HBO HPP HFD HWT;go_wp2;go_roundw
    case rel=>exact ⟨k+1,F,b,_,by omega,by go_num,rfl,N1.out,N2.out,HN,N3.out,hszn⟩
    case measure=>simp [intOf];omega
   ·have hfound:ZaV (ZbE (fsts ps) area src) p.1.owner=some D:=by
     rcases HFD.out with ⟨_,h2⟩ | ⟨h1,_⟩
     ·exact h2
     ·cases h1
    have hDg:=(ZbL (fsts ps) area src).2 D (ZaM hfound).1;have hD0:=hDg.1.cost;have hD6:=hDg.1.len;have hDc:=hDg.2;have x1:=HXA.out (.cells #[.int .i64 D.to,.int .i64 D.cost,.slice da D.hops.length dc] 108);by_cases hsum:60000<=D.cost+p.1.cost
    ·have HN:=hide (ZbS HPP.out HBO.out (fun d hdt ht=>by
      obtain⟨_,_,_,v,h4,h5,_⟩:=ht;rw [hfound] at h4;cases h4;omega))
     have N1:=hide (HBA.out (.cells #[.int .i64 D.to,.int .i64 D.cost,.slice da D.hops.length dc] 108));have N2:=hide (HZA.out (.cells #[.int .i64 D.to,.int .i64 D.cost,.slice da D.hops.length dc] 108));have N3:=hide (HWA.out (.cells #[.int .i64 D.to,.int .i64 D.cost,.slice da D.hops.length dc] 108));have hszn:w.heap.size+2<=(w3.alloc (.cells #[.int .i64 D.to,.int .i64 D.cost,.slice da D.hops.length dc] 108)).heap.size:=by simp;omega
     clear HBA HZA HWA HDA HXA HBO HPP HFD HWT hfound hDg;go_wp2;go_roundw
     case rel=>exact ⟨k+1,F,b,_,by omega,by go_num,rfl,N1.out,N2.out,HN,N3.out,hszn⟩
     case measure=>simp [intOf];omega
    ·have htell:Zcz (fsts ps) area src p.1 ⟨to,D.cost+p.1.cost,D.hops⟩:=⟨HhK.out,HhA.out,HhO.out,D,hfound,by omega,by rw [HhY.out]⟩;have HBN:=hide (ZkZ ZhE hS0 HPP.out HBO.out htell rfl);have x2:=HXA.out (.cells #[.int .i64 to,.int .i64 D.cost,.slice da D.hops.length dc] 108);have N1:=HBA.out (.cells #[.int .i64 to,.int .i64 (D.cost+p.1.cost),.slice da D.hops.length dc] 108);have N2:=HZA.out (.cells #[.int .i64 to,.int .i64 (D.cost+p.1.cost),.slice da D.hops.length dc] 108);have N3:=HWA.out (.cells #[.int .i64 to,.int .i64 (D.cost+p.1.cost),.slice da D.hops.length dc] 108);have N4:=HDA.out (.cells #[.int .i64 to,.int .i64 (D.cost+p.1.cost),.slice da D.hops.length dc] 108);have hx4:=YAE w3 (.cells #[.int .i64 to,.int .i64 (D.cost+p.1.cost),.slice da D.hops.length dc] 108);have hs4:(w3.alloc (.cells #[.int .i64 to,.int .i64 (D.cost+p.1.cost),.slice da D.hops.length dc] 108)).heap.size=w3.heap.size+1:=by simp
     have hsm:D.cost+p.1.cost<60000:=by omega
     clear htell hfound hDg HFD HWT HPP HBO HBA HZA HWA HDA HXA hsum;have hzb:=N1.box;unfold wayC at hzb;have e0:=Zaa hzb 0;have e1:=Zaa hzb 1;have e2:=Zaa hzb 2;simp at e0 e1 e2;have fe:=Zae hzb;cases F
     ·have HN:=hide (show ZaN to (fun d=>S0 d\/outS (fsts ps) ((fsts ps).take (k+1)) area src to d) (if true then some (⟨to,D.cost+p.1.cost,D.hops⟩:WayD) else none) from HBN.out);have P3:=(HB3.out.put (d:=⟨to,D.cost+p.1.cost,D.hops⟩) (Zaf (b0:=lo) HD3.out (by omega)) hD6);have B3:=HW3.out.grown (Za2 w3 w.heap.size ⟨to,D.cost+p.1.cost,D.hops⟩ (.slice da D.hops.length dc)) HW3.out.size (fun j hj=>by simp at hj;omega);have Z3:=Ze9 (z:=w.heap.size) (d:=⟨to,D.cost+p.1.cost,D.hops⟩) (u:=.slice da D.hops.length dc) HZ3.out (by omega);have M1:=hide (P3.below ((YAC _ _).alloc (YA _) (.cells #[.int .i64 to,.int .i64 (D.cost+p.1.cost),.slice da D.hops.length dc] 108)));have M2:=hide ((((YAC _ _).alloc (YA _) (.cells #[.int .i64 to,.int .i64 (D.cost+p.1.cost),.slice da D.hops.length dc] 108)).block _ (Zab Z3)).trans Z3);have M3:=hide (B3.trans (((YAC _ _).alloc (YA _) (.cells #[.int .i64 to,.int .i64 (D.cost+p.1.cost),.slice da D.hops.length dc] 108)).mono B3.size));have hszn:w.heap.size+2<=((Za8 w3 w.heap.size ⟨to,D.cost+p.1.cost,D.hops⟩ (.slice da D.hops.length dc)).alloc (.cells #[.int .i64 to,.int .i64 (D.cost+p.1.cost),.slice da D.hops.length dc] 108)).heap.size:=by simp;omega
      have hzb3:=HB3.out.box;unfold wayC at hzb3;clear e0 e1 e2 fe;have e0:=Zaa hzb3 0;have e1:=Zaa hzb3 1;have e2:=Zaa hzb3 2;simp at e0 e1 e2;have fe:=Zae hzb3;clear N1 N2 N3 N4 HBN hzb hx4 P3 B3 Z3 HB3 HZ3 HD3 HW3 hzb3 hs4;go_wp2;go_roundw
      case rel=>exact ⟨k+1,true,⟨to,D.cost+p.1.cost,D.hops⟩,_,by omega,by go_num,rfl,M1.out,M2.out,HN,M3.out,hszn⟩
      case measure=>simp [intOf];omega
     ·have HTG:=ZmJ b ⟨to,D.cost+p.1.cost,D.hops⟩ (.slice ba b.hops.length bc) (.slice da D.hops.length dc) lo wl.heap.size _ N1.own N4 (by have:=N1.len;omega) (by show D.hops.length<=1048576;omega);unfold wayC at HTG;simp only [] at HTG;obtain⟨E,hE⟩:∃ E,E=togD b ⟨to,D.cost+p.1.cost,D.hops⟩:=⟨_,rfl⟩;rw [<-hE] at HTG;have hE6:E.hops.length<=6:=by rw [hE];exact ZpI N1.len hD6 (by omega)
      have HN:=hide (show ZaN to (fun d=>S0 d\/outS (fsts ps) ((fsts ps).take (k+1)) area src to d) (if true then some E else none) by
       have h:=HBN.out;rw [hE];exact h)
      have HT:=hide HTG;clear HB3 HZ3 HD3 HW3;have HN1:=hide N1;have HN2:=hide N2;have HN3:=hide N3;have HX4:=hide hx4;clear HTG HBN hE N1 N2 N3 N4 hzb hx4
      go_wp2_with fail
      refine HT.out.mono ?_;rintro e w5 ⟨eu,rfl,heu,b5⟩;obtain⟨ea,ec,rfl⟩:=Zac heu;have hb5:=b5.size;have hx5:=(b5.block _ (Zab HX4.out)).trans HX4.out;have hbx5:=HN1.out.below b5;have hrz5:=(b5.block _ (Zab HN2.out)).trans HN2.out;have B5:Below w.heap.size w w5:=HN3.out.trans (b5.mono HN3.out.size);have hzb5:=hbx5.box;unfold wayC at hzb5;clear e0 e1 e2 fe x1 x2;have d0:=Zaa hx5 0;have d1:=Zaa hx5 1;have d2:=Zaa hx5 2;simp at d0 d1 d2;have e0:=Zaa hzb5 0;have e1:=Zaa hzb5 1;have e2:=Zaa hzb5 2;simp at e0 e1 e2;have fd:=Zae hx5;have fe:=Zae hzb5;have hg14:=Za2 w5 w3.heap.size E (.slice ea E.hops.length ec);have heu2:(Za8 w5 w3.heap.size E (.slice ea E.hops.length ec)).ownsRow lo 3 1 (.slice ea E.hops.length ec) E.hops.length (flat intE E.hops):=Zaf (Zij heu hg14 (by rw [hs4];omega)) (by rw [hs4];omega);have M1:=hide ((hbx5.other hg14 (by omega) hx5 (by decide)).put heu2 hE6);have M2:=hide (Ze9 (z:=w.heap.size) (d:=E) (u:=.slice ea E.hops.length ec) (Ze9 (z:=w3.heap.size) (d:=E) (u:=.slice ea E.hops.length ec) hrz5 (by omega)) (by omega));have M3:=hide ((B5.grown hg14 B5.size (fun j hj=>by simp at hj;omega)).grown (Za2 _ w.heap.size E (.slice ea E.hops.length ec)) (by have:=hg14.size;omega) (fun j hj=>by simp at hj;omega));have hszn:w.heap.size+2<=(Za8 (Za8 w5 w3.heap.size E (.slice ea E.hops.length ec)) w.heap.size E (.slice ea E.hops.length ec)).heap.size:=by rw [hs4] at hb5;simp;omega
      clear HN1 HN2 HN3 HX4 HT hx5 hbx5 hrz5 hzb5 heu b5 hg14 heu2 B5 hs4 hb5;go_wp2;go_roundw
      case rel=>exact ⟨k+1,true,E,_,by omega,by go_num,rfl,M1.out,M2.out,HN,M3.out,hszn⟩
      case measure=>simp [intOf];omega
  ·have hkn:¬(k:Int)<(ps.length:Int):=by omega
   have HBF:=hide (show ZaN to (fun d=>S0 d\/outS (fsts ps) (fsts ps) area src to d) (if F then some b else none) by
    have h:=HBO.out;rw [YAL (by simp [fsts];omega)] at h;exact h)
   have hzb:=hbx.box;unfold wayC at hzb;have e0:=Zaa hzb 0;have e1:=Zaa hzb 1;have e2:=Zaa hzb 2;simp at e0 e1 e2;have y0:=Zaa hrz 0;have y1:=Zaa hrz 1;have y2:=Zaa hrz 2;simp at y0 y1 y2;have fy:=Zae hrz;have FF:=hide (Zds b (.slice ba b.hops.length bc) hrz);have hg:=Za2 wr (w.heap.size+1) b (.slice ba b.hops.length bc);have hbx2:=hbx.other hg (by omega) hrz (by decide);have HO:=hide hbx2.own;have HL:=hide hbx2.len;have HB:=hide (hnx.grown hg hnx.size (fun j hj=>by simp at hj;omega));clear hbx hrz hbx2 hg hzb HBO
   go_wp2_with fail
   (try simp only [Exit.inBlock,Exit.then])
   refine bodyPost_ret (ZaR rfl _ _ (w.heap.size+1) 108 (wayC b (.slice ba b.hops.length bc)) (0,0) _ rfl FF.out Tryz.underlying108 rfl (by kernel_rfl)) rfl ?_;exact⟨b,_,.bool F,rfl,Zgz.of HBF.out,HO.out,HL.out,HB.out⟩
theorem ZhC (v u:Value)(ps:List RP)(al:List Int)(hi:Nat)(src:Int)(w:World)(hv:RecsIn w hi v ps)(ha:ZaI w u al hi)(hhi:hi<=w.heap.size)(hn:tot ps<=1048576)(hal:al.length<=1048576):
  Calls Tryz.prog 89 #[v,u,.int .i64 src] w fun e w'=>∃ x qs,e=.returned x/\ZaE (Zaq (fsts ps) al src) (Zaj qs)/\WaysOwn w' w.heap.size w'.heap.size x qs/\Below w.heap.size w w':=by
 obtain⟨a1,c1,rfl⟩:=Zac hv.row;obtain⟨a2,c2,rfl⟩:=ha.shape;have LIT:=Zf0 w w.heap.size (YA _);have hs1:(w.alloc (.cells #[] 108)).heap.size=w.heap.size+1:=by simp
 have B1:Below w.heap.size w (w.alloc (.cells #[] 108)):=(YAC _ _).alloc (YA _) _;obtain⟨w1,hw1⟩:∃ W,W=w.alloc (.cells #[] 108):=⟨_,rfl⟩;rw [<-hw1] at LIT hs1 B1;have LS:=ZpS w1 w1.heap.size (YA _);have B0:Below w1.heap.size w1 (w1.alloc (.cells #[] 102)):=(YAC _ _).alloc (YA _) _;obtain⟨w0,hw0⟩:∃ W,W=w1.alloc (.cells #[] 102):=⟨_,rfl⟩;rw [<-hw0] at LS B0;have HWI:=hide (fun area W (hb:Below w.heap.size w W)=>Zfi (.slice a1 ps.length c1) ps hi area src W (hv.below hb hhi) (YAK hhi hb.size) hn);have HA:=hide ha;clear hv ha;have HLIT:=hide LIT;have HLS:=hide LS;clear LIT LS;have HS1:=hide hs1;clear hs1
 go_enter Tryz.func89,Tryz.ntmps89
 go_wp2;rw [<-hw1, <-hw0,show w.heap.size+1=w1.heap.size from HS1.out.symm];clear hw1 hw0
 go_loopw [9,8] (fun i o wr=>∃ (k:Nat) (y:Value) (ls:List LP),k<=al.length/\i=.int .i64 (k:Int)/\o=y/\WLs wr w1.heap.size wr.heap.size y ls/\Hid (ZbN (fsts ps) src (al.take k) ls)/\Below w1.heap.size w1 wr) (fun i _ _=>al.length-(intOf i).toNat)
 case atStart=>exact ⟨0,_,[],by omega,rfl,rfl,HLS.out,hide (by simp [ZbN]),B0⟩
 case round=>
  obtain⟨k,y,ls,hk,rfl,rfl,hls,HAW,hnx⟩:=hrel;clear HLS B0;obtain⟨ya,yc,rfl⟩:=Zac hls.row;have hlen:ls.length=k:=by have:=HAW.out.len;rw [YAV,YAQ hk] at this;exact this
  have BW:Below w.heap.size w wr:=B1.trans (hnx.mono B1.size);have hws:=BW.size;by_cases hlt:k<al.length
  ·obtain ⟨area,har⟩:∃ a,al[k]? = some a:=⟨al[k],YAA hlt⟩;obtain⟨b,off,cap',hve,hbb,c0⟩:=HA.out.cell k area har;cases hve;replace c0:=(BW.cell (by show b<w.heap.size;omega)).trans c0;have hki:(0:Int)<=(k:Int):=by omega
   have hkj:(k:Int)<(al.length:Int):=by omega
   have HLS:=hide hls;have HAR:=hide har;have HLEN:=hide hlen;clear hls har hlen
   go_wp2_with fail
   refine (HWI.out area _ BW).mono ?_;rintro e w2 ⟨uw,ws,rfl,hws2,how,b2⟩;obtain⟨wsa,wsc,rfl⟩:=Zac how.row;have hb2:=b2.size;have HWE:=hide (hws2.eq);have BA:Below w2.heap.size w2 (w2.alloc (.cells #[.slice wsa ws.length wsc] 102)):=(YAC _ _).alloc (YA _) _;have OWA:=hide ((Zad HLS.out.row b2 (YA _)).alloc (.cells #[.slice wsa ws.length wsc] 102));have HOW:=hide how;clear hws2 how
   go_wp2_with (first
    | (at_builtin;refine ZaZ Zg7 (by omega) (by omega) _ rfl _ _ 137 rfl w1.heap.size 102 Tryz.underlying137 (.slice none 0 0) rfl Tryz.infoWayS _ ls (.slice wsa ws.length wsc,ws) (fun q hq=>by simp [ZiX] at hq;subst hq;rfl) rfl OWA.out ⟨w2.heap.size,0,none⟩ 1 rfl (Zan (cs:=ZiX (.slice wsa ws.length wsc,ws))) (by have:=HLEN.out;omega) (by simp;have:=hnx.size;omega) ?_))
   intro v' w4 hown' hgrow hat;have BB:Below wr.heap.size wr (w2.alloc (.cells #[.slice wsa ws.length wsc] 102)):=b2.trans (BA.mono hb2);have N1:=hide (HLS.out.push BB ((HOW.out.below BA (YA _)).wide hnx.size BA.size) (by simpa using hown') hgrow);have N2:=hide (HAW.out.push (p:=(.slice wsa ws.length wsc,ws)) HAR.out HWE.out);have N3:=hide ((hnx.trans (BB.mono hnx.size)).grown hgrow (by have:=BB.size;have:=hnx.size;omega) (fun j hj=>(HLS.out.row.lt j hj).1));obtain⟨va,vc,rfl⟩:=Zac hown';clear hown' hgrow hat BB OWA HOW HLS BA b2;go_wp2;go_roundw
   case rel=>exact ⟨k+1,_,ls++[(.slice wsa ws.length wsc,ws)],by omega,by go_num,rfl,N1.out,N2,N3.out⟩
   case measure=>simp [intOf];omega
  ·have hkn:¬(k:Int)<(al.length:Int):=by omega
   have HAL:=hide (show ZbN (fsts ps) src al ls by have h:=HAW.out;rw [YAL (by omega)] at h;exact h);have HO:=hide ((HLIT.out.below hnx (YA _)).wide (YA _) hnx.size);have HLS:=hide hls
   rename World=>wb
   have hwb:=hnx.size;clear hls HAW hlen HLIT hnx;go_wp2
   go_loopw [10,7] (fun i o wr=>∃ (t:Nat) (x:Value) (qs:List WP),1<=t/\t<=7/\i=.int .i64 (t:Int)/\o=x/\WaysOwn wr w.heap.size wr.heap.size x qs/\Hid (ZaE (fun to d=>to<(t:Int)/\Zaq (fsts ps) al src to d) (Zaj qs))/\Off x w1.heap.size wb.heap.size/\WLs wr w1.heap.size wb.heap.size (.slice ya ls.length yc) ls/\Below w.heap.size w wr/\wb.heap.size<=wr.heap.size) (fun i _ _=>8-(intOf i).toNat)
   case atStart=>exact ⟨1,_,[],by omega,by omega,rfl,rfl,HO.out,hide (Zct (fun to d ⟨h1,h2⟩=>by have h3:=(Za1 h2);have:=h3.1.node;rw [h3.2] at this;omega)),fun b hb=>by simp [Value.ownBlock] at hb;have:=HS1.out;omega,HLS.out,BW,YA _⟩
   case round=>
    obtain⟨t,x,qs,ht1,ht7,rfl,rfl,hown,HB,hoff,hls,hnx,hsz⟩:=hrel;clear HO HLS BW hws;obtain⟨xa,xc,rfl⟩:=Zac hown.row
    rename World=>wt
    by_cases ht:t<=6
    ·have ht6:(t:Int)<=6:=by omega
     have HOWN:=hide hown;have HLS:=hide hls;have HOFF:=hide hoff;have hq6:qs.length<=6:=by
      have h:=Zdr HB.out.1 (fun d hd=>(HB.out.good (fun to d h=>Za1 h.2) d hd).node);simpa [Zaj] using h
     have BXZ:BoxSt wt (wt.alloc (.cells #[.int .i64 0,.int .i64 0,.slice none 0 0] 108)) wt.heap.size Zbl (.slice none 0 0):=⟨YAE _ _,YAZ _ _ _ _,(YAC _ _).alloc (YA _) _,by simp [Zbl]⟩;obtain⟨wz,hwz⟩:∃ W,W=wt.alloc (.cells #[.int .i64 0,.int .i64 0,.slice none 0 0] 108):=⟨_,rfl⟩;rw [<-hwz] at BXZ;have HBX:=hide BXZ;clear hown hls hoff BXZ;go_wp2;rw [<-hwz];clear hwz
     go_loopw [13,12] (fun i f wr=>∃ (k:Nat) (F:Bool) (b:WayD) (bv:Value),k<=al.length/\i=.int .i64 (k:Int)/\f=.bool F/\BoxSt wt wr wt.heap.size b bv/\Hid (ZaN (t:Int) (Zaq (fsts ps) (al.take k) src (t:Int)) (if F then some b else none))) (fun i _ _=>al.length-(intOf i).toNat)
     case atStart=>exact ⟨0,false,_,_,by omega,rfl,rfl,HBX.out,hide (fun d ⟨_,a,h,_⟩=>by simp at h)⟩
     case round=>
      obtain⟨k,F,b,bv,hk,rfl,rfl,hbx,HBO⟩:=hrel;clear HBX;have BWR:Below w.heap.size w wr:=hnx.trans (hbx.bel.mono hnx.size);have hzlt:=Zab hbx.box;obtain⟨bva,bvc,rfl⟩:=Zac hbx.own;by_cases hlt:k<al.length
      ·obtain ⟨area,har⟩:∃ a,al[k]? = some a:=⟨al[k],YAA hlt⟩;obtain⟨p,hp,hpw⟩:=HAL.out.at har;have hls2:=HLS.out.below hbx.bel hsz;obtain⟨g,cap',hve,cg,hgb,hgw⟩:=hls2.cell hp;cases hve;have hpo:=hls2.ways p (YAG hp);obtain⟨pa,pc,hpn⟩:=Zac hpo.row;rw [hpn] at cg;have hki:(0:Int)<=(k:Int):=by omega
       have hkj:(k:Int)<(al.length:Int):=by omega
       have hkl:(k:Int)<(ls.length:Int):=by rw [HAL.out.len];omega
       have HWT:=ZcT p.1 p.2 w1.heap.size wb.heap.size (t:Int) wr hpo (by omega) (by have:=ZjJ hpw;omega);rw [hpn] at HWT;have HBN:=hide (ZkY ZhE har HBO.out);rw [<-hpw] at HBN;have hfd:=Zcb (Zaj p.2) (t:Int);obtain⟨D,hD⟩:∃ D,D=Zbo (Zaj p.2) (t:Int):=⟨_,rfl⟩;obtain⟨FB,hFB⟩:∃ F,F=Zbk (Zaj p.2) (t:Int):=⟨_,rfl⟩;rw [<-hD, <-hFB] at HWT hfd;have hD6:D.hops.length<=6:=by
        rcases hfd with ⟨_,h2⟩ | ⟨h1,h2⟩
        ·have hm:=(ZaM h2).1;rw [hpw] at hm;exact ((ZbL (fsts ps) area src).2 D hm).1.len
        ·rw [hD];unfold Zbo;unfold ZaV at h2;rw [h2];simp [Zbl]
       have HW:=hide HWT;have HFD:=hide hfd;have HBX:=hide hbx;unfold wayC at HW;clear HWT hfd hbx hls2 hpo hp hpw hpn har hD hFB
       go_wp2_with fail
       refine HW.out.mono ?_;rintro e w3 ⟨du,rfl,hdu,b3⟩;obtain⟨da,dc,rfl⟩:=Zac hdu;have hb3:=b3.size;have hbx3:=HBX.out.below b3;have BA:Below w3.heap.size w3 (w3.alloc (.cells #[.int .i64 D.to,.int .i64 D.cost,.slice da D.hops.length dc] 108)):=(YAC _ _).alloc (YA _) _;have hx4:=YAE w3 (.cells #[.int .i64 D.to,.int .i64 D.cost,.slice da D.hops.length dc] 108);obtain⟨w4,hw4⟩:∃ W,W=w3.alloc (.cells #[.int .i64 D.to,.int .i64 D.cost,.slice da D.hops.length dc] 108):=⟨_,rfl⟩;rw [<-hw4] at BA hx4;have hbx4:=hbx3.below BA;have hdu4:=Zad hdu BA (YA _);have hs4:=BA.size;have hl4:=Zab hx4;have d0:=Zaa hx4 0;have d1:=Zaa hx4 1;have d2:=Zaa hx4 2;simp at d0 d1 d2;have hzb:=hbx4.box;unfold wayC at hzb;have e0:=Zaa hzb 0;have e1:=Zaa hzb 1;have e2:=Zaa hzb 2;simp at e0 e1 e2;have fd:=Zae hx4;have fe:=Zae hzb;have HX4:=hide hx4;have HDU:=hide hdu4;have HB4:=hide hbx4;have hlast:Below w3.heap.size w3 w4:=BA;clear hdu b3 hbx3 hbx4 hdu4 hx4 hzb BA HBX HW;cases FB
       ·have HN:=hide (show ZaN (t:Int) (Zaq (fsts ps) (al.take (k+1)) src (t:Int)) (if F then some b else none) by
         have h:=HBN.out;rcases HFD.out with ⟨h1,_⟩ | ⟨_,h2⟩
         ·cases h1
         ·rw [h2] at h;exact h)
        rw [hw4] at HB4;clear HX4 HDU HBN HFD hw4 d0 d1 d2 e0 e1 e2 fd fe hlast;go_wp2;go_roundw
        case rel=>exact ⟨k+1,F,b,_,by omega,by go_num,rfl,HB4.out,HN⟩
        case measure=>simp [intOf];omega
       ·have hfound:ZaV (Zaj p.2) (t:Int)=some D:=by
         rcases HFD.out with ⟨_,h2⟩ | ⟨h1,_⟩
         ·exact h2
         ·cases h1
        cases F
        ·have HN:=hide (show ZaN (t:Int) (Zaq (fsts ps) (al.take (k+1)) src (t:Int)) (if true then some D else none) by
          have h:=HBN.out;rw [hfound] at h;exact h)
         have HF:=hide (HB4.out.put rfl (Zaf (b0:=wt.heap.size+1) HDU.out (by omega)) hD6);rw [hw4] at HF d0 d1 d2 e0 e1 e2 fd fe;clear HX4 HDU HBN HFD HB4 hw4 hfound hlast;go_wp2;go_roundw
         case rel=>exact ⟨k+1,true,D,_,by omega,by go_num,rfl,HF.out,HN⟩
         case measure=>simp [intOf];omega
        ·have HTG:=ZmJ b D (.slice bva b.hops.length bvc) (.slice da D.hops.length dc) wt.heap.size wr.heap.size w4 HB4.out.own HDU.out (by have:=HB4.out.len;omega) (by omega);unfold wayC at HTG;obtain⟨E,hE⟩:∃ E,E=togD b D:=⟨_,rfl⟩;rw [<-hE] at HTG;have hE6:E.hops.length<=6:=by rw [hE];exact ZpI HB4.out.len hD6 (by omega)
         have HN:=hide (show ZaN (t:Int) (Zaq (fsts ps) (al.take (k+1)) src (t:Int)) (if true then some E else none) by
          have h:=HBN.out;rw [hfound] at h;rw [hE];exact h)
         have HT:=hide HTG;rw [hw4] at d0 d1 d2 e0 e1 e2 fd fe;clear HTG HBN HFD hfound hE HDU
         go_wp2_with fail
         rw [<-hw4];refine HT.out.mono ?_;rintro e w5 ⟨eu,rfl,heu,b5⟩;obtain⟨ea,ec,rfl⟩:=Zac heu;have hb5:=b5.size;have hx5:=(b5.block _ hl4).trans HX4.out;have hbx5:=HB4.out.below b5;have hzb5:=hbx5.box;unfold wayC at hzb5;clear d0 d1 d2 e0 e1 e2 fd fe;have d0:=Zaa hx5 0;have d1:=Zaa hx5 1;have d2:=Zaa hx5 2;simp at d0 d1 d2;have e0:=Zaa hzb5 0;have e1:=Zaa hzb5 1;have e2:=Zaa hzb5 2;simp at e0 e1 e2;have fd:=Zae hx5;have fe:=Zae hzb5;have hg14:=Za2 w5 w3.heap.size E (.slice ea E.hops.length ec);have HF:=hide ((hbx5.other hg14 (by omega) hx5 rfl).put rfl (Zaf (b0:=wt.heap.size+1) (Zij heu hg14 (by omega)) (by omega)) hE6);have hne:wt.heap.size≠w3.heap.size:=by omega
         clear HX4 HB4 HT hx5 hbx5 hzb5 heu b5 hg14 hw4 hlast;go_wp2;go_roundw
         case rel=>exact ⟨k+1,true,E,_,by omega,by go_num,rfl,HF.out,HN⟩
         case measure=>simp [intOf];omega
      ·have hkn:¬(k:Int)<(al.length:Int):=by omega
       have HBT:=hide (show ZaN (t:Int) (Zaq (fsts ps) al src (t:Int)) (if F then some b else none) by
        have h:=HBO.out;rw [YAL (by omega)] at h;exact h)
       cases F
       ·have N1:=hide ((HOWN.out.below hbx.bel (YA _)).wide (YA _) hbx.bel.size);have N2:=hide (show ZaE (fun to d=>to<((t+1:Nat):Int)/\Zaq (fsts ps) al src to d) (Zaj qs) from by
         have h:=HB.out.skip HBT.out;rw [show ((t+1:Nat):Int)=(t:Int)+1 by omega];exact h)
        have N3:=hide (HLS.out.below hbx.bel hsz);have hszr:wb.heap.size<=wr.heap.size:=by have:=hbx.bel.size;omega
        clear hbx HBO HBT;go_wp2;go_roundw
        case rel=>exact ⟨t+1,_,qs,by omega,by omega,by go_num,rfl,N1.out,N2,HOFF.out,N3.out,BWR,hszr⟩
        case measure=>simp [intOf];omega
       ·have hzb:=hbx.box;unfold wayC at hzb;have e0:=Zaa hzb 0;have e1:=Zaa hzb 1;have e2:=Zaa hzb 2;simp at e0 e1 e2;have N2:=hide (show ZaE (fun to d=>to<((t+1:Nat):Int)/\Zaq (fsts ps) al src to d) (Zaj (qs++[(b,.slice bva b.hops.length bvc)])) from by
         have h:=HB.out.push HBT.out;rw [show ((t+1:Nat):Int)=(t:Int)+1 by omega];have e:Zaj (qs++[(b,.slice bva b.hops.length bvc)])=Zaj qs++[b]:=by simp [Zaj]
         rw [e];exact h)
        have BA:Below wr.heap.size wr (wr.alloc (.cells #[.int .i64 b.to,.int .i64 b.cost,.slice bva b.hops.length bvc] 108)):=(YAC _ _).alloc (YA _) _;have BT:Below wt.heap.size wt (wr.alloc (.cells #[.int .i64 b.to,.int .i64 b.cost,.slice bva b.hops.length bvc] 108)):=hbx.bel.trans (BA.mono (by omega));have OW:=hide ((Zad HOWN.out.row hbx.bel (YA _)).alloc (.cells #[.int .i64 b.to,.int .i64 b.cost,.slice bva b.hops.length bvc] 108));have HHO:=hide (show ZbA (wr.alloc (.cells #[.int .i64 b.to,.int .i64 b.cost,.slice bva b.hops.length bvc] 108)) wt.heap.size (wr.alloc (.cells #[.int .i64 b.to,.int .i64 b.cost,.slice bva b.hops.length bvc] 108)).heap.size (b,.slice bva b.hops.length bvc) from ⟨hbx.own.alloc _,fun k hk=>((hbx.own.alloc _).lt k hk).2⟩);have HLS2:=hide (HLS.out.below BT hsz);have hws:=hnx.size;clear hbx HBO HBT hzb
        go_wp2_with (first
         | (at_builtin;refine ZaZ Zbg (by omega) (by omega) _ rfl _ _ 102 rfl w.heap.size 108 Tryz.underlying102 (.agg (wayC Zbl (.slice none 0 0))) rfl Tryz.infoWay _ qs (b,.slice bva b.hops.length bvc) (Zdh _ _ _ _) rfl OW.out ⟨wr.heap.size,0,none⟩ 1 rfl (Zan (cs:=encW (b,.slice bva b.hops.length bvc))) (by omega) (by simp;omega) ?_))
        intro v' w6 hown' hgrow hat;have N1:=hide (HOWN.out.push BT hws HHO.out (by simpa using hown') hgrow);have N3:=hide (HLS2.out.keep (HOFF.out.kept hgrow));have N4:=hide ((hnx.trans (BT.mono hws)).grown hgrow (by have:=BT.size;omega) (fun j hj=>(HOWN.out.row.lt j hj).1));have N5:=hide (HOFF.out.next (x':=v') (B:=wb.heap.size) (fun j hj=>by
         rcases hat with h1 | h1
         ·exact .inl (by rw [<-h1];exact hj)
         ·right;rw [h1] at hj;simp at hj;omega) (YA _))
        have hszr:wb.heap.size<=w6.heap.size:=by have:=BT.size;have:=hgrow.size;omega
        obtain⟨va,vc,rfl⟩:=Zac hown';clear hown' hgrow hat BT OW HHO HLS2 BA;go_wp2;go_roundw
        case rel=>exact ⟨t+1,_,qs++[(b,.slice bva b.hops.length bvc)],by omega,by omega,by go_num,rfl,N1.out,N2,N5.out,N3.out,N4.out,hszr⟩
        case measure=>simp [intOf];omega
    ·have ht6:¬(t:Int)<=6:=by omega
     have htt:(t:Int)=7:=by omega
     have HE:=hide (show ZaE (Zaq (fsts ps) al src) (Zaj qs) from HB.out.congr (fun to d=>⟨fun h=>h.2,fun h=>⟨by have h3:=Za1 h;have:=h3.1.node;rw [h3.2] at this;omega,h⟩⟩));have HO:=hide hown;have HN:=hide hnx;clear hown hnx HB hoff hls htt;go_wp2;go_ret
     first
      | exact ⟨_,qs,rfl,HE.out,HO.out,HN.out⟩
      | exact ⟨_,rfl,qs,HE.out,HO.out,HN.out⟩
theorem ZrQ (q:Nat->Nat)(wd:Nat->WayD):GI (fun _=>false) (fun _ => -1) (fun _=>[]) 0 q (fun _=>none) wd:=
 ⟨fun _=>rfl,fun _=>rfl,fun _ _ e=>(by cases e),fun i hi=>(by omega),fun _ _ e=>(by cases e),fun i j hi=>(by omega),fun _ _ e=>(by cases e)⟩
theorem fs_new (W:World)(wd:Nat->WayD)(wv:Nat->Value)(q:Nat->Nat):FS (W.alloc (.cells #[.pointer none,.pointer none,.pointer none,.pointer none,.pointer none,.pointer none,.pointer none,.slice none 0 0] 162)) W.heap.size W.heap.size (.slice none 0 0) 0 q (fun _=>none) wd wv where
 lz:=YA _
 hb:=⟨YAE W _,rfl,YAZ _ _ _ _,fun i hi=>by omega,fun i hi=>by omega⟩
 hp:=fun i _ hi=>by omega
 way:=fun _ _ e=>by cases e
 row:=fun _ _ e=>by cases e
 short:=fun _ _ e=>by cases e
 apart:=fun _ _ _ _ _ e=>by cases e
 to:=fun _ _ e=>by cases e
 b0:=rfl
theorem Ze2 (v:Value)(ps:List RP)(hi:Nat)(area src:Int)(w:World)(hv:RecsIn w hi v ps)(hhi:hi<=w.heap.size)(hn:tot ps<=1048576):
  Calls Tryz.prog 84 #[v,.int .i64 area,.int .i64 src] w fun e w'=>∃ u qs,e=.returned u/\ZaX (fsts ps) area src (Zaj qs)/\WaysOwn w' w.heap.size w'.heap.size u qs/\Below w.heap.size w w':=by
 obtain⟨a1,c1,rfl⟩:=Zac hv.row;have HS:=hide (Zkj (.slice a1 ps.length c1) ps w hn (Zbu.more hv.at hhi));have HP:=hide (fun W (hb:Below w.heap.size w W)=>Zik (.slice a1 ps.length c1) ps hi area src W (hv.below hb hhi) (YAK hhi hb.size) hn);have HV:=hide hv;clear hv;obtain⟨SB,hSB⟩:∃ b,b=Zax (fsts ps):=⟨_,rfl⟩;obtain⟨IB,hIB⟩:∃ b,b=inB src 1 6:=⟨_,rfl⟩;rw [<-hSB] at HS;have HSB:=hide hSB;have HIB:=hide hIB;clear hSB hIB;have EMP:=hide (fun (e:(Zax (fsts ps)&&inB src 1 6&&Zdt (fsts ps) area src)=false)=>show ZaX (fsts ps) area src (Zaj []) by unfold ZaX;rw [e];rfl);have LIT:=hide (fun W (hb:Below w.heap.size w W)=>Zf0 W w.heap.size hb.size)
 go_enter Tryz.func84,Tryz.ntmps84
 go_wp2_with fail
 refine HS.out.mono ?_;rintro e w1 ⟨rfl,b1⟩;cases SB
 ·have HE:=hide (EMP.out (by rw [<-HSB.out];rfl));have HL:=hide (LIT.out w1 b1);have HB:=hide (b1.alloc b1.size (.cells #[] 108));go_wp2;go_ret;exact⟨_,[],rfl,HE.out,HL.out,HB.out⟩
 ·go_wp2_with fail
  refine (Za5 _ _ _ _).mono ?_;rintro e w2 ⟨rfl,rfl⟩;rw [<-HIB.out];cases IB
  ·have HE:=hide (EMP.out (by rw [<-HSB.out, <-HIB.out];rfl));have HL:=hide (LIT.out w1 b1);have HB:=hide (b1.alloc b1.size (.cells #[] 108));go_wp2;go_ret;exact⟨_,[],rfl,HE.out,HL.out,HB.out⟩
  ·have hpl:=HP.out w1 b1;have hnb:=Znr HSB.out.symm area src;cases hR:plN (fsts ps) area src with
   | none=>
    rw [hR] at hpl hnb;unfold plV2 at hpl;have HPL:=hide hpl;have HE:=hide (EMP.out (by rw [hnb, <-HSB.out, <-HIB.out];rfl));clear hpl hnb hR
    go_wp2_with fail
    refine HPL.out.mono ?_;rintro e w2 ⟨rfl,b2⟩;have B2:Below w.heap.size w w2:=b1.trans (b2.mono b1.size);have HL:=hide (LIT.out w2 B2);have HB:=hide (B2.alloc B2.size (.cells #[] 108));clear b2;go_wp2;go_ret;exact⟨_,[],rfl,HE.out,HL.out,HB.out⟩
   | some k0=>
    rw [hR] at hpl hnb;unfold plV2 at hpl;have HPL:=hide hpl;obtain⟨s,rfl⟩:∃ s:Nat,src=(s:Int):=⟨src.toNat,by have:=Zd6.1 HIB.out.symm;omega⟩;have hs6:=Zd6.1 HIB.out.symm;have hs:1<=s/\s<=6:=by omega
    have FIN:=hide (fun c h (hf:Fix (Zb3 (fsts ps) area) s c h)=>show ZaX (fsts ps) area (s:Int) (Zcc c h 6) by
     unfold ZaX;rw [hnb, <-HSB.out, <-HIB.out];exact⟨c,h,by simpa using hf,rfl⟩)
    have HLK:=hide (ZdQ (area:=area) HSB.out.symm);have HLN:=hide (fun (a b:Nat) (ha:1<=a/\a<=6) (hb:1<=b/\b<=6)=>Zdk HSB.out.symm area ha hb);clear hpl hnb hR EMP LIT HP
    go_wp2_with fail
    refine HPL.out.mono ?_;rintro e w2 ⟨rfl,b2⟩;have B2:Below w.heap.size w w2:=b1.trans (b2.mono b1.size);have B3:Below w2.heap.size w2 (w2.alloc (.cells #[.pointer none,.pointer none,.pointer none,.pointer none,.pointer none,.pointer none,.pointer none,.slice none 0 0] 162)):=(YAC _ _).alloc (YA _) _;have fs:=fs_new w2 (fun _=>Zbl) (fun _=>.slice none 0 0) (fun _=>0);obtain⟨w3,hw3⟩:∃ W,W=w2.alloc (.cells #[.pointer none,.pointer none,.pointer none,.pointer none,.pointer none,.pointer none,.pointer none,.slice none 0 0] 162):=⟨_,rfl⟩;rw [<-hw3] at B3 fs;obtain⟨lo,hlo⟩:∃ l,l=w2.heap.size:=⟨_,rfl⟩;have HFO:=hide (Zj8 w3 w2.heap.size w2.heap.size (.slice none 0 0) 0 (fun _=>0) (fun _=>none) (fun _=>Zbl) (fun _=>.slice none 0 0) s ⟨(s:Int),0,[]⟩ (.slice none 0 0) fs (by omega) hs rfl (YAZ _ _ _ _) (by simp) (fun _ _ _ e=>by cases e) (fun _ e=>by cases e));unfold wayC at HFO;have HHI:hi<=w2.heap.size:=by have:=B2.size;omega
    have hwlo:w.heap.size<=w2.heap.size:=B2.size;have HV3:=hide (HV.out.below (B2.trans (B3.mono hwlo)) hhi);clear fs b2 HPL HV
    go_wp2_with fail
    rw [<-hw3];clear hw3;refine HFO.out.mono ?_;rintro e w4 ⟨rfl,b4,hcs⟩;have HGO:Hid (∃ m,GO w4 w2.heap.size w2.heap.size (Zb3 (fsts ps) area) s m/\m<=43):=by
     rcases hcs with ⟨hcase,u3,q3,fs4,hsh⟩ | ⟨kn,vy,e1,_⟩
     ·refine ⟨7*(6-Zb4 (fun _=>false))+1,⟨u3,1,q3,_,_,_,(fun _=>false),(fun v=>if v=s then 0 else -1),(fun _=>[]),fs4,?_,Inv.init hs,fun v=>?_,rfl⟩,by rw [Zg0];omega⟩
      ·have g:=(ZrQ (fun _=>0) (fun _=>Zbl)).push (t:=s) (k:=w3.heap.size) (x:=⟨(s:Int),0,[]⟩) rfl rfl (.inl (by omega)) (fun i hi=>by omega) (fun v e=>by cases e) hsh (by show (0:Int)<=0;omega);have ec:upd (fun _=>(-1:Int)) s 0=fun v=>if v=s then 0 else -1:=by funext v;rfl
       have eh:upd (fun _=>([]:List Int)) s []=fun _=>[]:=by funext v;unfold upd;split <;> rfl
       rw [<-ec, <-eh];exact g
      ·rw [Zg0];show (if v=s then (0:Int) else -1)<=_
       split <;> omega
     ·cases e1
    have HGN:=hide (Zqh w4 w2.heap.size w2.heap.size (.slice a1 ps.length c1) ps hi area (Zb3 (fsts ps) area) s (HV3.out.below b4 HHI) HHI hn HLK.out HLN.out HGO.out);have B4:Below w.heap.size w w4:=(B2.trans (B3.mono hwlo)).trans (b4.mono hwlo);clear hcs b4 HGO HFO
    go_wp2_with fail
    refine HGN.out.mono ?_;rintro e w5 ⟨rfl,hge,b5⟩;obtain⟨u5,q5,bp5,wd5,wv5,c5,h5,fs5,cc5,hh5,nn5,fx5⟩:=hge;have B5:Below w.heap.size w w5:=B4.trans (b5.mono hwlo);have HWA:=hide (Zrr w5 w2.heap.size w2.heap.size u5 0 q5 bp5 wd5 wv5 fs5);have HIS:=hide (show ZaX (fsts ps) area (s:Int) (Zaj (Zcp bp5 wd5 wv5 7)) by
     rw [ZhZ fs5.b0 cc5 hh5 fs5.to nn5 6];exact FIN.out c5 h5 fx5)
    clear fs5 cc5 hh5 nn5 fx5 b5 HGN
    go_wp2_with fail
    refine HWA.out.mono ?_;rintro e w6 ⟨x,rfl,ow6,b6⟩;obtain⟨xa,xc,rfl⟩:=Zac ow6.row;have B6:=hide (B5.trans (b6.mono hwlo));have O6:=hide (ow6.wide hwlo (YA _));clear ow6 b6 HWA;go_wp2;go_ret
    first
     | exact ⟨_,_,rfl,HIS.out,O6.out,B6.out⟩
     | exact ⟨_,rfl,_,HIS.out,O6.out,B6.out⟩
def Zsc (far:Bool)(c d:Int):Int:=if far then 4000000000000+c*1000000+d else 3000000000000+(c+d)
def rtOf (d:WayD):RtD:=if d.cost<4000000000000 then ⟨true,d.to,3,d.cost-3000000000000,0,d.hops⟩ else ⟨true,d.to,4,(d.cost-4000000000000)%1000000,(d.cost-4000000000000) / 1000000,d.hops⟩
def ZcO (ds es:List WayD)(src o:Int):Option WayD:=if o=src then some ⟨src,0,[]⟩ else ZaV (ds++es) o
theorem Zd3 (ds es:List WayD)(o:Int):ZaV (ds++es) o=(ZaV ds o).or (ZaV es o):=by unfold ZaV;rw [List.find?_append]
def ZqH (ds es:List WayD)(src:Int)(r:RecD)(d:WayD):Prop:=r.kind=3/\r.cost<60000/\∃ v,ZcO ds es src r.owner=some v/\d=⟨r.key,Zsc r.far r.cost v.cost,v.hops⟩
structure GoodT (d:WayD):Prop where
 node:1<=d.to/\d.to<=9
 rank:(3000000000000<=d.cost/\d.cost<=3000000061000)\/∃ c k:Int,0<=c/\c<=1000/\0<=k/\k<=60000/\d.cost=4000000000000+c*1000000+k
 asc:d.hops.Pairwise (· < ·)
 hop6:Hop6 d.hops
theorem GoodT.len {d:WayD}(h:GoodT d):d.hops.length<=6:=Zdf h.asc h.hop6
def ZkS (ds:List WayD):Prop:=∀ d∈ds,GoodW d
theorem Zho {ds es:List WayD}{o:Int}{v:WayD}(hd:ZkS ds)(he:ZkS es)(h:ZcO ds es src o=some v):(0<=v.cost/\v.cost<=60000)/\v.hops.Pairwise (· < ·)/\Hop6 v.hops:=by
 unfold ZcO at h
 split at h
 ·cases h;exact⟨⟨by simp,by simp⟩,by simp,fun z hz=>by simp at hz⟩
 ·have hm:=(ZaM h).1;have hg:GoodW v:=by
   rcases YAF.1 hm with h1 | h1
   ·exact hd v h1
   ·exact he v h1
  exact⟨hg.cost,hg.asc,hg.hop6⟩
theorem Zkv {r:RecD}(hs:Zax xs=true)(hr:r∈xs)(hk:r.kind=3)(hc:r.cost<60000):(1<=r.key/\r.key<=9)/\(1<=r.cost/\r.cost<=1000):=by
 unfold Zax at hs;simp only [YAJ] at hs;have hok:=Zdv hs.1.2 hr;unfold ZaW at hok;rw [if_neg (by omega),if_neg (by omega),if_pos hk] at hok;simp only [YAJ,YAv,inB,YAS,beq_iff_eq] at hok;omega
def ZpG (xs:List RecD)(ds es:List WayD)(src to:Int)(d:WayD):Prop:=d.to=to/\∃ r∈xs,ZqH ds es src r d
theorem ZaE.putT {tog:WayD->WayD->WayD}(ht:ZkU tog){S:Int->WayD->Prop}{ds es:List WayD}(h:ZaE S ds)(hS:∀ to w,S to w->Hop6 w.hops)(hasc:w.hops.Pairwise (· < ·))(h6:Hop6 w.hops)(he:AscW es)(hf:∀ to,ZaV es to=if to=w.to then ZfI tog (ZaV ds to) (some w) else ZaV ds to):ZaE (fun to d=>S to d\/(d=w/\w.to=to)) es:=by
 refine⟨he,fun to=>?_⟩;rw [hf];by_cases e:to=w.to
 ·rw [if_pos e];refine ((h.2 to).add ht (fun v hv=>hS to v hv) e.symm hasc h6).congr (fun x=>?_);constructor
  ·rintro (h1 | h1)
   ·exact .inl h1
   ·exact .inr ⟨h1,e.symm⟩
  ·rintro (h1 | h1)
   ·exact .inl h1
   ·exact .inr h1.1
 ·rw [if_neg e];refine (h.2 to).congr (fun x=>⟨.inl,?_⟩);rintro (h1 | h1)
  ·exact h1
  ·exact absurd h1.2.symm e
theorem ZjW :∀ {l:List Int}{a:Int},l.Pairwise (· < ·)->(∀ z∈l,a<=z/\z<=9)->(l.length:Int)<=10-a\/l=[]
 | [],_,_,_=>.inr rfl
 | x::xs,a,h,hr=>by
  have h':=YAo.1 h;have hx:=hr x (by simp);rcases ZjW (a:=x+1) h'.2 (fun z hz=>⟨by have:=h'.1 z hz;omega,(hr z (by simp [hz])).2⟩) with h1 | h1
  ·left;simp;omega
  ·left;subst h1;simp;omega
theorem Ziv {ds:List WayD}(h:AscW ds)(hg:∀ w∈ds,1<=w.to/\w.to<=9):ds.length<=9:=by
 have h1:(ds.map (·.to)).Pairwise (· < ·):=by rw [YAm];exact h
 rcases ZjW (a:=1) h1 (fun z hz=>by
  obtain⟨w,hw,rfl⟩:=YAR.1 hz;exact hg w hw) with h2 | h2
 ·simp at h2;omega
 ·have:ds=[]:=by simpa using h2
  subst this;simp
def ZfM (kind src:Int)(ds:List WayD):List RtD:=(ds.filter (fun d=>d.to != src)).map (fun d=>⟨false,d.to,kind,d.cost,0,d.hops⟩)
def Zdd (xs:List RecD)(al:List Int)(border:Bool)(src:Int)(l:List RtD):Prop:=
 ∃ ds es ts,ZaE (Zaq xs al src) ds/\ZaE (Zbw xs al border src) es/\ZaE (ZpG xs ds es src) ts/\l=ZfM 1 src ds++ZfM 2 src es++ts.map rtOf
theorem Zdd.unique {border:Bool}{l m:List RtD}(h:Zdd xs al border src l)(h':Zdd xs al border src m):l=m:=by
 obtain⟨ds,es,ts,h1,h2,h3,rfl⟩:=h;obtain⟨ds',es',ts',h1',h2',h3',rfl⟩:=h';have e1:=h1.unique h1';have e2:=h2.unique h2';subst e1;subst e2;rw [h3.unique h3']
end Go.Proofs.YtikloccefmofdaaGreat
